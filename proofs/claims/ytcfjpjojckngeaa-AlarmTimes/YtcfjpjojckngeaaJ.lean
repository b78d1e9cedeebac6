/-
  alarm.checkAdd and alarm.Add.
-/
import Derived.Test.YtcfjpjojckngeaaI
namespace Go.Proofs.Ytcfjpjojckngeaa
open Go.RowKit

theorem two_vars {w W : World} {x y a b : Value} (h : Below (w.heap.size + 2) ((w.alloc (.cells #[x, y] 24)).alloc (.cells #[a, b] 28)) W) :
    (W.cell? ⟨w.heap.size, 0, none⟩ = some x ∧ W.cell? ⟨w.heap.size, 1, none⟩ = some y) ∧ (W.cell? ⟨w.heap.size + 1, 0, none⟩ = some a ∧ W.cell? ⟨w.heap.size + 1, 1, none⟩ = some b) ∧ W.frozen? ⟨w.heap.size + 1, 0, none⟩ = false ∧ W.frozen? ⟨w.heap.size + 1, 1, none⟩ = false := by
  have b0 : W.heap[w.heap.size]? = some (.cells #[x, y] 24) := (h.block _ (by omega)).trans (keep_alloc (new_block w _) _)
  have b1 : W.heap[w.heap.size + 1]? = some (.cells #[a, b] 28) := (h.block _ (by omega)).trans (by have := new_block (w.alloc (.cells #[x, y] 24)) (.cells #[a, b] 28); rw [World.size_alloc] at this; exact this)
  have c0 := block2 b0
  have c1 := block2 b1
  exact ⟨⟨c0.1, c0.2.1⟩, ⟨c1.1, c1.2.1⟩, c1.2.2.1, c1.2.2.2.1⟩
theorem below_two {w W : World} {o o' : Obj} (h : Below (w.heap.size + 2) ((w.alloc o).alloc o') W) : Below w.heap.size w W := (below_new2 w o o').trans (h.mono (by omega))
theorem next2 {w W W' : World} {o o' : Obj} (h : Below (w.heap.size + 2) ((w.alloc o).alloc o') W) (h' : Below W.heap.size W W') : Below (w.heap.size + 2) ((w.alloc o).alloc o') W' := h.trans (h'.mono (Nat.le_trans (by simp) h.size))
theorem two_size {w W : World} {o o' : Obj} (h : Below (w.heap.size + 2) ((w.alloc o).alloc o') W) : w.heap.size + 2 ≤ W.heap.size := Nat.le_trans (by simp) h.size
theorem end2 {w W : World} {o o' : Obj} {x y : Value} (h : Below (w.heap.size + 2) ((w.alloc o).alloc o') W) : Below w.heap.size w ((W.setCell ⟨w.heap.size + 1, 0, none⟩ x).setCell ⟨w.heap.size + 1, 1, none⟩ y) := ((below_two h).setCell (p := ⟨w.heap.size + 1, 0, none⟩) (Nat.le_succ _) _).setCell (p := ⟨w.heap.size + 1, 1, none⟩) (Nat.le_succ _) _

/-- What is wrong with an Add. -/
def addF (ts : List Tm) (t : Tm) : Int × Int := if (heapF ts).1 ≠ 0 then heapF ts else if oor t then (3, -1) else if ts.length = 5000 then (9, 0) else (0, 0)

set_option maxRecDepth 100000 in
set_option maxHeartbeats 2000000 in
theorem ckadd_heap (w : World) (a : Option Addr) (n c : Nat) (x y : Int) (ts : List Tm) (hl : ts.length = n) (h : IsTs w (.slice a n c) ts) (hm : n ≤ maxLen) (fx fy : Int) (hf : heapF ts = (fx, fy)) (hx : fx ≠ 0) :
    Calls Try.prog 26 #[.slice a n c, .agg #[.int .i64 x, .int .i64 y]] w fun e w' => e = .returned (.agg #[.int .i64 fx, .int .i64 fy]) ∧ Below w.heap.size w w' := by
  have HI0 := hide (IsTs.below h (below_new2 w (.cells #[.int .i64 x, .int .i64 y] 24) (.cells #[.int .i64 0, .int .i64 0] 28)))
  have HCK : Hid (∀ W, IsTs W (.slice a n c) ts → Calls Try.prog 10 #[.slice a n c] W fun e w' => e = .returned (.agg #[.int .i64 fx, .int .i64 fy]) ∧ Below W.heap.size W w') := fun W hW => by
    have := check_any W _ ts hW (by rw [hl]; exact hm)
    rw [hf] at this
    exact this
  unfold maxLen at hm
  have hx1 : (fx != 0) = true := by simpa using hx
  clear h hf hl
  go_enter Try.func26, Try.ntmps26
  go_upto_region 2 with (go_at_call 10; refine (unhide HCK _ (unhide HI0)).mono ?_; rintro e w1 ⟨rfl, hb1⟩; have HX1 := hide (hb1.mono (show w.heap.size + 2 ≤ _ by simp)); clear hb1)
  have TB := hide (new_block w1 (.cells #[.int .i64 fx, .int .i64 fy] 28))
  have XB := hide ((unhide HX1).alloc (two_size (unhide HX1)) (.cells #[.int .i64 fx, .int .i64 fy] 28))
  have HTS := hide (two_size (unhide HX1))
  obtain ⟨T, hT⟩ : ∃ T, w1.heap.size = T := ⟨_, rfl⟩
  obtain ⟨W2, hW2⟩ : ∃ W, w1.alloc (.cells #[.int .i64 fx, .int .i64 fy] 28) = W := ⟨_, rfl⟩
  rw [hT, hW2] at TB
  rw [hT] at HTS
  rw [hW2] at XB
  rw [hT, hW2]
  clear hT hW2
  obtain ⟨t0, t1, _, _, _⟩ := block2 (unhide TB)
  obtain ⟨⟨p0, p1⟩, ⟨r0, r1⟩, f0, f1⟩ := two_vars (unhide XB)
  have n0 : w.heap.size + 1 ≠ T := by have := unhide HTS; omega
  have n1 : T ≠ w.heap.size + 1 := Ne.symm n0
  go_wp2_with fail
  exact bodyPost_ret (v := .agg #[.int .i64 fx, .int .i64 fy]) (by simp [results, Try.results26, go_sem, r0, r1]) rfl ⟨rfl, end2 (unhide XB)⟩

set_option maxRecDepth 100000 in
set_option maxHeartbeats 2000000 in
theorem ckadd_oor (w : World) (a : Option Addr) (n c : Nat) (x y : Int) (ts : List Tm) (hl : ts.length = n) (h : IsTs w (.slice a n c) ts) (hm : n ≤ maxLen) (hf : heapF ts = (0, 0)) (ho : oor (x, y)) :
    Calls Try.prog 26 #[.slice a n c, .agg #[.int .i64 x, .int .i64 y]] w fun e w' => e = .returned (.agg #[.int .i64 3, .int .i64 (-1)]) ∧ Below w.heap.size w w' := by
  have HI0 := hide (IsTs.below h (below_new2 w (.cells #[.int .i64 x, .int .i64 y] 24) (.cells #[.int .i64 0, .int .i64 0] 28)))
  have HCK : Hid (∀ W, IsTs W (.slice a n c) ts → Calls Try.prog 10 #[.slice a n c] W fun e w' => e = .returned (.agg #[.int .i64 0, .int .i64 0]) ∧ Below W.heap.size W w') := fun W hW => by
    have := check_any W _ ts hW (by rw [hl]; exact hm)
    rw [hf] at this
    exact this
  unfold maxLen at hm
  have ho1 : decide (oor (x, y)) = true := decide_eq_true ho
  clear h hf hl
  go_enter Try.func26, Try.ntmps26
  go_upto_region 2 with (go_at_call 10; refine (unhide HCK _ (unhide HI0)).mono ?_; rintro e w1 ⟨rfl, hb1⟩; have HX1 := hide (hb1.mono (show w.heap.size + 2 ≤ _ by simp)); clear hb1)
  have TB := hide (new_block w1 (.cells #[.int .i64 0, .int .i64 0] 28))
  have XB := hide ((unhide HX1).alloc (two_size (unhide HX1)) (.cells #[.int .i64 0, .int .i64 0] 28))
  have HTS := hide (two_size (unhide HX1))
  obtain ⟨T, hT⟩ : ∃ T, w1.heap.size = T := ⟨_, rfl⟩
  obtain ⟨W2, hW2⟩ : ∃ W, w1.alloc (.cells #[.int .i64 0, .int .i64 0] 28) = W := ⟨_, rfl⟩
  rw [hT, hW2] at TB
  rw [hT] at HTS
  rw [hW2] at XB
  rw [hT, hW2]
  clear hT hW2
  obtain ⟨t0, t1, _, _, _⟩ := block2 (unhide TB)
  obtain ⟨⟨p0, p1⟩, ⟨r0, r1⟩, f0, f1⟩ := two_vars (unhide XB)
  have n0 : w.heap.size + 1 ≠ T := by have := unhide HTS; omega
  have n1 : T ≠ w.heap.size + 1 := Ne.symm n0
  go_wp2_with (go_at_call 23; refine (oor_any _ _ _).mono ?_; rintro e w3 ⟨rfl, hb3⟩; have HX3 := hide (next2 (unhide XB) hb3); clear hb3 p0 p1 r0 r1 f0 f1 t0 t1; obtain ⟨⟨p0, p1⟩, ⟨r0, r1⟩, f0, f1⟩ := two_vars (unhide HX3))
  exact bodyPost_ret (v := .agg #[.int .i64 3, .int .i64 (-1)]) (by simp [results, Try.results26, go_sem, r0, r1]) rfl ⟨rfl, end2 (unhide HX3)⟩

set_option maxRecDepth 100000 in
set_option maxHeartbeats 2000000 in
theorem ckadd_full (w : World) (a : Option Addr) (n c : Nat) (x y : Int) (ts : List Tm) (hl : ts.length = n) (h : IsTs w (.slice a n c) ts) (hm : n ≤ maxLen) (hf : heapF ts = (0, 0)) (ho : ¬ oor (x, y)) (h5 : n = 5000) :
    Calls Try.prog 26 #[.slice a n c, .agg #[.int .i64 x, .int .i64 y]] w fun e w' => e = .returned (.agg #[.int .i64 9, .int .i64 0]) ∧ Below w.heap.size w w' := by
  have HI0 := hide (IsTs.below h (below_new2 w (.cells #[.int .i64 x, .int .i64 y] 24) (.cells #[.int .i64 0, .int .i64 0] 28)))
  have HCK : Hid (∀ W, IsTs W (.slice a n c) ts → Calls Try.prog 10 #[.slice a n c] W fun e w' => e = .returned (.agg #[.int .i64 0, .int .i64 0]) ∧ Below W.heap.size W w') := fun W hW => by
    have := check_any W _ ts hW (by rw [hl]; exact hm)
    rw [hf] at this
    exact this
  unfold maxLen at hm
  have ho1 : decide (oor (x, y)) = false := decide_eq_false ho
  subst h5
  clear h hf hl
  go_enter Try.func26, Try.ntmps26
  go_upto_region 2 with (go_at_call 10; refine (unhide HCK _ (unhide HI0)).mono ?_; rintro e w1 ⟨rfl, hb1⟩; have HX1 := hide (hb1.mono (show w.heap.size + 2 ≤ _ by simp)); clear hb1)
  have TB := hide (new_block w1 (.cells #[.int .i64 0, .int .i64 0] 28))
  have XB := hide ((unhide HX1).alloc (two_size (unhide HX1)) (.cells #[.int .i64 0, .int .i64 0] 28))
  have HTS := hide (two_size (unhide HX1))
  obtain ⟨T, hT⟩ : ∃ T, w1.heap.size = T := ⟨_, rfl⟩
  obtain ⟨W2, hW2⟩ : ∃ W, w1.alloc (.cells #[.int .i64 0, .int .i64 0] 28) = W := ⟨_, rfl⟩
  rw [hT, hW2] at TB
  rw [hT] at HTS
  rw [hW2] at XB
  rw [hT, hW2]
  clear hT hW2
  obtain ⟨t0, t1, _, _, _⟩ := block2 (unhide TB)
  obtain ⟨⟨p0, p1⟩, ⟨r0, r1⟩, f0, f1⟩ := two_vars (unhide XB)
  have n0 : w.heap.size + 1 ≠ T := by have := unhide HTS; omega
  have n1 : T ≠ w.heap.size + 1 := Ne.symm n0
  go_wp2_with (go_at_call 23; refine (oor_any _ _ _).mono ?_; rintro e w3 ⟨rfl, hb3⟩; have HX3 := hide (next2 (unhide XB) hb3); clear hb3 p0 p1 r0 r1 f0 f1 t0 t1; obtain ⟨⟨p0, p1⟩, ⟨r0, r1⟩, f0, f1⟩ := two_vars (unhide HX3))
  exact bodyPost_ret (v := .agg #[.int .i64 9, .int .i64 0]) (by simp [results, Try.results26, go_sem, r0, r1]) rfl ⟨rfl, end2 (unhide HX3)⟩

set_option maxRecDepth 100000 in
set_option maxHeartbeats 2000000 in
theorem ckadd_ok (w : World) (a : Option Addr) (n c : Nat) (x y : Int) (ts : List Tm) (hl : ts.length = n) (h : IsTs w (.slice a n c) ts) (hm : n ≤ maxLen) (hf : heapF ts = (0, 0)) (ho : ¬ oor (x, y)) (h5 : n ≠ 5000) :
    Calls Try.prog 26 #[.slice a n c, .agg #[.int .i64 x, .int .i64 y]] w fun e w' => e = .returned (.agg #[.int .i64 0, .int .i64 0]) ∧ Below w.heap.size w w' := by
  have HI0 := hide (IsTs.below h (below_new2 w (.cells #[.int .i64 x, .int .i64 y] 24) (.cells #[.int .i64 0, .int .i64 0] 28)))
  have HCK : Hid (∀ W, IsTs W (.slice a n c) ts → Calls Try.prog 10 #[.slice a n c] W fun e w' => e = .returned (.agg #[.int .i64 0, .int .i64 0]) ∧ Below W.heap.size W w') := fun W hW => by
    have := check_any W _ ts hW (by rw [hl]; exact hm)
    rw [hf] at this
    exact this
  unfold maxLen at hm
  have ho1 : decide (oor (x, y)) = false := decide_eq_false ho
  have h6 : ((n : Int) == 5000) = false := by simp; omega
  clear h hf hl
  go_enter Try.func26, Try.ntmps26
  go_upto_region 2 with (go_at_call 10; refine (unhide HCK _ (unhide HI0)).mono ?_; rintro e w1 ⟨rfl, hb1⟩; have HX1 := hide (hb1.mono (show w.heap.size + 2 ≤ _ by simp)); clear hb1)
  have TB := hide (new_block w1 (.cells #[.int .i64 0, .int .i64 0] 28))
  have XB := hide ((unhide HX1).alloc (two_size (unhide HX1)) (.cells #[.int .i64 0, .int .i64 0] 28))
  have HTS := hide (two_size (unhide HX1))
  obtain ⟨T, hT⟩ : ∃ T, w1.heap.size = T := ⟨_, rfl⟩
  obtain ⟨W2, hW2⟩ : ∃ W, w1.alloc (.cells #[.int .i64 0, .int .i64 0] 28) = W := ⟨_, rfl⟩
  rw [hT, hW2] at TB
  rw [hT] at HTS
  rw [hW2] at XB
  rw [hT, hW2]
  clear hT hW2
  obtain ⟨t0, t1, _, _, _⟩ := block2 (unhide TB)
  obtain ⟨⟨p0, p1⟩, ⟨r0, r1⟩, f0, f1⟩ := two_vars (unhide XB)
  have n0 : w.heap.size + 1 ≠ T := by have := unhide HTS; omega
  have n1 : T ≠ w.heap.size + 1 := Ne.symm n0
  go_wp2_with (go_at_call 23; refine (oor_any _ _ _).mono ?_; rintro e w3 ⟨rfl, hb3⟩; have HX3 := hide (next2 (unhide XB) hb3); clear hb3 p0 p1 r0 r1 f0 f1 t0 t1; obtain ⟨⟨p0, p1⟩, ⟨r0, r1⟩, f0, f1⟩ := two_vars (unhide HX3))
  exact bodyPost_ret (v := .agg #[.int .i64 0, .int .i64 0]) (by simp [results, Try.results26, go_sem, r0, r1]) rfl ⟨rfl, end2 (unhide HX3)⟩

theorem ckadd_any (w : World) (a : Option Addr) (n c : Nat) (x y : Int) (ts : List Tm) (hl : ts.length = n) (h : IsTs w (.slice a n c) ts) (hm : n ≤ maxLen) :
    Calls Try.prog 26 #[.slice a n c, .agg #[.int .i64 x, .int .i64 y]] w fun e w' => e = .returned (faultV (addF ts (x, y))) ∧ Below w.heap.size w w' := by
  unfold addF
  by_cases h1 : (heapF ts).1 = 0
  · have h0 := heapF_zero h1
    rw [if_neg (by simp [h1])]
    by_cases ho : oor (x, y)
    · rw [if_pos ho]; exact ckadd_oor w a n c x y ts hl h hm h0 ho
    · rw [if_neg ho]
      by_cases h5 : n = 5000
      · rw [hl, if_pos h5]; exact ckadd_full w a n c x y ts hl h hm h0 ho h5
      · rw [hl, if_neg h5]; exact ckadd_ok w a n c x y ts hl h hm h0 ho h5
  · rw [if_pos h1]
    exact ckadd_heap w a n c x y ts hl h hm _ _ rfl h1

set_option maxRecDepth 100000 in
set_option maxHeartbeats 2000000 in
theorem add_fault (w : World) (a : Option Addr) (n c : Nat) (x y : Int) (ts : List Tm) (hl : ts.length = n) (h : IsTs w (.slice a n c) ts) (hm : n ≤ maxLen) (fx fy : Int) (hf : addF ts (x, y) = (fx, fy)) (hx : fx ≠ 0) :
    Calls Try.prog 11 #[.slice a n c, .agg #[.int .i64 x, .int .i64 y]] w fun e w' => e = .returned (.tuple #[.slice none 0 0, .int .i64 0, .agg #[.int .i64 fx, .int .i64 fy]]) ∧ Below w.heap.size w w' := by
  have HI0 := hide (IsTs.below h (below_new2 w (.cells #[.int .i64 x, .int .i64 y] 24) (.cells #[.int .i64 0, .int .i64 0] 28)))
  have HCA : Hid (∀ W, IsTs W (.slice a n c) ts → Calls Try.prog 26 #[.slice a n c, .agg #[.int .i64 x, .int .i64 y]] W fun e w' => e = .returned (.agg #[.int .i64 fx, .int .i64 fy]) ∧ Below W.heap.size W w') := fun W hW => by
    have := ckadd_any W a n c x y ts hl hW hm
    rw [hf] at this
    exact this
  have hx1 : (fx != 0) = true := by simpa using hx
  clear h hf hl hx
  go_enter Try.func11, Try.ntmps11
  go_upto_region 2 with (go_at_call 26; refine (unhide HCA _ (unhide HI0)).mono ?_; rintro e w1 ⟨rfl, hb1⟩; have HX1 := hide (hb1.mono (show w.heap.size + 2 ≤ _ by simp)); clear hb1)
  have TB := hide (new_block w1 (.cells #[.int .i64 fx, .int .i64 fy] 28))
  have XB := hide ((unhide HX1).alloc (two_size (unhide HX1)) (.cells #[.int .i64 fx, .int .i64 fy] 28))
  have HTS := hide (two_size (unhide HX1))
  obtain ⟨T, hT⟩ : ∃ T, w1.heap.size = T := ⟨_, rfl⟩
  obtain ⟨W2, hW2⟩ : ∃ W, w1.alloc (.cells #[.int .i64 fx, .int .i64 fy] 28) = W := ⟨_, rfl⟩
  rw [hT, hW2] at TB
  rw [hT] at HTS
  rw [hW2] at XB
  rw [hT, hW2]
  clear hT hW2
  obtain ⟨t0, t1, _, _, _⟩ := block2 (unhide TB)
  obtain ⟨⟨p0, p1⟩, ⟨r0, r1⟩, f0, f1⟩ := two_vars (unhide XB)
  have n0 : w.heap.size + 1 ≠ T := by have := unhide HTS; omega
  have n1 : T ≠ w.heap.size + 1 := Ne.symm n0
  go_wp2_with fail
  go_region
  all_goals go_wp2_with fail
  all_goals exact bodyPost_ret (v := .tuple #[.slice none 0 0, .int .i64 0, .agg #[.int .i64 fx, .int .i64 fy]]) (by simp [results, Try.results11, go_sem, r0, r1]) rfl ⟨rfl, (end2 (unhide XB)).drew⟩

theorem ts_new (w : World) (x y : Int) : IsTs (w.alloc (.cells #[.int .i64 x, .int .i64 y] 24)) (.slice (some ⟨w.heap.size, 0, none⟩) 1 1) [(x, y)] := by
  have hb := block2 (new_block w (.cells #[.int .i64 x, .int .i64 y] 24))
  exact Cells.ts (ts := [(x, y)]) (fun j hj => by
    obtain rfl : j = 0 := by simpa using hj
    exact ⟨hb.1, hb.2.1⟩) 1
theorem ts_new_drew (w : World) (x y : Int) : IsTs (w.alloc (.cells #[.int .i64 x, .int .i64 y] 24)).drew (.slice (some ⟨w.heap.size, 0, none⟩) 1 1) [(x, y)] := IsTs.below (ts_new w x y) (Below.refl _ _).drew
theorem below_ad (w : World) (o : Obj) : Below w.heap.size w (w.alloc o).drew := ((Below.refl _ _).alloc (Nat.le_refl _) o).drew

set_option maxRecDepth 100000 in
set_option maxHeartbeats 2000000 in
theorem add_ok (w : World) (a : Option Addr) (n c : Nat) (x y : Int) (ts : List Tm) (hl : ts.length = n) (h : IsTs w (.slice a n c) ts) (hm : n ≤ 5000) (hf : addF ts (x, y) = (0, 0)) :
    Calls Try.prog 11 #[.slice a n c, .agg #[.int .i64 x, .int .i64 y]] w fun e w' => ∃ g c', e = .returned (.tuple #[.slice (some ⟨g, 0, none⟩) (n + 1) c', .int .i64 ((riseL (ts ++ [(x, y)]) n).2 : Nat), .agg #[.int .i64 0, .int .i64 0]]) ∧ Own w.heap.size w' (.slice (some ⟨g, 0, none⟩) (n + 1) c') (riseL (ts ++ [(x, y)]) n).1 ∧ Below w.heap.size w w' := by
  have HI0 := hide (IsTs.below h (below_new2 w (.cells #[.int .i64 x, .int .i64 y] 24) (.cells #[.int .i64 0, .int .i64 0] 28)))
  have HCA : Hid (∀ W, IsTs W (.slice a n c) ts → Calls Try.prog 26 #[.slice a n c, .agg #[.int .i64 x, .int .i64 y]] W fun e w' => e = .returned (.agg #[.int .i64 0, .int .i64 0]) ∧ Below W.heap.size W w') := fun W hW => by
    have := ckadd_any W a n c x y ts hl hW (by unfold maxLen; omega)
    rw [hf] at this
    exact this
  obtain ⟨R, hR⟩ : ∃ R, riseL (ts ++ [(x, y)]) n = R := ⟨_, rfl⟩
  have hrl : R.1.length = n + 1 := by rw [← hR, riseL, riseF_length]; simp [hl]
  have HRS : Hid (∀ W g c, Row W g c (ts ++ [(x, y)]) → Calls Try.prog 28 #[.slice (some ⟨g, 0, none⟩) (n + 1) c, .int .i64 n] W fun e w' => e = .returned (.int .i64 (R.2 : Nat)) ∧ Row w' g c R.1 ∧ But g W w') := fun W g c hW => by
    have := rise_any W g c (n + 1) n _ (by simp [hl]) (by omega) (by omega) hW
    rw [hR] at this
    exact this
  rw [hR]
  have HV := hide h
  have HL := hide hl
  have HRL := hide hrl
  clear h hf hR hl hrl
  go_enter Try.func11, Try.ntmps11
  go_upto_region 2 with (go_at_call 26; refine (unhide HCA _ (unhide HI0)).mono ?_; rintro e w1 ⟨rfl, hb1⟩; have HX1 := hide (hb1.mono (show w.heap.size + 2 ≤ _ by simp)); clear hb1)
  have TB := hide (new_block w1 (.cells #[.int .i64 0, .int .i64 0] 28))
  have XB := hide ((unhide HX1).alloc (two_size (unhide HX1)) (.cells #[.int .i64 0, .int .i64 0] 28))
  have HTS := hide (two_size (unhide HX1))
  obtain ⟨T, hT⟩ : ∃ T, w1.heap.size = T := ⟨_, rfl⟩
  obtain ⟨W2, hW2⟩ : ∃ W, w1.alloc (.cells #[.int .i64 0, .int .i64 0] 28) = W := ⟨_, rfl⟩
  rw [hT, hW2] at TB
  rw [hT] at HTS
  rw [hW2] at XB
  rw [hT, hW2]
  clear hT hW2
  obtain ⟨t0, t1, _, _, _⟩ := block2 (unhide TB)
  obtain ⟨⟨p0, p1⟩, ⟨r0, r1⟩, f0, f1⟩ := two_vars (unhide XB)
  have n0 : w.heap.size + 1 ≠ T := by have := unhide HTS; omega
  have n1 : T ≠ w.heap.size + 1 := Ne.symm n0
  have HFR : Hid (∀ W, Below W2.heap.size W2 W → Calls Try.prog 27 #[.slice a n c] W fun e w' => ∃ a' c', e = .returned (.slice a' n c') ∧ Own W.heap.size w' (.slice a' n c') ts ∧ Below W.heap.size W w') := fun W hW => by
    have := fresh_any W _ ts (IsTs.below (unhide HV) ((below_two (unhide XB)).trans (hW.mono (below_two (unhide XB)).size))) (by rw [unhide HL]; omega)
    rw [unhide HL] at this
    exact this
  have HSS : Hid (∀ W, Below W2.heap.size W2 W → (W.cell? ⟨w.heap.size, 0, none⟩ = some (.int .i64 x) ∧ W.cell? ⟨w.heap.size, 1, none⟩ = some (.int .i64 y)) ∧ Below W2.heap.size W2 W) := fun W hW => ⟨(two_vars (next2 (unhide XB) hW)).1, hW⟩
  go_upto_region 4 with fail
  clear t0 t1 r0 r1 f0 f1 n0 n1
  go_region_held3 (fun W => (W.cell? ⟨w.heap.size, 0, none⟩ = some (.int .i64 x) ∧ W.cell? ⟨w.heap.size, 1, none⟩ = some (.int .i64 y)) ∧ Below W2.heap.size W2 W)
    (first | with_reducible exact unhide HSS _ (Below.refl _ _).drew | with_reducible exact unhide HSS _ (unhide HB3) | with_reducible exact unhide HSS _ (unhide HB4) | with_reducible exact unhide HSS _ ((unhide HB3).alloc (unhide HB3).size _) | with_reducible exact unhide HSS _ (below_ad W2 _))
    (first
    | (go_at_call 27; (first | with_reducible refine Calls.mono (unhide HFR W2.drew (Below.refl _ _).drew) ?_ | with_reducible refine Calls.mono (unhide HFR (W2.alloc _).drew (below_ad W2 _)) ?_); rintro e w3 ⟨a3, c3, rfl, ho3, hb3⟩; have HO3 := hide (ho3.base (show W2.heap.size ≤ _ by first | exact (Below.refl W2.heap.size W2).drew.size | exact (below_ad W2 _).size)); have HB3 : Hid (Below W2.heap.size W2 w3) := (by first | exact (Below.refl _ _).drew.trans (hb3.mono (Nat.le_refl _)) | exact (below_ad W2 _).trans (hb3.mono (below_ad W2 _).size)); have HBX3 := hide hb3; clear ho3 hb3)
    | (refine step_append_ts (by rfl) (.tmp 18) (.tmp 20) rfl W2.heap.size (.slice a3 n c3) ts rfl (by first | exact unhide HO3 | exact Own.below (unhide HO3) ((Below.refl _ _).alloc (Nat.le_refl _) _)) _ [(x, y)] rfl (by first | exact ts_new w3 x y | exact IsTs.below (ts_new_drew W2 x y) (unhide HBX3)) (n + 1) (by rw [unhide HL]; rfl) (by omega) (by first | exact (unhide HB3).size | exact Nat.le_trans (unhide HB3).size (by simp)) ?_; intro a4 c4 w4 ho4 hg4; have HO4 := hide ho4; have HB4 : Hid (Below W2.heap.size W2 w4) := (by first | exact (unhide HB3).grown hg4 (unhide HB3).size (fun k hk => ((unhide HO3).lt k hk).1) | exact ((unhide HB3).alloc (unhide HB3).size _).grown hg4 (Nat.le_trans (unhide HB3).size (by simp)) (fun k hk => ((unhide HO3).lt k hk).1)); clear ho4 hg4))
  all_goals
    obtain ⟨g, cg, ev, hgw, hrow⟩ := (unhide HO4).row (by simp)
    rw [show (ts ++ [(x, y)]).length = n + 1 by rw [List.length_append, unhide HL]; rfl] at ev
    cases ev
    have HRO := hide (unhide HRS w4 g c4 hrow)
    have HX4 := hide (next2 (unhide XB) (unhide HB4))
    have hgs : w.heap.size + 2 ≤ g := Nat.le_trans (two_size (unhide XB)) hgw
    clear hrow HO4 p0 p1
    go_upto_region 6 with (go_at_call 28; refine (unhide HRO).mono ?_; rintro e w5 ⟨rfl, hr5, hb5⟩; have HR5 := hide hr5; have HX5 := hide ((unhide HX4).trans (hb5.below hgs (two_size (unhide HX4)))); clear hr5 hb5)
    obtain ⟨⟨p0, p1⟩, ⟨r0, r1⟩, f0, f1⟩ := two_vars (unhide HX5)
    go_wp2_with fail
    refine bodyPost_ret (v := .tuple #[.slice (some ⟨g, 0, none⟩) (n + 1) c4, .int .i64 (R.2 : Nat), .agg #[.int .i64 0, .int .i64 0]]) (by simp [results, Try.results11, go_sem, r0, r1]) rfl ⟨g, c4, rfl, ?_, end2 (unhide HX5)⟩
    have := ((unhide HR5).set2 (r := w.heap.size + 1) (by omega) (.int .i64 0) (.int .i64 0)).own (base := w.heap.size) (by omega)
    rw [unhide HRL] at this
    exact this
end Go.Proofs.Ytcfjpjojckngeaa
