/-
  alarm.Drop.
-/
import Derived.Test.YtcfjpjojckngeaaM
namespace Go.Proofs.Ytcfjpjojckngeaa
open Go.RowKit

/-- What a cell holds. -/
@[irreducible] def cellOf (w : World) (g o : Nat) : Value := (w.cell? ⟨g, o, none⟩).getD undef
theorem cell_there {w : World} {g o : Nat} (h : (w.cell? ⟨g, o, none⟩).isSome = true) : w.cell? ⟨g, o, none⟩ = some (cellOf w g o) := by
  obtain ⟨u, hu⟩ := Option.isSome_iff_exists.1 h
  rw [cellOf, hu, Option.getD_some]
/-- Two cells that may be written. -/
def Two (w : World) (g : Nat) : Prop := w.cell? ⟨g, 0, none⟩ = some (cellOf w g 0) ∧ w.frozen? ⟨g, 0, none⟩ = false ∧ w.cell? ⟨g, 1, none⟩ = some (cellOf w g 1) ∧ w.frozen? ⟨g, 1, none⟩ = false
theorem two_there {w : World} {g : Nat} (h : w.there g 0 2) : w.cell? ⟨g, 0, none⟩ = some (cellOf w g 0) ∧ w.frozen? ⟨g, 0, none⟩ = false ∧ w.cell? ⟨g, 1, none⟩ = some (cellOf w g 1) ∧ w.frozen? ⟨g, 1, none⟩ = false := by
  have h0 := h 0 (by omega)
  have h1 := h 1 (by omega)
  exact ⟨cell_there h0.1, h0.2, cell_there h1.1, h1.2⟩
theorem there_block {w w' : World} {g n : Nat} (h : w.there g 0 n) (hb : w'.heap[g]? = w.heap[g]?) : w'.there g 0 n := fun j hj => by
  have := h j hj
  rw [World.cell?_of_block (w := w) hb, World.frozen?_of_block (w := w) hb]
  exact this
theorem there_new {w : World} {R : Nat} {x y : Value} {t : TypeId} (h : w.heap[R]? = some (.cells #[x, y] t (0, 0))) : w.there R 0 2 := fun j hj => by
  have hb := block2 h
  have : j = 0 ∨ j = 1 := by omega
  rcases this with rfl | rfl
  · exact ⟨by rw [hb.1]; rfl, hb.2.2.1⟩
  · exact ⟨by rw [hb.2.1]; rfl, hb.2.2.2.1⟩

/-- All blocks that were there are as they were but r and r + 1, in which two cells may be written. -/
structure Kept (r : Nat) (W0 W : World) : Prop where
  os : W.os = W0.os
  tape : W.tape = W0.tape
  output : W.output = W0.output
  size : W0.heap.size ≤ W.heap.size
  block : ∀ k, k < W0.heap.size → k ≠ r → k ≠ r + 1 → W.heap[k]? = W0.heap[k]?
  lt : r + 1 < W0.heap.size
  there0 : W.there r 0 2
  there1 : W.there (r + 1) 0 2

theorem Kept.drew {r : Nat} {W0 W : World} (h : Kept r W0 W) : Kept r W0 W.drew := ⟨h.os, h.tape, h.output, h.size, h.block, h.lt, h.there0, h.there1⟩
theorem Kept.call {r : Nat} {W0 W w2 : World} (h : Kept r W0 W) (hb : Below W0.heap.size W w2) : Kept r W0 w2 :=
  have l := h.lt
  ⟨hb.os.trans h.os, hb.tape.trans h.tape, hb.output.trans h.output, Nat.le_trans h.size hb.size, fun k hk h1 h2 => (hb.block k hk).trans (h.block k hk h1 h2), h.lt, there_block h.there0 (hb.block r (by omega)), there_block h.there1 (hb.block (r + 1) h.lt)⟩
theorem Kept.set {r : Nat} {W0 W : World} (h : Kept r W0 W) {q : Nat} (hq : q = r ∨ q = r + 1) (o : Nat) (v : Value) : Kept r W0 (W.setCell ⟨q, o, none⟩ v) := by
  have hb := (Below.refl 0 W).setCell (p := ⟨q, o, none⟩) (Nat.zero_le _) v
  refine ⟨hb.os.trans h.os, hb.tape.trans h.tape, hb.output.trans h.output, Nat.le_trans h.size hb.size, fun k hk h1 h2 => ?_, h.lt, World.there_setCells h.there0 q o [v], World.there_setCells h.there1 q o [v]⟩
  rw [Below.heap_setCell _ _ _ _ (by rcases hq with rfl | rfl <;> simpa using by assumption)]
  exact h.block k hk h1 h2
theorem Kept.set0 {r : Nat} {W0 W : World} (h : Kept r W0 W) (x y : Value) : Kept r W0 ((W.setCell ⟨r, 0, none⟩ x).setCell ⟨r, 1, none⟩ y) := (h.set (Or.inl rfl) 0 x).set (Or.inl rfl) 1 y
theorem Kept.set1 {r : Nat} {W0 W : World} (h : Kept r W0 W) (x y : Value) : Kept r W0 ((W.setCell ⟨r + 1, 0, none⟩ x).setCell ⟨r + 1, 1, none⟩ y) := (h.set (Or.inr rfl) 0 x).set (Or.inr rfl) 1 y
theorem Kept.below {r : Nat} {W0 W : World} (h : Kept r W0 W) : Below r W0 W := ⟨h.os, h.tape, h.output, h.size, fun k hk => h.block k (by have := h.lt; omega) (by omega) (by omega)⟩

theorem two_there2 {w W : World} {x y a b : Value} (h : Below (w.heap.size + 2) ((w.alloc (.cells #[x, y] 24)).alloc (.cells #[a, b] 28)) W) : W.heap[w.heap.size]? = some (.cells #[x, y] 24 (0, 0)) ∧ W.heap[w.heap.size + 1]? = some (.cells #[a, b] 28 (0, 0)) := by
  refine ⟨(h.block _ (by omega)).trans (keep_alloc (new_block w _) _), (h.block _ (by omega)).trans ?_⟩
  have := new_block (w.alloc (.cells #[x, y] 24)) (.cells #[a, b] 28)
  rw [World.size_alloc] at this
  exact this
theorem end4 {w W : World} {o o' : Obj} {x y a b : Value} (h : Below (w.heap.size + 2) ((w.alloc o).alloc o') W) : Below w.heap.size w ((((W.setCell ⟨w.heap.size, 0, none⟩ x).setCell ⟨w.heap.size, 1, none⟩ y).setCell ⟨w.heap.size + 1, 0, none⟩ a).setCell ⟨w.heap.size + 1, 1, none⟩ b) :=
  ((((below_two h).setCell (p := ⟨w.heap.size, 0, none⟩) (Nat.le_refl _) _).setCell (p := ⟨w.heap.size, 1, none⟩) (Nat.le_refl _) _).setCell (p := ⟨w.heap.size + 1, 0, none⟩) (Nat.le_succ _) _).setCell (p := ⟨w.heap.size + 1, 1, none⟩) (Nat.le_succ _) _

set_option maxRecDepth 100000 in
set_option maxHeartbeats 2000000 in
theorem drop_heap (w : World) (a : Option Addr) (n c : Nat) (i : Int) (ts : List Tm) (hl : ts.length = n) (h : IsTs w (.slice a n c) ts) (hm : n ≤ maxLen) (fx fy : Int) (hf : heapF ts = (fx, fy)) (hx : fx ≠ 0) :
    Calls Try.prog 17 #[.slice a n c, .int .i64 i] w fun e w' => e = .returned (.tuple #[.slice none 0 0, .agg #[.int .i64 0, .int .i64 0], .agg #[.int .i64 fx, .int .i64 fy]]) ∧ Below w.heap.size w w' := by
  have HI0 := hide (IsTs.below h (below_new2 w (.cells #[.int .i64 0, .int .i64 0] 24) (.cells #[.int .i64 0, .int .i64 0] 28)))
  have HCK : Hid (∀ W, IsTs W (.slice a n c) ts → Calls Try.prog 10 #[.slice a n c] W fun e w' => e = .returned (.agg #[.int .i64 fx, .int .i64 fy]) ∧ Below W.heap.size W w') := fun W hW => by
    have := check_any W _ ts hW (by rw [hl]; exact hm)
    rw [hf] at this
    exact this
  unfold maxLen at hm
  have hx1 : (fx != 0) = true := by simpa using hx
  clear h hf hl hx
  go_enter Try.func17, Try.ntmps17
  go_upto_region 2 with (go_at_call 10; refine (unhide HCK _ (unhide HI0)).mono ?_; rintro e w1 ⟨rfl, hb1⟩; have HX1 := hide (hb1.mono (show w.heap.size + 2 ≤ _ by simp)); clear hb1)
  have TB := hide (new_block w1 (.cells #[.int .i64 fx, .int .i64 fy] 28))
  have XB := hide ((unhide HX1).alloc (two_size (unhide HX1)) (.cells #[.int .i64 fx, .int .i64 fy] 28))
  have HTS := hide (two_size (unhide HX1))
  obtain ⟨T, hT⟩ : ∃ T, w1.heap.size = T := ⟨_, rfl⟩
  obtain ⟨W2, hW2⟩ : ∃ W, w1.alloc (.cells #[.int .i64 fx, .int .i64 fy] 28) = W := ⟨_, rfl⟩
  rw [hT, hW2] at TB
  rw [hT] at HTS
  rw [hW2] at XB
  rw [hT, hW2]
  clear hT hW2
  obtain ⟨t0, t1, _, _, _⟩ := block2 (unhide TB)
  obtain ⟨bb0, bb1⟩ := two_there2 (unhide XB)
  obtain ⟨p0, p1, p2, p3, _⟩ := block2 bb0
  obtain ⟨r0, r1, r2, r3, _⟩ := block2 bb1
  clear bb0 bb1
  have n0 : w.heap.size + 1 ≠ T := by have := unhide HTS; omega
  have n1 : T ≠ w.heap.size + 1 := Ne.symm n0
  have n2 : w.heap.size ≠ T := by have := unhide HTS; omega
  have n3 : T ≠ w.heap.size := Ne.symm n2
  go_wp2_with fail
  go_region
  all_goals go_wp2_with fail
  all_goals exact bodyPost_ret (v := .tuple #[.slice none 0 0, .agg #[.int .i64 0, .int .i64 0], .agg #[.int .i64 fx, .int .i64 fy]]) (by simp [results, Try.results17, go_sem, p0, p1, r0, r1]) rfl ⟨rfl, (end4 (unhide XB)).drew⟩

set_option maxRecDepth 100000 in
set_option maxHeartbeats 2000000 in
theorem drop_neg (w : World) (a : Option Addr) (n c : Nat) (i : Int) (ts : List Tm) (hl : ts.length = n) (h : IsTs w (.slice a n c) ts) (hm : n ≤ maxLen) (hf : heapF ts = (0, 0)) (hi : i < 0) :
    Calls Try.prog 17 #[.slice a n c, .int .i64 i] w fun e w' => e = .returned (.tuple #[.slice none 0 0, .agg #[.int .i64 0, .int .i64 0], .agg #[.int .i64 6, .int .i64 0]]) ∧ Below w.heap.size w w' := by
  have HI0 := hide (IsTs.below h (below_new2 w (.cells #[.int .i64 0, .int .i64 0] 24) (.cells #[.int .i64 0, .int .i64 0] 28)))
  have HCK : Hid (∀ W, IsTs W (.slice a n c) ts → Calls Try.prog 10 #[.slice a n c] W fun e w' => e = .returned (.agg #[.int .i64 0, .int .i64 0]) ∧ Below W.heap.size W w') := fun W hW => by
    have := check_any W _ ts hW (by rw [hl]; exact hm)
    rw [hf] at this
    exact this
  unfold maxLen at hm
  clear h hf hl
  go_enter Try.func17, Try.ntmps17
  go_upto_region 2 with (go_at_call 10; refine (unhide HCK _ (unhide HI0)).mono ?_; rintro e w1 ⟨rfl, hb1⟩; have HX1 := hide (hb1.mono (show w.heap.size + 2 ≤ _ by simp)); clear hb1)
  have TB := hide (new_block w1 (.cells #[.int .i64 0, .int .i64 0] 28))
  have XB := hide ((unhide HX1).alloc (two_size (unhide HX1)) (.cells #[.int .i64 0, .int .i64 0] 28))
  have HTS := hide (two_size (unhide HX1))
  obtain ⟨T, hT⟩ : ∃ T, w1.heap.size = T := ⟨_, rfl⟩
  obtain ⟨W2, hW2⟩ : ∃ W, w1.alloc (.cells #[.int .i64 0, .int .i64 0] 28) = W := ⟨_, rfl⟩
  rw [hT, hW2] at TB
  rw [hT] at HTS
  rw [hW2] at XB
  rw [hT, hW2]
  clear hT hW2
  obtain ⟨t0, t1, _, _, _⟩ := block2 (unhide TB)
  obtain ⟨bb0, bb1⟩ := two_there2 (unhide XB)
  obtain ⟨p0, p1, p2, p3, _⟩ := block2 bb0
  obtain ⟨r0, r1, r2, r3, _⟩ := block2 bb1
  clear bb0 bb1
  have n0 : w.heap.size + 1 ≠ T := by have := unhide HTS; omega
  have n1 : T ≠ w.heap.size + 1 := Ne.symm n0
  have n2 : w.heap.size ≠ T := by have := unhide HTS; omega
  have n3 : T ≠ w.heap.size := Ne.symm n2
  go_wp2_with fail
  exact bodyPost_ret (v := .tuple #[.slice none 0 0, .agg #[.int .i64 0, .int .i64 0], .agg #[.int .i64 6, .int .i64 0]]) (by simp [results, Try.results17, go_sem, p0, p1, r0, r1]) rfl ⟨rfl, end4 (unhide XB)⟩

set_option maxRecDepth 100000 in
set_option maxHeartbeats 2000000 in
theorem drop_far (w : World) (a : Option Addr) (n c : Nat) (i : Int) (ts : List Tm) (hl : ts.length = n) (h : IsTs w (.slice a n c) ts) (hm : n ≤ maxLen) (hf : heapF ts = (0, 0)) (hi : ¬ i < 0) (hi2 : (n : Int) ≤ i) :
    Calls Try.prog 17 #[.slice a n c, .int .i64 i] w fun e w' => e = .returned (.tuple #[.slice none 0 0, .agg #[.int .i64 0, .int .i64 0], .agg #[.int .i64 6, .int .i64 0]]) ∧ Below w.heap.size w w' := by
  have HI0 := hide (IsTs.below h (below_new2 w (.cells #[.int .i64 0, .int .i64 0] 24) (.cells #[.int .i64 0, .int .i64 0] 28)))
  have HCK : Hid (∀ W, IsTs W (.slice a n c) ts → Calls Try.prog 10 #[.slice a n c] W fun e w' => e = .returned (.agg #[.int .i64 0, .int .i64 0]) ∧ Below W.heap.size W w') := fun W hW => by
    have := check_any W _ ts hW (by rw [hl]; exact hm)
    rw [hf] at this
    exact this
  unfold maxLen at hm
  clear h hf hl
  go_enter Try.func17, Try.ntmps17
  go_upto_region 2 with (go_at_call 10; refine (unhide HCK _ (unhide HI0)).mono ?_; rintro e w1 ⟨rfl, hb1⟩; have HX1 := hide (hb1.mono (show w.heap.size + 2 ≤ _ by simp)); clear hb1)
  have TB := hide (new_block w1 (.cells #[.int .i64 0, .int .i64 0] 28))
  have XB := hide ((unhide HX1).alloc (two_size (unhide HX1)) (.cells #[.int .i64 0, .int .i64 0] 28))
  have HTS := hide (two_size (unhide HX1))
  obtain ⟨T, hT⟩ : ∃ T, w1.heap.size = T := ⟨_, rfl⟩
  obtain ⟨W2, hW2⟩ : ∃ W, w1.alloc (.cells #[.int .i64 0, .int .i64 0] 28) = W := ⟨_, rfl⟩
  rw [hT, hW2] at TB
  rw [hT] at HTS
  rw [hW2] at XB
  rw [hT, hW2]
  clear hT hW2
  obtain ⟨t0, t1, _, _, _⟩ := block2 (unhide TB)
  obtain ⟨bb0, bb1⟩ := two_there2 (unhide XB)
  obtain ⟨p0, p1, p2, p3, _⟩ := block2 bb0
  obtain ⟨r0, r1, r2, r3, _⟩ := block2 bb1
  clear bb0 bb1
  have n0 : w.heap.size + 1 ≠ T := by have := unhide HTS; omega
  have n1 : T ≠ w.heap.size + 1 := Ne.symm n0
  have n2 : w.heap.size ≠ T := by have := unhide HTS; omega
  have n3 : T ≠ w.heap.size := Ne.symm n2
  go_wp2_with fail
  exact bodyPost_ret (v := .tuple #[.slice none 0 0, .agg #[.int .i64 0, .int .i64 0], .agg #[.int .i64 6, .int .i64 0]]) (by simp [results, Try.results17, go_sem, p0, p1, r0, r1]) rfl ⟨rfl, end4 (unhide XB)⟩

set_option maxRecDepth 100000 in
set_option maxHeartbeats 2000000 in
theorem drop_ok (w : World) (b off n c k : Nat) (x y : Int) (ts : List Tm) (hl : ts.length = n + 1) (h : IsTs w (.slice (some ⟨b, off, none⟩) (n + 1) c) ts) (hb : b < w.heap.size) (hc : Cells w b off ts) (hf : heapF ts = (0, 0)) (hk : k ≤ n) (hxy : tAt ts k = (x, y)) :
    Calls Try.prog 17 #[.slice (some ⟨b, off, none⟩) (n + 1) c, .int .i64 k] w fun e w' => ∃ g c', e = .returned (.tuple #[.slice (some ⟨g, 0, none⟩) n c', .agg #[.int .i64 x, .int .i64 y], .agg #[.int .i64 0, .int .i64 0]]) ∧ Own w.heap.size w' (.slice (some ⟨g, 0, none⟩) n c') (dropL ts k) ∧ Below w.heap.size w w' := by
  have HI0 := hide (IsTs.below h (below_new2 w (.cells #[.int .i64 0, .int .i64 0] 24) (.cells #[.int .i64 0, .int .i64 0] 28)))
  have HCK : Hid (∀ W, IsTs W (.slice (some ⟨b, off, none⟩) (n + 1) c) ts → Calls Try.prog 10 #[.slice (some ⟨b, off, none⟩) (n + 1) c] W fun e w' => e = .returned (.agg #[.int .i64 0, .int .i64 0]) ∧ Below W.heap.size W w') := fun W hW => by
    have := check_any W _ ts hW (by rw [hl]; unfold maxLen; have := heapF_len hf; omega)
    rw [hf] at this
    exact this
  have hn5 : n + 1 ≤ 5000 := by rw [← hl]; exact heapF_len hf
  have HC : Hid (∀ W, Below w.heap.size w W → W.cell? ⟨b, off + k * 2, none⟩ = some (.int .i64 x) ∧ W.cell? ⟨b, off + k * 2 + 1, none⟩ = some (.int .i64 y)) := fun W hW => by
    have := hc.below hW hb k (by omega)
    rw [hxy] at this
    exact this
  have HFR0 : Hid (∀ W, Below w.heap.size w W → Calls Try.prog 27 #[.slice (some ⟨b, off, none⟩) (n + 1) c] W fun e w' => ∃ a' c', e = .returned (.slice a' (n + 1) c') ∧ Own W.heap.size w' (.slice a' (n + 1) c') ts ∧ Below W.heap.size W w') := fun W hW => by
    have := fresh_any W _ ts (IsTs.below h hW) (by omega)
    rw [hl] at this
    exact this
  have HL := hide hl
  have HDL : Hid ((dropL ts k).length = n) := dropL_length hl hk
  have g1 : (0 : Int) ≤ (k : Int) := by omega
  have g2 : (k : Int) < (n : Int) + 1 := by omega
  have g3 : ¬ (k : Int) < 0 := by omega
  have g4 : ¬ (n : Int) + 1 ≤ (k : Int) := by omega
  clear h hf hl hc hxy
  go_enter Try.func17, Try.ntmps17
  go_upto_region 2 with (go_at_call 10; refine (unhide HCK _ (unhide HI0)).mono ?_; rintro e w1 ⟨rfl, hb1⟩; have HX1 := hide (hb1.mono (show w.heap.size + 2 ≤ _ by simp)); clear hb1)
  have TB := hide (new_block w1 (.cells #[.int .i64 0, .int .i64 0] 28))
  have XB := hide ((unhide HX1).alloc (two_size (unhide HX1)) (.cells #[.int .i64 0, .int .i64 0] 28))
  have HTS := hide (two_size (unhide HX1))
  obtain ⟨T, hT⟩ : ∃ T, w1.heap.size = T := ⟨_, rfl⟩
  obtain ⟨W2, hW2⟩ : ∃ W, w1.alloc (.cells #[.int .i64 0, .int .i64 0] 28) = W := ⟨_, rfl⟩
  rw [hT, hW2] at TB
  rw [hT] at HTS
  rw [hW2] at XB
  rw [hT, hW2]
  clear hT hW2
  obtain ⟨t0, t1, _, _, _⟩ := block2 (unhide TB)
  obtain ⟨bb0, bb1⟩ := two_there2 (unhide XB)
  obtain ⟨p0, p1, p2, p3, _⟩ := block2 bb0
  obtain ⟨r0, r1, r2, r3, _⟩ := block2 bb1
  clear bb0 bb1
  have n0 : w.heap.size + 1 ≠ T := by have := unhide HTS; omega
  have n1 : T ≠ w.heap.size + 1 := Ne.symm n0
  have n2 : w.heap.size ≠ T := by have := unhide HTS; omega
  have n3 : T ≠ w.heap.size := Ne.symm n2
  go_upto_region 6 with fail
  have HK0 : Hid (Kept w.heap.size W2 W2) := ⟨rfl, rfl, rfl, Nat.le_refl _, fun _ _ _ _ => rfl, by have := two_size (unhide XB); omega, there_new (two_there2 (unhide XB)).1, there_new (two_there2 (unhide XB)).2⟩
  have HW2 := hide (two_size (unhide XB))
  have HALL : Hid (∀ W, Kept w.heap.size W2 W → Below w.heap.size w W) := fun W hW => (below_two (unhide XB)).trans hW.below
  have HSS : Hid (∀ W, Kept w.heap.size W2 W → (W.cell? ⟨b, off + k * 2, none⟩ = some (.int .i64 x) ∧ W.cell? ⟨b, off + k * 2 + 1, none⟩ = some (.int .i64 y)) ∧ (W.cell? ⟨w.heap.size, 0, none⟩ = some (cellOf W (w.heap.size) 0) ∧ W.frozen? ⟨w.heap.size, 0, none⟩ = false ∧ W.cell? ⟨w.heap.size, 1, none⟩ = some (cellOf W (w.heap.size) 1) ∧ W.frozen? ⟨w.heap.size, 1, none⟩ = false) ∧ (W.cell? ⟨w.heap.size + 1, 0, none⟩ = some (cellOf W (w.heap.size + 1) 0) ∧ W.frozen? ⟨w.heap.size + 1, 0, none⟩ = false ∧ W.cell? ⟨w.heap.size + 1, 1, none⟩ = some (cellOf W (w.heap.size + 1) 1) ∧ W.frozen? ⟨w.heap.size + 1, 1, none⟩ = false) ∧ Kept w.heap.size W2 W) := fun W hW => ⟨unhide HC W (unhide HALL W hW), two_there hW.there0, two_there hW.there1, hW⟩
  have HFR : Hid (∀ W, Kept w.heap.size W2 W → Calls Try.prog 27 #[.slice (some ⟨b, off, none⟩) (n + 1) c] W fun e w' => ∃ a' c', e = .returned (.slice a' (n + 1) c') ∧ Own W.heap.size w' (.slice a' (n + 1) c') ts ∧ Below W.heap.size W w') := fun W hW => unhide HFR0 W (unhide HALL W hW)
  clear t0 t1 p0 p1 p2 p3 r0 r1 r2 r3 n0 n1 n2 n3
  go_region_held3 (fun W => (W.cell? ⟨b, off + k * 2, none⟩ = some (.int .i64 x) ∧ W.cell? ⟨b, off + k * 2 + 1, none⟩ = some (.int .i64 y)) ∧ (W.cell? ⟨w.heap.size, 0, none⟩ = some (cellOf W (w.heap.size) 0) ∧ W.frozen? ⟨w.heap.size, 0, none⟩ = false ∧ W.cell? ⟨w.heap.size, 1, none⟩ = some (cellOf W (w.heap.size) 1) ∧ W.frozen? ⟨w.heap.size, 1, none⟩ = false) ∧ (W.cell? ⟨w.heap.size + 1, 0, none⟩ = some (cellOf W (w.heap.size + 1) 0) ∧ W.frozen? ⟨w.heap.size + 1, 0, none⟩ = false ∧ W.cell? ⟨w.heap.size + 1, 1, none⟩ = some (cellOf W (w.heap.size + 1) 1) ∧ W.frozen? ⟨w.heap.size + 1, 1, none⟩ = false) ∧ Kept w.heap.size W2 W)
    (first | with_reducible exact unhide HSS _ (unhide HK0).drew | with_reducible exact unhide HSS _ (unhide HK3) | with_reducible exact unhide HSS _ (unhide HK4) | with_reducible exact unhide HSS _ ((unhide HK4).set0 _ _) | with_reducible exact unhide HSS _ ((unhide HK4).set1 _ _) | with_reducible exact unhide HSS _ (((unhide HK4).set0 _ _).set1 _ _) | with_reducible exact unhide HSS _ (((unhide HK4).set1 _ _).set0 _ _))
    (first
      | (go_at_call 27; refine (unhide HFR _ (by go_split_ands; assumption)).mono ?_; rintro e w3 ⟨a3, c3, rfl, ho3, hb3⟩; obtain ⟨g, cg, ev, hgw, hrow⟩ := ho3.row (by rw [unhide HL]; omega); rw [unhide HL] at ev; cases ev; have HG : Hid (W2.heap.size ≤ g) := Nat.le_trans (Kept.size (r := w.heap.size) (by go_split_ands; assumption)) hgw; have HR3 := hide hrow; have HK3 : Hid (Kept w.heap.size W2 w3) := Kept.call (by go_split_ands; assumption) (hb3.mono (Kept.size (r := w.heap.size) (by go_split_ands; assumption))); clear ho3 hb3 hrow hgw)
      | (go_at_call 29; refine (without_any w3 g c3 n k ts (unhide HL) hk (by omega) (unhide HR3)).mono ?_; rintro e w4 ⟨rfl, hr4, hb4⟩; have HR4 := hide hr4; have HK4 : Hid (Kept w.heap.size W2 w4) := (unhide HK3).call (hb4.below (unhide HG) (unhide HK3).size); clear hr4 hb4))
  all_goals go_wp2_with fail
  all_goals
    obtain ⟨_, ⟨p0, p1, p2, p3⟩, ⟨r0, r1, r2, r3⟩, _⟩ := unhide HSS _ (unhide HK4)
    have hg2 := unhide HG
    have hw2 := unhide HW2
    refine bodyPost_ret (v := .tuple #[.slice (some ⟨g, 0, none⟩) n c3, .agg #[.int .i64 x, .int .i64 y], .agg #[.int .i64 0, .int .i64 0]]) (by simp [results, Try.results17, go_sem, p0, p2, r0, r2]) rfl ⟨g, c3, rfl, ?_, unhide HALL _ (((unhide HK4).set0 _ _).set1 _ _)⟩
    have := (((unhide HR4).set2 (r := w.heap.size) (by omega) (.int .i64 x) (.int .i64 y)).set2 (r := w.heap.size + 1) (by omega) (.int .i64 0) (.int .i64 0)).own (base := w.heap.size) (by omega)
    rw [unhide HDL] at this
    exact this
end Go.Proofs.Ytcfjpjojckngeaa
