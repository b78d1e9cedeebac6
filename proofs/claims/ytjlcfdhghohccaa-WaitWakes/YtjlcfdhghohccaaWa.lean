/-
  wait.Drop and wait.Move.
-/
import Derived.Test.YtjlcfdhghohccaaU
namespace Go.Proofs.Ytjlcfdhghohccaa
open Go.RowKit

/-- The address of the line in which a task waits. -/
def atOf (task : Int) (ls : List Ln) : Int := (lAt ls (lineN task ls)).1
/-- The lines without a task. -/
def dropL (task : Int) (ls : List Ln) : List Ln := setL (atOf task ls) (lessL task (tasksL (atOf task ls) ls)) ls
/-- Two new blocks. -/
theorem two_new (w : World) (o1 o2 : Obj) :
    ((w.alloc o1).alloc o2).heap[w.heap.size]? = some o1 ∧ ((w.alloc o1).alloc o2).heap[w.heap.size + 1]? = some o2 ∧ Below w.heap.size w ((w.alloc o1).alloc o2) ∧ ((w.alloc o1).alloc o2).heap.size = w.heap.size + 2 := by
  refine ⟨keep_alloc (new_block w _) _, ?_, ((Below.refl _ _).alloc (Nat.le_refl _) _).alloc (by simp) _, by simp⟩
  have := new_block (w.alloc o1) o2
  rw [World.size_alloc] at this
  exact this

set_option maxRecDepth 100000 in
set_option maxHeartbeats 2000000 in
theorem drop_fault (w : World) (a : Option Addr) (n c : Nat) (task : Int) (ls : List Ln) (h : Arg w a n c ls) (u v : Int) (hf : linesF ls = (u, v)) (hu : u ≠ 0) :
    Calls Try.prog 29 #[.slice a n c, .int .i64 task] w fun e w' => e = .returned (.tuple #[.slice none 0 0, .int .i64 0, .agg #[.int .i64 u, .int .i64 v]]) ∧ Below w.heap.size w w' := by
  have hx1 : (u != 0) = true := by simpa using hu
  have HCK : Hid (∀ W, Below w.heap.size w W → Calls Try.prog 11 #[.slice a n c] W fun e w' => e = .returned (.agg #[.int .i64 u, .int .i64 v]) ∧ Below W.heap.size W w') := fun W hW => by
    have := check_any W a n c ls (h.rd.below hW) h.max h.each
    rw [hf] at this
    exact this
  clear h hf hu
  obtain ⟨b1, b3, hb, hsz⟩ := two_new w (.cells #[.int .i64 task] 3) (.cells #[.int .i64 0, .int .i64 0] 27)
  obtain ⟨k0, _, _⟩ := block1 b1
  have HB := hide hb; have HSZ := hide hsz; have B1 := hide b1; have B3 := hide b3
  clear b1 b3 hb hsz
  go_enter Try.func29, Try.ntmps29
  go_upto_region 1 with fail
  obtain ⟨W0, eW0⟩ : ∃ W, (w.alloc (.cells #[.int .i64 task] 3)).alloc (.cells #[.int .i64 0, .int .i64 0] 27) = W := ⟨_, rfl⟩
  rw [eW0] at k0 HB HSZ B1 B3
  rw [eW0]
  clear eW0
  go_upto_region 2 with (go_at_call 11; refine (unhide HCK _ (unhide HB)).mono ?_; rintro e w1 ⟨rfl, hb1⟩; have HX1 := hide hb1; clear hb1 k0)
  have TB := hide (new_block w1 (.cells #[.int .i64 u, .int .i64 v] 27))
  have HBA := hide ((Below.refl w1.heap.size w1).alloc (Nat.le_refl _) (.cells #[.int .i64 u, .int .i64 v] 27))
  have XB := hide (Below.next (unhide HX1) (unhide HBA) (Nat.le_refl _))
  have HTS := hide (show w.heap.size + 1 < w1.heap.size from Nat.lt_of_lt_of_le (by rw [unhide HSZ]; omega) (unhide HX1).size)
  obtain ⟨T, hT⟩ : ∃ T, w1.heap.size = T := ⟨_, rfl⟩
  obtain ⟨W2, hW2⟩ : ∃ W, w1.alloc (.cells #[.int .i64 u, .int .i64 v] 27) = W := ⟨_, rfl⟩
  rw [hT, hW2] at TB
  rw [hT] at HTS
  rw [hW2] at XB
  rw [hT, hW2]
  clear hT hW2 HBA HX1
  obtain ⟨t0, t1, t2, t3, _⟩ := block2 (unhide TB)
  have HALL := hide (Below.next (unhide HB) (unhide XB) (Nat.le_refl _))
  obtain ⟨r0, r1, f0, f1, _⟩ := block2 (keep_below (unhide B3) (unhide XB))
  have n0 : w.heap.size + 1 ≠ T := Nat.ne_of_lt (unhide HTS)
  have n1 : T ≠ w.heap.size + 1 := Ne.symm n0
  go_wp2_with fail
  go_region
  all_goals go_wp2_with fail
  all_goals exact bodyPost_ret (v := .tuple #[.slice none 0 0, .int .i64 0, .agg #[.int .i64 u, .int .i64 v]]) (by simp [results, Try.results29, go_sem, r0, r1]) rfl ⟨rfl, (((unhide HALL).setCell (p := ⟨w.heap.size + 1, 0, none⟩) (by simp) _).setCell (p := ⟨w.heap.size + 1, 1, none⟩) (by simp) _).drew⟩

set_option maxRecDepth 100000 in
set_option maxHeartbeats 2000000 in
theorem drop_none (w : World) (a : Option Addr) (n c : Nat) (task : Int) (ls : List Ln) (h : IsLs w (.slice a n c) ls) (hg : Good ls) (hin : (waitL ls).contains task = false) :
    Calls Try.prog 29 #[.slice a n c, .int .i64 task] w fun e w' => e = .returned (.tuple #[.slice none 0 0, .int .i64 0, .agg #[.int .i64 6, .int .i64 0]]) ∧ Below w.heap.size w w' := by
  have HCK : Hid (∀ W, Below w.heap.size w W → Calls Try.prog 11 #[.slice a n c] W fun e w' => e = .returned (.agg #[.int .i64 0, .int .i64 0]) ∧ Below W.heap.size W w') := fun W hW => by
    have := check_any W a n c ls (h.below hW) (hg.arg h).max (hg.arg h).each
    rw [good_to hg] at this
    exact this
  have HLO : Hid (∀ W, Below w.heap.size w W → Calls Try.prog 38 #[.slice a n c, .int .i64 task] W fun e w' => e = .returned (.int .i64 (-1)) ∧ Below W.heap.size W w') := fun W hW => by
    have := lineof_any W a n c task ls h.len (h.below hW) (by have := hg.len; have := h.len; omega) (by have := hg.few; omega)
    rw [lineR, if_neg (by rw [hin]; simp)] at this
    exact this
  clear h hg hin
  obtain ⟨b1, b3, hb, hsz⟩ := two_new w (.cells #[.int .i64 task] 3) (.cells #[.int .i64 0, .int .i64 0] 27)
  obtain ⟨k0, _, _⟩ := block1 b1
  have HB := hide hb; have HSZ := hide hsz; have B1 := hide b1; have B3 := hide b3
  clear b1 b3 hb hsz
  go_enter Try.func29, Try.ntmps29
  go_upto_region 1 with fail
  obtain ⟨W0, eW0⟩ : ∃ W, (w.alloc (.cells #[.int .i64 task] 3)).alloc (.cells #[.int .i64 0, .int .i64 0] 27) = W := ⟨_, rfl⟩
  rw [eW0] at k0 HB HSZ B1 B3
  rw [eW0]
  clear eW0
  go_upto_region 2 with (go_at_call 11; refine (unhide HCK _ (unhide HB)).mono ?_; rintro e w1 ⟨rfl, hb1⟩; have HX1 := hide hb1; clear hb1 k0)
  have TB := hide (new_block w1 (.cells #[.int .i64 0, .int .i64 0] 27))
  have HBA := hide ((Below.refl w1.heap.size w1).alloc (Nat.le_refl _) (.cells #[.int .i64 0, .int .i64 0] 27))
  have XB := hide (Below.next (unhide HX1) (unhide HBA) (Nat.le_refl _))
  have HTS := hide (show w.heap.size + 1 < w1.heap.size from Nat.lt_of_lt_of_le (by rw [unhide HSZ]; omega) (unhide HX1).size)
  obtain ⟨T, hT⟩ : ∃ T, w1.heap.size = T := ⟨_, rfl⟩
  obtain ⟨W2, hW2⟩ : ∃ W, w1.alloc (.cells #[.int .i64 0, .int .i64 0] 27) = W := ⟨_, rfl⟩
  rw [hT, hW2] at TB
  rw [hT] at HTS
  rw [hW2] at XB
  rw [hT, hW2]
  clear hT hW2 HBA HX1
  obtain ⟨t0, t1, t2, t3, _⟩ := block2 (unhide TB)
  have HALL := hide (Below.next (unhide HB) (unhide XB) (Nat.le_refl _))
  obtain ⟨k0, _, _⟩ := block1 (keep_below (unhide B1) (unhide XB))
  go_wp2_with (go_at_call 38; refine (unhide HLO _ (unhide HALL)).mono ?_; rintro e w3 ⟨rfl, hb3⟩; have HB3 := hide (Below.next (unhide XB) hb3 (Nat.le_refl _)); have HX3 := hide (Below.next (unhide HALL) hb3 (Nat.le_refl _)); obtain ⟨r0, r1, f0, f1, _⟩ := block2 (keep_below (unhide B3) (unhide HB3)); clear hb3 t0 t1 t2 t3 k0)
  exact bodyPost_ret (v := .tuple #[.slice none 0 0, .int .i64 0, .agg #[.int .i64 6, .int .i64 0]]) (by simp [results, Try.results29, go_sem, r0, r1]) rfl ⟨rfl, ((unhide HX3).setCell (p := ⟨w.heap.size + 1, 0, none⟩) (by simp) _).setCell (p := ⟨w.heap.size + 1, 1, none⟩) (by simp) _⟩

set_option maxRecDepth 100000 in
set_option maxHeartbeats 2000000 in
theorem drop_ok (w : World) (a : Option Addr) (n c : Nat) (task : Int) (ls : List Ln) (h : IsLs w (.slice a n c) ls) (hg : Good ls) (hin : (waitL ls).contains task = true) :
    Calls Try.prog 29 #[.slice a n c, .int .i64 task] w fun e w' => ∃ a1 c1, e = .returned (.tuple #[.slice a1 (dropL task ls).length c1, .int .i64 (atOf task ls), .agg #[.int .i64 0, .int .i64 0]]) ∧ FreshL w.heap.size w' (.slice a1 (dropL task ls).length c1) (dropL task ls) ∧ Below w.heap.size w w' := by
  have HCK : Hid (∀ W, Below w.heap.size w W → Calls Try.prog 11 #[.slice a n c] W fun e w' => e = .returned (.agg #[.int .i64 0, .int .i64 0]) ∧ Below W.heap.size W w') := fun W hW => by
    have := check_any W a n c ls (h.below hW) (hg.arg h).max (hg.arg h).each
    rw [good_to hg] at this
    exact this
  obtain ⟨hp1, hp2⟩ := lineN_at hin
  have hl := h.len
  have HLO : Hid (∀ W, Below w.heap.size w W → Calls Try.prog 38 #[.slice a n c, .int .i64 task] W fun e w' => e = .returned (.int .i64 (lineN task ls : Nat)) ∧ Below W.heap.size W w') := fun W hW => by
    have := lineof_any W a n c task ls h.len (h.below hW) (by have := hg.len; have := h.len; omega) (by have := hg.few; omega)
    rw [lineR, if_pos hin] at this
    exact this
  have htk : tasksL (atOf task ls) ls = (lAt ls (lineN task ls)).2 := hg.rise.tasks hp1
  have HCH : Hid (∀ W, Below w.heap.size w W → W.heap[w.heap.size]? = some (.cells #[.int .i64 task] 3 (0, 0)) → Calls Try.prog 32 #[.slice a n c, .int .i64 (atOf task ls), .func (.func 39) #[] #[.pointer (some ⟨w.heap.size, 0, none⟩)]] W fun e w' => ∃ a' c', e = .returned (.slice a' (dropL task ls).length c') ∧ FreshL W.heap.size w' (.slice a' (dropL task ls).length c') (dropL task ls) ∧ Below W.heap.size W w') := fun W hW h1 => by
    have htl := tasksL_le (atOf task ls) ls
    have hfew := hg.few
    have hll : (lessL task (tasksL (atOf task ls) ls)).length ≤ (tasksL (atOf task ls) ls).length := by unfold lessL; rw [List.length_append, List.length_take, List.length_drop]; omega
    refine (changed_any W W a n c ls hl (h.below hW) (Below.refl _ _) (by have := hg.len; omega) (by omega) hg.rise (atOf task ls) 39 enters39 #[.pointer (some ⟨w.heap.size, 0, none⟩)] (lessL task (tasksL (atOf task ls) ls)) (by omega) (fun _ => True) (fun _ _ _ _ => trivial) (fun W1 a' c' hW1 hi => ?_)).mono ?_
    · refine (drop1_any W1 a' _ c' w.heap.size task (tasksL (atOf task ls) ls) hi (keep_below h1 hW1) (by omega) (by rw [htk]; exact hp2)).mono ?_
      rintro e W' ⟨a2, c2, rfl, h3, h4⟩
      exact ⟨a2, c2, rfl, h3, trivial, Gap.of_below h4⟩
    · rintro e w' ⟨a', c', rfl, h3, _, h4⟩
      exact ⟨a', c', rfl, h3, h4⟩
  obtain ⟨b, off, rfl, hbw, hcs⟩ := h.opens hl (by omega)
  obtain ⟨kx, _⟩ := hcs (lineN task ls) hp1
  have HKX : Hid (∀ W, Below w.heap.size w W → W.cell? ⟨b, off + lineN task ls * 2, none⟩ = some (.int .i64 (atOf task ls))) := fun W hW => (hW.cell (p := ⟨b, off + lineN task ls * 2, none⟩) hbw).trans kx
  obtain ⟨p, hp⟩ : ∃ p, lineN task ls = p := ⟨_, rfl⟩
  obtain ⟨x, hx⟩ : ∃ x, atOf task ls = x := ⟨_, rfl⟩
  obtain ⟨L, hL⟩ : ∃ L, dropL task ls = L := ⟨_, rfl⟩
  obtain ⟨ln, hln⟩ : ∃ k, L.length = k := ⟨_, rfl⟩
  rw [hL, hln, hx] at HCH ⊢
  rw [hp] at HLO HKX hp1
  rw [hx] at HKX
  have i0 : (0 : Int) ≤ (p : Int) := by omega
  have i1 : (p : Int) < (n : Int) := by omega
  have hbw2 := hide hbw
  clear h hg hin hp1 hp2 htk kx hcs hp hx hL hln hl hbw
  obtain ⟨b1, b3, hb, hsz⟩ := two_new w (.cells #[.int .i64 task] 3) (.cells #[.int .i64 0, .int .i64 0] 27)
  obtain ⟨k0, _, _⟩ := block1 b1
  have HB := hide hb; have HSZ := hide hsz; have B1 := hide b1; have B3 := hide b3
  clear b1 b3 hb hsz
  go_enter Try.func29, Try.ntmps29
  go_upto_region 1 with fail
  obtain ⟨W0, eW0⟩ : ∃ W, (w.alloc (.cells #[.int .i64 task] 3)).alloc (.cells #[.int .i64 0, .int .i64 0] 27) = W := ⟨_, rfl⟩
  rw [eW0] at k0 HB HSZ B1 B3
  rw [eW0]
  clear eW0
  go_upto_region 2 with (go_at_call 11; refine (unhide HCK _ (unhide HB)).mono ?_; rintro e w1 ⟨rfl, hb1⟩; have HX1 := hide hb1; clear hb1 k0)
  have TB := hide (new_block w1 (.cells #[.int .i64 0, .int .i64 0] 27))
  have HBA := hide ((Below.refl w1.heap.size w1).alloc (Nat.le_refl _) (.cells #[.int .i64 0, .int .i64 0] 27))
  have XB := hide (Below.next (unhide HX1) (unhide HBA) (Nat.le_refl _))
  have HTS := hide (show w.heap.size + 1 < w1.heap.size from Nat.lt_of_lt_of_le (by rw [unhide HSZ]; omega) (unhide HX1).size)
  obtain ⟨T, hT⟩ : ∃ T, w1.heap.size = T := ⟨_, rfl⟩
  obtain ⟨W2, hW2⟩ : ∃ W, w1.alloc (.cells #[.int .i64 0, .int .i64 0] 27) = W := ⟨_, rfl⟩
  rw [hT, hW2] at TB
  rw [hT] at HTS
  rw [hW2] at XB
  rw [hT, hW2]
  clear hT hW2 HBA HX1
  obtain ⟨t0, t1, t2, t3, _⟩ := block2 (unhide TB)
  have HALL := hide (Below.next (unhide HB) (unhide XB) (Nat.le_refl _))
  obtain ⟨k0, _, _⟩ := block1 (keep_below (unhide B1) (unhide XB))
  go_upto_region 7 with (go_at_call 38; refine (unhide HLO _ (unhide HALL)).mono ?_; rintro e w3 ⟨rfl, hb3⟩; have HB3 := hide (Below.next (unhide XB) hb3 (Nat.le_refl _)); have HX3 := hide (Below.next (unhide HALL) hb3 (Nat.le_refl _)); clear hb3 t0 t1 t2 t3 k0)
  have kx := unhide HKX _ (unhide HX3)
  go_upto_region 8 with (go_at_call 32; refine (unhide HCH _ (unhide HX3) (keep_below (unhide B1) (unhide HB3))).mono ?_; rintro e w4 ⟨a4, c4, rfl, hf4, hb4⟩; have HF4 := hide hf4; have HB4 := hide (Below.next (unhide HB3) hb4 (Nat.le_refl _)); have HX4 := hide (Below.next (unhide HX3) hb4 (Nat.le_refl _)); clear hf4 hb4 kx)
  have kx := unhide HKX _ (unhide HX4)
  obtain ⟨r0, r1, f0, f1, _⟩ := block2 (keep_below (unhide B3) (unhide HB4))
  have n0 : w.heap.size + 1 ≠ b := by have := unhide hbw2; omega
  have n1 : b ≠ w.heap.size + 1 := Ne.symm n0
  have hlt : w.heap.size + 1 < w3.heap.size := Nat.lt_of_lt_of_le (by rw [unhide HSZ]; omega) (unhide HB3).size
  have HFR : Hid (∀ W, Below w4.heap.size w4 W → FreshL w.heap.size ((W.setCell ⟨w.heap.size + 1, 0, none⟩ (.int .i64 0)).setCell ⟨w.heap.size + 1, 1, none⟩ (.int .i64 0)) (.slice a4 ln c4) L) := fun W hW => (((unhide HF4).below hW).set2 hlt _ _).base (by omega)
  have HEND : Hid (∀ W, Below w4.heap.size w4 W → Below w.heap.size w ((W.setCell ⟨w.heap.size + 1, 0, none⟩ (.int .i64 0)).setCell ⟨w.heap.size + 1, 1, none⟩ (.int .i64 0))) := fun W hW => ((Below.next (unhide HX4) hW (Nat.le_refl _)).setCell (p := ⟨w.heap.size + 1, 0, none⟩) (by simp) _).setCell (p := ⟨w.heap.size + 1, 1, none⟩) (by simp) _
  have HFD : Hid (FreshL w.heap.size ((w4.setCell ⟨w.heap.size + 1, 0, none⟩ (.int .i64 0)).setCell ⟨w.heap.size + 1, 1, none⟩ (.int .i64 0)).drew (.slice a4 ln c4) L) := (unhide HFR w4 (Below.refl _ _)).below (Below.refl _ _).drew
  clear hlt
  go_wp2_with fail
  go_region
  all_goals go_wp2_with fail
  all_goals exact bodyPost_ret (v := .tuple #[.slice a4 ln c4, .int .i64 x, .agg #[.int .i64 0, .int .i64 0]]) (by simp [results, Try.results29, go_sem, r0, r1]) rfl ⟨a4, c4, rfl, unhide HFD, (unhide HEND w4 (Below.refl _ _)).drew⟩

set_option maxRecDepth 100000 in
set_option maxHeartbeats 2000000 in
theorem move_fault (w : World) (a : Option Addr) (n c : Nat) (x y k : Int) (ls : List Ln) (h : Arg w a n c ls) (u v : Int) (hf : linesF ls = (u, v)) (hu : u ≠ 0) :
    Calls Try.prog 24 #[.slice a n c, .int .i64 x, .int .i64 y, .int .i64 k] w fun e w' => e = .returned (.tuple #[.slice none 0 0, .agg #[.int .i64 u, .int .i64 v]]) ∧ Below w.heap.size w w' := by
  have hx1 : (u != 0) = true := by simpa using hu
  have HCK : Hid (∀ W, Below w.heap.size w W → Calls Try.prog 11 #[.slice a n c] W fun e w' => e = .returned (.agg #[.int .i64 u, .int .i64 v]) ∧ Below W.heap.size W w') := fun W hW => by
    have := check_any W a n c ls (h.rd.below hW) h.max h.each
    rw [hf] at this
    exact this
  have HX0 := hide (Below.refl (w.heap.size + 1) (w.alloc (.cells #[.int .i64 0, .int .i64 0] 27)))
  clear h hf hu
  go_enter Try.func24, Try.ntmps24
  go_upto_region 2 with (go_at_call 11; refine (unhide HCK _ (below1 (unhide HX0))).mono ?_; rintro e w1 ⟨rfl, hb1⟩; have HX1 := hide (next1 (unhide HX0) hb1); clear hb1)
  have TB := hide (new_block w1 (.cells #[.int .i64 u, .int .i64 v] 27))
  have XB := hide ((unhide HX1).alloc (Nat.le_trans (by simp) (unhide HX1).size) (.cells #[.int .i64 u, .int .i64 v] 27))
  have HTS := hide (show w.heap.size < w1.heap.size from Nat.lt_of_lt_of_le (by simp) (unhide HX1).size)
  obtain ⟨T, hT⟩ : ∃ T, w1.heap.size = T := ⟨_, rfl⟩
  obtain ⟨W2, hW2⟩ : ∃ W, w1.alloc (.cells #[.int .i64 u, .int .i64 v] 27) = W := ⟨_, rfl⟩
  rw [hT, hW2] at TB
  rw [hT] at HTS
  rw [hW2] at XB
  rw [hT, hW2]
  clear hT hW2 HX1
  obtain ⟨t0, t1, t2, t3, _⟩ := block2 (unhide TB)
  obtain ⟨r0, r1, f0, f1⟩ := res1 (unhide XB)
  have n0 : w.heap.size ≠ T := Nat.ne_of_lt (unhide HTS)
  have n1 : T ≠ w.heap.size := Ne.symm n0
  go_wp2_with fail
  go_region
  all_goals go_wp2_with fail
  all_goals exact bodyPost_ret (v := .tuple #[.slice none 0 0, .agg #[.int .i64 u, .int .i64 v]]) (by simp [results, Try.results24, go_sem, r0, r1]) rfl ⟨rfl, (end1 (unhide XB)).drew⟩

/-- The lines behind a Move. -/
def moveL (x y k : Int) (ls : List Ln) : List Ln := setL y (tasksL y (takenL x k ls) ++ firstL x k ls) (takenL x k ls)

set_option maxRecDepth 100000 in
set_option maxHeartbeats 2000000 in
theorem move_ok (w : World) (a : Option Addr) (n c : Nat) (x y k : Int) (ls : List Ln) (h : IsLs w (.slice a n c) ls) (hg : Good ls) :
    Calls Try.prog 24 #[.slice a n c, .int .i64 x, .int .i64 y, .int .i64 k] w fun e w' => ∃ a1 c1, e = .returned (.tuple #[.slice a1 (moveL x y k ls).length c1, .agg #[.int .i64 0, .int .i64 0]]) ∧ FreshL w.heap.size w' (.slice a1 (moveL x y k ls).length c1) (moveL x y k ls) ∧ Below w.heap.size w w' := by
  have HCK : Hid (∀ W, Below w.heap.size w W → Calls Try.prog 11 #[.slice a n c] W fun e w' => e = .returned (.agg #[.int .i64 0, .int .i64 0]) ∧ Below W.heap.size W w') := fun W hW => by
    have := check_any W a n c ls (h.below hW) (hg.arg h).max (hg.arg h).each
    rw [good_to hg] at this
    exact this
  have HX0 := hide (Below.refl (w.heap.size + 1) (w.alloc (.cells #[.int .i64 0, .int .i64 0] 27)))
  have HTK : Hid (∀ W, Below w.heap.size w W → Calls Try.prog 36 #[.slice a n c, .int .i64 x, .int .i64 k] W fun e w' => ∃ a1 c1 a2 c2, e = .returned (.tuple #[.slice a1 (takenL x k ls).length c1, .slice a2 (firstL x k ls).length c2]) ∧ FreshL W.heap.size w' (.slice a1 (takenL x k ls).length c1) (takenL x k ls) ∧ Own W.heap.size w' (.slice a2 (firstL x k ls).length c2) (firstL x k ls) ∧ Below W.heap.size W w') := fun W hW => taken_any W a n c x k ls h.len (h.below hW) (by have := hg.len; have := h.len; omega) (by have := hg.few; omega) hg.rise
  have hgt := (taken_good hg x k).1
  have hfl : (firstL x k ls).length ≤ 5000 := by
    have h1 := tasksL_le x ls
    have h2 := hg.few
    unfold firstL
    rw [List.length_take]
    omega
  have HCH : Hid (∀ W a1 c1 a2 c2 F, IsLs W (.slice a1 (takenL x k ls).length c1) (takenL x k ls) → IsInts W (.slice a2 (firstL x k ls).length c2) (firstL x k ls) → W.heap[F]? = some (.cells #[.slice a2 (firstL x k ls).length c2] 34 (0, 0)) → Calls Try.prog 32 #[.slice a1 (takenL x k ls).length c1, .int .i64 y, .func (.func 37) #[] #[.pointer (some ⟨F, 0, none⟩)]] W fun e w' => ∃ a' c', e = .returned (.slice a' (moveL x y k ls).length c') ∧ FreshL W.heap.size w' (.slice a' (moveL x y k ls).length c') (moveL x y k ls) ∧ Below W.heap.size W w') := fun W a1 c1 a2 c2 F h1 h2 h3 => by
    have htl := tasksL_le y (takenL x k ls)
    have hfew := hgt.few
    refine (changed_any W W a1 _ c1 (takenL x k ls) rfl h1 (Below.refl _ _) (by have := hgt.len; omega) (by omega) hgt.rise y 37 enters37 #[.pointer (some ⟨F, 0, none⟩)] (tasksL y (takenL x k ls) ++ firstL x k ls) (by rw [List.length_append]; omega) (fun _ => True) (fun _ _ _ _ => trivial) (fun W1 a' c' hW1 hi => ?_)).mono ?_
    · refine (move1_any W1 a' a2 _ c' _ c2 F (tasksL y (takenL x k ls)) (firstL x k ls) hi (h2.below hW1) (keep_below h3 hW1) (by omega) (by omega)).mono ?_
      rintro e W' ⟨a3, c3, rfl, h4, h5⟩
      exact ⟨a3, c3, by rw [List.length_append], by rw [List.length_append]; exact h4, trivial, Gap.of_below h5⟩
    · rintro e w' ⟨a', c', rfl, h4, _, h5⟩
      exact ⟨a', c', rfl, h4, h5⟩
  obtain ⟨L, hL⟩ : ∃ L, takenL x k ls = L := ⟨_, rfl⟩
  obtain ⟨f, hf⟩ : ∃ f, firstL x k ls = f := ⟨_, rfl⟩
  obtain ⟨M, hM⟩ : ∃ M, moveL x y k ls = M := ⟨_, rfl⟩
  rw [hL, hf] at HTK HCH
  rw [hM] at HCH ⊢
  obtain ⟨ln, hln⟩ : ∃ k, L.length = k := ⟨_, rfl⟩
  obtain ⟨fn, hfn⟩ : ∃ k, f.length = k := ⟨_, rfl⟩
  obtain ⟨mn, hmn⟩ : ∃ k, M.length = k := ⟨_, rfl⟩
  rw [hln, hfn] at HTK HCH
  rw [hmn] at HCH ⊢
  clear h hg hL hf hln hfn hM hmn hgt hfl
  go_enter Try.func24, Try.ntmps24
  go_upto_region 2 with (go_at_call 11; refine (unhide HCK _ (below1 (unhide HX0))).mono ?_; rintro e w1 ⟨rfl, hb1⟩; have HX1 := hide (next1 (unhide HX0) hb1); clear hb1)
  have TB := hide (new_block w1 (.cells #[.int .i64 0, .int .i64 0] 27))
  have XB := hide ((unhide HX1).alloc (Nat.le_trans (by simp) (unhide HX1).size) (.cells #[.int .i64 0, .int .i64 0] 27))
  have HTS := hide (show w.heap.size < w1.heap.size from Nat.lt_of_lt_of_le (by simp) (unhide HX1).size)
  obtain ⟨T, hT⟩ : ∃ T, w1.heap.size = T := ⟨_, rfl⟩
  obtain ⟨W2, hW2⟩ : ∃ W, w1.alloc (.cells #[.int .i64 0, .int .i64 0] 27) = W := ⟨_, rfl⟩
  rw [hT, hW2] at TB
  rw [hT] at HTS
  rw [hW2] at XB
  rw [hT, hW2]
  clear hT hW2 HX1
  obtain ⟨t0, t1, _, _, _⟩ := block2 (unhide TB)
  go_upto_region 5 with (go_at_call 36; refine (unhide HTK _ (below1 (unhide XB))).mono ?_; rintro e w3 ⟨a3, c3, a4, c4, rfl, hf3, ho3, hb3⟩; have HF3 := hide hf3.ls; have HO3 := hide ho3.ints; have HX3 := hide (next1 (unhide XB) hb3); clear hf3 ho3 hb3 t0 t1)
  have MB := hide (new_block w3 (.cells #[.slice a4 fn c4] 34))
  have HBA := hide ((Below.refl w3.heap.size w3).alloc (Nat.le_refl _) (.cells #[.slice a4 fn c4] 34))
  have HX4 := hide (next1 (unhide HX3) (unhide HBA))
  have HF4 := hide ((unhide HF3).below (unhide HBA))
  have HO4 := hide ((unhide HO3).below (unhide HBA))
  obtain ⟨F, hF⟩ : ∃ T, w3.heap.size = T := ⟨_, rfl⟩
  obtain ⟨W4, hW4⟩ : ∃ W, w3.alloc (.cells #[.slice a4 fn c4] 34) = W := ⟨_, rfl⟩
  rw [hF, hW4] at MB
  rw [hW4] at HX4 HF4 HO4
  rw [hF, hW4]
  clear hF hW4 HBA HX3 HF3 HO3
  go_upto_region 6 with (go_at_call 32; refine (unhide HCH _ _ _ _ _ _ (unhide HF4) (unhide HO4) (unhide MB)).mono ?_; rintro e w5 ⟨a5, c5, rfl, hf5, hb5⟩; have HF5 := hide hf5; have HX5 := hide (next1 (unhide HX4) hb5); clear hf5 hb5; obtain ⟨r0, r1, f0, f1⟩ := res1 (unhide HX5))
  have hlt : w.heap.size < W4.heap.size := Nat.lt_of_lt_of_le (by simp) (unhide HX4).size
  have HFR := hide (((unhide HF5).set2 hlt (.int .i64 0) (.int .i64 0)).base (Nat.le_of_lt hlt))
  clear hlt
  go_wp2_with fail
  exact bodyPost_ret (v := .tuple #[.slice a5 mn c5, .agg #[.int .i64 0, .int .i64 0]]) (by simp [results, Try.results24, go_sem, r0, r1]) rfl ⟨a5, c5, rfl, unhide HFR, end1 (unhide HX5)⟩
end Go.Proofs.Ytjlcfdhghohccaa
