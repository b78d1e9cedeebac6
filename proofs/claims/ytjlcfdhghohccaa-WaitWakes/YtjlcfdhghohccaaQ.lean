/-
  wait.checkAdd, wait.Add, wait.Wake.
-/
import Derived.Test.YtjlcfdhghohccaaP
namespace Go.Proofs.Ytjlcfdhghohccaa
open Go.RowKit

/-- What is wrong with an Add. -/
def addF (ls : List Ln) (task : Int) : Int × Int := if (linesF ls).1 ≠ 0 then linesF ls else if task < 1 then (3, -1) else if (waitL ls).contains task = true then (10, -1) else if (waitL ls).length = 5000 then (9, 0) else (0, 0)

/-- A slice of lines as the laws are given it. -/
structure Arg (w : World) (a : Option Addr) (n c : Nat) (ls : List Ln) : Prop where
  rd : IsLs w (.slice a n c) ls
  max : n ≤ maxLen
  each : ∀ j, j < n → (lAt ls j).2.length ≤ 17592186044416
theorem Arg.below {w w' : World} {a : Option Addr} {n c : Nat} {ls : List Ln} (h : Arg w a n c ls) (hb : Below w.heap.size w w') : Arg w' a n c ls := ⟨h.rd.below hb, h.max, h.each⟩
theorem Good.arg {w : World} {a : Option Addr} {n c : Nat} {ls : List Ln} (h : Good ls) (hl : IsLs w (.slice a n c) ls) : Arg w a n c ls := ⟨hl, by have := hl.len; have := h.len; unfold maxLen; omega, fun j hj => by have h1 := waitL_at (ls := ls) (j := j) (by rw [hl.len]; exact hj); have h2 := h.few; omega⟩
theorem fault_pair (x : Int × Int) : x = (x.1, x.2) := rfl

set_option maxRecDepth 100000 in
set_option maxHeartbeats 2000000 in
theorem chkadd_any (w : World) (a : Option Addr) (n c : Nat) (task : Int) (ls : List Ln) (h : Arg w a n c ls) :
    Calls Try.prog 31 #[.slice a n c, .int .i64 task] w fun e w' => e = .returned (faultV (addF ls task)) ∧ Below w.heap.size w w' := by
  have HCK : Hid (∀ W, Below w.heap.size w W → Calls Try.prog 11 #[.slice a n c] W fun e w' => e = .returned (faultV (linesF ls)) ∧ Below W.heap.size W w') := fun W hW => check_any W a n c ls (h.rd.below hW) h.max h.each
  have HX0 := hide (Below.refl (w.heap.size + 1) (w.alloc (.cells #[.int .i64 0, .int .i64 0] 27)))
  by_cases hf : (linesF ls).1 = 0
  · have hz := linesF_zero hf
    have hg := good_of hz
    have hl := h.rd.len
    have hn : n ≤ 5000 := by rw [← hl]; exact hg.len
    have HLO : Hid (∀ W, Below w.heap.size w W → Calls Try.prog 38 #[.slice a n c, .int .i64 task] W fun e w' => e = .returned (.int .i64 (lineR task ls)) ∧ Below W.heap.size W w') := fun W hW => lineof_any W a n c task ls hl (h.rd.below hW) (by omega) (by have := hg.few; omega)
    have HCT : Hid (∀ W, Below w.heap.size w W → Calls Try.prog 43 #[.slice a n c] W fun e w' => e = .returned (.int .i64 (waitL ls).length) ∧ Below W.heap.size W w') := fun W hW => count_any W a n c ls hl (h.rd.below hW) (by omega) (by have := hg.few; omega)
    have HCK : Hid (∀ W, Below w.heap.size w W → Calls Try.prog 11 #[.slice a n c] W fun e w' => e = .returned (.agg #[.int .i64 0, .int .i64 0]) ∧ Below W.heap.size W w') := fun W hW => by
      have := unhide HCK W hW
      rw [hz] at this
      exact this
    have hR : lineR task ls = if (waitL ls).contains task = true then (lineN task ls : Int) else -1 := rfl
    have haf : addF ls task = if task < 1 then (3, -1) else if (waitL ls).contains task = true then (10, -1) else if (waitL ls).length = 5000 then (9, 0) else (0, 0) := by unfold addF; rw [hz, if_neg (by simp)]
    obtain ⟨Q, hQ⟩ : ∃ Q, addF ls task = Q := ⟨_, rfl⟩
    rw [hQ] at haf ⊢
    obtain ⟨q, hq⟩ : ∃ q, (waitL ls).length = q := ⟨_, rfl⟩
    rw [hq] at HCT haf
    obtain ⟨R, hRR⟩ : ∃ R, lineR task ls = R := ⟨_, rfl⟩
    rw [hRR] at HLO hR
    clear h hl hz hf hg hQ hq hRR
    go_enter Try.func31, Try.ntmps31
    go_upto_region 2 with (go_at_call 11; refine (unhide HCK _ (below1 (unhide HX0))).mono ?_; rintro e w1 ⟨rfl, hb1⟩; have HX1 := hide (next1 (unhide HX0) hb1); clear hb1)
    have TB := hide (new_block w1 (.cells #[.int .i64 0, .int .i64 0] 27))
    have XB := hide ((unhide HX1).alloc (Nat.le_trans (by simp) (unhide HX1).size) (.cells #[.int .i64 0, .int .i64 0] 27))
    obtain ⟨T, hT⟩ : ∃ T, w1.heap.size = T := ⟨_, rfl⟩
    obtain ⟨W2, hW2⟩ : ∃ W, w1.alloc (.cells #[.int .i64 0, .int .i64 0] 27) = W := ⟨_, rfl⟩
    rw [hT, hW2] at TB
    rw [hW2] at XB
    rw [hT, hW2]
    clear hT hW2
    obtain ⟨t0, t1, _, _, _⟩ := block2 (unhide TB)
    by_cases h1 : task < 1
    · rw [if_pos h1] at haf
      obtain ⟨r0, r1, f0, f1⟩ := res1 (unhide XB)
      go_wp2_with fail
      exact bodyPost_ret (v := .agg #[.int .i64 3, .int .i64 (-1)]) (by simp [results, Try.results31, go_sem, r0, r1]) rfl ⟨ret_fault haf, end1 (unhide XB)⟩
    · rw [if_neg h1] at haf
      by_cases hin : (waitL ls).contains task = true
      · rw [if_pos hin] at haf hR
        have g1 : (0 : Int) ≤ R := by rw [hR]; omega
        have HAF := hide haf
        clear haf hR hin
        go_wp2_with (go_at_call 38; refine (unhide HLO _ (below1 (unhide XB))).mono ?_; rintro e w3 ⟨rfl, hb3⟩; have HX3 := hide (next1 (unhide XB) hb3); obtain ⟨r0, r1, f0, f1⟩ := res1 (unhide HX3); clear hb3 t0 t1)
        exact bodyPost_ret (v := .agg #[.int .i64 10, .int .i64 (-1)]) (by simp [results, Try.results31, go_sem, r0, r1]) rfl ⟨ret_fault (unhide HAF), end1 (unhide HX3)⟩
      · rw [if_neg hin] at haf hR
        subst hR
        by_cases h5 : q = 5000
        · rw [if_pos h5] at haf
          have g2 : ((q : Int) == 5000) = true := by simp; omega
          have HAF := hide haf
          clear haf hin h5
          go_wp2_with (first
            | (go_at_call 38; refine (unhide HLO _ (below1 (unhide XB))).mono ?_; rintro e w3 ⟨rfl, hb3⟩; have HX3 := hide (next1 (unhide XB) hb3); clear hb3 t0 t1)
            | (go_at_call 43; refine (unhide HCT _ (below1 (unhide HX3))).mono ?_; rintro e w4 ⟨rfl, hb4⟩; have HX4 := hide (next1 (unhide HX3) hb4); obtain ⟨r0, r1, f0, f1⟩ := res1 (unhide HX4); clear hb4))
          exact bodyPost_ret (v := .agg #[.int .i64 9, .int .i64 0]) (by simp [results, Try.results31, go_sem, r0, r1]) rfl ⟨ret_fault (unhide HAF), end1 (unhide HX4)⟩
        · rw [if_neg h5] at haf
          have g2 : ((q : Int) == 5000) = false := by simp; omega
          have HAF := hide haf
          clear haf hin h5
          go_wp2_with (first
            | (go_at_call 38; refine (unhide HLO _ (below1 (unhide XB))).mono ?_; rintro e w3 ⟨rfl, hb3⟩; have HX3 := hide (next1 (unhide XB) hb3); clear hb3 t0 t1)
            | (go_at_call 43; refine (unhide HCT _ (below1 (unhide HX3))).mono ?_; rintro e w4 ⟨rfl, hb4⟩; have HX4 := hide (next1 (unhide HX3) hb4); obtain ⟨r0, r1, f0, f1⟩ := res1 (unhide HX4); clear hb4))
          exact bodyPost_ret (v := .agg #[.int .i64 0, .int .i64 0]) (by simp [results, Try.results31, go_sem, r0, r1]) rfl ⟨ret_fault (unhide HAF), end1 (unhide HX4)⟩
  · have haf : addF ls task = linesF ls := by unfold addF; rw [if_pos hf]
    rw [haf]
    obtain ⟨x, hx⟩ : ∃ x, (linesF ls).1 = x := ⟨_, rfl⟩
    obtain ⟨y, hy⟩ : ∃ y, (linesF ls).2 = y := ⟨_, rfl⟩
    have hxy : linesF ls = (x, y) := Prod.ext hx hy
    rw [hx] at hf
    have HCK : Hid (∀ W, Below w.heap.size w W → Calls Try.prog 11 #[.slice a n c] W fun e w' => e = .returned (.agg #[.int .i64 x, .int .i64 y]) ∧ Below W.heap.size W w') := fun W hW => by
      have := unhide HCK W hW
      rw [hxy] at this
      exact this
    rw [hxy]
    have hx1 : (x != 0) = true := by simpa using hf
    clear h haf hx hy hxy hf
    go_enter Try.func31, Try.ntmps31
    go_upto_region 2 with (go_at_call 11; refine (unhide HCK _ (below1 (unhide HX0))).mono ?_; rintro e w1 ⟨rfl, hb1⟩; have HX1 := hide (next1 (unhide HX0) hb1); clear hb1)
    have TB := hide (new_block w1 (.cells #[.int .i64 x, .int .i64 y] 27))
    have XB := hide ((unhide HX1).alloc (Nat.le_trans (by simp) (unhide HX1).size) (.cells #[.int .i64 x, .int .i64 y] 27))
    have HTS := hide (show w.heap.size < w1.heap.size from Nat.lt_of_lt_of_le (by simp) (unhide HX1).size)
    obtain ⟨T, hT⟩ : ∃ T, w1.heap.size = T := ⟨_, rfl⟩
    obtain ⟨W2, hW2⟩ : ∃ W, w1.alloc (.cells #[.int .i64 x, .int .i64 y] 27) = W := ⟨_, rfl⟩
    rw [hT, hW2] at TB
    rw [hT] at HTS
    rw [hW2] at XB
    rw [hT, hW2]
    clear hT hW2
    obtain ⟨t0, t1, t2, t3, _⟩ := block2 (unhide TB)
    obtain ⟨r0, r1, f0, f1⟩ := res1 (unhide XB)
    have n0 : w.heap.size ≠ T := Nat.ne_of_lt (unhide HTS)
    have n1 : T ≠ w.heap.size := Ne.symm n0
    go_wp2_with fail
    exact bodyPost_ret (v := .agg #[.int .i64 x, .int .i64 y]) (by simp [results, Try.results31, go_sem, r0, r1]) rfl ⟨rfl, end1 (unhide XB)⟩
end Go.Proofs.Ytjlcfdhghohccaa
