/-
  poll.checkOn, poll.checkWait, poll.checkUntil, poll.leave.
-/
import Derived.Test.YtmghfedlpndpiaaG
namespace Go.Proofs.Ytmghfedlpndpiaa
open Go.RowKit

/-- What is wrong with a descriptor, or with a way of it. -/
def onF (F : Int × Int) (way : Int) : Int × Int := if F.1 ≠ 0 then F else if way < 0 ∨ 2 ≤ way then (4, -1) else (0, 0)

set_option maxRecDepth 100000 in
set_option maxHeartbeats 2000000 in
theorem checkOn_any (w : World) (c r0 r1 : Bool) (t0 t1 u0 u1 way C0 C1 F0 F1 : Int) (hC : descF c r0 r1 t0 t1 u0 u1 = (C0, C1)) (hF : onF (C0, C1) way = (F0, F1)) :
    Calls Try.prog 21 #[.agg #[.bool c, .bool r0, .bool r1, .int .i64 t0, .int .i64 t1, .int .i64 u0, .int .i64 u1], .int .i64 way] w fun e w' => e = .returned (.agg #[.int .i64 F0, .int .i64 F1]) ∧ Below w.heap.size w w' := by
  unfold onF at hF
  have HF0 := hide hF
  have HC : Hid (∀ W, Calls Try.prog 6 #[.agg #[.bool c, .bool r0, .bool r1, .int .i64 t0, .int .i64 t1, .int .i64 u0, .int .i64 u1]] W fun e w' => e = .returned (.agg #[.int .i64 C0, .int .i64 C1]) ∧ Below W.heap.size W w') := fun W => check_any W c r0 r1 t0 t1 u0 u1 C0 C1 hC
  clear hF hC
  obtain ⟨W0, e0, hB, k0, k1⟩ := two_new w (.cells #[.bool c, .bool r0, .bool r1, .int .i64 t0, .int .i64 t1, .int .i64 u0, .int .i64 u1] 25) (.cells #[.int .i64 0, .int .i64 0] 27)
  have HX := hide hB; have HE := hide e0; have HD := hide k0; have HG := hide k1
  clear hB e0 k0 k1
  go_enter Try.func21, Try.ntmps21
  go_upto_region 1 with fail
  rw [unhide HE]
  clear HE
  obtain ⟨⟨p0, p1, p2, p3, p4, p5, p6⟩, ⟨pf0, pf1, pf2, pf3, pf4, pf5, pf6⟩, pl⟩ := block7 (unhide HD)
  go_upto_region 2 with (go_at_call 6; refine (unhide HC _).mono ?_; rintro e w1 ⟨rfl, hb1⟩; have HX' := hide (Below.next (unhide HX) hb1 (Nat.le_refl _)); have HD' := hide (keep_below (unhide HD) hb1); have HG' := hide (keep_below (unhide HG) hb1); clear p0 p1 p2 p3 p4 p5 p6 pf0 pf1 pf2 pf3 pf4 pf5 pf6 pl HX HD HG; clear hb1; have HX := HX'; have HD := HD'; have HG := HG'; clear HX' HD' HG')
  obtain ⟨W1, e1, hB1, k1⟩ := one_new w1 (.cells #[.int .i64 C0, .int .i64 C1] 27)
  rw [e1]
  have HX' := hide (Below.next (unhide HX) hB1 (Nat.le_refl _)); have HD' := hide (keep_below (unhide HD) hB1); have HG' := hide (keep_below (unhide HG) hB1); have HF := hide k1
  have hld := size_of (unhide HD); have hlg := size_of (unhide HG)
  clear e1 hB1 k1 HX HD HG
  have HX := HX'; have HD := HD'; have HG := HG'; clear HX' HD' HG'
  obtain ⟨TF, eTF⟩ : ∃ X, w1.heap.size = X := ⟨_, rfl⟩
  rw [eTF] at HF hld hlg ⊢
  clear eTF
  obtain ⟨f0, f1, ff0, ff1, fl⟩ := block2 (unhide HF)
  obtain ⟨g0, g1, gf0, gf1, gl⟩ := block2 (unhide HG)
  obtain ⟨⟨p0, p1, p2, p3, p4, p5, p6⟩, ⟨pf0, pf1, pf2, pf3, pf4, pf5, pf6⟩, pl⟩ := block7 (unhide HD)
  have uf : w.heap.size + 1 ≠ TF := by omega
  have uf2 : TF ≠ w.heap.size + 1 := by omega
  by_cases hc : C0 = 0
  · have xc : (C0 != 0) = false := by simpa using hc
    have hr := unhide HF0
    rw [if_neg (by simpa using hc)] at hr
    by_cases h1 : way < 0
    · rw [if_pos (Or.inl h1)] at hr
      cases hr
      go_wp2_with fail
      exact bodyPost_ret (v := .agg #[.int .i64 (4), .int .i64 (-1)]) (by simp [results, Try.results21, go_sem, g0, g1]) rfl ⟨rfl, below_set2 (unhide HX) (by omega) _ _⟩
    by_cases h2 : 2 ≤ way
    · rw [if_pos (Or.inr h2)] at hr
      cases hr
      have h2' : ¬ way < 2 := by omega
      go_wp2_with fail
      exact bodyPost_ret (v := .agg #[.int .i64 (4), .int .i64 (-1)]) (by simp [results, Try.results21, go_sem, g0, g1]) rfl ⟨rfl, below_set2 (unhide HX) (by omega) _ _⟩
    rw [if_neg (by omega)] at hr
    cases hr
    have h2' : way < 2 := by omega
    go_wp2_with fail
    exact bodyPost_ret (v := .agg #[.int .i64 (0), .int .i64 (0)]) (by simp [results, Try.results21, go_sem, g0, g1]) rfl ⟨rfl, below_set2 (unhide HX) (by omega) _ _⟩
  · have xc : (C0 != 0) = true := by simpa using hc
    have hr := unhide HF0
    rw [if_pos hc] at hr
    cases hr
    go_wp2_with fail
    exact bodyPost_ret (v := .agg #[.int .i64 (C0), .int .i64 (C1)]) (by simp [results, Try.results21, go_sem, g0, g1]) rfl ⟨rfl, below_set2 (unhide HX) (by omega) _ _⟩

/-- What is wrong with a Wait: on the way that has the task a, the other one b. -/
def waitF (O : Int × Int) (a b task now : Int) : Int × Int := if O.1 ≠ 0 then O else if task < 1 ∨ ¬ (0 ≤ now ∧ now ≤ 1000000000) then (3, -1) else if 0 < a then (11, -1) else if b = task then (10, -1) else (0, 0)

set_option maxRecDepth 100000 in
set_option maxHeartbeats 2000000 in
theorem checkWait0_any (w : World) (c r0 r1 : Bool) (t0 t1 u0 u1 task now C0 C1 F0 F1 : Int) (hC : descF c r0 r1 t0 t1 u0 u1 = (C0, C1)) (hF : waitF (onF (C0, C1) 0) t0 t1 task now = (F0, F1)) :
    Calls Try.prog 19 #[.agg #[.bool c, .bool r0, .bool r1, .int .i64 t0, .int .i64 t1, .int .i64 u0, .int .i64 u1], .int .i64 0, .int .i64 task, .int .i64 now] w fun e w' => e = .returned (.agg #[.int .i64 F0, .int .i64 F1]) ∧ Below w.heap.size w w' := by
  obtain ⟨⟨O0, O1⟩, eO⟩ : ∃ O, onF (C0, C1) 0 = O := ⟨_, rfl⟩
  rw [eO] at hF
  unfold waitF at hF
  have HC : Hid (∀ W, Calls Try.prog 21 #[.agg #[.bool c, .bool r0, .bool r1, .int .i64 t0, .int .i64 t1, .int .i64 u0, .int .i64 u1], .int .i64 0] W fun e w' => e = .returned (.agg #[.int .i64 O0, .int .i64 O1]) ∧ Below W.heap.size W w') := fun W => checkOn_any W c r0 r1 t0 t1 u0 u1 0 C0 C1 O0 O1 hC eO
  have HT : Hid (∀ W, Calls Try.prog 24 #[.int .i64 now] W fun e w' => e = .returned (.bool (decide (0 ≤ now ∧ now ≤ 1000000000))) ∧ w' = W) := fun W => isTime_any W now
  have HF0 := hide hF
  clear hF hC eO
  obtain ⟨W0, e0, hB, k0, k1⟩ := two_new w (.cells #[.bool c, .bool r0, .bool r1, .int .i64 t0, .int .i64 t1, .int .i64 u0, .int .i64 u1] 25) (.cells #[.int .i64 0, .int .i64 0] 27)
  have HX := hide hB; have HE := hide e0; have HD := hide k0; have HG := hide k1
  clear hB e0 k0 k1
  go_enter Try.func19, Try.ntmps19
  go_upto_region 1 with fail
  rw [unhide HE]
  clear HE
  obtain ⟨⟨p0, p1, p2, p3, p4, p5, p6⟩, ⟨pf0, pf1, pf2, pf3, pf4, pf5, pf6⟩, pl⟩ := block7 (unhide HD)
  go_upto_region 2 with (go_at_call 21; refine (unhide HC _).mono ?_; rintro e w1 ⟨rfl, hb1⟩; have HX' := hide (Below.next (unhide HX) hb1 (Nat.le_refl _)); have HD' := hide (keep_below (unhide HD) hb1); have HG' := hide (keep_below (unhide HG) hb1); clear p0 p1 p2 p3 p4 p5 p6 pf0 pf1 pf2 pf3 pf4 pf5 pf6 pl HX HD HG; clear hb1; have HX := HX'; have HD := HD'; have HG := HG'; clear HX' HD' HG')
  obtain ⟨W1, e1, hB1, k1⟩ := one_new w1 (.cells #[.int .i64 O0, .int .i64 O1] 27)
  rw [e1]
  have HX' := hide (Below.next (unhide HX) hB1 (Nat.le_refl _)); have HD' := hide (keep_below (unhide HD) hB1); have HG' := hide (keep_below (unhide HG) hB1); have HF := hide k1
  have hld := size_of (unhide HD); have hlg := size_of (unhide HG)
  clear e1 hB1 k1 HX HD HG
  have HX := HX'; have HD := HD'; have HG := HG'; clear HX' HD' HG'
  obtain ⟨TF, eTF⟩ : ∃ X, w1.heap.size = X := ⟨_, rfl⟩
  rw [eTF] at HF hld hlg ⊢
  clear eTF
  obtain ⟨f0, f1, ff0, ff1, fl⟩ := block2 (unhide HF)
  obtain ⟨g0, g1, gf0, gf1, gl⟩ := block2 (unhide HG)
  obtain ⟨⟨p0, p1, p2, p3, p4, p5, p6⟩, ⟨pf0, pf1, pf2, pf3, pf4, pf5, pf6⟩, pl⟩ := block7 (unhide HD)
  have uf : w.heap.size + 1 ≠ TF := by omega
  have uf2 : TF ≠ w.heap.size + 1 := by omega
  by_cases hc : O0 = 0
  · have xc : (O0 != 0) = false := by simpa using hc
    have hr := unhide HF0
    rw [if_neg (by simpa using hc)] at hr
    by_cases h1 : task < 1
    · rw [if_pos (Or.inl h1)] at hr
      cases hr
      go_wp2_with fail
      exact bodyPost_ret (v := .agg #[.int .i64 (3), .int .i64 (-1)]) (by simp [results, Try.results19, go_sem, g0, g1]) rfl ⟨rfl, below_set2 (unhide HX) (by omega) _ _⟩
    obtain ⟨A, eA⟩ : ∃ A, decide (0 ≤ now ∧ now ≤ 1000000000) = A := ⟨_, rfl⟩
    rw [eA] at HT
    cases A with
    | false =>
      rw [if_pos (Or.inr (of_decide_eq_false eA))] at hr
      cases hr
      clear eA
      go_wp2_with (go_at_call 24; refine (unhide HT _).mono ?_; rintro e w9 ⟨rfl, rfl⟩)
      exact bodyPost_ret (v := .agg #[.int .i64 (3), .int .i64 (-1)]) (by simp [results, Try.results19, go_sem, g0, g1]) rfl ⟨rfl, below_set2 (unhide HX) (by omega) _ _⟩
    | true =>
      have hA := of_decide_eq_true eA
      rw [if_neg (by omega)] at hr
      clear eA hA
      by_cases h3 : 0 < t0
      · rw [if_pos h3] at hr
        cases hr
        go_wp2_with (go_at_call 24; refine (unhide HT _).mono ?_; rintro e w9 ⟨rfl, rfl⟩)
        exact bodyPost_ret (v := .agg #[.int .i64 (11), .int .i64 (-1)]) (by simp [results, Try.results19, go_sem, g0, g1]) rfl ⟨rfl, below_set2 (unhide HX) (by omega) _ _⟩
      rw [if_neg h3] at hr
      by_cases h4 : t1 = task
      · rw [if_pos h4] at hr
        cases hr
        have x4 : (t1 == task) = true := by simpa using h4
        clear h4
        go_wp2_with (go_at_call 24; refine (unhide HT _).mono ?_; rintro e w9 ⟨rfl, rfl⟩)
        exact bodyPost_ret (v := .agg #[.int .i64 (10), .int .i64 (-1)]) (by simp [results, Try.results19, go_sem, g0, g1]) rfl ⟨rfl, below_set2 (unhide HX) (by omega) _ _⟩
      · rw [if_neg h4] at hr
        cases hr
        have x4 : (t1 == task) = false := by simpa using h4
        clear h4
        go_wp2_with (go_at_call 24; refine (unhide HT _).mono ?_; rintro e w9 ⟨rfl, rfl⟩)
        exact bodyPost_ret (v := .agg #[.int .i64 (0), .int .i64 (0)]) (by simp [results, Try.results19, go_sem, g0, g1]) rfl ⟨rfl, below_set2 (unhide HX) (by omega) _ _⟩
  · have xc : (O0 != 0) = true := by simpa using hc
    have hr := unhide HF0
    rw [if_pos hc] at hr
    cases hr
    go_wp2_with fail
    exact bodyPost_ret (v := .agg #[.int .i64 (F0), .int .i64 (F1)]) (by simp [results, Try.results19, go_sem, g0, g1]) rfl ⟨rfl, below_set2 (unhide HX) (by omega) _ _⟩

set_option maxRecDepth 100000 in
set_option maxHeartbeats 2000000 in
theorem checkWait1_any (w : World) (c r0 r1 : Bool) (t0 t1 u0 u1 task now C0 C1 F0 F1 : Int) (hC : descF c r0 r1 t0 t1 u0 u1 = (C0, C1)) (hF : waitF (onF (C0, C1) 1) t1 t0 task now = (F0, F1)) :
    Calls Try.prog 19 #[.agg #[.bool c, .bool r0, .bool r1, .int .i64 t0, .int .i64 t1, .int .i64 u0, .int .i64 u1], .int .i64 1, .int .i64 task, .int .i64 now] w fun e w' => e = .returned (.agg #[.int .i64 F0, .int .i64 F1]) ∧ Below w.heap.size w w' := by
  obtain ⟨⟨O0, O1⟩, eO⟩ : ∃ O, onF (C0, C1) 1 = O := ⟨_, rfl⟩
  rw [eO] at hF
  unfold waitF at hF
  have HC : Hid (∀ W, Calls Try.prog 21 #[.agg #[.bool c, .bool r0, .bool r1, .int .i64 t0, .int .i64 t1, .int .i64 u0, .int .i64 u1], .int .i64 1] W fun e w' => e = .returned (.agg #[.int .i64 O0, .int .i64 O1]) ∧ Below W.heap.size W w') := fun W => checkOn_any W c r0 r1 t0 t1 u0 u1 1 C0 C1 O0 O1 hC eO
  have HT : Hid (∀ W, Calls Try.prog 24 #[.int .i64 now] W fun e w' => e = .returned (.bool (decide (0 ≤ now ∧ now ≤ 1000000000))) ∧ w' = W) := fun W => isTime_any W now
  have HF0 := hide hF
  clear hF hC eO
  obtain ⟨W0, e0, hB, k0, k1⟩ := two_new w (.cells #[.bool c, .bool r0, .bool r1, .int .i64 t0, .int .i64 t1, .int .i64 u0, .int .i64 u1] 25) (.cells #[.int .i64 0, .int .i64 0] 27)
  have HX := hide hB; have HE := hide e0; have HD := hide k0; have HG := hide k1
  clear hB e0 k0 k1
  go_enter Try.func19, Try.ntmps19
  go_upto_region 1 with fail
  rw [unhide HE]
  clear HE
  obtain ⟨⟨p0, p1, p2, p3, p4, p5, p6⟩, ⟨pf0, pf1, pf2, pf3, pf4, pf5, pf6⟩, pl⟩ := block7 (unhide HD)
  go_upto_region 2 with (go_at_call 21; refine (unhide HC _).mono ?_; rintro e w1 ⟨rfl, hb1⟩; have HX' := hide (Below.next (unhide HX) hb1 (Nat.le_refl _)); have HD' := hide (keep_below (unhide HD) hb1); have HG' := hide (keep_below (unhide HG) hb1); clear p0 p1 p2 p3 p4 p5 p6 pf0 pf1 pf2 pf3 pf4 pf5 pf6 pl HX HD HG; clear hb1; have HX := HX'; have HD := HD'; have HG := HG'; clear HX' HD' HG')
  obtain ⟨W1, e1, hB1, k1⟩ := one_new w1 (.cells #[.int .i64 O0, .int .i64 O1] 27)
  rw [e1]
  have HX' := hide (Below.next (unhide HX) hB1 (Nat.le_refl _)); have HD' := hide (keep_below (unhide HD) hB1); have HG' := hide (keep_below (unhide HG) hB1); have HF := hide k1
  have hld := size_of (unhide HD); have hlg := size_of (unhide HG)
  clear e1 hB1 k1 HX HD HG
  have HX := HX'; have HD := HD'; have HG := HG'; clear HX' HD' HG'
  obtain ⟨TF, eTF⟩ : ∃ X, w1.heap.size = X := ⟨_, rfl⟩
  rw [eTF] at HF hld hlg ⊢
  clear eTF
  obtain ⟨f0, f1, ff0, ff1, fl⟩ := block2 (unhide HF)
  obtain ⟨g0, g1, gf0, gf1, gl⟩ := block2 (unhide HG)
  obtain ⟨⟨p0, p1, p2, p3, p4, p5, p6⟩, ⟨pf0, pf1, pf2, pf3, pf4, pf5, pf6⟩, pl⟩ := block7 (unhide HD)
  have uf : w.heap.size + 1 ≠ TF := by omega
  have uf2 : TF ≠ w.heap.size + 1 := by omega
  by_cases hc : O0 = 0
  · have xc : (O0 != 0) = false := by simpa using hc
    have hr := unhide HF0
    rw [if_neg (by simpa using hc)] at hr
    by_cases h1 : task < 1
    · rw [if_pos (Or.inl h1)] at hr
      cases hr
      go_wp2_with fail
      exact bodyPost_ret (v := .agg #[.int .i64 (3), .int .i64 (-1)]) (by simp [results, Try.results19, go_sem, g0, g1]) rfl ⟨rfl, below_set2 (unhide HX) (by omega) _ _⟩
    obtain ⟨A, eA⟩ : ∃ A, decide (0 ≤ now ∧ now ≤ 1000000000) = A := ⟨_, rfl⟩
    rw [eA] at HT
    cases A with
    | false =>
      rw [if_pos (Or.inr (of_decide_eq_false eA))] at hr
      cases hr
      clear eA
      go_wp2_with (go_at_call 24; refine (unhide HT _).mono ?_; rintro e w9 ⟨rfl, rfl⟩)
      exact bodyPost_ret (v := .agg #[.int .i64 (3), .int .i64 (-1)]) (by simp [results, Try.results19, go_sem, g0, g1]) rfl ⟨rfl, below_set2 (unhide HX) (by omega) _ _⟩
    | true =>
      have hA := of_decide_eq_true eA
      rw [if_neg (by omega)] at hr
      clear eA hA
      by_cases h3 : 0 < t1
      · rw [if_pos h3] at hr
        cases hr
        go_wp2_with (go_at_call 24; refine (unhide HT _).mono ?_; rintro e w9 ⟨rfl, rfl⟩)
        exact bodyPost_ret (v := .agg #[.int .i64 (11), .int .i64 (-1)]) (by simp [results, Try.results19, go_sem, g0, g1]) rfl ⟨rfl, below_set2 (unhide HX) (by omega) _ _⟩
      rw [if_neg h3] at hr
      by_cases h4 : t0 = task
      · rw [if_pos h4] at hr
        cases hr
        have x4 : (t0 == task) = true := by simpa using h4
        clear h4
        go_wp2_with (go_at_call 24; refine (unhide HT _).mono ?_; rintro e w9 ⟨rfl, rfl⟩)
        exact bodyPost_ret (v := .agg #[.int .i64 (10), .int .i64 (-1)]) (by simp [results, Try.results19, go_sem, g0, g1]) rfl ⟨rfl, below_set2 (unhide HX) (by omega) _ _⟩
      · rw [if_neg h4] at hr
        cases hr
        have x4 : (t0 == task) = false := by simpa using h4
        clear h4
        go_wp2_with (go_at_call 24; refine (unhide HT _).mono ?_; rintro e w9 ⟨rfl, rfl⟩)
        exact bodyPost_ret (v := .agg #[.int .i64 (0), .int .i64 (0)]) (by simp [results, Try.results19, go_sem, g0, g1]) rfl ⟨rfl, below_set2 (unhide HX) (by omega) _ _⟩
  · have xc : (O0 != 0) = true := by simpa using hc
    have hr := unhide HF0
    rw [if_pos hc] at hr
    cases hr
    go_wp2_with fail
    exact bodyPost_ret (v := .agg #[.int .i64 (F0), .int .i64 (F1)]) (by simp [results, Try.results19, go_sem, g0, g1]) rfl ⟨rfl, below_set2 (unhide HX) (by omega) _ _⟩

set_option maxRecDepth 100000 in
set_option maxHeartbeats 2000000 in
theorem checkWait2_any (w : World) (c r0 r1 : Bool) (t0 t1 u0 u1 way task now C0 C1 F0 F1 : Int) (hC : descF c r0 r1 t0 t1 u0 u1 = (C0, C1)) (hF : onF (C0, C1) way = (F0, F1)) (hbad : F0 ≠ 0) :
    Calls Try.prog 19 #[.agg #[.bool c, .bool r0, .bool r1, .int .i64 t0, .int .i64 t1, .int .i64 u0, .int .i64 u1], .int .i64 way, .int .i64 task, .int .i64 now] w fun e w' => e = .returned (.agg #[.int .i64 F0, .int .i64 F1]) ∧ Below w.heap.size w w' := by
  obtain ⟨⟨O0, O1⟩, eO⟩ : ∃ O, onF (C0, C1) way = O := ⟨_, rfl⟩
  rw [eO] at hF
  have HC : Hid (∀ W, Calls Try.prog 21 #[.agg #[.bool c, .bool r0, .bool r1, .int .i64 t0, .int .i64 t1, .int .i64 u0, .int .i64 u1], .int .i64 way] W fun e w' => e = .returned (.agg #[.int .i64 O0, .int .i64 O1]) ∧ Below W.heap.size W w') := fun W => checkOn_any W c r0 r1 t0 t1 u0 u1 way C0 C1 O0 O1 hC eO
  have HT : Hid (∀ W, Calls Try.prog 24 #[.int .i64 now] W fun e w' => e = .returned (.bool (decide (0 ≤ now ∧ now ≤ 1000000000))) ∧ w' = W) := fun W => isTime_any W now
  have HF0 := hide hF
  clear hF hC eO
  obtain ⟨W0, e0, hB, k0, k1⟩ := two_new w (.cells #[.bool c, .bool r0, .bool r1, .int .i64 t0, .int .i64 t1, .int .i64 u0, .int .i64 u1] 25) (.cells #[.int .i64 0, .int .i64 0] 27)
  have HX := hide hB; have HE := hide e0; have HD := hide k0; have HG := hide k1
  clear hB e0 k0 k1
  go_enter Try.func19, Try.ntmps19
  go_upto_region 1 with fail
  rw [unhide HE]
  clear HE
  obtain ⟨⟨p0, p1, p2, p3, p4, p5, p6⟩, ⟨pf0, pf1, pf2, pf3, pf4, pf5, pf6⟩, pl⟩ := block7 (unhide HD)
  go_upto_region 2 with (go_at_call 21; refine (unhide HC _).mono ?_; rintro e w1 ⟨rfl, hb1⟩; have HX' := hide (Below.next (unhide HX) hb1 (Nat.le_refl _)); have HD' := hide (keep_below (unhide HD) hb1); have HG' := hide (keep_below (unhide HG) hb1); clear p0 p1 p2 p3 p4 p5 p6 pf0 pf1 pf2 pf3 pf4 pf5 pf6 pl HX HD HG; clear hb1; have HX := HX'; have HD := HD'; have HG := HG'; clear HX' HD' HG')
  obtain ⟨W1, e1, hB1, k1⟩ := one_new w1 (.cells #[.int .i64 O0, .int .i64 O1] 27)
  rw [e1]
  have HX' := hide (Below.next (unhide HX) hB1 (Nat.le_refl _)); have HD' := hide (keep_below (unhide HD) hB1); have HG' := hide (keep_below (unhide HG) hB1); have HF := hide k1
  have hld := size_of (unhide HD); have hlg := size_of (unhide HG)
  clear e1 hB1 k1 HX HD HG
  have HX := HX'; have HD := HD'; have HG := HG'; clear HX' HD' HG'
  obtain ⟨TF, eTF⟩ : ∃ X, w1.heap.size = X := ⟨_, rfl⟩
  rw [eTF] at HF hld hlg ⊢
  clear eTF
  obtain ⟨f0, f1, ff0, ff1, fl⟩ := block2 (unhide HF)
  obtain ⟨g0, g1, gf0, gf1, gl⟩ := block2 (unhide HG)
  obtain ⟨⟨p0, p1, p2, p3, p4, p5, p6⟩, ⟨pf0, pf1, pf2, pf3, pf4, pf5, pf6⟩, pl⟩ := block7 (unhide HD)
  have uf : w.heap.size + 1 ≠ TF := by omega
  have uf2 : TF ≠ w.heap.size + 1 := by omega
  have hr := unhide HF0
  cases hr
  have xc : (F0 != 0) = true := by simpa using hbad
  clear hbad
  go_wp2_with fail
  exact bodyPost_ret (v := .agg #[.int .i64 (F0), .int .i64 (F1)]) (by simp [results, Try.results19, go_sem, g0, g1]) rfl ⟨rfl, below_set2 (unhide HX) (by omega) _ _⟩

/-- What is wrong with an Until. -/
def untilF (O : Int × Int) (c : Bool) (whn now : Int) : Int × Int := if O.1 ≠ 0 then O else if ¬ (0 ≤ whn ∧ whn ≤ 1000000000) ∨ ¬ (0 ≤ now ∧ now ≤ 1000000000) then (3, -1) else if c = true then (11, -1) else (0, 0)

set_option maxRecDepth 100000 in
set_option maxHeartbeats 2000000 in
theorem checkUntil_any (w : World) (c r0 r1 : Bool) (t0 t1 u0 u1 way whn now C0 C1 F0 F1 : Int) (hC : descF c r0 r1 t0 t1 u0 u1 = (C0, C1)) (hF : untilF (onF (C0, C1) way) c whn now = (F0, F1)) :
    Calls Try.prog 23 #[.agg #[.bool c, .bool r0, .bool r1, .int .i64 t0, .int .i64 t1, .int .i64 u0, .int .i64 u1], .int .i64 way, .int .i64 whn, .int .i64 now] w fun e w' => e = .returned (.agg #[.int .i64 F0, .int .i64 F1]) ∧ Below w.heap.size w w' := by
  obtain ⟨⟨O0, O1⟩, eO⟩ : ∃ O, onF (C0, C1) way = O := ⟨_, rfl⟩
  rw [eO] at hF
  unfold untilF at hF
  have HC : Hid (∀ W, Calls Try.prog 21 #[.agg #[.bool c, .bool r0, .bool r1, .int .i64 t0, .int .i64 t1, .int .i64 u0, .int .i64 u1], .int .i64 way] W fun e w' => e = .returned (.agg #[.int .i64 O0, .int .i64 O1]) ∧ Below W.heap.size W w') := fun W => checkOn_any W c r0 r1 t0 t1 u0 u1 way C0 C1 O0 O1 hC eO
  have HT : Hid (∀ W, Calls Try.prog 24 #[.int .i64 now] W fun e w' => e = .returned (.bool (decide (0 ≤ now ∧ now ≤ 1000000000))) ∧ w' = W) := fun W => isTime_any W now
  have HV : Hid (∀ W, Calls Try.prog 24 #[.int .i64 whn] W fun e w' => e = .returned (.bool (decide (0 ≤ whn ∧ whn ≤ 1000000000))) ∧ w' = W) := fun W => isTime_any W whn
  have HF0 := hide hF
  clear hF hC eO
  obtain ⟨W0, e0, hB, k0, k1⟩ := two_new w (.cells #[.bool c, .bool r0, .bool r1, .int .i64 t0, .int .i64 t1, .int .i64 u0, .int .i64 u1] 25) (.cells #[.int .i64 0, .int .i64 0] 27)
  have HX := hide hB; have HE := hide e0; have HD := hide k0; have HG := hide k1
  clear hB e0 k0 k1
  go_enter Try.func23, Try.ntmps23
  go_upto_region 1 with fail
  rw [unhide HE]
  clear HE
  obtain ⟨⟨p0, p1, p2, p3, p4, p5, p6⟩, ⟨pf0, pf1, pf2, pf3, pf4, pf5, pf6⟩, pl⟩ := block7 (unhide HD)
  go_upto_region 2 with (go_at_call 21; refine (unhide HC _).mono ?_; rintro e w1 ⟨rfl, hb1⟩; have HX' := hide (Below.next (unhide HX) hb1 (Nat.le_refl _)); have HD' := hide (keep_below (unhide HD) hb1); have HG' := hide (keep_below (unhide HG) hb1); clear p0 p1 p2 p3 p4 p5 p6 pf0 pf1 pf2 pf3 pf4 pf5 pf6 pl HX HD HG; clear hb1; have HX := HX'; have HD := HD'; have HG := HG'; clear HX' HD' HG')
  obtain ⟨W1, e1, hB1, k1⟩ := one_new w1 (.cells #[.int .i64 O0, .int .i64 O1] 27)
  rw [e1]
  have HX' := hide (Below.next (unhide HX) hB1 (Nat.le_refl _)); have HD' := hide (keep_below (unhide HD) hB1); have HG' := hide (keep_below (unhide HG) hB1); have HF := hide k1
  have hld := size_of (unhide HD); have hlg := size_of (unhide HG)
  clear e1 hB1 k1 HX HD HG
  have HX := HX'; have HD := HD'; have HG := HG'; clear HX' HD' HG'
  obtain ⟨TF, eTF⟩ : ∃ X, w1.heap.size = X := ⟨_, rfl⟩
  rw [eTF] at HF hld hlg ⊢
  clear eTF
  obtain ⟨f0, f1, ff0, ff1, fl⟩ := block2 (unhide HF)
  obtain ⟨g0, g1, gf0, gf1, gl⟩ := block2 (unhide HG)
  obtain ⟨⟨p0, p1, p2, p3, p4, p5, p6⟩, ⟨pf0, pf1, pf2, pf3, pf4, pf5, pf6⟩, pl⟩ := block7 (unhide HD)
  have uf : w.heap.size + 1 ≠ TF := by omega
  have uf2 : TF ≠ w.heap.size + 1 := by omega
  by_cases hc : O0 = 0
  · have xc : (O0 != 0) = false := by simpa using hc
    have hr := unhide HF0
    rw [if_neg (by simpa using hc)] at hr
    obtain ⟨A, eA⟩ : ∃ A, decide (0 ≤ whn ∧ whn ≤ 1000000000) = A := ⟨_, rfl⟩
    rw [eA] at HV
    obtain ⟨B, eB⟩ : ∃ B, decide (0 ≤ now ∧ now ≤ 1000000000) = B := ⟨_, rfl⟩
    rw [eB] at HT
    cases A with
    | false =>
      rw [if_pos (Or.inl (of_decide_eq_false eA))] at hr
      cases hr
      clear eA eB
      go_wp2_with (go_at_call 24; (first | (with_reducible refine Calls.mono (unhide HV _) ?_) | (with_reducible refine Calls.mono (unhide HT _) ?_)); rintro e w9 ⟨rfl, rfl⟩)
      exact bodyPost_ret (v := .agg #[.int .i64 (3), .int .i64 (-1)]) (by simp [results, Try.results23, go_sem, g0, g1]) rfl ⟨rfl, below_set2 (unhide HX) (by omega) _ _⟩
    | true =>
      have hA := of_decide_eq_true eA
      cases B with
      | false =>
        rw [if_pos (Or.inr (of_decide_eq_false eB))] at hr
        cases hr
        clear eA eB hA
        go_wp2_with (go_at_call 24; (first | (with_reducible refine Calls.mono (unhide HV _) ?_) | (with_reducible refine Calls.mono (unhide HT _) ?_)); rintro e w9 ⟨rfl, rfl⟩)
        exact bodyPost_ret (v := .agg #[.int .i64 (3), .int .i64 (-1)]) (by simp [results, Try.results23, go_sem, g0, g1]) rfl ⟨rfl, below_set2 (unhide HX) (by omega) _ _⟩
      | true =>
        have hB := of_decide_eq_true eB
        rw [if_neg (by omega)] at hr
        clear eA eB hA hB
        cases c with
        | true =>
          rw [if_pos rfl] at hr
          cases hr
          go_wp2_with (go_at_call 24; (first | (with_reducible refine Calls.mono (unhide HV _) ?_) | (with_reducible refine Calls.mono (unhide HT _) ?_)); rintro e w9 ⟨rfl, rfl⟩)
          exact bodyPost_ret (v := .agg #[.int .i64 (11), .int .i64 (-1)]) (by simp [results, Try.results23, go_sem, g0, g1]) rfl ⟨rfl, below_set2 (unhide HX) (by omega) _ _⟩
        | false =>
          rw [if_neg (by decide)] at hr
          cases hr
          go_wp2_with (go_at_call 24; (first | (with_reducible refine Calls.mono (unhide HV _) ?_) | (with_reducible refine Calls.mono (unhide HT _) ?_)); rintro e w9 ⟨rfl, rfl⟩)
          exact bodyPost_ret (v := .agg #[.int .i64 (0), .int .i64 (0)]) (by simp [results, Try.results23, go_sem, g0, g1]) rfl ⟨rfl, below_set2 (unhide HX) (by omega) _ _⟩
  · have xc : (O0 != 0) = true := by simpa using hc
    have hr := unhide HF0
    rw [if_pos hc] at hr
    cases hr
    go_wp2_with fail
    exact bodyPost_ret (v := .agg #[.int .i64 (F0), .int .i64 (F1)]) (by simp [results, Try.results23, go_sem, g0, g1]) rfl ⟨rfl, below_set2 (unhide HX) (by omega) _ _⟩

end Go.Proofs.Ytmghfedlpndpiaa
