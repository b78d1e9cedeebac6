/-
  Descriptors; poll.isTime, poll.wrongOn, poll.lateOn, poll.leave; taskmilllaw.isLate, taskmillref.F.
-/
import Derived.Test.YtmghfedlpndpiaaD
namespace Go.Proofs.Ytmghfedlpndpiaa
open Go.RowKit

theorem block7 {w : World} {R : Nat} {x0 x1 x2 x3 x4 x5 x6 : Value} {t : TypeId} (h : w.heap[R]? = some (.cells #[x0, x1, x2, x3, x4, x5, x6] t (0, 0))) : (w.cell? ⟨R, 0, none⟩ = some x0 ∧ w.cell? ⟨R, 1, none⟩ = some x1 ∧ w.cell? ⟨R, 2, none⟩ = some x2 ∧ w.cell? ⟨R, 3, none⟩ = some x3 ∧ w.cell? ⟨R, 4, none⟩ = some x4 ∧ w.cell? ⟨R, 5, none⟩ = some x5 ∧ w.cell? ⟨R, 6, none⟩ = some x6) ∧ (w.frozen? ⟨R, 0, none⟩ = false ∧ w.frozen? ⟨R, 1, none⟩ = false ∧ w.frozen? ⟨R, 2, none⟩ = false ∧ w.frozen? ⟨R, 3, none⟩ = false ∧ w.frozen? ⟨R, 4, none⟩ = false ∧ w.frozen? ⟨R, 5, none⟩ = false ∧ w.frozen? ⟨R, 6, none⟩ = false) ∧ R < w.heap.size := by
  refine ⟨⟨?_, ?_, ?_, ?_, ?_, ?_, ?_⟩, ⟨?_, ?_, ?_, ?_, ?_, ?_, ?_⟩, (Array.getElem?_eq_some_iff.1 h).1⟩
  all_goals first | (simp only [World.cell?, h]; rfl) | (simp only [World.frozen?, h]; rfl)
theorem set_block7 {w : World} {R i : Nat} {x0 x1 x2 x3 x4 x5 x6 y : Value} {t : TypeId} (h : w.heap[R]? = some (.cells #[x0, x1, x2, x3, x4, x5, x6] t (0, 0))) : (w.setCell ⟨R, i, none⟩ y).heap[R]? = some (.cells (#[x0, x1, x2, x3, x4, x5, x6].setIfInBounds i y) t (0, 0)) := by
  simp [World.setCell, Array.getElem?_modify, h]
theorem set2b {w : World} {R i : Nat} {x0 x1 y : Value} {t : TypeId} (h : w.heap[R]? = some (.cells #[x0, x1] t (0, 0))) : (w.setCell ⟨R, i, none⟩ y).heap[R]? = some (.cells (#[x0, x1].setIfInBounds i y) t (0, 0)) := by
  simp [World.setCell, Array.getElem?_modify, h]
theorem one_new (w : World) (o0 : Obj) : ∃ W, w.alloc o0 = W ∧ Below w.heap.size w W ∧ W.heap[w.heap.size]? = some o0 := ⟨_, rfl, (Below.refl w.heap.size w).alloc (Nat.le_refl _) o0, new_block w o0⟩

/-- The code of what is wrong with a way. -/
def wr (c r : Bool) (t u : Int) : Int := if t < 0 ∨ u < 0 ∨ 1000000000 < u then 3 else if (c = true ∧ (r = true ∨ t ≠ 0 ∨ u ≠ 0)) ∨ (r = true ∧ t ≠ 0) then 5 else 0

/-- Is it late? -/
def late (u now : Int) : Bool := decide (u ≠ 0 ∧ u ≤ now)

set_option maxRecDepth 100000 in
theorem isTime_any (w : World) (x : Int) :
    Calls Try.prog 24 #[.int .i64 x] w fun e w' => e = .returned (.bool (decide (0 ≤ x ∧ x ≤ 1000000000))) ∧ w' = w := by
  by_cases h1 : 0 ≤ x
  · have h1' : ¬ x < 0 := by omega
    by_cases h2 : x ≤ 1000000000
    · rw [decide_eq_true ⟨h1, h2⟩]
      go_enter Try.func24, Try.ntmps24
      go_wp2
      go_ret
      exact ⟨rfl, rfl⟩
    · rw [decide_eq_false (fun h => h2 h.2)]
      go_enter Try.func24, Try.ntmps24
      go_wp2
      go_ret
      exact ⟨rfl, rfl⟩
  · rw [decide_eq_false (fun h => h1 h.1)]
    go_enter Try.func24, Try.ntmps24
    go_wp2
    go_ret
    exact ⟨rfl, rfl⟩

set_option maxRecDepth 100000 in
theorem f_any (w : World) (x y : Int) :
    Calls Try.prog 12 #[.int .i64 x, .int .i64 y] w fun e w' => e = .returned (.agg #[.int .i64 x, .int .i64 y]) ∧ Below w.heap.size w w' := by
  have HX := hide ((Below.refl w.heap.size w).alloc (Nat.le_refl _) (.cells #[.int .i64 0, .int .i64 0] 27))
  have HP := hide (new_block w (.cells #[.int .i64 0, .int .i64 0] 27))
  go_enter Try.func12, Try.ntmps12
  go_upto_region 1 with fail
  obtain ⟨W0, e0⟩ : ∃ W, w.alloc (.cells #[.int .i64 0, .int .i64 0] 27) = W := ⟨_, rfl⟩
  rw [e0] at HX HP ⊢
  clear e0
  obtain ⟨p0, p1, f0, f1, pl⟩ := block2 (unhide HP)
  go_wp2_with fail
  exact bodyPost_ret (v := .agg #[.int .i64 x, .int .i64 y]) (by simp [results, Try.results12, go_sem, p0, p1]) rfl ⟨rfl, below_set2 (unhide HX) (Nat.le_refl _) _ _⟩

set_option maxRecDepth 100000 in
set_option maxHeartbeats 2000000 in
theorem wrongOn0_any (w : World) (c r0 r1 : Bool) (t0 t1 u0 u1 : Int) :
    Calls Try.prog 18 #[.agg #[.bool c, .bool r0, .bool r1, .int .i64 t0, .int .i64 t1, .int .i64 u0, .int .i64 u1], .int .i64 0] w fun e w' => e = .returned (.int .i64 (wr c r0 t0 u0)) ∧ Below w.heap.size w w' := by
  obtain ⟨R, eR⟩ : ∃ R, wr c r0 t0 u0 = R := ⟨_, rfl⟩
  rw [eR]
  unfold wr at eR
  have HR := hide eR
  clear eR
  obtain ⟨W0, e0, hB, k0⟩ := one_new w (.cells #[.bool c, .bool r0, .bool r1, .int .i64 t0, .int .i64 t1, .int .i64 u0, .int .i64 u1] 25)
  have HX := hide hB; have HE := hide e0; have HK := hide k0
  have HT : Hid (∀ W, Calls Try.prog 24 #[.int .i64 u0] W fun e w' => e = .returned (.bool (decide (0 ≤ u0 ∧ u0 ≤ 1000000000))) ∧ w' = W) := fun W => isTime_any W u0
  clear hB e0 k0
  go_enter Try.func18, Try.ntmps18
  go_upto_region 1 with fail
  rw [unhide HE]
  clear HE
  obtain ⟨⟨p0, p1, p2, p3, p4, p5, p6⟩, -, pl⟩ := block7 (unhide HK)
  go_wp2_with fail
  go_region
  have HXd := hide (unhide HX).drew
  by_cases h1 : t0 < 0
  · have hr := unhide HR
    rw [if_pos (Or.inl h1)] at hr
    subst hr
    clear HR
    go_wp2_with fail
    go_ret
    exact ⟨rfl, unhide HXd⟩
  obtain ⟨A, eA⟩ : ∃ A, decide (0 ≤ u0 ∧ u0 ≤ 1000000000) = A := ⟨_, rfl⟩
  rw [eA] at HT
  cases A with
  | false =>
    have hr := unhide HR
    have hA := of_decide_eq_false eA
    rw [if_pos (by omega)] at hr
    subst hr
    clear HR hA eA
    go_wp2_with (go_at_call 24; refine (unhide HT _).mono ?_; rintro e w1 ⟨rfl, rfl⟩)
    go_ret
    exact ⟨rfl, unhide HXd⟩
  | true =>
    have hr := unhide HR
    have hA := of_decide_eq_true eA
    rw [if_neg (by omega)] at hr
    have HR2 := hide hr
    clear HR hA eA hr
    go_upto_region 4 with (go_at_call 24; refine (unhide HT _).mono ?_; rintro e w1 ⟨rfl, rfl⟩)
    obtain ⟨A1, eA1⟩ : ∃ A, (t0 != 0) = A := ⟨_, rfl⟩
    obtain ⟨A2, eA2⟩ : ∃ A, (u0 != 0) = A := ⟨_, rfl⟩
    have hr := unhide HR2
    have q1 : (t0 ≠ 0) ↔ A1 = true := by rw [← eA1]; simp
    have q2 : (u0 ≠ 0) ↔ A2 = true := by rw [← eA2]; simp
    simp only [q1, q2] at hr
    rw [eA1, eA2]
    clear HR2 q1 q2 eA1 eA2
    cases c <;> cases r0 <;> cases A1 <;> cases A2
    all_goals
      simp at hr
      subst hr
      go_wp2_with fail
      go_ret
      exact ⟨rfl, unhide HXd⟩

set_option maxRecDepth 100000 in
set_option maxHeartbeats 2000000 in
theorem lateOn0_any (w : World) (c r0 r1 : Bool) (t0 t1 u0 u1 now : Int) :
    Calls Try.prog 20 #[.agg #[.bool c, .bool r0, .bool r1, .int .i64 t0, .int .i64 t1, .int .i64 u0, .int .i64 u1], .int .i64 0, .int .i64 now] w fun e w' => e = .returned (.bool (late u0 now)) ∧ Below w.heap.size w w' := by
  obtain ⟨W0, e0, hB, k0⟩ := one_new w (.cells #[.bool c, .bool r0, .bool r1, .int .i64 t0, .int .i64 t1, .int .i64 u0, .int .i64 u1] 25)
  have HX := hide hB; have HE := hide e0; have HK := hide k0
  clear hB e0 k0
  obtain ⟨R, eR⟩ : ∃ R, late u0 now = R := ⟨_, rfl⟩
  rw [eR]
  unfold late at eR
  go_enter Try.func20, Try.ntmps20
  go_upto_region 1 with fail
  rw [unhide HE]
  clear HE
  obtain ⟨⟨p0, p1, p2, p3, p4, p5, p6⟩, -, pl⟩ := block7 (unhide HK)
  by_cases h1 : u0 = 0
  · rw [decide_eq_false (fun h => h.1 h1)] at eR
    subst eR
    have h2 : (u0 != 0) = false := by simpa using h1
    go_wp2_with fail
    go_ret
    exact ⟨rfl, unhide HX⟩
  · have h2 : (u0 != 0) = true := by simpa using h1
    by_cases h3 : u0 ≤ now
    · rw [decide_eq_true ⟨h1, h3⟩] at eR
      subst eR
      clear h1
      go_wp2_with fail
      go_ret
      exact ⟨rfl, unhide HX⟩
    · rw [decide_eq_false (fun h => h3 h.2)] at eR
      subst eR
      clear h1
      go_wp2_with fail
      go_ret
      exact ⟨rfl, unhide HX⟩

set_option maxRecDepth 100000 in
set_option maxHeartbeats 2000000 in
theorem isLate0_any (w : World) (c r0 r1 : Bool) (t0 t1 u0 u1 now : Int) :
    Calls Try.prog 13 #[.agg #[.bool c, .bool r0, .bool r1, .int .i64 t0, .int .i64 t1, .int .i64 u0, .int .i64 u1], .int .i64 0, .int .i64 now] w fun e w' => e = .returned (.bool (late u0 now)) ∧ Below w.heap.size w w' := by
  obtain ⟨W0, e0, hB, k0⟩ := one_new w (.cells #[.bool c, .bool r0, .bool r1, .int .i64 t0, .int .i64 t1, .int .i64 u0, .int .i64 u1] 25)
  have HX := hide hB; have HE := hide e0; have HK := hide k0
  clear hB e0 k0
  obtain ⟨R, eR⟩ : ∃ R, late u0 now = R := ⟨_, rfl⟩
  rw [eR]
  unfold late at eR
  go_enter Try.func13, Try.ntmps13
  go_upto_region 1 with fail
  rw [unhide HE]
  clear HE
  obtain ⟨⟨p0, p1, p2, p3, p4, p5, p6⟩, -, pl⟩ := block7 (unhide HK)
  by_cases h1 : u0 = 0
  · rw [decide_eq_false (fun h => h.1 h1)] at eR
    subst eR
    have h2 : (u0 != 0) = false := by simpa using h1
    go_wp2_with fail
    go_ret
    exact ⟨rfl, unhide HX⟩
  · have h2 : (u0 != 0) = true := by simpa using h1
    by_cases h3 : u0 ≤ now
    · rw [decide_eq_true ⟨h1, h3⟩] at eR
      subst eR
      clear h1
      go_wp2_with fail
      go_ret
      exact ⟨rfl, unhide HX⟩
    · rw [decide_eq_false (fun h => h3 h.2)] at eR
      subst eR
      clear h1
      go_wp2_with fail
      go_ret
      exact ⟨rfl, unhide HX⟩

set_option maxRecDepth 100000 in
set_option maxHeartbeats 2000000 in
theorem wrongOn1_any (w : World) (c r0 r1 : Bool) (t0 t1 u0 u1 : Int) :
    Calls Try.prog 18 #[.agg #[.bool c, .bool r0, .bool r1, .int .i64 t0, .int .i64 t1, .int .i64 u0, .int .i64 u1], .int .i64 1] w fun e w' => e = .returned (.int .i64 (wr c r1 t1 u1)) ∧ Below w.heap.size w w' := by
  obtain ⟨R, eR⟩ : ∃ R, wr c r1 t1 u1 = R := ⟨_, rfl⟩
  rw [eR]
  unfold wr at eR
  have HR := hide eR
  clear eR
  obtain ⟨W0, e0, hB, k0⟩ := one_new w (.cells #[.bool c, .bool r0, .bool r1, .int .i64 t0, .int .i64 t1, .int .i64 u0, .int .i64 u1] 25)
  have HX := hide hB; have HE := hide e0; have HK := hide k0
  have HT : Hid (∀ W, Calls Try.prog 24 #[.int .i64 u1] W fun e w' => e = .returned (.bool (decide (0 ≤ u1 ∧ u1 ≤ 1000000000))) ∧ w' = W) := fun W => isTime_any W u1
  clear hB e0 k0
  go_enter Try.func18, Try.ntmps18
  go_upto_region 1 with fail
  rw [unhide HE]
  clear HE
  obtain ⟨⟨p0, p1, p2, p3, p4, p5, p6⟩, -, pl⟩ := block7 (unhide HK)
  go_wp2_with fail
  go_region
  have HXd := hide (unhide HX).drew
  by_cases h1 : t1 < 0
  · have hr := unhide HR
    rw [if_pos (Or.inl h1)] at hr
    subst hr
    clear HR
    go_wp2_with fail
    go_ret
    exact ⟨rfl, unhide HXd⟩
  obtain ⟨A, eA⟩ : ∃ A, decide (0 ≤ u1 ∧ u1 ≤ 1000000000) = A := ⟨_, rfl⟩
  rw [eA] at HT
  cases A with
  | false =>
    have hr := unhide HR
    have hA := of_decide_eq_false eA
    rw [if_pos (by omega)] at hr
    subst hr
    clear HR hA eA
    go_wp2_with (go_at_call 24; refine (unhide HT _).mono ?_; rintro e w1 ⟨rfl, rfl⟩)
    go_ret
    exact ⟨rfl, unhide HXd⟩
  | true =>
    have hr := unhide HR
    have hA := of_decide_eq_true eA
    rw [if_neg (by omega)] at hr
    have HR2 := hide hr
    clear HR hA eA hr
    go_upto_region 4 with (go_at_call 24; refine (unhide HT _).mono ?_; rintro e w1 ⟨rfl, rfl⟩)
    obtain ⟨A1, eA1⟩ : ∃ A, (t1 != 0) = A := ⟨_, rfl⟩
    obtain ⟨A2, eA2⟩ : ∃ A, (u1 != 0) = A := ⟨_, rfl⟩
    have hr := unhide HR2
    have q1 : (t1 ≠ 0) ↔ A1 = true := by rw [← eA1]; simp
    have q2 : (u1 ≠ 0) ↔ A2 = true := by rw [← eA2]; simp
    simp only [q1, q2] at hr
    rw [eA1, eA2]
    clear HR2 q1 q2 eA1 eA2
    cases c <;> cases r1 <;> cases A1 <;> cases A2
    all_goals
      simp at hr
      subst hr
      go_wp2_with fail
      go_ret
      exact ⟨rfl, unhide HXd⟩

set_option maxRecDepth 100000 in
set_option maxHeartbeats 2000000 in
theorem lateOn1_any (w : World) (c r0 r1 : Bool) (t0 t1 u0 u1 now : Int) :
    Calls Try.prog 20 #[.agg #[.bool c, .bool r0, .bool r1, .int .i64 t0, .int .i64 t1, .int .i64 u0, .int .i64 u1], .int .i64 1, .int .i64 now] w fun e w' => e = .returned (.bool (late u1 now)) ∧ Below w.heap.size w w' := by
  obtain ⟨W0, e0, hB, k0⟩ := one_new w (.cells #[.bool c, .bool r0, .bool r1, .int .i64 t0, .int .i64 t1, .int .i64 u0, .int .i64 u1] 25)
  have HX := hide hB; have HE := hide e0; have HK := hide k0
  clear hB e0 k0
  obtain ⟨R, eR⟩ : ∃ R, late u1 now = R := ⟨_, rfl⟩
  rw [eR]
  unfold late at eR
  go_enter Try.func20, Try.ntmps20
  go_upto_region 1 with fail
  rw [unhide HE]
  clear HE
  obtain ⟨⟨p0, p1, p2, p3, p4, p5, p6⟩, -, pl⟩ := block7 (unhide HK)
  by_cases h1 : u1 = 0
  · rw [decide_eq_false (fun h => h.1 h1)] at eR
    subst eR
    have h2 : (u1 != 0) = false := by simpa using h1
    go_wp2_with fail
    go_ret
    exact ⟨rfl, unhide HX⟩
  · have h2 : (u1 != 0) = true := by simpa using h1
    by_cases h3 : u1 ≤ now
    · rw [decide_eq_true ⟨h1, h3⟩] at eR
      subst eR
      clear h1
      go_wp2_with fail
      go_ret
      exact ⟨rfl, unhide HX⟩
    · rw [decide_eq_false (fun h => h3 h.2)] at eR
      subst eR
      clear h1
      go_wp2_with fail
      go_ret
      exact ⟨rfl, unhide HX⟩

set_option maxRecDepth 100000 in
set_option maxHeartbeats 2000000 in
theorem isLate1_any (w : World) (c r0 r1 : Bool) (t0 t1 u0 u1 now : Int) :
    Calls Try.prog 13 #[.agg #[.bool c, .bool r0, .bool r1, .int .i64 t0, .int .i64 t1, .int .i64 u0, .int .i64 u1], .int .i64 1, .int .i64 now] w fun e w' => e = .returned (.bool (late u1 now)) ∧ Below w.heap.size w w' := by
  obtain ⟨W0, e0, hB, k0⟩ := one_new w (.cells #[.bool c, .bool r0, .bool r1, .int .i64 t0, .int .i64 t1, .int .i64 u0, .int .i64 u1] 25)
  have HX := hide hB; have HE := hide e0; have HK := hide k0
  clear hB e0 k0
  obtain ⟨R, eR⟩ : ∃ R, late u1 now = R := ⟨_, rfl⟩
  rw [eR]
  unfold late at eR
  go_enter Try.func13, Try.ntmps13
  go_upto_region 1 with fail
  rw [unhide HE]
  clear HE
  obtain ⟨⟨p0, p1, p2, p3, p4, p5, p6⟩, -, pl⟩ := block7 (unhide HK)
  by_cases h1 : u1 = 0
  · rw [decide_eq_false (fun h => h.1 h1)] at eR
    subst eR
    have h2 : (u1 != 0) = false := by simpa using h1
    go_wp2_with fail
    go_ret
    exact ⟨rfl, unhide HX⟩
  · have h2 : (u1 != 0) = true := by simpa using h1
    by_cases h3 : u1 ≤ now
    · rw [decide_eq_true ⟨h1, h3⟩] at eR
      subst eR
      clear h1
      go_wp2_with fail
      go_ret
      exact ⟨rfl, unhide HX⟩
    · rw [decide_eq_false (fun h => h3 h.2)] at eR
      subst eR
      clear h1
      go_wp2_with fail
      go_ret
      exact ⟨rfl, unhide HX⟩

end Go.Proofs.Ytmghfedlpndpiaa
