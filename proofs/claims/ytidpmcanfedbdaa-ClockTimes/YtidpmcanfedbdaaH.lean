/-
  clock.outOfRange, and the function that clock.Check hands over.
-/
import Derived.Test.YtidpmcanfedbdaaG
namespace Go.Proofs.Ytidpmcanfedbdaa
open Go.RowKit

/-- Is an alarm out of range? -/
def oor (now next : Int) (a : Al) : Bool := decide (a.1 < 1) || !decide (now + 1 ≤ a.2.1 ∧ a.2.1 ≤ 2000000000) || !decide (0 ≤ a.2.2.1 ∧ a.2.2.1 ≤ 1000000000) || !decide (0 ≤ a.2.2.2 ∧ a.2.2.2 ≤ next - 1)

set_option maxRecDepth 100000 in
set_option maxHeartbeats 1000000 in
theorem outOfRange_any (w : World) (vl : Value) (now next t c u y : Int) (h0 : 0 ≤ now) (h1 : now ≤ 1000000000) (h2 : 0 ≤ next) (h3 : next ≤ 1000000000) :
    Calls Try.prog 26 #[.agg #[.int .i64 now, .int .i64 next, vl], .agg #[.int .i64 t, .int .i64 c, .int .i64 u, .int .i64 y]] w fun e w' => e = .returned (.bool (oor now next (t, c, u, y))) ∧ Below w.heap.size w w' := by
  obtain ⟨R, eR⟩ : ∃ R, oor now next (t, c, u, y) = R := ⟨_, rfl⟩
  rw [eR]
  unfold oor at eR
  simp only at eR
  have hw1 : IntKind.i64.wrap (now + 1) = now + 1 := wrapi (by omega) (by omega)
  have hw2 : IntKind.i64.wrap (next - 1) = next - 1 := wrapi (by omega) (by omega)
  obtain ⟨W, e0, hB, k0, k1⟩ := two_new w (.cells #[.int .i64 now, .int .i64 next, vl] 24) (.cells #[.int .i64 t, .int .i64 c, .int .i64 u, .int .i64 y] 42)
  have HX := hide hB; have HE := hide e0; have HK0 := hide k0; have HK1 := hide k1
  have HA := hide (within_any W c (now + 1) 2000000000)
  have HB := hide (within_any W u 0 1000000000)
  have HC := hide (within_any W y 0 (next - 1))
  obtain ⟨A, eA⟩ : ∃ A, decide (now + 1 ≤ c ∧ c ≤ 2000000000) = A := ⟨_, rfl⟩
  obtain ⟨B, eB⟩ : ∃ B, decide (0 ≤ u ∧ u ≤ 1000000000) = B := ⟨_, rfl⟩
  obtain ⟨C, eC⟩ : ∃ C, decide (0 ≤ y ∧ y ≤ next - 1) = C := ⟨_, rfl⟩
  rw [eA] at eR HA; rw [eB] at eR HB; rw [eC] at eR HC
  have HR := hide eR
  clear hB e0 k0 k1 eA eB eC eR h0 h1 h2 h3
  go_enter Try.func26, Try.ntmps26
  go_upto_region 1 with fail
  rw [unhide HE]
  clear HE
  obtain ⟨⟨p0, p1, p2⟩, -, pl⟩ := block3 (unhide HK0)
  obtain ⟨⟨q0, q1, q2, q3⟩, -, ql⟩ := block4 (unhide HK1)
  by_cases h1 : t < 1
  · have hr := unhide HR
    rw [decide_eq_true h1] at hr
    simp only [Bool.true_or] at hr
    subst hr
    clear HR
    go_wp2_with fail
    go_ret
    exact ⟨rfl, unhide HX⟩
  have hr := unhide HR
  rw [decide_eq_false h1] at hr
  simp only [Bool.false_or] at hr
  have HR2 := hide hr
  clear hr HR
  cases A with
  | false =>
    have hr := unhide HR2
    simp only [Bool.not_false, Bool.true_or] at hr
    subst hr
    clear HR2
    go_wp2_with (go_at_call 23; refine (unhide HA).mono ?_; rintro e w1 ⟨rfl, rfl⟩)
    go_ret
    exact ⟨rfl, unhide HX⟩
  | true =>
    cases B with
    | false =>
      have hr := unhide HR2
      simp only [Bool.not_false, Bool.not_true, Bool.true_or, Bool.false_or] at hr
      subst hr
      clear HR2
      go_wp2_with (go_at_call 23; (first | (with_reducible refine Calls.mono (unhide HA) ?_) | (with_reducible refine Calls.mono (unhide HB) ?_)); rintro e w1 ⟨rfl, rfl⟩)
      go_ret
      exact ⟨rfl, unhide HX⟩
    | true =>
      have hr := unhide HR2
      simp only [Bool.not_true, Bool.false_or] at hr
      subst hr
      clear HR2
      go_wp2_with (go_at_call 23; (first | (with_reducible refine Calls.mono (unhide HA) ?_) | (with_reducible refine Calls.mono (unhide HB) ?_) | (with_reducible refine Calls.mono (unhide HC) ?_)); rintro e w1 ⟨rfl, rfl⟩)
      go_ret
      exact ⟨rfl, unhide HX⟩

end Go.Proofs.Ytidpmcanfedbdaa
