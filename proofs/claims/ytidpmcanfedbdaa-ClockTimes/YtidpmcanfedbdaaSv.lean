/-
  What taskmilllaw.ClockSets asks, on lists; what follows a statement.
-/
import Derived.Test.YtidpmcanfedbdaaUn
namespace Go.Proofs.Ytidpmcanfedbdaa
open Go.RowKit

theorem But.put_self {g : Nat} {w W : World} (h : But g w W) (x y : Value) : But g w (put2 W g x y) :=
  ⟨h.os, h.tape, h.output, Nat.le_trans h.size (by simp [put2, World.setCell]), fun k hk hg => (put2_keep hg).trans (h.block k hk hg)⟩
/-- Is what Set is asked out of range? -/
def badQ (id after period : Int) : Bool := decide (id < 1 ∨ after < 1 ∨ 1000000000 < after ∨ period < 0 ∨ 1000000000 < period)
/-- What Set tells ahead of ErrMuch. -/
def setU (C : Int × Int) (id after period : Int) : Int × Int := if (C.1 == 0 && badQ id after period) = true then (3, -1) else C
/-- What Set tells at last. -/
def setV (U : Int × Int) (m : Nat) (next : Int) : Int × Int := if (U.1 == 0 && (decide (m = 5000) || next == 1000000000)) = true then (9, 0) else U
theorem setF_uv (now next : Int) (xs : List Al) (id after period : Int) : setF now next xs id after period = setV (setU (clockF now next xs) id after period) (noL id xs).length next := by
  unfold setF
  by_cases h0 : (clockF now next xs).1 = 0
  · rw [if_neg (by simpa using h0)]
    have e0 : ((clockF now next xs).1 == 0) = true := by simpa using h0
    by_cases h1 : id < 1 ∨ after < 1 ∨ 1000000000 < after ∨ period < 0 ∨ 1000000000 < period
    · have hU : setU (clockF now next xs) id after period = (3, -1) := by unfold setU badQ; rw [e0, Bool.true_and, if_pos (decide_eq_true h1)]
      rw [hU, if_pos (by omega)]
      rfl
    · have hU : setU (clockF now next xs) id after period = clockF now next xs := by
        unfold setU badQ
        rw [e0, Bool.true_and, decide_eq_false h1]
        rfl
      rw [hU, if_neg (by omega)]
      unfold setV
      rw [e0, Bool.true_and]
      by_cases h2 : (noL id xs).length = 5000 ∨ next = 1000000000
      · rw [if_pos h2, if_pos (by rcases h2 with h2 | h2 <;> simp [h2])]
      · rw [if_neg h2, if_neg (by simp; omega)]
        exact (clockF_good h0).1.symm
  · rw [if_pos h0]
    have e0 : ((clockF now next xs).1 == 0) = false := by simpa using h0
    have hU : setU (clockF now next xs) id after period = clockF now next xs := by
      unfold setU
      rw [e0, Bool.false_and]
      rfl
    rw [hU]
    unfold setV
    rw [e0, Bool.false_and]
    rfl
theorem sets_facts {now next : Int} {xs : List Al} {id after period C0 C1 U0 U1 V0 V1 F0 F1 n1 x1 n2 x2 T0 T1 r Q0 Q1 : Int} {zs1 zs2 : List Al} {was is : Bool} (hc : clockF now next xs = (C0, C1)) (hu : setU (C0, C1) id after period = (U0, U1)) (hv : setV (U0, U1) (noL id xs).length next = (V0, V1)) (h1 : setR now next xs id after period = ((F0, F1), (n1, x1, zs1), was)) (h2 : stopR now next xs id = ((T0, T1), (n2, x2, zs2), is)) (h3 : soonR now next xs = (r, (Q0, Q1))) :
    F0 = V0 ∧ F1 = V1 ∧ T0 = C0 ∧ T1 = C1 ∧ (V0 ≠ 0 → n1 = 0 ∧ x1 = 0 ∧ zs1 = [] ∧ was = false) ∧
    (V0 = 0 → C0 = 0 ∧ n1 = now ∧ x1 = next + 1 ∧ zs1 = insL (id, now + after, period, next) (noL id xs) ∧ was = xs.any (fun p => p.1 == id) ∧ 1 ≤ after ∧ after ≤ 1000000000) ∧
    (C0 ≠ 0 → n2 = 0 ∧ x2 = 0 ∧ zs2 = [] ∧ is = false ∧ r = 0 ∧ Q0 = C0 ∧ Q1 = C1) ∧
    (C0 = 0 → C1 = 0 ∧ Good now next xs ∧ n2 = now ∧ x2 = next ∧ zs2 = noL id xs ∧ is = xs.any (fun p => p.1 == id) ∧ (xs = [] → r = 0 ∧ Q0 = 6 ∧ Q1 = 0) ∧ (∀ x l, xs = x :: l → r = x.2.1 - now ∧ Q0 = 0 ∧ Q1 = 0)) := by
  have hsf : setF now next xs id after period = (V0, V1) := by rw [setF_uv, hc, hu, hv]
  have hF : F0 = V0 ∧ F1 = V1 ∧ (V0 ≠ 0 → n1 = 0 ∧ x1 = 0 ∧ zs1 = [] ∧ was = false) ∧ (V0 = 0 → C0 = 0 ∧ n1 = now ∧ x1 = next + 1 ∧ zs1 = insL (id, now + after, period, next) (noL id xs) ∧ was = xs.any (fun p => p.1 == id) ∧ 1 ≤ after ∧ after ≤ 1000000000) := by
    unfold setR at h1
    rw [hsf] at h1
    by_cases hv0 : V0 ≠ 0
    · rw [if_pos hv0] at h1
      cases h1
      exact ⟨rfl, rfl, fun _ => ⟨rfl, rfl, rfl, rfl⟩, fun e => absurd e hv0⟩
    · rw [if_neg hv0] at h1
      have hv00 : V0 = 0 := Decidable.not_not.1 hv0
      obtain ⟨g1, g2, g3, g4, g5, -⟩ := setF_good (now := now) (next := next) (xs := xs) (id := id) (after := after) (period := period) (by rw [hsf]; exact hv00)
      rw [hsf] at g1
      have hcc : C0 = 0 := by have := good_clockF g2; rw [hc] at this; exact congrArg Prod.fst this
      cases h1
      refine ⟨hv00.symm, (congrArg Prod.snd g1).symm, fun e => absurd hv00 e, fun _ => ⟨hcc, rfl, rfl, rfl, noL_was id xs, g4, g5⟩⟩
  obtain ⟨f1, f2, f3, f4⟩ := hF
  refine ⟨f1, f2, ?_⟩
  by_cases h0 : C0 ≠ 0
  · unfold stopR at h2
    unfold soonR at h3
    rw [hc, if_pos h0] at h2 h3
    cases h2
    cases h3
    exact ⟨rfl, rfl, f3, f4, fun _ => ⟨rfl, rfl, rfl, rfl, rfl, rfl, rfl⟩, fun e => absurd e h0⟩
  · have h00 : C0 = 0 := Decidable.not_not.1 h0
    obtain ⟨g1, g2⟩ := clockF_good (now := now) (next := next) (xs := xs) (by rw [hc]; exact h00)
    rw [hc] at g1
    have hc1 : C1 = 0 := congrArg Prod.snd g1
    unfold stopR at h2
    unfold soonR at h3
    rw [hc, if_neg h0] at h2 h3
    cases h2
    refine ⟨h00.symm, hc1.symm, f3, f4, fun e => absurd h00 e, fun _ => ⟨hc1, g2, rfl, rfl, rfl, noL_was id xs, fun e => ?_, fun x l e => ?_⟩⟩
    · subst e
      cases h3
      exact ⟨rfl, rfl, rfl⟩
    · subst e
      cases h3
      exact ⟨rfl, rfl, rfl⟩

/-- The statement that is the region n, and what follows it. -/
def cutAt (n : Nat) : Code → Option (Code × Code)
  | .seq (.region id ops dr) b => bif Nat.beq id n then some (.region id ops dr, b) else cutAt n b
  | .seq _ b => cutAt n b
  | _ => none
/-- The statement that opens with the region n, its second part, and what follows it. -/
def cutIf (n : Nat) : Code → Option (Code × Code × Code)
  | .seq (.seq (.region id ops dr) c) b => bif Nat.beq id n then some (.region id ops dr, c, b) else cutIf n b
  | .seq _ b => cutIf n b
  | _ => none

end Go.Proofs.Ytidpmcanfedbdaa
