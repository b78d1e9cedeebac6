/-
  taskmillref.TakenOf: on lists.
-/
import Derived.Test.YtomhfnjnmhdpkaaW
import Derived.Test.YtomhfnjnmhdpkaaRa
namespace Go.Proofs.Ytomhfnjnmhdpkaa
open Go.RowKit

/-- The least block is in the list, large enough, and none ahead of it is as small, none at all smaller. -/
structure Least (z : Int) (fs : List Bl) (k : Nat) : Prop where
  lt : k < fs.length
  ge : z ≤ (aAt fs k).2
  less : ∀ i, i < fs.length → z ≤ (aAt fs i).2 → (aAt fs k).2 ≤ (aAt fs i).2
  first : ∀ i, i < k → z ≤ (aAt fs i).2 → (aAt fs k).2 < (aAt fs i).2
theorem leastL_take (z : Int) (fs : List Bl) : ∀ n, n ≤ fs.length → (leastL (asks z) (fs.take n) = none ∧ ∀ i, i < n → ¬ z ≤ (aAt fs i).2) ∨ ∃ k, leastL (asks z) (fs.take n) = some (aAt fs k) ∧ k < n ∧ z ≤ (aAt fs k).2 ∧ (∀ i, i < n → z ≤ (aAt fs i).2 → (aAt fs k).2 ≤ (aAt fs i).2) ∧ (∀ i, i < k → z ≤ (aAt fs i).2 → (aAt fs k).2 < (aAt fs i).2)
  | 0, _ => Or.inl ⟨rfl, fun i hi => absurd hi (Nat.not_lt_zero _)⟩
  | n + 1, hn => by
    rw [leastL_next (by omega)]
    rcases leastL_take z fs n (by omega) with ⟨h1, h2⟩ | ⟨k, h1, h2, h3, h4, h5⟩
    · rw [h1]
      by_cases hz : z ≤ (aAt fs n).2
      · right
        refine ⟨n, ?_, Nat.lt_succ_self _, hz, fun i hi hzi => ?_, fun i hi hzi => absurd hzi (h2 i hi)⟩
        · unfold leastStep asks; simp [hz]
        · rcases Nat.lt_or_eq_of_le (Nat.le_of_lt_succ hi) with h | h
          · exact absurd hzi (h2 i h)
          · rw [h]; exact Int.le_refl _
      · left
        refine ⟨by unfold leastStep asks; simp [hz], fun i hi => ?_⟩
        rcases Nat.lt_or_eq_of_le (Nat.le_of_lt_succ hi) with h | h
        · exact h2 i h
        · rw [h]; exact hz
    · rw [h1]
      right
      by_cases hz : z ≤ (aAt fs n).2 ∧ (aAt fs n).2 < (aAt fs k).2
      · refine ⟨n, ?_, Nat.lt_succ_self _, hz.1, fun i hi hzi => ?_, fun i hi hzi => ?_⟩
        · unfold leastStep asks; simp [hz.1, hz.2]
        · rcases Nat.lt_or_eq_of_le (Nat.le_of_lt_succ hi) with h | h
          · have := h4 i h hzi; omega
          · rw [h]; exact Int.le_refl _
        · have := h4 i hi hzi; omega
      · refine ⟨k, ?_, by omega, h3, fun i hi hzi => ?_, h5⟩
        · unfold leastStep asks
          by_cases hz1 : z ≤ (aAt fs n).2
          · have : ¬ (aAt fs n).2 < (aAt fs k).2 := fun h => hz ⟨hz1, h⟩
            simp [hz1, this]
          · simp [hz1]
        · rcases Nat.lt_or_eq_of_le (Nat.le_of_lt_succ hi) with h | h
          · exact h4 i h hzi
          · rw [h] at hzi ⊢
            have : ¬ (aAt fs n).2 < (aAt fs k).2 := fun h => hz ⟨hzi, h⟩
            omega
theorem leastL_spec (z : Int) (fs : List Bl) : (leastL (asks z) fs = none ∧ ∀ i, i < fs.length → ¬ z ≤ (aAt fs i).2) ∨ ∃ k, leastL (asks z) fs = some (aAt fs k) ∧ Least z fs k := by
  rcases leastL_take z fs fs.length (Nat.le_refl _) with h | ⟨k, h1, h2, h3, h4, h5⟩
  · rw [List.take_length] at h; exact Or.inl h
  · rw [List.take_length] at h1
    exact Or.inr ⟨k, h1, h2, h3, h4, h5⟩

/-- What Take leaves, where there is a block. -/
def takeUs (z : Int) (us : List Bl) (x : Bl) : List Bl := insB (x.1, (halves z x.1 31 x.2).1) us
def takeFs (z : Int) (fs : List Bl) (x : Bl) : List Bl := insAll (noB x fs) (halves z x.1 31 x.2).2
end Go.Proofs.Ytomhfnjnmhdpkaa
