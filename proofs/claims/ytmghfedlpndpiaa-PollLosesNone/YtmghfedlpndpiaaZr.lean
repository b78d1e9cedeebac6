/-
  Descriptors of which nothing is wrong.
-/
import Derived.Test.YtmghfedlpndpiaaI
namespace Go.Proofs.Ytmghfedlpndpiaa
open Go.RowKit

theorem wr_zero {c r : Bool} {t u : Int} (h : wr c r t u = 0) : ¬ t < 0 ∧ ¬ u < 0 ∧ ¬ 1000000000 < u ∧ (c = true → r = false ∧ t = 0 ∧ u = 0) ∧ (r = true → t = 0) := by
  unfold wr at h
  split at h
  · cases h
  · rename_i h1
    split at h
    · cases h
    · rename_i h2
      refine ⟨by omega, by omega, by omega, ?_, ?_⟩
      · rintro rfl
        cases r with
        | true => exact absurd (Or.inl ⟨rfl, Or.inl rfl⟩) h2
        | false =>
          refine ⟨rfl, ?_, ?_⟩
          · by_cases ht : t = 0
            · exact ht
            · exact absurd (Or.inl ⟨rfl, Or.inr (Or.inl ht)⟩) h2
          · by_cases hu : u = 0
            · exact hu
            · exact absurd (Or.inl ⟨rfl, Or.inr (Or.inr hu)⟩) h2
      · rintro rfl
        by_cases ht : t = 0
        · exact ht
        · exact absurd (Or.inr ⟨rfl, ht⟩) h2
theorem descF_zero {c r0 r1 : Bool} {t0 t1 u0 u1 C1 : Int} (h : descF c r0 r1 t0 t1 u0 u1 = (0, C1)) : C1 = 0 ∧ wr c r0 t0 u0 = 0 ∧ wr c r1 t1 u1 = 0 ∧ ¬ (0 < t0 ∧ t0 = t1) := by
  unfold descF at h
  split at h
  · rename_i h1
    exact absurd (congrArg Prod.fst h) h1
  · split at h
    · rename_i h2
      exact absurd (congrArg Prod.fst h) h2
    · split at h
      · cases h
      · rename_i h1 h2 h3
        exact ⟨(congrArg Prod.snd h).symm, Decidable.not_not.1 h1, Decidable.not_not.1 h2, h3⟩
theorem onF_zero {C0 C1 way O1 : Int} (h : onF (C0, C1) way = (0, O1)) : C0 = 0 ∧ O1 = 0 ∧ (way = 0 ∨ way = 1) := by
  unfold onF at h
  split at h
  · rename_i h1
    exact absurd (congrArg Prod.fst h) h1
  · split at h
    · cases h
    · rename_i h1 h2
      exact ⟨Decidable.not_not.1 h1, (congrArg Prod.snd h).symm, by omega⟩

end Go.Proofs.Ytmghfedlpndpiaa
