/-
  taskmilllaw.PollWaits, put together.
-/
import Derived.Test.YtmghfedlpndpiaaWa
import Derived.Test.YtmghfedlpndpiaaWb0
import Derived.Test.YtmghfedlpndpiaaWb1
import Derived.Test.YtmghfedlpndpiaaWc0
import Derived.Test.YtmghfedlpndpiaaWc1
import Derived.Test.YtmghfedlpndpiaaWd0
import Derived.Test.YtmghfedlpndpiaaWd1
namespace Go.Proofs.Ytmghfedlpndpiaa
open Go.RowKit

theorem wr_zero {c r : Bool} {t u : Int} (h : wr c r t u = 0) : ¬ t < 0 ∧ ¬ u < 0 ∧ ¬ 1000000000 < u ∧ (c = true → r = false ∧ t = 0 ∧ u = 0) ∧ (r = true → t = 0) := by
  unfold wr at h
  split at h
  · cases h
  · rename_i h1
    split at h
    · cases h
    · rename_i h2
      refine ⟨by omega, by omega, by omega, ?_, ?_⟩
      · rintro rfl
        cases r with
        | true => exact absurd (Or.inl ⟨rfl, Or.inl rfl⟩) h2
        | false =>
          refine ⟨rfl, ?_, ?_⟩
          · by_cases ht : t = 0
            · exact ht
            · exact absurd (Or.inl ⟨rfl, Or.inr (Or.inl ht)⟩) h2
          · by_cases hu : u = 0
            · exact hu
            · exact absurd (Or.inl ⟨rfl, Or.inr (Or.inr hu)⟩) h2
      · rintro rfl
        by_cases ht : t = 0
        · exact ht
        · exact absurd (Or.inr ⟨rfl, ht⟩) h2
theorem descF_zero {c r0 r1 : Bool} {t0 t1 u0 u1 C1 : Int} (h : descF c r0 r1 t0 t1 u0 u1 = (0, C1)) : C1 = 0 ∧ wr c r0 t0 u0 = 0 ∧ wr c r1 t1 u1 = 0 ∧ ¬ (0 < t0 ∧ t0 = t1) := by
  unfold descF at h
  split at h
  · rename_i h1
    exact absurd (congrArg Prod.fst h) h1
  · split at h
    · rename_i h2
      exact absurd (congrArg Prod.fst h) h2
    · split at h
      · cases h
      · rename_i h1 h2 h3
        exact ⟨(congrArg Prod.snd h).symm, Decidable.not_not.1 h1, Decidable.not_not.1 h2, h3⟩
theorem onF_zero {C0 C1 way O1 : Int} (h : onF (C0, C1) way = (0, O1)) : C0 = 0 ∧ O1 = 0 ∧ (way = 0 ∨ way = 1) := by
  unfold onF at h
  split at h
  · rename_i h1
    exact absurd (congrArg Prod.fst h) h1
  · split at h
    · cases h
    · rename_i h1 h2
      exact ⟨Decidable.not_not.1 h1, (congrArg Prod.snd h).symm, by omega⟩

theorem waits_walk (w : World) (c r0 r1 : Bool) (t0 t1 u0 u1 way task now : Int) :
    Calls Try.prog 3 #[.agg #[.bool c, .bool r0, .bool r1, .int .i64 t0, .int .i64 t1, .int .i64 u0, .int .i64 u1], .int .i64 way, .int .i64 task, .int .i64 now] w fun e w' => e = .returned (.bool true) ∧ Below w.heap.size w w' := by
  obtain ⟨⟨C0, C1⟩, hC⟩ : ∃ C, descF c r0 r1 t0 t1 u0 u1 = C := ⟨_, rfl⟩
  obtain ⟨⟨O0, O1⟩, hO⟩ : ∃ O, onF (C0, C1) way = O := ⟨_, rfl⟩
  by_cases hbad : O0 ≠ 0
  · exact waits_bad w c r0 r1 t0 t1 u0 u1 way task now C0 C1 O0 O1 hC hO hbad
  obtain rfl : O0 = 0 := Decidable.not_not.1 hbad
  obtain ⟨rfl, rfl, hway⟩ := onF_zero hO
  obtain ⟨rfl, hw0, hw1, htw⟩ := descF_zero hC
  obtain ⟨a0, b0, d0, e0, f0⟩ := wr_zero hw0
  obtain ⟨a1, b1, d1, e1, f1⟩ := wr_zero hw1
  cases c with
  | true =>
    obtain ⟨rfl, rfl, rfl⟩ := e0 rfl
    obtain ⟨rfl, rfl, rfl⟩ := e1 rfl
    rcases hway with rfl | rfl
    · by_cases h1 : task < 1
      · exact waits0_task_true w task now hC h1
      by_cases h2 : now < 0
      · exact waits0_now0_true w task now hC h1 h2
      by_cases h3 : 1000000000 < now
      · exact waits0_now9_true w task now hC h1 h2 h3
      exact waits0_closed_true w task now hC h1 h2 h3 (by omega)
    · by_cases h1 : task < 1
      · exact waits1_task_true w task now hC h1
      by_cases h2 : now < 0
      · exact waits1_now0_true w task now hC h1 h2
      by_cases h3 : 1000000000 < now
      · exact waits1_now9_true w task now hC h1 h2 h3
      exact waits1_closed_true w task now hC h1 h2 h3 (by omega)
  | false =>
    rcases hway with rfl | rfl
    · by_cases h1 : task < 1
      · exact waits0_task_false w r0 r1 t0 t1 u0 u1 task now hC h1
      by_cases h2 : now < 0
      · exact waits0_now0_false w r0 r1 t0 t1 u0 u1 task now hC h1 h2
      by_cases h3 : 1000000000 < now
      · exact waits0_now9_false w r0 r1 t0 t1 u0 u1 task now hC h1 h2 h3
      by_cases h4 : 0 < t0
      · exact waits0_state_false w r0 r1 t0 t1 u0 u1 task now hC h1 h2 h3 h4
      obtain rfl : t0 = 0 := by omega
      by_cases h5 : t1 = task
      · exact waits0_twice_false w r0 r1 t1 u0 u1 task now hC h1 h2 h3 h5
      cases hl : late u0 now with
      | true => exact waits0_late_false w r0 r1 t1 u0 u1 task now hC h1 h2 h3 h5 hl
      | false =>
        cases r0 with
        | true => exact waits0_ready_false w r1 t1 u0 u1 task now hC h1 h2 h3 h5 hl
        | false => exact waits0_waits_false w r1 t1 u0 u1 task now hC h1 h2 h3 h5 hl
    · by_cases h1 : task < 1
      · exact waits1_task_false w r0 r1 t0 t1 u0 u1 task now hC h1
      by_cases h2 : now < 0
      · exact waits1_now0_false w r0 r1 t0 t1 u0 u1 task now hC h1 h2
      by_cases h3 : 1000000000 < now
      · exact waits1_now9_false w r0 r1 t0 t1 u0 u1 task now hC h1 h2 h3
      by_cases h4 : 0 < t1
      · exact waits1_state_false w r0 r1 t0 t1 u0 u1 task now hC h1 h2 h3 h4
      obtain rfl : t1 = 0 := by omega
      by_cases h5 : t0 = task
      · exact waits1_twice_false w r0 r1 t0 u0 u1 task now hC h1 h2 h3 h5
      cases hl : late u1 now with
      | true => exact waits1_late_false w r0 r1 t0 u0 u1 task now hC h1 h2 h3 h5 hl
      | false =>
        cases r1 with
        | true => exact waits1_ready_false w r0 t0 u0 u1 task now hC h1 h2 h3 h5 hl
        | false => exact waits1_waits_false w r0 t0 u0 u1 task now hC h1 h2 h3 h5 hl

end Go.Proofs.Ytmghfedlpndpiaa
