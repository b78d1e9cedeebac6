/-
  taskmilllaw.PollTimes, put together.
-/
import Derived.Test.YtmghfedlpndpiaaTj
import Derived.Test.YtmghfedlpndpiaaTk0
import Derived.Test.YtmghfedlpndpiaaTk1
import Derived.Test.YtmghfedlpndpiaaTl0
import Derived.Test.YtmghfedlpndpiaaTl1
import Derived.Test.YtmghfedlpndpiaaTm0
import Derived.Test.YtmghfedlpndpiaaTm1
namespace Go.Proofs.Ytmghfedlpndpiaa
open Go.RowKit

theorem times_walk (w : World) (c r0 r1 : Bool) (t0 t1 u0 u1 way whn now : Int) :
    Calls Try.prog 4 #[.agg #[.bool c, .bool r0, .bool r1, .int .i64 t0, .int .i64 t1, .int .i64 u0, .int .i64 u1], .int .i64 way, .int .i64 whn, .int .i64 now] w fun e w' => e = .returned (.bool true) ∧ Below w.heap.size w w' := by
  obtain ⟨⟨C0, C1⟩, hC⟩ : ∃ C, descF c r0 r1 t0 t1 u0 u1 = C := ⟨_, rfl⟩
  obtain ⟨⟨O0, O1⟩, hO⟩ : ∃ O, onF (C0, C1) way = O := ⟨_, rfl⟩
  obtain ⟨⟨⟨b0, b1, b2, b3, b4, b5, b6⟩, L, G0, G1⟩, hR1⟩ : ∃ r, tickR c r0 r1 t0 t1 u0 u1 now (C0, C1) = r := ⟨_, rfl⟩
  obtain ⟨⟨c0, M, p⟩, hR2⟩ : ∃ r, closeR c t0 t1 (C0, C1) = r := ⟨_, rfl⟩
  by_cases hbad : O0 ≠ 0
  · exact times_bad w c r0 r1 t0 t1 u0 u1 way whn now C0 C1 O0 O1 b0 b1 b2 b3 b4 b5 b6 L G0 G1 c0 M p hC hO hbad hR1 hR2
  obtain rfl : O0 = 0 := Decidable.not_not.1 hbad
  obtain ⟨rfl, rfl, hway⟩ := onF_zero hO
  obtain ⟨rfl, hw0, hw1, htw⟩ := descF_zero hC
  obtain ⟨a0, d0, f0, e0, g0⟩ := wr_zero hw0
  obtain ⟨a1, d1, f1, e1, g1⟩ := wr_zero hw1
  rcases hway with rfl | rfl
  · by_cases h1 : whn < 0
    · exact times0_w0 w c r0 r1 t0 t1 u0 u1 whn now b0 b1 b2 b3 b4 b5 b6 L G0 G1 c0 M p hC h1 hR1 hR2
    by_cases h2 : 1000000000 < whn
    · exact times0_w9 w c r0 r1 t0 t1 u0 u1 whn now b0 b1 b2 b3 b4 b5 b6 L G0 G1 c0 M p hC h1 h2 hR1 hR2
    by_cases h3 : now < 0
    · exact times0_n0 w c r0 r1 t0 t1 u0 u1 whn now b0 b1 b2 b3 b4 b5 b6 L G0 G1 c0 M p hC h1 h2 h3 hR1 hR2
    by_cases h4 : 1000000000 < now
    · exact times0_n9 w c r0 r1 t0 t1 u0 u1 whn now b0 b1 b2 b3 b4 b5 b6 L G0 G1 c0 M p hC h1 h2 h3 h4 hR1 hR2
    cases c with
    | true =>
      obtain ⟨rfl, rfl, rfl⟩ := e0 rfl
      obtain ⟨rfl, rfl, rfl⟩ := e1 rfl
      exact times0_cl w whn now b0 b1 b2 b3 b4 b5 b6 L G0 G1 c0 M p hC h1 h2 h3 h4 hR1 hR2
    | false =>
      cases h5 : late whn now with
      | true => exact times0_late w r0 r1 t0 t1 u0 u1 whn now b0 b1 b2 b3 b4 b5 b6 L G0 G1 c0 M p hC h1 h2 h3 h4 h5 hR1 hR2
      | false => exact times0_not w r0 r1 t0 t1 u0 u1 whn now b0 b1 b2 b3 b4 b5 b6 L G0 G1 c0 M p hC h1 h2 h3 h4 h5 hR1 hR2
  · by_cases h1 : whn < 0
    · exact times1_w0 w c r0 r1 t0 t1 u0 u1 whn now b0 b1 b2 b3 b4 b5 b6 L G0 G1 c0 M p hC h1 hR1 hR2
    by_cases h2 : 1000000000 < whn
    · exact times1_w9 w c r0 r1 t0 t1 u0 u1 whn now b0 b1 b2 b3 b4 b5 b6 L G0 G1 c0 M p hC h1 h2 hR1 hR2
    by_cases h3 : now < 0
    · exact times1_n0 w c r0 r1 t0 t1 u0 u1 whn now b0 b1 b2 b3 b4 b5 b6 L G0 G1 c0 M p hC h1 h2 h3 hR1 hR2
    by_cases h4 : 1000000000 < now
    · exact times1_n9 w c r0 r1 t0 t1 u0 u1 whn now b0 b1 b2 b3 b4 b5 b6 L G0 G1 c0 M p hC h1 h2 h3 h4 hR1 hR2
    cases c with
    | true =>
      obtain ⟨rfl, rfl, rfl⟩ := e0 rfl
      obtain ⟨rfl, rfl, rfl⟩ := e1 rfl
      exact times1_cl w whn now b0 b1 b2 b3 b4 b5 b6 L G0 G1 c0 M p hC h1 h2 h3 h4 hR1 hR2
    | false =>
      cases h5 : late whn now with
      | true => exact times1_late w r0 r1 t0 t1 u0 u1 whn now b0 b1 b2 b3 b4 b5 b6 L G0 G1 c0 M p hC h1 h2 h3 h4 h5 hR1 hR2
      | false => exact times1_not w r0 r1 t0 t1 u0 u1 whn now b0 b1 b2 b3 b4 b5 b6 L G0 G1 c0 M p hC h1 h2 h3 h4 h5 hR1 hR2

end Go.Proofs.Ytmghfedlpndpiaa
