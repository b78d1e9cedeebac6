/-
  poll.Check, taskmillref.DescFault.
-/
import Derived.Test.YtmghfedlpndpiaaE
import Derived.LoopN
namespace Go.Proofs.Ytmghfedlpndpiaa
open Go.RowKit

/-- What is wrong with a descriptor. -/
def descF (c r0 r1 : Bool) (t0 t1 u0 u1 : Int) : Int × Int := if wr c r0 t0 u0 ≠ 0 then (wr c r0 t0 u0, 0) else if wr c r1 t1 u1 ≠ 0 then (wr c r1 t1 u1, 1) else if 0 < t0 ∧ t0 = t1 then (10, 1) else (0, 0)

set_option maxRecDepth 100000 in
set_option maxHeartbeats 2000000 in
theorem check_any (w : World) (c r0 r1 : Bool) (t0 t1 u0 u1 : Int) (F0 F1 : Int) (hF : descF c r0 r1 t0 t1 u0 u1 = (F0, F1)) :
    Calls Try.prog 6 #[.agg #[.bool c, .bool r0, .bool r1, .int .i64 t0, .int .i64 t1, .int .i64 u0, .int .i64 u1]] w fun e w' => e = .returned (.agg #[.int .i64 F0, .int .i64 F1]) ∧ Below w.heap.size w w' := by
  unfold descF at hF
  have HW0 : Hid (∀ W, Calls Try.prog 18 #[.agg #[.bool c, .bool r0, .bool r1, .int .i64 t0, .int .i64 t1, .int .i64 u0, .int .i64 u1], .int .i64 0] W fun e w' => e = .returned (.int .i64 (wr c r0 t0 u0)) ∧ Below W.heap.size W w') := fun W => wrongOn0_any W c r0 r1 t0 t1 u0 u1
  have HW1 : Hid (∀ W, Calls Try.prog 18 #[.agg #[.bool c, .bool r0, .bool r1, .int .i64 t0, .int .i64 t1, .int .i64 u0, .int .i64 u1], .int .i64 1] W fun e w' => e = .returned (.int .i64 (wr c r1 t1 u1)) ∧ Below W.heap.size W w') := fun W => wrongOn1_any W c r0 r1 t0 t1 u0 u1
  obtain ⟨K0, eK0⟩ : ∃ K, wr c r0 t0 u0 = K := ⟨_, rfl⟩
  obtain ⟨K1, eK1⟩ : ∃ K, wr c r1 t1 u1 = K := ⟨_, rfl⟩
  rw [eK0] at HW0 hF; rw [eK1] at HW1 hF
  have HF := hide hF
  clear eK0 eK1 hF
  obtain ⟨W0, e0, hB, k0, k1⟩ := two_new w (.cells #[.bool c, .bool r0, .bool r1, .int .i64 t0, .int .i64 t1, .int .i64 u0, .int .i64 u1] 25) (.cells #[.int .i64 0, .int .i64 0] 27)
  have HX := hide hB; have HE := hide e0; have HD := hide k0; have HG := hide k1
  clear hB e0 k0 k1
  go_enter Try.func6, Try.ntmps6
  go_upto_region 1 with fail
  rw [unhide HE]
  clear HE
  obtain ⟨⟨p0, p1, p2, p3, p4, p5, p6⟩, -, pl⟩ := block7 (unhide HD)
  go_wp2
  refine wp_loop_rounds 3 ?_
  rw [rounds_succ]
  by_cases h0 : K0 = 0
  · have x0 : (K0 != 0) = false := by simpa using h0
    go_wp2_with (go_at_call 18; refine (unhide HW0 _).mono ?_; rintro e w1 ⟨rfl, hb1⟩; have HX1 := hide (Below.next (unhide HX) hb1 (Nat.le_refl _)); have HD1 := hide (keep_below (unhide HD) hb1); have HG1 := hide (keep_below (unhide HG) hb1); clear hb1 p0 p1 p2 p3 p4 p5 p6 pl HX HD HG; obtain ⟨⟨p0, p1, p2, p3, p4, p5, p6⟩, -, pl⟩ := block7 (unhide HD1))
    rw [rounds_succ]
    by_cases h1 : K1 = 0
    · have x1 : (K1 != 0) = false := by simpa using h1
      go_wp2_with (go_at_call 18; refine (unhide HW1 _).mono ?_; rintro e w2 ⟨rfl, hb2⟩; have HX2 := hide (Below.next (unhide HX1) hb2 (Nat.le_refl _)); have HD2 := hide (keep_below (unhide HD1) hb2); have HG2 := hide (keep_below (unhide HG1) hb2); clear hb2 p0 p1 p2 p3 p4 p5 p6 pl HX1 HD1 HG1; obtain ⟨⟨p0, p1, p2, p3, p4, p5, p6⟩, -, pl⟩ := block7 (unhide HD2))
      rw [rounds_succ]
      obtain ⟨g0, g1, gf0, gf1, gl⟩ := block2 (unhide HG2)
      have hr := unhide HF
      rw [if_neg (by simp [h0]), if_neg (by simp [h1])] at hr
      clear HF HW0 HW1
      by_cases h2 : 0 < t0
      · by_cases h3 : t0 = t1
        · rw [if_pos ⟨h2, h3⟩] at hr
          cases hr
          have x3 : (t0 == t1) = true := by simpa using h3
          clear h3
          go_wp2_with fail
          exact bodyPost_ret (v := .agg #[.int .i64 10, .int .i64 1]) (by simp [results, Try.results6, go_sem, g0, g1]) rfl ⟨rfl, below_set2 (unhide HX2) (by omega) _ _⟩
        · rw [if_neg (fun h => h3 h.2)] at hr
          cases hr
          have x3 : (t0 == t1) = false := by simpa using h3
          clear h3
          go_wp2_with fail
          exact bodyPost_ret (v := .agg #[.int .i64 0, .int .i64 0]) (by simp [results, Try.results6, go_sem, g0, g1]) rfl ⟨rfl, below_set2 (unhide HX2) (by omega) _ _⟩
      · rw [if_neg (fun h => h2 h.1)] at hr
        cases hr
        go_wp2_with fail
        exact bodyPost_ret (v := .agg #[.int .i64 0, .int .i64 0]) (by simp [results, Try.results6, go_sem, g0, g1]) rfl ⟨rfl, below_set2 (unhide HX2) (by omega) _ _⟩
    · have x1 : (K1 != 0) = true := by simpa using h1
      have hr := unhide HF
      rw [if_neg (by simp [h0]), if_pos h1] at hr
      cases hr
      go_wp2_with (go_at_call 18; refine (unhide HW1 _).mono ?_; rintro e w2 ⟨rfl, hb2⟩; have HX2 := hide (Below.next (unhide HX1) hb2 (Nat.le_refl _)); have HG2 := hide (keep_below (unhide HG1) hb2); clear hb2 p0 p1 p2 p3 p4 p5 p6 pl HX1 HD1 HG1; obtain ⟨g0, g1, gf0, gf1, gl⟩ := block2 (unhide HG2))
      exact bodyPost_ret (v := .agg #[.int .i64 F0, .int .i64 1]) (by simp [results, Try.results6, go_sem, g0, g1]) rfl ⟨rfl, below_set2 (unhide HX2) (by omega) _ _⟩
  · have x0 : (K0 != 0) = true := by simpa using h0
    have hr := unhide HF
    rw [if_pos h0] at hr
    cases hr
    go_wp2_with (go_at_call 18; refine (unhide HW0 _).mono ?_; rintro e w1 ⟨rfl, hb1⟩; have HX1 := hide (Below.next (unhide HX) hb1 (Nat.le_refl _)); have HG1 := hide (keep_below (unhide HG) hb1); clear hb1 p0 p1 p2 p3 p4 p5 p6 pl HX HD HG; obtain ⟨g0, g1, gf0, gf1, gl⟩ := block2 (unhide HG1))
    exact bodyPost_ret (v := .agg #[.int .i64 F0, .int .i64 0]) (by simp [results, Try.results6, go_sem, g0, g1]) rfl ⟨rfl, below_set2 (unhide HX1) (by omega) _ _⟩

end Go.Proofs.Ytmghfedlpndpiaa
