/-
  taskmillref.DescFault.
-/
import Derived.Test.YtmghfedlpndpiaaG
namespace Go.Proofs.Ytmghfedlpndpiaa
open Go.RowKit

theorem dleaf0 {c r0 r1 : Bool} {t0 t1 u0 u1 : Int} (_ha0 : t0 < 0) : descF c r0 r1 t0 t1 u0 u1 = (3, 0) := by
  simp [descF, wr, *] <;> omega
theorem dleaf1 {c r0 r1 : Bool} {t0 t1 u0 u1 : Int} (_ha0 : ¬ t0 < 0) (_hb0 : u0 < 0) : descF c r0 r1 t0 t1 u0 u1 = (3, 0) := by
  simp [descF, wr, *] <;> omega
theorem dleaf2 {c r0 r1 : Bool} {t0 t1 u0 u1 : Int} (_ha0 : ¬ t0 < 0) (_hb0 : ¬ u0 < 0) (_hd0 : 1000000000 < u0) : descF c r0 r1 t0 t1 u0 u1 = (3, 0) := by
  simp [descF, wr, *] <;> omega
theorem dleaf3 {r1 : Bool} {t0 t1 u0 u1 : Int} (_ha0 : ¬ t0 < 0) (_hb0 : ¬ u0 < 0) (_hd0 : ¬ 1000000000 < u0) : descF true true r1 t0 t1 u0 u1 = (5, 0) := by
  simp [descF, wr, *] <;> omega
theorem dleaf4 {r1 : Bool} {t0 t1 u0 u1 : Int} (_ha0 : ¬ t0 < 0) (_hb0 : ¬ u0 < 0) (_hd0 : ¬ 1000000000 < u0) (_hn0 : t0 ≠ 0) : descF true false r1 t0 t1 u0 u1 = (5, 0) := by
  simp [descF, wr, *] <;> omega
theorem dleaf5 {r1 : Bool} {t0 t1 u0 u1 : Int} (_ha0 : ¬ t0 < 0) (_hb0 : ¬ u0 < 0) (_hd0 : ¬ 1000000000 < u0) (_hz0 : t0 = 0) (_hm0 : u0 ≠ 0) : descF true false r1 t0 t1 u0 u1 = (5, 0) := by
  simp [descF, wr, *] <;> omega
theorem dleaf6 {r1 : Bool} {t0 t1 u0 u1 : Int} (_ha0 : ¬ t0 < 0) (_hb0 : ¬ u0 < 0) (_hd0 : ¬ 1000000000 < u0) (_hz0 : t0 = 0) (_hy0 : u0 = 0) (_ha1 : t1 < 0) : descF true false r1 t0 t1 u0 u1 = (3, 1) := by
  simp [descF, wr, *] <;> omega
theorem dleaf7 {r1 : Bool} {t0 t1 u0 u1 : Int} (_ha0 : ¬ t0 < 0) (_hb0 : ¬ u0 < 0) (_hd0 : ¬ 1000000000 < u0) (_hz0 : t0 = 0) (_hy0 : u0 = 0) (_ha1 : ¬ t1 < 0) (_hb1 : u1 < 0) : descF true false r1 t0 t1 u0 u1 = (3, 1) := by
  simp [descF, wr, *] <;> omega
theorem dleaf8 {r1 : Bool} {t0 t1 u0 u1 : Int} (_ha0 : ¬ t0 < 0) (_hb0 : ¬ u0 < 0) (_hd0 : ¬ 1000000000 < u0) (_hz0 : t0 = 0) (_hy0 : u0 = 0) (_ha1 : ¬ t1 < 0) (_hb1 : ¬ u1 < 0) (_hd1 : 1000000000 < u1) : descF true false r1 t0 t1 u0 u1 = (3, 1) := by
  simp [descF, wr, *] <;> omega
theorem dleaf9 {t0 t1 u0 u1 : Int} (_ha0 : ¬ t0 < 0) (_hb0 : ¬ u0 < 0) (_hd0 : ¬ 1000000000 < u0) (_hz0 : t0 = 0) (_hy0 : u0 = 0) (_ha1 : ¬ t1 < 0) (_hb1 : ¬ u1 < 0) (_hd1 : ¬ 1000000000 < u1) : descF true false true t0 t1 u0 u1 = (5, 1) := by
  simp [descF, wr, *] <;> omega
theorem dleaf10 {t0 t1 u0 u1 : Int} (_ha0 : ¬ t0 < 0) (_hb0 : ¬ u0 < 0) (_hd0 : ¬ 1000000000 < u0) (_hz0 : t0 = 0) (_hy0 : u0 = 0) (_ha1 : ¬ t1 < 0) (_hb1 : ¬ u1 < 0) (_hd1 : ¬ 1000000000 < u1) (_hn1 : t1 ≠ 0) : descF true false false t0 t1 u0 u1 = (5, 1) := by
  simp [descF, wr, *] <;> omega
theorem dleaf11 {t0 t1 u0 u1 : Int} (_ha0 : ¬ t0 < 0) (_hb0 : ¬ u0 < 0) (_hd0 : ¬ 1000000000 < u0) (_hz0 : t0 = 0) (_hy0 : u0 = 0) (_ha1 : ¬ t1 < 0) (_hb1 : ¬ u1 < 0) (_hd1 : ¬ 1000000000 < u1) (_hz1 : t1 = 0) (_hm1 : u1 ≠ 0) : descF true false false t0 t1 u0 u1 = (5, 1) := by
  simp [descF, wr, *] <;> omega
theorem dleaf12 {t0 t1 u0 u1 : Int} (_ha0 : ¬ t0 < 0) (_hb0 : ¬ u0 < 0) (_hd0 : ¬ 1000000000 < u0) (_hz0 : t0 = 0) (_hy0 : u0 = 0) (_ha1 : ¬ t1 < 0) (_hb1 : ¬ u1 < 0) (_hd1 : ¬ 1000000000 < u1) (_hz1 : t1 = 0) (_hy1 : u1 = 0) (_hq1 : ¬ 0 < t0) : descF true false false t0 t1 u0 u1 = (0, 0) := by
  simp [descF, wr, *] <;> omega
theorem dleaf13 {r1 : Bool} {t0 t1 u0 u1 : Int} (_ha0 : ¬ t0 < 0) (_hb0 : ¬ u0 < 0) (_hd0 : ¬ 1000000000 < u0) (_hn0 : t0 ≠ 0) : descF false true r1 t0 t1 u0 u1 = (5, 0) := by
  simp [descF, wr, *] <;> omega
theorem dleaf14 {r1 : Bool} {t0 t1 u0 u1 : Int} (_ha0 : ¬ t0 < 0) (_hb0 : ¬ u0 < 0) (_hd0 : ¬ 1000000000 < u0) (_hz0 : t0 = 0) (_ha1 : t1 < 0) : descF false true r1 t0 t1 u0 u1 = (3, 1) := by
  simp [descF, wr, *] <;> omega
theorem dleaf15 {r1 : Bool} {t0 t1 u0 u1 : Int} (_ha0 : ¬ t0 < 0) (_hb0 : ¬ u0 < 0) (_hd0 : ¬ 1000000000 < u0) (_hz0 : t0 = 0) (_ha1 : ¬ t1 < 0) (_hb1 : u1 < 0) : descF false true r1 t0 t1 u0 u1 = (3, 1) := by
  simp [descF, wr, *] <;> omega
theorem dleaf16 {r1 : Bool} {t0 t1 u0 u1 : Int} (_ha0 : ¬ t0 < 0) (_hb0 : ¬ u0 < 0) (_hd0 : ¬ 1000000000 < u0) (_hz0 : t0 = 0) (_ha1 : ¬ t1 < 0) (_hb1 : ¬ u1 < 0) (_hd1 : 1000000000 < u1) : descF false true r1 t0 t1 u0 u1 = (3, 1) := by
  simp [descF, wr, *] <;> omega
theorem dleaf17 {t0 t1 u0 u1 : Int} (_ha0 : ¬ t0 < 0) (_hb0 : ¬ u0 < 0) (_hd0 : ¬ 1000000000 < u0) (_hz0 : t0 = 0) (_ha1 : ¬ t1 < 0) (_hb1 : ¬ u1 < 0) (_hd1 : ¬ 1000000000 < u1) (_hn1 : t1 ≠ 0) : descF false true true t0 t1 u0 u1 = (5, 1) := by
  simp [descF, wr, *] <;> omega
theorem dleaf18 {t0 t1 u0 u1 : Int} (_ha0 : ¬ t0 < 0) (_hb0 : ¬ u0 < 0) (_hd0 : ¬ 1000000000 < u0) (_hz0 : t0 = 0) (_ha1 : ¬ t1 < 0) (_hb1 : ¬ u1 < 0) (_hd1 : ¬ 1000000000 < u1) (_hz1 : t1 = 0) (_hq1 : ¬ 0 < t0) : descF false true true t0 t1 u0 u1 = (0, 0) := by
  simp [descF, wr, *] <;> omega
theorem dleaf19 {t0 t1 u0 u1 : Int} (_ha0 : ¬ t0 < 0) (_hb0 : ¬ u0 < 0) (_hd0 : ¬ 1000000000 < u0) (_hz0 : t0 = 0) (_ha1 : ¬ t1 < 0) (_hb1 : ¬ u1 < 0) (_hd1 : ¬ 1000000000 < u1) (_hq1 : ¬ 0 < t0) : descF false true false t0 t1 u0 u1 = (0, 0) := by
  simp [descF, wr, *] <;> omega
theorem dleaf20 {r1 : Bool} {t0 t1 u0 u1 : Int} (_ha0 : ¬ t0 < 0) (_hb0 : ¬ u0 < 0) (_hd0 : ¬ 1000000000 < u0) (_ha1 : t1 < 0) : descF false false r1 t0 t1 u0 u1 = (3, 1) := by
  simp [descF, wr, *] <;> omega
theorem dleaf21 {r1 : Bool} {t0 t1 u0 u1 : Int} (_ha0 : ¬ t0 < 0) (_hb0 : ¬ u0 < 0) (_hd0 : ¬ 1000000000 < u0) (_ha1 : ¬ t1 < 0) (_hb1 : u1 < 0) : descF false false r1 t0 t1 u0 u1 = (3, 1) := by
  simp [descF, wr, *] <;> omega
theorem dleaf22 {r1 : Bool} {t0 t1 u0 u1 : Int} (_ha0 : ¬ t0 < 0) (_hb0 : ¬ u0 < 0) (_hd0 : ¬ 1000000000 < u0) (_ha1 : ¬ t1 < 0) (_hb1 : ¬ u1 < 0) (_hd1 : 1000000000 < u1) : descF false false r1 t0 t1 u0 u1 = (3, 1) := by
  simp [descF, wr, *] <;> omega
theorem dleaf23 {t0 t1 u0 u1 : Int} (_ha0 : ¬ t0 < 0) (_hb0 : ¬ u0 < 0) (_hd0 : ¬ 1000000000 < u0) (_ha1 : ¬ t1 < 0) (_hb1 : ¬ u1 < 0) (_hd1 : ¬ 1000000000 < u1) (_hn1 : t1 ≠ 0) : descF false false true t0 t1 u0 u1 = (5, 1) := by
  simp [descF, wr, *] <;> omega
theorem dleaf24 {t0 t1 u0 u1 : Int} (_ha0 : ¬ t0 < 0) (_hb0 : ¬ u0 < 0) (_hd0 : ¬ 1000000000 < u0) (_ha1 : ¬ t1 < 0) (_hb1 : ¬ u1 < 0) (_hd1 : ¬ 1000000000 < u1) (_hz1 : t1 = 0) (_hq1 : 0 < t0) (_hq2 : ¬ t0 = t1) : descF false false true t0 t1 u0 u1 = (0, 0) := by
  simp [descF, wr, *] <;> omega
theorem dleaf25 {t0 t1 u0 u1 : Int} (_ha0 : ¬ t0 < 0) (_hb0 : ¬ u0 < 0) (_hd0 : ¬ 1000000000 < u0) (_ha1 : ¬ t1 < 0) (_hb1 : ¬ u1 < 0) (_hd1 : ¬ 1000000000 < u1) (_hz1 : t1 = 0) (_hq1 : ¬ 0 < t0) : descF false false true t0 t1 u0 u1 = (0, 0) := by
  simp [descF, wr, *] <;> omega
theorem dleaf26 {t0 t1 u0 u1 : Int} (_ha0 : ¬ t0 < 0) (_hb0 : ¬ u0 < 0) (_hd0 : ¬ 1000000000 < u0) (_ha1 : ¬ t1 < 0) (_hb1 : ¬ u1 < 0) (_hd1 : ¬ 1000000000 < u1) (_hq1 : 0 < t0) (_hq2 : t0 = t1) : descF false false false t0 t1 u0 u1 = (10, 1) := by
  simp [descF, wr, *] <;> omega
theorem dleaf27 {t0 t1 u0 u1 : Int} (_ha0 : ¬ t0 < 0) (_hb0 : ¬ u0 < 0) (_hd0 : ¬ 1000000000 < u0) (_ha1 : ¬ t1 < 0) (_hb1 : ¬ u1 < 0) (_hd1 : ¬ 1000000000 < u1) (_hq1 : 0 < t0) (_hq2 : ¬ t0 = t1) : descF false false false t0 t1 u0 u1 = (0, 0) := by
  simp [descF, wr, *] <;> omega
theorem dleaf28 {t0 t1 u0 u1 : Int} (_ha0 : ¬ t0 < 0) (_hb0 : ¬ u0 < 0) (_hd0 : ¬ 1000000000 < u0) (_ha1 : ¬ t1 < 0) (_hb1 : ¬ u1 < 0) (_hd1 : ¬ 1000000000 < u1) (_hq1 : ¬ 0 < t0) : descF false false false t0 t1 u0 u1 = (0, 0) := by
  simp [descF, wr, *] <;> omega

set_option maxRecDepth 100000 in
set_option maxHeartbeats 8000000 in
theorem descFault_any (w : World) (c r0 r1 : Bool) (t0 t1 u0 u1 : Int) (F0 F1 : Int) (hF : descF c r0 r1 t0 t1 u0 u1 = (F0, F1)) :
    Calls Try.prog 10 #[.agg #[.bool c, .bool r0, .bool r1, .int .i64 t0, .int .i64 t1, .int .i64 u0, .int .i64 u1]] w fun e w' => e = .returned (.agg #[.int .i64 F0, .int .i64 F1]) ∧ Below w.heap.size w w' := by
  have HF := hide hF
  clear hF
  obtain ⟨W0, e0, hB, k0, k1⟩ := two_new w (.cells #[.bool c, .bool r0, .bool r1, .int .i64 t0, .int .i64 t1, .int .i64 u0, .int .i64 u1] 25) (.cells #[.int .i64 0, .int .i64 0] 27)
  have HX := hide hB; have HE := hide e0; have HD := hide k0; have HG := hide k1
  clear hB e0 k0 k1
  go_enter Try.func10, Try.ntmps10
  go_upto_region 1 with fail
  rw [unhide HE]
  clear HE
  obtain ⟨⟨p0, p1, p2, p3, p4, p5, p6⟩, -, pl⟩ := block7 (unhide HD)
  go_wp2
  refine wp_loop_rounds 3 ?_
  rw [rounds_succ]
  by_cases a0 : t0 < 0
  · skip
    have hr : ((3 : Int), (0 : Int)) = (F0, F1) := (dleaf0 (by omega)).symm.trans (unhide HF)
    cases hr
    go_wp2_with (go_at_call 12; refine (f_any _ _ _).mono ?_; rintro e w1 ⟨rfl, hb1⟩; have HX1 := hide (Below.next (unhide HX) hb1 (Nat.le_refl _)); have HG1 := hide (keep_below (unhide HG) hb1); clear hb1 p0 p1 p2 p3 p4 p5 p6 pl HX HD HG; obtain ⟨g0, g1, gf0, gf1, gl⟩ := block2 (unhide HG1))
    exact bodyPost_ret (v := .agg #[.int .i64 3, .int .i64 0]) (by simp [results, Try.results10, go_sem, g0, g1]) rfl ⟨rfl, below_set2 (unhide HX1) (by omega) _ _⟩
  by_cases b0 : u0 < 0
  · skip
    have hr : ((3 : Int), (0 : Int)) = (F0, F1) := (dleaf1 (by omega) (by omega)).symm.trans (unhide HF)
    cases hr
    go_wp2_with (go_at_call 12; refine (f_any _ _ _).mono ?_; rintro e w1 ⟨rfl, hb1⟩; have HX1 := hide (Below.next (unhide HX) hb1 (Nat.le_refl _)); have HG1 := hide (keep_below (unhide HG) hb1); clear hb1 p0 p1 p2 p3 p4 p5 p6 pl HX HD HG; obtain ⟨g0, g1, gf0, gf1, gl⟩ := block2 (unhide HG1))
    exact bodyPost_ret (v := .agg #[.int .i64 3, .int .i64 0]) (by simp [results, Try.results10, go_sem, g0, g1]) rfl ⟨rfl, below_set2 (unhide HX1) (by omega) _ _⟩
  by_cases d0 : 1000000000 < u0
  · skip
    have hr : ((3 : Int), (0 : Int)) = (F0, F1) := (dleaf2 (by omega) (by omega) (by omega)).symm.trans (unhide HF)
    cases hr
    go_wp2_with (go_at_call 12; refine (f_any _ _ _).mono ?_; rintro e w1 ⟨rfl, hb1⟩; have HX1 := hide (Below.next (unhide HX) hb1 (Nat.le_refl _)); have HG1 := hide (keep_below (unhide HG) hb1); clear hb1 p0 p1 p2 p3 p4 p5 p6 pl HX HD HG; obtain ⟨g0, g1, gf0, gf1, gl⟩ := block2 (unhide HG1))
    exact bodyPost_ret (v := .agg #[.int .i64 3, .int .i64 0]) (by simp [results, Try.results10, go_sem, g0, g1]) rfl ⟨rfl, below_set2 (unhide HX1) (by omega) _ _⟩
  cases c with
  | true =>
    cases r0 with
    | true =>
      have hr : ((5 : Int), (0 : Int)) = (F0, F1) := (dleaf3 (by omega) (by omega) (by omega)).symm.trans (unhide HF)
      cases hr
      go_wp2_with (go_at_call 12; refine (f_any _ _ _).mono ?_; rintro e w1 ⟨rfl, hb1⟩; have HX1 := hide (Below.next (unhide HX) hb1 (Nat.le_refl _)); have HG1 := hide (keep_below (unhide HG) hb1); clear hb1 p0 p1 p2 p3 p4 p5 p6 pl HX HD HG; obtain ⟨g0, g1, gf0, gf1, gl⟩ := block2 (unhide HG1))
      exact bodyPost_ret (v := .agg #[.int .i64 5, .int .i64 0]) (by simp [results, Try.results10, go_sem, g0, g1]) rfl ⟨rfl, below_set2 (unhide HX1) (by omega) _ _⟩
    | false =>
      by_cases e0 : 0 < t0
      · have n0 : t0 ≠ 0 := by omega
        have hr : ((5 : Int), (0 : Int)) = (F0, F1) := (dleaf4 (by omega) (by omega) (by omega) (by omega)).symm.trans (unhide HF)
        cases hr
        go_wp2_with (go_at_call 12; refine (f_any _ _ _).mono ?_; rintro e w1 ⟨rfl, hb1⟩; have HX1 := hide (Below.next (unhide HX) hb1 (Nat.le_refl _)); have HG1 := hide (keep_below (unhide HG) hb1); clear hb1 p0 p1 p2 p3 p4 p5 p6 pl HX HD HG; obtain ⟨g0, g1, gf0, gf1, gl⟩ := block2 (unhide HG1))
        exact bodyPost_ret (v := .agg #[.int .i64 5, .int .i64 0]) (by simp [results, Try.results10, go_sem, g0, g1]) rfl ⟨rfl, below_set2 (unhide HX1) (by omega) _ _⟩
      have z0 : t0 = 0 := by omega
      by_cases g0 : 0 < u0
      · have m0 : u0 ≠ 0 := by omega
        have hr : ((5 : Int), (0 : Int)) = (F0, F1) := (dleaf5 (by omega) (by omega) (by omega) (by omega) (by omega)).symm.trans (unhide HF)
        cases hr
        go_wp2_with (go_at_call 12; refine (f_any _ _ _).mono ?_; rintro e w1 ⟨rfl, hb1⟩; have HX1 := hide (Below.next (unhide HX) hb1 (Nat.le_refl _)); have HG1 := hide (keep_below (unhide HG) hb1); clear hb1 p0 p1 p2 p3 p4 p5 p6 pl HX HD HG; obtain ⟨g0, g1, gf0, gf1, gl⟩ := block2 (unhide HG1))
        exact bodyPost_ret (v := .agg #[.int .i64 5, .int .i64 0]) (by simp [results, Try.results10, go_sem, g0, g1]) rfl ⟨rfl, below_set2 (unhide HX1) (by omega) _ _⟩
      have y0 : u0 = 0 := by omega
      go_wp2_with fail
      rw [rounds_succ]
      by_cases a1 : t1 < 0
      · skip
        have hr : ((3 : Int), (1 : Int)) = (F0, F1) := (dleaf6 (by omega) (by omega) (by omega) (by omega) (by omega) (by omega)).symm.trans (unhide HF)
        cases hr
        go_wp2_with (go_at_call 12; refine (f_any _ _ _).mono ?_; rintro e w1 ⟨rfl, hb1⟩; have HX1 := hide (Below.next (unhide HX) hb1 (Nat.le_refl _)); have HG1 := hide (keep_below (unhide HG) hb1); clear hb1 p0 p1 p2 p3 p4 p5 p6 pl HX HD HG; obtain ⟨g0, g1, gf0, gf1, gl⟩ := block2 (unhide HG1))
        exact bodyPost_ret (v := .agg #[.int .i64 3, .int .i64 1]) (by simp [results, Try.results10, go_sem, g0, g1]) rfl ⟨rfl, below_set2 (unhide HX1) (by omega) _ _⟩
      by_cases b1 : u1 < 0
      · skip
        have hr : ((3 : Int), (1 : Int)) = (F0, F1) := (dleaf7 (by omega) (by omega) (by omega) (by omega) (by omega) (by omega) (by omega)).symm.trans (unhide HF)
        cases hr
        go_wp2_with (go_at_call 12; refine (f_any _ _ _).mono ?_; rintro e w1 ⟨rfl, hb1⟩; have HX1 := hide (Below.next (unhide HX) hb1 (Nat.le_refl _)); have HG1 := hide (keep_below (unhide HG) hb1); clear hb1 p0 p1 p2 p3 p4 p5 p6 pl HX HD HG; obtain ⟨g0, g1, gf0, gf1, gl⟩ := block2 (unhide HG1))
        exact bodyPost_ret (v := .agg #[.int .i64 3, .int .i64 1]) (by simp [results, Try.results10, go_sem, g0, g1]) rfl ⟨rfl, below_set2 (unhide HX1) (by omega) _ _⟩
      by_cases d1 : 1000000000 < u1
      · skip
        have hr : ((3 : Int), (1 : Int)) = (F0, F1) := (dleaf8 (by omega) (by omega) (by omega) (by omega) (by omega) (by omega) (by omega) (by omega)).symm.trans (unhide HF)
        cases hr
        go_wp2_with (go_at_call 12; refine (f_any _ _ _).mono ?_; rintro e w1 ⟨rfl, hb1⟩; have HX1 := hide (Below.next (unhide HX) hb1 (Nat.le_refl _)); have HG1 := hide (keep_below (unhide HG) hb1); clear hb1 p0 p1 p2 p3 p4 p5 p6 pl HX HD HG; obtain ⟨g0, g1, gf0, gf1, gl⟩ := block2 (unhide HG1))
        exact bodyPost_ret (v := .agg #[.int .i64 3, .int .i64 1]) (by simp [results, Try.results10, go_sem, g0, g1]) rfl ⟨rfl, below_set2 (unhide HX1) (by omega) _ _⟩
      cases r1 with
      | true =>
        have hr : ((5 : Int), (1 : Int)) = (F0, F1) := (dleaf9 (by omega) (by omega) (by omega) (by omega) (by omega) (by omega) (by omega) (by omega)).symm.trans (unhide HF)
        cases hr
        go_wp2_with (go_at_call 12; refine (f_any _ _ _).mono ?_; rintro e w1 ⟨rfl, hb1⟩; have HX1 := hide (Below.next (unhide HX) hb1 (Nat.le_refl _)); have HG1 := hide (keep_below (unhide HG) hb1); clear hb1 p0 p1 p2 p3 p4 p5 p6 pl HX HD HG; obtain ⟨g0, g1, gf0, gf1, gl⟩ := block2 (unhide HG1))
        exact bodyPost_ret (v := .agg #[.int .i64 5, .int .i64 1]) (by simp [results, Try.results10, go_sem, g0, g1]) rfl ⟨rfl, below_set2 (unhide HX1) (by omega) _ _⟩
      | false =>
        by_cases e1 : 0 < t1
        · have n1 : t1 ≠ 0 := by omega
          have hr : ((5 : Int), (1 : Int)) = (F0, F1) := (dleaf10 (by omega) (by omega) (by omega) (by omega) (by omega) (by omega) (by omega) (by omega) (by omega)).symm.trans (unhide HF)
          cases hr
          go_wp2_with (go_at_call 12; refine (f_any _ _ _).mono ?_; rintro e w1 ⟨rfl, hb1⟩; have HX1 := hide (Below.next (unhide HX) hb1 (Nat.le_refl _)); have HG1 := hide (keep_below (unhide HG) hb1); clear hb1 p0 p1 p2 p3 p4 p5 p6 pl HX HD HG; obtain ⟨g0, g1, gf0, gf1, gl⟩ := block2 (unhide HG1))
          exact bodyPost_ret (v := .agg #[.int .i64 5, .int .i64 1]) (by simp [results, Try.results10, go_sem, g0, g1]) rfl ⟨rfl, below_set2 (unhide HX1) (by omega) _ _⟩
        have z1 : t1 = 0 := by omega
        by_cases g1 : 0 < u1
        · have m1 : u1 ≠ 0 := by omega
          have hr : ((5 : Int), (1 : Int)) = (F0, F1) := (dleaf11 (by omega) (by omega) (by omega) (by omega) (by omega) (by omega) (by omega) (by omega) (by omega) (by omega)).symm.trans (unhide HF)
          cases hr
          go_wp2_with (go_at_call 12; refine (f_any _ _ _).mono ?_; rintro e w1 ⟨rfl, hb1⟩; have HX1 := hide (Below.next (unhide HX) hb1 (Nat.le_refl _)); have HG1 := hide (keep_below (unhide HG) hb1); clear hb1 p0 p1 p2 p3 p4 p5 p6 pl HX HD HG; obtain ⟨g0, g1, gf0, gf1, gl⟩ := block2 (unhide HG1))
          exact bodyPost_ret (v := .agg #[.int .i64 5, .int .i64 1]) (by simp [results, Try.results10, go_sem, g0, g1]) rfl ⟨rfl, below_set2 (unhide HX1) (by omega) _ _⟩
        have y1 : u1 = 0 := by omega
        go_wp2_with fail
        rw [rounds_succ]
        obtain ⟨g0, g1, gf0, gf1, gl⟩ := block2 (unhide HG)
        have q1 : ¬ 0 < t0 := by omega
        have hr : ((0 : Int), (0 : Int)) = (F0, F1) := (dleaf12 (by omega) (by omega) (by omega) (by omega) (by omega) (by omega) (by omega) (by omega) (by omega) (by omega) (by omega)).symm.trans (unhide HF)
        cases hr
        skip
        go_wp2_with fail
        exact bodyPost_ret (v := .agg #[.int .i64 0, .int .i64 0]) (by simp [results, Try.results10, go_sem, g0, g1]) rfl ⟨rfl, below_set2 (unhide HX) (by omega) _ _⟩
  | false =>
    cases r0 with
    | true =>
      by_cases e0 : 0 < t0
      · have n0 : t0 ≠ 0 := by omega
        have hr : ((5 : Int), (0 : Int)) = (F0, F1) := (dleaf13 (by omega) (by omega) (by omega) (by omega)).symm.trans (unhide HF)
        cases hr
        go_wp2_with (go_at_call 12; refine (f_any _ _ _).mono ?_; rintro e w1 ⟨rfl, hb1⟩; have HX1 := hide (Below.next (unhide HX) hb1 (Nat.le_refl _)); have HG1 := hide (keep_below (unhide HG) hb1); clear hb1 p0 p1 p2 p3 p4 p5 p6 pl HX HD HG; obtain ⟨g0, g1, gf0, gf1, gl⟩ := block2 (unhide HG1))
        exact bodyPost_ret (v := .agg #[.int .i64 5, .int .i64 0]) (by simp [results, Try.results10, go_sem, g0, g1]) rfl ⟨rfl, below_set2 (unhide HX1) (by omega) _ _⟩
      have z0 : t0 = 0 := by omega
      go_wp2_with fail
      rw [rounds_succ]
      by_cases a1 : t1 < 0
      · skip
        have hr : ((3 : Int), (1 : Int)) = (F0, F1) := (dleaf14 (by omega) (by omega) (by omega) (by omega) (by omega)).symm.trans (unhide HF)
        cases hr
        go_wp2_with (go_at_call 12; refine (f_any _ _ _).mono ?_; rintro e w1 ⟨rfl, hb1⟩; have HX1 := hide (Below.next (unhide HX) hb1 (Nat.le_refl _)); have HG1 := hide (keep_below (unhide HG) hb1); clear hb1 p0 p1 p2 p3 p4 p5 p6 pl HX HD HG; obtain ⟨g0, g1, gf0, gf1, gl⟩ := block2 (unhide HG1))
        exact bodyPost_ret (v := .agg #[.int .i64 3, .int .i64 1]) (by simp [results, Try.results10, go_sem, g0, g1]) rfl ⟨rfl, below_set2 (unhide HX1) (by omega) _ _⟩
      by_cases b1 : u1 < 0
      · skip
        have hr : ((3 : Int), (1 : Int)) = (F0, F1) := (dleaf15 (by omega) (by omega) (by omega) (by omega) (by omega) (by omega)).symm.trans (unhide HF)
        cases hr
        go_wp2_with (go_at_call 12; refine (f_any _ _ _).mono ?_; rintro e w1 ⟨rfl, hb1⟩; have HX1 := hide (Below.next (unhide HX) hb1 (Nat.le_refl _)); have HG1 := hide (keep_below (unhide HG) hb1); clear hb1 p0 p1 p2 p3 p4 p5 p6 pl HX HD HG; obtain ⟨g0, g1, gf0, gf1, gl⟩ := block2 (unhide HG1))
        exact bodyPost_ret (v := .agg #[.int .i64 3, .int .i64 1]) (by simp [results, Try.results10, go_sem, g0, g1]) rfl ⟨rfl, below_set2 (unhide HX1) (by omega) _ _⟩
      by_cases d1 : 1000000000 < u1
      · skip
        have hr : ((3 : Int), (1 : Int)) = (F0, F1) := (dleaf16 (by omega) (by omega) (by omega) (by omega) (by omega) (by omega) (by omega)).symm.trans (unhide HF)
        cases hr
        go_wp2_with (go_at_call 12; refine (f_any _ _ _).mono ?_; rintro e w1 ⟨rfl, hb1⟩; have HX1 := hide (Below.next (unhide HX) hb1 (Nat.le_refl _)); have HG1 := hide (keep_below (unhide HG) hb1); clear hb1 p0 p1 p2 p3 p4 p5 p6 pl HX HD HG; obtain ⟨g0, g1, gf0, gf1, gl⟩ := block2 (unhide HG1))
        exact bodyPost_ret (v := .agg #[.int .i64 3, .int .i64 1]) (by simp [results, Try.results10, go_sem, g0, g1]) rfl ⟨rfl, below_set2 (unhide HX1) (by omega) _ _⟩
      cases r1 with
      | true =>
        by_cases e1 : 0 < t1
        · have n1 : t1 ≠ 0 := by omega
          have hr : ((5 : Int), (1 : Int)) = (F0, F1) := (dleaf17 (by omega) (by omega) (by omega) (by omega) (by omega) (by omega) (by omega) (by omega)).symm.trans (unhide HF)
          cases hr
          go_wp2_with (go_at_call 12; refine (f_any _ _ _).mono ?_; rintro e w1 ⟨rfl, hb1⟩; have HX1 := hide (Below.next (unhide HX) hb1 (Nat.le_refl _)); have HG1 := hide (keep_below (unhide HG) hb1); clear hb1 p0 p1 p2 p3 p4 p5 p6 pl HX HD HG; obtain ⟨g0, g1, gf0, gf1, gl⟩ := block2 (unhide HG1))
          exact bodyPost_ret (v := .agg #[.int .i64 5, .int .i64 1]) (by simp [results, Try.results10, go_sem, g0, g1]) rfl ⟨rfl, below_set2 (unhide HX1) (by omega) _ _⟩
        have z1 : t1 = 0 := by omega
        go_wp2_with fail
        rw [rounds_succ]
        obtain ⟨g0, g1, gf0, gf1, gl⟩ := block2 (unhide HG)
        have q1 : ¬ 0 < t0 := by omega
        have hr : ((0 : Int), (0 : Int)) = (F0, F1) := (dleaf18 (by omega) (by omega) (by omega) (by omega) (by omega) (by omega) (by omega) (by omega) (by omega)).symm.trans (unhide HF)
        cases hr
        skip
        go_wp2_with fail
        exact bodyPost_ret (v := .agg #[.int .i64 0, .int .i64 0]) (by simp [results, Try.results10, go_sem, g0, g1]) rfl ⟨rfl, below_set2 (unhide HX) (by omega) _ _⟩
      | false =>
        go_wp2_with fail
        rw [rounds_succ]
        obtain ⟨g0, g1, gf0, gf1, gl⟩ := block2 (unhide HG)
        have q1 : ¬ 0 < t0 := by omega
        have hr : ((0 : Int), (0 : Int)) = (F0, F1) := (dleaf19 (by omega) (by omega) (by omega) (by omega) (by omega) (by omega) (by omega) (by omega)).symm.trans (unhide HF)
        cases hr
        skip
        go_wp2_with fail
        exact bodyPost_ret (v := .agg #[.int .i64 0, .int .i64 0]) (by simp [results, Try.results10, go_sem, g0, g1]) rfl ⟨rfl, below_set2 (unhide HX) (by omega) _ _⟩
    | false =>
      go_wp2_with fail
      rw [rounds_succ]
      by_cases a1 : t1 < 0
      · skip
        have hr : ((3 : Int), (1 : Int)) = (F0, F1) := (dleaf20 (by omega) (by omega) (by omega) (by omega)).symm.trans (unhide HF)
        cases hr
        go_wp2_with (go_at_call 12; refine (f_any _ _ _).mono ?_; rintro e w1 ⟨rfl, hb1⟩; have HX1 := hide (Below.next (unhide HX) hb1 (Nat.le_refl _)); have HG1 := hide (keep_below (unhide HG) hb1); clear hb1 p0 p1 p2 p3 p4 p5 p6 pl HX HD HG; obtain ⟨g0, g1, gf0, gf1, gl⟩ := block2 (unhide HG1))
        exact bodyPost_ret (v := .agg #[.int .i64 3, .int .i64 1]) (by simp [results, Try.results10, go_sem, g0, g1]) rfl ⟨rfl, below_set2 (unhide HX1) (by omega) _ _⟩
      by_cases b1 : u1 < 0
      · skip
        have hr : ((3 : Int), (1 : Int)) = (F0, F1) := (dleaf21 (by omega) (by omega) (by omega) (by omega) (by omega)).symm.trans (unhide HF)
        cases hr
        go_wp2_with (go_at_call 12; refine (f_any _ _ _).mono ?_; rintro e w1 ⟨rfl, hb1⟩; have HX1 := hide (Below.next (unhide HX) hb1 (Nat.le_refl _)); have HG1 := hide (keep_below (unhide HG) hb1); clear hb1 p0 p1 p2 p3 p4 p5 p6 pl HX HD HG; obtain ⟨g0, g1, gf0, gf1, gl⟩ := block2 (unhide HG1))
        exact bodyPost_ret (v := .agg #[.int .i64 3, .int .i64 1]) (by simp [results, Try.results10, go_sem, g0, g1]) rfl ⟨rfl, below_set2 (unhide HX1) (by omega) _ _⟩
      by_cases d1 : 1000000000 < u1
      · skip
        have hr : ((3 : Int), (1 : Int)) = (F0, F1) := (dleaf22 (by omega) (by omega) (by omega) (by omega) (by omega) (by omega)).symm.trans (unhide HF)
        cases hr
        go_wp2_with (go_at_call 12; refine (f_any _ _ _).mono ?_; rintro e w1 ⟨rfl, hb1⟩; have HX1 := hide (Below.next (unhide HX) hb1 (Nat.le_refl _)); have HG1 := hide (keep_below (unhide HG) hb1); clear hb1 p0 p1 p2 p3 p4 p5 p6 pl HX HD HG; obtain ⟨g0, g1, gf0, gf1, gl⟩ := block2 (unhide HG1))
        exact bodyPost_ret (v := .agg #[.int .i64 3, .int .i64 1]) (by simp [results, Try.results10, go_sem, g0, g1]) rfl ⟨rfl, below_set2 (unhide HX1) (by omega) _ _⟩
      cases r1 with
      | true =>
        by_cases e1 : 0 < t1
        · have n1 : t1 ≠ 0 := by omega
          have hr : ((5 : Int), (1 : Int)) = (F0, F1) := (dleaf23 (by omega) (by omega) (by omega) (by omega) (by omega) (by omega) (by omega)).symm.trans (unhide HF)
          cases hr
          go_wp2_with (go_at_call 12; refine (f_any _ _ _).mono ?_; rintro e w1 ⟨rfl, hb1⟩; have HX1 := hide (Below.next (unhide HX) hb1 (Nat.le_refl _)); have HG1 := hide (keep_below (unhide HG) hb1); clear hb1 p0 p1 p2 p3 p4 p5 p6 pl HX HD HG; obtain ⟨g0, g1, gf0, gf1, gl⟩ := block2 (unhide HG1))
          exact bodyPost_ret (v := .agg #[.int .i64 5, .int .i64 1]) (by simp [results, Try.results10, go_sem, g0, g1]) rfl ⟨rfl, below_set2 (unhide HX1) (by omega) _ _⟩
        have z1 : t1 = 0 := by omega
        go_wp2_with fail
        rw [rounds_succ]
        obtain ⟨g0, g1, gf0, gf1, gl⟩ := block2 (unhide HG)
        by_cases q1 : 0 < t0
        · have q2 : ¬ t0 = t1 := by omega
          have q3 : (t0 == t1) = false := by simpa using q2
          have hr : ((0 : Int), (0 : Int)) = (F0, F1) := (dleaf24 (by omega) (by omega) (by omega) (by omega) (by omega) (by omega) (by omega) (by omega) (by omega)).symm.trans (unhide HF)
          cases hr
          clear q2
          go_wp2_with fail
          exact bodyPost_ret (v := .agg #[.int .i64 0, .int .i64 0]) (by simp [results, Try.results10, go_sem, g0, g1]) rfl ⟨rfl, below_set2 (unhide HX) (by omega) _ _⟩
        · skip
          have hr : ((0 : Int), (0 : Int)) = (F0, F1) := (dleaf25 (by omega) (by omega) (by omega) (by omega) (by omega) (by omega) (by omega) (by omega)).symm.trans (unhide HF)
          cases hr
          skip
          go_wp2_with fail
          exact bodyPost_ret (v := .agg #[.int .i64 0, .int .i64 0]) (by simp [results, Try.results10, go_sem, g0, g1]) rfl ⟨rfl, below_set2 (unhide HX) (by omega) _ _⟩
      | false =>
        go_wp2_with fail
        rw [rounds_succ]
        obtain ⟨g0, g1, gf0, gf1, gl⟩ := block2 (unhide HG)
        by_cases q1 : 0 < t0
        · by_cases q2 : t0 = t1
          · have q3 : (t0 == t1) = true := by simpa using q2
            have hr : ((10 : Int), (1 : Int)) = (F0, F1) := (dleaf26 (by omega) (by omega) (by omega) (by omega) (by omega) (by omega) (by omega) (by omega)).symm.trans (unhide HF)
            cases hr
            clear q2
            go_wp2_with (go_at_call 12; refine (f_any _ _ _).mono ?_; rintro e w1 ⟨rfl, hb1⟩; have HX1 := hide (Below.next (unhide HX) hb1 (Nat.le_refl _)); have HG1 := hide (keep_below (unhide HG) hb1); clear hb1 p0 p1 p2 p3 p4 p5 p6 pl g0 g1 gf0 gf1 gl HX HD HG; obtain ⟨g0, g1, gf0, gf1, gl⟩ := block2 (unhide HG1))
            exact bodyPost_ret (v := .agg #[.int .i64 10, .int .i64 1]) (by simp [results, Try.results10, go_sem, g0, g1]) rfl ⟨rfl, below_set2 (unhide HX1) (by omega) _ _⟩
          · have q3 : (t0 == t1) = false := by simpa using q2
            have hr : ((0 : Int), (0 : Int)) = (F0, F1) := (dleaf27 (by omega) (by omega) (by omega) (by omega) (by omega) (by omega) (by omega) (by omega)).symm.trans (unhide HF)
            cases hr
            clear q2
            go_wp2_with fail
            exact bodyPost_ret (v := .agg #[.int .i64 0, .int .i64 0]) (by simp [results, Try.results10, go_sem, g0, g1]) rfl ⟨rfl, below_set2 (unhide HX) (by omega) _ _⟩
        · skip
          have hr : ((0 : Int), (0 : Int)) = (F0, F1) := (dleaf28 (by omega) (by omega) (by omega) (by omega) (by omega) (by omega) (by omega)).symm.trans (unhide HF)
          cases hr
          skip
          go_wp2_with fail
          exact bodyPost_ret (v := .agg #[.int .i64 0, .int .i64 0]) (by simp [results, Try.results10, go_sem, g0, g1]) rfl ⟨rfl, below_set2 (unhide HX) (by omega) _ _⟩

end Go.Proofs.Ytmghfedlpndpiaa
