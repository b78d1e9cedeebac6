/-
  taskmilllaw.lockBegun.
-/
import Derived.Test.YtdpcbmekplcllaaO
namespace Go.Proofs.Ytdpcbmekplcllaa
open Go.RowKit

theorem begun_leave : leaveR ⟨0, true, [(2, false, 0), (3, true, 0), (4, false, 0)]⟩ true = ((⟨1, false, [(3, true, 0), (4, false, 0)]⟩, [2]), false) := by rfl
theorem begun_good : (lockF ⟨0, true, [(2, false, 0), (3, true, 0), (4, false, 0)]⟩).1 = 0 := by decide

set_option maxRecDepth 100000 in
set_option maxHeartbeats 1000000 in
theorem begun_any (w : World) : Calls Try.prog 8 #[] w fun e w' => e = .returned (.bool true) ∧ Below w.heap.size w w' := by
  obtain ⟨W0, e0, hB, k0, k1⟩ := two_new w (.cells #[.int .i64 2, .bool false, .int .i64 0, .int .i64 3, .bool true, .int .i64 0, .int .i64 4, .bool false, .int .i64 0] 41) (.cells #[.int .i64 0, .bool true, .slice (some ⟨w.heap.size, 0, none⟩) 3 3] 24)
  have HIL : Hid (IsL KP W0 (.slice (some ⟨w.heap.size, 0, none⟩) 3 3) [(2, false, 0), (3, true, 0), (4, false, 0)]) := isl_built kp (xs := [(2, false, 0), (3, true, 0), (4, false, 0)]) k0
  have HLV : Hid (Calls Try.prog 20 #[.agg #[.int .i64 0, .bool true, .slice (some ⟨w.heap.size, 0, none⟩) 3 3], .bool true] W0 fun e w' => ∃ a c a' c', e = .returned (.tuple #[.agg #[.int .i64 1, .bool false, .slice a 2 c], .slice a' 1 c', .bool false, .agg #[.int .i64 0, .int .i64 0]]) ∧ IsL KI w' (.slice a' 1 c') [2] ∧ Below W0.heap.size W0 w') := (leave_ok W0 _ ⟨0, true, [(2, false, 0), (3, true, 0), (4, false, 0)]⟩ true ⟨_, rfl, unhide HIL⟩ begun_good).mono fun e w' ⟨v1, v2, h1, h2, h3, h4⟩ => by
    rw [begun_leave] at h1 h2 h3
    obtain ⟨a, c, rfl, -⟩ := h2.form
    obtain ⟨a', c', rfl⟩ := h3.1.form
    exact ⟨a, c, a', c', h1, h3.1, h4⟩
  have HX := hide hB; have HP := hide k1; have HE := hide e0
  clear hB k0 k1 e0 HIL
  go_enter Try.func8, Try.ntmps8
  go_upto_region 2 with fail
  rw [unhide HE]
  clear HE
  obtain ⟨⟨p0, p1, p2⟩, ⟨pf0, pf1, pf2⟩, pl⟩ := block3 (unhide HP)
  go_upto_region 3 with (go_at_call 20; refine (unhide HLV).mono ?_; rintro e w1 ⟨a, c, a', c', rfl, hi1, hb1⟩; have HI1 := hide hi1; have HX_1 := hide (Below.next (unhide HX) hb1 (by first | exact Nat.le_refl _ | (have := unhide HBA; omega))); have Kp_1 := hide (keep_below (unhide HP) hb1); clear HX HP; clear hb1 hi1 p0 p1 p2 pf0 pf1 pf2 pl)
  obtain ⟨W2, eW2, hBW2, k0_2, k1_2⟩ := two_new w1 (.cells #[.int .i64 1, .bool false, .slice a 2 c] 24) (.cells #[.int .i64 0, .int .i64 0] 28)
  rw [eW2]
  clear eW2
  have hlp_m : w.heap.size + 1 < w1.heap.size := size_of (unhide Kp_1)
  (have HX_2 := hide (Below.next (unhide HX_1) hBW2 (by first | exact Nat.le_refl _ | (have := unhide HBA; omega))); have Kp_2 := hide (keep_below (unhide Kp_1) hBW2); have FI_2 := hide ((unhide HI1).below hBW2); clear HX_1 Kp_1 HI1)
  obtain ⟨M, eM⟩ : ∃ X, w1.heap.size = X := ⟨_, rfl⟩
  rw [eM] at k0_2 k1_2 hlp_m ⊢
  have Km_2 := hide k0_2
  have Kf_2 := hide k1_2
  clear eM hBW2 k0_2 k1_2
  obtain ⟨⟨m0, m1, m2⟩, ⟨mf0, mf1, mf2⟩, ml⟩ := block3 (unhide Km_2)
  obtain ⟨f0, f1, ff0, ff1, fl⟩ := block2 (unhide Kf_2)
  have HI3 := hide (isl_one ki W2 2)
  have HI2 := hide ((unhide FI_2).below ((Below.refl _ _).alloc (Nat.le_refl _) (.cells #[.int .i64 2] 3)))
  have HX3 := hide ((unhide HX_2).alloc (unhide HX_2).size (.cells #[.int .i64 2] 3))
  have HM3 := hide (keep_alloc (unhide Km_2) (.cells #[.int .i64 2] 3))
  go_wp2_with (go_at_call 22; refine (ints_same _ _ _ [2] (unhide HI2) (unhide HI3) (by decide)).mono ?_; rintro e w3 ⟨rfl, hb3⟩; have HX4 := hide (Below.next (unhide HX3) hb3 (Nat.le_refl _)); have HM4 := hide (keep_below (unhide HM3) hb3); clear hb3 m0 m1 m2 mf0 mf1 mf2 ml; obtain ⟨⟨m0, m1, m2⟩, -, ml⟩ := block3 (unhide HM4))
  go_ret
  exact ⟨rfl, unhide HX4⟩
end Go.Proofs.Ytdpcbmekplcllaa
