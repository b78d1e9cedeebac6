/-
  sync.Await.
-/
import Derived.Test.YtpogcfdmkeebmaaO
namespace Go.Proofs.Ytpogcfdmkeebmaa
open Go.RowKit

set_option maxRecDepth 100000 in
set_option maxHeartbeats 2000000 in
theorem await_group (w : World) (v : Value) (c : Int) (xs : List Int) (x : Int) (h : IsG KI w v c xs) (hn : xs.length ≤ maxLen) (hf : (groupF c xs).1 ≠ 0) :
    Calls Try.prog 13 #[v, .int .i64 x] w fun e w' => e = .returned (.tuple #[.agg #[.int .i64 0, .slice none 0 0], .bool false, faultV (groupF c xs)]) ∧ Below w.heap.size w w' := by
  have HC : Hid (∀ W, Below w.heap.size w W → Calls Try.prog 36 #[v] W fun e w' => e = .returned (faultV (groupF c xs)) ∧ Below W.heap.size W w') := fun W hW => checkGroup_any W v c xs (h.below hW) hn
  obtain ⟨⟨F0, F1⟩, eF⟩ : ∃ F, groupF c xs = F := ⟨_, rfl⟩
  rw [eF] at HC hf ⊢
  obtain ⟨a0, c0, rfl, hL⟩ := h.form
  generalize xs.length = n at *
  have x0 : (F0 != 0) = true := by simpa using hf
  clear h hL eF hf hn
  obtain ⟨W0, e0, hB, k0, k1, k2⟩ := three_new w (.cells #[.int .i64 c, .slice a0 n c0] 24) (.cells #[.int .i64 0, .slice none 0 0] 24) (.cells #[.int .i64 0, .int .i64 0] 29)
  have HX := hide hB; have HP := hide k0; have HQ := hide k1; have HG := hide k2; have HE := hide e0
  clear hB k0 k1 k2 e0
  go_enter Try.func13, Try.ntmps13
  go_upto_region 1 with fail
  rw [unhide HE]
  clear HE
  obtain ⟨p0, p1, pf0, pf1, pl⟩ := block2 (unhide HP)
  go_upto_region 2 with (go_at_call 36; refine (unhide HC _ (unhide HX)).mono ?_; rintro e w1 ⟨he, hb1⟩; obtain rfl : e = .returned (.agg #[.int .i64 F0, .int .i64 F1]) := he; have HX_1 := hide (Below.next (unhide HX) hb1 (by first | exact Nat.le_refl _ | (have := unhide HBA; omega))); have Kp_1 := hide (keep_below (unhide HP) hb1); have Kq_1 := hide (keep_below (unhide HQ) hb1); have Kg_1 := hide (keep_below (unhide HG) hb1); clear HX HP HQ HG; clear hb1 p0 p1 pf0 pf1 pl)
  have HX_2 := hide ((unhide HX_1).alloc (Nat.le_trans (show w.heap.size ≤ w.heap.size from Nat.le_refl _) (unhide HX_1).size) (.cells #[.int .i64 F0, .int .i64 F1] 29))
  have Kp_2 := hide (keep_alloc (unhide Kp_1) (.cells #[.int .i64 F0, .int .i64 F1] 29))
  have Kq_2 := hide (keep_alloc (unhide Kq_1) (.cells #[.int .i64 F0, .int .i64 F1] 29))
  have Kg_2 := hide (keep_alloc (unhide Kg_1) (.cells #[.int .i64 F0, .int .i64 F1] 29))
  have Kf_2 := hide (new_block w1 (.cells #[.int .i64 F0, .int .i64 F1] 29))
  have hlp_f : w.heap.size < w1.heap.size := size_of (unhide Kp_1)
  have hlq_f : w.heap.size + 1 < w1.heap.size := size_of (unhide Kq_1)
  have hlg_f : w.heap.size + 1 + 1 < w1.heap.size := size_of (unhide Kg_1)
  obtain ⟨T, eT⟩ : ∃ X, w1.heap.size = X := ⟨_, rfl⟩
  obtain ⟨W2, eW2⟩ : ∃ X, w1.alloc (.cells #[.int .i64 F0, .int .i64 F1] 29) = X := ⟨_, rfl⟩
  rw [eT, eW2] at Kf_2; rw [eW2] at HX_2 Kp_2 Kq_2 Kg_2; rw [eT] at hlp_f hlq_f hlg_f; rw [eT, eW2]
  clear eT eW2 HX_1 Kp_1 Kq_1 Kg_1
  have hqt : w.heap.size + 1 + 1 < T := by omega
  obtain ⟨q0, q1, qf0, qf1, ql⟩ := block2 (unhide Kq_2)
  obtain ⟨g0, g1, gf0, gf1, gl⟩ := block2 (unhide Kg_2)
  obtain ⟨f0, f1, ff0, ff1, fl⟩ := block2 (unhide Kf_2)
  have u1_ : w.heap.size + 1 ≠ T := by omega
  have u2_ : w.heap.size + 1 + 1 ≠ T := by omega
  have u3_ : T ≠ w.heap.size + 1 := by omega
  have u4_ : T ≠ w.heap.size + 1 + 1 := by omega
  go_wp2_with fail
  go_region
  clear q0 q1 qf0 qf1 ql g0 g1 gf0 gf1 gl f0 f1 ff0 ff1 fl
  have HX_3 := hide (put2_below (y0 := .int .i64 0) (y1 := .slice none 0 0) (unhide HX_2) (show w.heap.size ≤ w.heap.size + 1 by first | omega | (have := unhide HBA; omega)))
  have Kp_3 := hide ((put2_keep (y0 := .int .i64 0) (y1 := .slice none 0 0) (show w.heap.size ≠ w.heap.size + 1 by omega)).trans (unhide Kp_2))
  have Kq_3 := hide (put2_new (y0 := .int .i64 0) (y1 := .slice none 0 0) (unhide Kq_2))
  have Kg_3 := hide ((put2_keep (y0 := .int .i64 0) (y1 := .slice none 0 0) (show w.heap.size + 1 + 1 ≠ w.heap.size + 1 by omega)).trans (unhide Kg_2))
  have Kf_3 := hide ((put2_keep (y0 := .int .i64 0) (y1 := .slice none 0 0) (show T ≠ w.heap.size + 1 by omega)).trans (unhide Kf_2))
  obtain ⟨V1, eV1⟩ : ∃ X, put2 W2 (w.heap.size + 1) (.int .i64 0) (.slice none 0 0) = X := ⟨_, rfl⟩
  rw [eV1] at HX_3 Kp_3 Kq_3 Kg_3 Kf_3
  have eV12 : ((W2).setCell ⟨w.heap.size + 1, 0, none⟩ (.int .i64 0)).setCell ⟨w.heap.size + 1, 1, none⟩ (.slice none 0 0) = V1 := eV1
  rw [eV12]
  clear eV1 eV12 HX_2 Kp_2 Kq_2 Kg_2 Kf_2
  have HX_4 := hide (put2_below (y0 := .int .i64 F0) (y1 := .int .i64 F1) (unhide HX_3) (show w.heap.size ≤ w.heap.size + 1 + 1 by first | omega | (have := unhide HBA; omega)))
  have Kp_4 := hide ((put2_keep (y0 := .int .i64 F0) (y1 := .int .i64 F1) (show w.heap.size ≠ w.heap.size + 1 + 1 by omega)).trans (unhide Kp_3))
  have Kq_4 := hide ((put2_keep (y0 := .int .i64 F0) (y1 := .int .i64 F1) (show w.heap.size + 1 ≠ w.heap.size + 1 + 1 by omega)).trans (unhide Kq_3))
  have Kg_4 := hide (put2_new (y0 := .int .i64 F0) (y1 := .int .i64 F1) (unhide Kg_3))
  have Kf_4 := hide ((put2_keep (y0 := .int .i64 F0) (y1 := .int .i64 F1) (show T ≠ w.heap.size + 1 + 1 by omega)).trans (unhide Kf_3))
  obtain ⟨V2, eV2⟩ : ∃ X, put2 V1 (w.heap.size + 1 + 1) (.int .i64 F0) (.int .i64 F1) = X := ⟨_, rfl⟩
  rw [eV2] at HX_4 Kp_4 Kq_4 Kg_4 Kf_4
  have eV22 : ((V1).setCell ⟨w.heap.size + 1 + 1, 0, none⟩ (.int .i64 F0)).setCell ⟨w.heap.size + 1 + 1, 1, none⟩ (.int .i64 F1) = V2 := eV2
  rw [eV22]
  clear eV2 eV22 HX_3 Kp_3 Kq_3 Kg_3 Kf_3
  have hV3 : Below V2.heap.size V2 V2.drew := (Below.refl _ _).drew
  obtain ⟨V3, eV3⟩ : ∃ X, V2.drew = X := ⟨_, rfl⟩
  rw [eV3] at hV3 ⊢
  (have HX_5 := hide (Below.next (unhide HX_4) hV3 (by first | exact Nat.le_refl _ | (have := unhide HBA; omega))); have Kp_5 := hide (keep_below (unhide Kp_4) hV3); have Kq_5 := hide (keep_below (unhide Kq_4) hV3); have Kg_5 := hide (keep_below (unhide Kg_4) hV3); have Kf_5 := hide (keep_below (unhide Kf_4) hV3); clear HX_4 Kp_4 Kq_4 Kg_4 Kf_4)
  clear hV3 eV3
  obtain ⟨q0, q1, qf0, qf1, ql⟩ := block2 (unhide Kq_5)
  obtain ⟨g0, g1, gf0, gf1, gl⟩ := block2 (unhide Kg_5)
  go_wp2_with fail
  exact bodyPost_ret (v := .tuple #[.agg #[.int .i64 0, .slice none 0 0], .bool false, .agg #[.int .i64 F0, .int .i64 F1]]) (by simp [results, Try.results13, go_sem, q0, q1, g0, g1]) rfl ⟨rfl, unhide HX_5⟩

set_option maxRecDepth 100000 in
set_option maxHeartbeats 2000000 in
theorem await_comes (w : World) (v : Value) (c : Int) (xs : List Int) (x : Int) (h : IsG KI w v c xs) (hg : (groupF c xs).1 = 0) (hf : (comesF xs x).1 ≠ 0) :
    Calls Try.prog 13 #[v, .int .i64 x] w fun e w' => e = .returned (.tuple #[.agg #[.int .i64 0, .slice none 0 0], .bool false, faultV (comesF xs x)]) ∧ Below w.heap.size w w' := by
  obtain ⟨hz, -, hl, -⟩ := groupF_good hg
  have HC : Hid (∀ W, Below w.heap.size w W → Calls Try.prog 36 #[v] W fun e w' => e = .returned (faultV (0, 0)) ∧ Below W.heap.size W w') := fun W hW => by
    have := checkGroup_any W v c xs (h.below hW) (by unfold maxLen; omega)
    rw [hz] at this
    exact this
  obtain ⟨a0, c0, rfl, hL⟩ := h.form
  have HC2 : Hid (∀ W, Below w.heap.size w W → Calls Try.prog 37 #[.slice a0 xs.length c0, .int .i64 x] W fun e w' => e = .returned (faultV (comesF xs x)) ∧ Below W.heap.size W w') := fun W hW => checkComes_any W _ xs x (hL.below hW) (by unfold maxLen; omega)
  obtain ⟨⟨F0, F1⟩, eF⟩ : ∃ F, comesF xs x = F := ⟨_, rfl⟩
  rw [eF] at HC2 hf ⊢
  generalize xs.length = n at *
  have x0 : (F0 != 0) = true := by simpa using hf
  clear h hL eF hf hg hz hl
  obtain ⟨W0, e0, hB, k0, k1, k2⟩ := three_new w (.cells #[.int .i64 c, .slice a0 n c0] 24) (.cells #[.int .i64 0, .slice none 0 0] 24) (.cells #[.int .i64 0, .int .i64 0] 29)
  have HX := hide hB; have HP := hide k0; have HQ := hide k1; have HG := hide k2; have HE := hide e0
  clear hB k0 k1 k2 e0
  go_enter Try.func13, Try.ntmps13
  go_upto_region 1 with fail
  rw [unhide HE]
  clear HE
  obtain ⟨p0, p1, pf0, pf1, pl⟩ := block2 (unhide HP)
  go_upto_region 2 with (go_at_call 36; refine (unhide HC _ (unhide HX)).mono ?_; rintro e w1 ⟨he, hb1⟩; obtain rfl : e = .returned (.agg #[.int .i64 0, .int .i64 0]) := he; have HX_1 := hide (Below.next (unhide HX) hb1 (by first | exact Nat.le_refl _ | (have := unhide HBA; omega))); have Kp_1 := hide (keep_below (unhide HP) hb1); have Kq_1 := hide (keep_below (unhide HQ) hb1); have Kg_1 := hide (keep_below (unhide HG) hb1); clear HX HP HQ HG; clear hb1 p0 p1 pf0 pf1 pl)
  have HX_2 := hide ((unhide HX_1).alloc (Nat.le_trans (show w.heap.size ≤ w.heap.size from Nat.le_refl _) (unhide HX_1).size) (.cells #[.int .i64 0, .int .i64 0] 29))
  have Kp_2 := hide (keep_alloc (unhide Kp_1) (.cells #[.int .i64 0, .int .i64 0] 29))
  have Kq_2 := hide (keep_alloc (unhide Kq_1) (.cells #[.int .i64 0, .int .i64 0] 29))
  have Kg_2 := hide (keep_alloc (unhide Kg_1) (.cells #[.int .i64 0, .int .i64 0] 29))
  have Kf_2 := hide (new_block w1 (.cells #[.int .i64 0, .int .i64 0] 29))
  have hlp_f : w.heap.size < w1.heap.size := size_of (unhide Kp_1)
  have hlq_f : w.heap.size + 1 < w1.heap.size := size_of (unhide Kq_1)
  have hlg_f : w.heap.size + 1 + 1 < w1.heap.size := size_of (unhide Kg_1)
  obtain ⟨T, eT⟩ : ∃ X, w1.heap.size = X := ⟨_, rfl⟩
  obtain ⟨W2, eW2⟩ : ∃ X, w1.alloc (.cells #[.int .i64 0, .int .i64 0] 29) = X := ⟨_, rfl⟩
  rw [eT, eW2] at Kf_2; rw [eW2] at HX_2 Kp_2 Kq_2 Kg_2; rw [eT] at hlp_f hlq_f hlg_f; rw [eT, eW2]
  clear eT eW2 HX_1 Kp_1 Kq_1 Kg_1
  have hqt : w.heap.size + 1 + 1 < T := by omega
  obtain ⟨p0, p1, pf0, pf1, pl⟩ := block2 (unhide Kp_2)
  obtain ⟨f0, f1, ff0, ff1, fl⟩ := block2 (unhide Kf_2)
  go_upto_region 5 with (go_at_call 37; refine (unhide HC2 _ (unhide HX_2)).mono ?_; rintro e w3 ⟨he, hb1⟩; obtain rfl : e = .returned (.agg #[.int .i64 F0, .int .i64 F1]) := he; have HX_3 := hide (Below.next (unhide HX_2) hb1 (by first | exact Nat.le_refl _ | (have := unhide HBA; omega))); have Kp_3 := hide (keep_below (unhide Kp_2) hb1); have Kq_3 := hide (keep_below (unhide Kq_2) hb1); have Kg_3 := hide (keep_below (unhide Kg_2) hb1); have Kf_3 := hide (keep_below (unhide Kf_2) hb1); clear HX_2 Kp_2 Kq_2 Kg_2 Kf_2; clear hb1 p0 p1 pf0 pf1 pl f0 f1 ff0 ff1 fl)
  have HX_4 := hide ((unhide HX_3).alloc (Nat.le_trans (show w.heap.size ≤ w.heap.size from Nat.le_refl _) (unhide HX_3).size) (.cells #[.int .i64 F0, .int .i64 F1] 29))
  have Kp_4 := hide (keep_alloc (unhide Kp_3) (.cells #[.int .i64 F0, .int .i64 F1] 29))
  have Kq_4 := hide (keep_alloc (unhide Kq_3) (.cells #[.int .i64 F0, .int .i64 F1] 29))
  have Kg_4 := hide (keep_alloc (unhide Kg_3) (.cells #[.int .i64 F0, .int .i64 F1] 29))
  have Kf_4 := hide (keep_alloc (unhide Kf_3) (.cells #[.int .i64 F0, .int .i64 F1] 29))
  have Kh_4 := hide (new_block w3 (.cells #[.int .i64 F0, .int .i64 F1] 29))
  have hlp_h : w.heap.size < w3.heap.size := size_of (unhide Kp_3)
  have hlq_h : w.heap.size + 1 < w3.heap.size := size_of (unhide Kq_3)
  have hlg_h : w.heap.size + 1 + 1 < w3.heap.size := size_of (unhide Kg_3)
  have hlf_h : T < w3.heap.size := size_of (unhide Kf_3)
  obtain ⟨T2, eT2⟩ : ∃ X, w3.heap.size = X := ⟨_, rfl⟩
  obtain ⟨W4, eW4⟩ : ∃ X, w3.alloc (.cells #[.int .i64 F0, .int .i64 F1] 29) = X := ⟨_, rfl⟩
  rw [eT2, eW4] at Kh_4; rw [eW4] at HX_4 Kp_4 Kq_4 Kg_4 Kf_4; rw [eT2] at hlp_h hlq_h hlg_h hlf_h; rw [eT2, eW4]
  clear eT2 eW4 HX_3 Kp_3 Kq_3 Kg_3 Kf_3
  have hqt2 : w.heap.size + 1 + 1 < T2 := by omega
  obtain ⟨q0, q1, qf0, qf1, ql⟩ := block2 (unhide Kq_4)
  obtain ⟨g0, g1, gf0, gf1, gl⟩ := block2 (unhide Kg_4)
  obtain ⟨f0, f1, ff0, ff1, fl⟩ := block2 (unhide Kh_4)
  have u1_ : w.heap.size + 1 ≠ T2 := by omega
  have u2_ : w.heap.size + 1 + 1 ≠ T2 := by omega
  have u3_ : T2 ≠ w.heap.size + 1 := by omega
  have u4_ : T2 ≠ w.heap.size + 1 + 1 := by omega
  go_wp2_with fail
  go_region
  clear q0 q1 qf0 qf1 ql g0 g1 gf0 gf1 gl f0 f1 ff0 ff1 fl
  have HX_5 := hide (put2_below (y0 := .int .i64 0) (y1 := .slice none 0 0) (unhide HX_4) (show w.heap.size ≤ w.heap.size + 1 by first | omega | (have := unhide HBA; omega)))
  have Kp_5 := hide ((put2_keep (y0 := .int .i64 0) (y1 := .slice none 0 0) (show w.heap.size ≠ w.heap.size + 1 by omega)).trans (unhide Kp_4))
  have Kq_5 := hide (put2_new (y0 := .int .i64 0) (y1 := .slice none 0 0) (unhide Kq_4))
  have Kg_5 := hide ((put2_keep (y0 := .int .i64 0) (y1 := .slice none 0 0) (show w.heap.size + 1 + 1 ≠ w.heap.size + 1 by omega)).trans (unhide Kg_4))
  have Kf_5 := hide ((put2_keep (y0 := .int .i64 0) (y1 := .slice none 0 0) (show T ≠ w.heap.size + 1 by omega)).trans (unhide Kf_4))
  have Kh_5 := hide ((put2_keep (y0 := .int .i64 0) (y1 := .slice none 0 0) (show T2 ≠ w.heap.size + 1 by omega)).trans (unhide Kh_4))
  obtain ⟨V1, eV1⟩ : ∃ X, put2 W4 (w.heap.size + 1) (.int .i64 0) (.slice none 0 0) = X := ⟨_, rfl⟩
  rw [eV1] at HX_5 Kp_5 Kq_5 Kg_5 Kf_5 Kh_5
  have eV12 : ((W4).setCell ⟨w.heap.size + 1, 0, none⟩ (.int .i64 0)).setCell ⟨w.heap.size + 1, 1, none⟩ (.slice none 0 0) = V1 := eV1
  rw [eV12]
  clear eV1 eV12 HX_4 Kp_4 Kq_4 Kg_4 Kf_4 Kh_4
  have HX_6 := hide (put2_below (y0 := .int .i64 F0) (y1 := .int .i64 F1) (unhide HX_5) (show w.heap.size ≤ w.heap.size + 1 + 1 by first | omega | (have := unhide HBA; omega)))
  have Kp_6 := hide ((put2_keep (y0 := .int .i64 F0) (y1 := .int .i64 F1) (show w.heap.size ≠ w.heap.size + 1 + 1 by omega)).trans (unhide Kp_5))
  have Kq_6 := hide ((put2_keep (y0 := .int .i64 F0) (y1 := .int .i64 F1) (show w.heap.size + 1 ≠ w.heap.size + 1 + 1 by omega)).trans (unhide Kq_5))
  have Kg_6 := hide (put2_new (y0 := .int .i64 F0) (y1 := .int .i64 F1) (unhide Kg_5))
  have Kf_6 := hide ((put2_keep (y0 := .int .i64 F0) (y1 := .int .i64 F1) (show T ≠ w.heap.size + 1 + 1 by omega)).trans (unhide Kf_5))
  have Kh_6 := hide ((put2_keep (y0 := .int .i64 F0) (y1 := .int .i64 F1) (show T2 ≠ w.heap.size + 1 + 1 by omega)).trans (unhide Kh_5))
  obtain ⟨V2, eV2⟩ : ∃ X, put2 V1 (w.heap.size + 1 + 1) (.int .i64 F0) (.int .i64 F1) = X := ⟨_, rfl⟩
  rw [eV2] at HX_6 Kp_6 Kq_6 Kg_6 Kf_6 Kh_6
  have eV22 : ((V1).setCell ⟨w.heap.size + 1 + 1, 0, none⟩ (.int .i64 F0)).setCell ⟨w.heap.size + 1 + 1, 1, none⟩ (.int .i64 F1) = V2 := eV2
  rw [eV22]
  clear eV2 eV22 HX_5 Kp_5 Kq_5 Kg_5 Kf_5 Kh_5
  have hV3 : Below V2.heap.size V2 V2.drew := (Below.refl _ _).drew
  obtain ⟨V3, eV3⟩ : ∃ X, V2.drew = X := ⟨_, rfl⟩
  rw [eV3] at hV3 ⊢
  (have HX_7 := hide (Below.next (unhide HX_6) hV3 (by first | exact Nat.le_refl _ | (have := unhide HBA; omega))); have Kp_7 := hide (keep_below (unhide Kp_6) hV3); have Kq_7 := hide (keep_below (unhide Kq_6) hV3); have Kg_7 := hide (keep_below (unhide Kg_6) hV3); have Kf_7 := hide (keep_below (unhide Kf_6) hV3); have Kh_7 := hide (keep_below (unhide Kh_6) hV3); clear HX_6 Kp_6 Kq_6 Kg_6 Kf_6 Kh_6)
  clear hV3 eV3
  obtain ⟨q0, q1, qf0, qf1, ql⟩ := block2 (unhide Kq_7)
  obtain ⟨g0, g1, gf0, gf1, gl⟩ := block2 (unhide Kg_7)
  go_wp2_with fail
  exact bodyPost_ret (v := .tuple #[.agg #[.int .i64 0, .slice none 0 0], .bool false, .agg #[.int .i64 F0, .int .i64 F1]]) (by simp [results, Try.results13, go_sem, q0, q1, g0, g1]) rfl ⟨rfl, unhide HX_7⟩

set_option maxRecDepth 100000 in
set_option maxHeartbeats 4000000 in
theorem await_ok (w : World) (v : Value) (c : Int) (xs : List Int) (x : Int) (h : IsG KI w v c xs) (hf : (awaitF c xs x).1 = 0) :
    Calls Try.prog 13 #[v, .int .i64 x] w fun e w' => ∃ v1, e = .returned (.tuple #[v1, .bool (awaitR c xs x).2, .agg #[.int .i64 0, .int .i64 0]]) ∧ NewG KI w.heap.size w' v1 (awaitR c xs x).1.1 (awaitR c xs x).1.2 ∧ Below w.heap.size w w' := by
  obtain ⟨hg, hc, -⟩ := awaitF_good hf
  obtain ⟨hz, -, hl, hc1, hc2, -⟩ := groupF_good hg
  obtain ⟨hz2, hx1, -, hl5⟩ := comesF_good hc
  have HC : Hid (∀ W, Below w.heap.size w W → Calls Try.prog 36 #[v] W fun e w' => e = .returned (faultV (0, 0)) ∧ Below W.heap.size W w') := fun W hW => by
    have := checkGroup_any W v c xs (h.below hW) (by unfold maxLen; omega)
    rw [hz] at this
    exact this
  obtain ⟨a0, c0, rfl, hL⟩ := h.form
  have HC2 : Hid (∀ W, Below w.heap.size w W → Calls Try.prog 37 #[.slice a0 xs.length c0, .int .i64 x] W fun e w' => e = .returned (faultV (0, 0)) ∧ Below W.heap.size W w') := fun W hW => by
    have := checkComes_any W _ xs x (hL.below hW) (by unfold maxLen; omega)
    rw [hz2] at this
    exact this
  have HFR : Hid (∀ W, Below w.heap.size w W → Calls Try.prog 35 #[.slice a0 xs.length c0] W fun e w' => ∃ a' c', e = .returned (.slice a' xs.length c') ∧ Own KI W.heap.size w' (.slice a' xs.length c') xs ∧ Below W.heap.size W w') := fun W hW => fresh_any W _ xs (hL.below hW) (by omega)
  obtain ⟨n, en⟩ : ∃ n, xs.length = n := ⟨_, rfl⟩
  have HER : Hid (c ≠ 0 → awaitR c xs x = ((c, xs ++ [x]), false)) := fun h => if_neg h
  rw [en] at HC HC2 HFR hl hl5 ⊢
  have HEN := hide en
  clear h hL hf hg hc hz hz2 en
  obtain ⟨W0, e0, hB, k0, k1, k2⟩ := three_new w (.cells #[.int .i64 c, .slice a0 n c0] 24) (.cells #[.int .i64 0, .slice none 0 0] 24) (.cells #[.int .i64 0, .int .i64 0] 29)
  have HX := hide hB; have HP := hide k0; have HQ := hide k1; have HG := hide k2; have HE := hide e0
  clear hB k0 k1 k2 e0
  go_enter Try.func13, Try.ntmps13
  go_upto_region 1 with fail
  rw [unhide HE]
  clear HE
  obtain ⟨p0, p1, pf0, pf1, pl⟩ := block2 (unhide HP)
  go_upto_region 2 with (go_at_call 36; refine (unhide HC _ (unhide HX)).mono ?_; rintro e w1 ⟨he, hb1⟩; obtain rfl : e = .returned (.agg #[.int .i64 0, .int .i64 0]) := he; have HX_1 := hide (Below.next (unhide HX) hb1 (by first | exact Nat.le_refl _ | (have := unhide HBA; omega))); have Kp_1 := hide (keep_below (unhide HP) hb1); have Kq_1 := hide (keep_below (unhide HQ) hb1); have Kg_1 := hide (keep_below (unhide HG) hb1); clear HX HP HQ HG; clear hb1 p0 p1 pf0 pf1 pl)
  have HX_2 := hide ((unhide HX_1).alloc (Nat.le_trans (show w.heap.size ≤ w.heap.size from Nat.le_refl _) (unhide HX_1).size) (.cells #[.int .i64 0, .int .i64 0] 29))
  have Kp_2 := hide (keep_alloc (unhide Kp_1) (.cells #[.int .i64 0, .int .i64 0] 29))
  have Kq_2 := hide (keep_alloc (unhide Kq_1) (.cells #[.int .i64 0, .int .i64 0] 29))
  have Kg_2 := hide (keep_alloc (unhide Kg_1) (.cells #[.int .i64 0, .int .i64 0] 29))
  have Kf_2 := hide (new_block w1 (.cells #[.int .i64 0, .int .i64 0] 29))
  have hlp_f : w.heap.size < w1.heap.size := size_of (unhide Kp_1)
  have hlq_f : w.heap.size + 1 < w1.heap.size := size_of (unhide Kq_1)
  have hlg_f : w.heap.size + 1 + 1 < w1.heap.size := size_of (unhide Kg_1)
  obtain ⟨T, eT⟩ : ∃ X, w1.heap.size = X := ⟨_, rfl⟩
  obtain ⟨W2, eW2⟩ : ∃ X, w1.alloc (.cells #[.int .i64 0, .int .i64 0] 29) = X := ⟨_, rfl⟩
  rw [eT, eW2] at Kf_2; rw [eW2] at HX_2 Kp_2 Kq_2 Kg_2; rw [eT] at hlp_f hlq_f hlg_f; rw [eT, eW2]
  clear eT eW2 HX_1 Kp_1 Kq_1 Kg_1
  have hqt : w.heap.size + 1 + 1 < T := by omega
  obtain ⟨p0, p1, pf0, pf1, pl⟩ := block2 (unhide Kp_2)
  obtain ⟨f0, f1, ff0, ff1, fl⟩ := block2 (unhide Kf_2)
  go_upto_region 5 with (go_at_call 37; refine (unhide HC2 _ (unhide HX_2)).mono ?_; rintro e w3 ⟨he, hb1⟩; obtain rfl : e = .returned (.agg #[.int .i64 0, .int .i64 0]) := he; have HX_3 := hide (Below.next (unhide HX_2) hb1 (by first | exact Nat.le_refl _ | (have := unhide HBA; omega))); have Kp_3 := hide (keep_below (unhide Kp_2) hb1); have Kq_3 := hide (keep_below (unhide Kq_2) hb1); have Kg_3 := hide (keep_below (unhide Kg_2) hb1); have Kf_3 := hide (keep_below (unhide Kf_2) hb1); clear HX_2 Kp_2 Kq_2 Kg_2 Kf_2; clear hb1 p0 p1 pf0 pf1 pl f0 f1 ff0 ff1 fl)
  have HX_4 := hide ((unhide HX_3).alloc (Nat.le_trans (show w.heap.size ≤ w.heap.size from Nat.le_refl _) (unhide HX_3).size) (.cells #[.int .i64 0, .int .i64 0] 29))
  have Kp_4 := hide (keep_alloc (unhide Kp_3) (.cells #[.int .i64 0, .int .i64 0] 29))
  have Kq_4 := hide (keep_alloc (unhide Kq_3) (.cells #[.int .i64 0, .int .i64 0] 29))
  have Kg_4 := hide (keep_alloc (unhide Kg_3) (.cells #[.int .i64 0, .int .i64 0] 29))
  have Kf_4 := hide (keep_alloc (unhide Kf_3) (.cells #[.int .i64 0, .int .i64 0] 29))
  have Kh_4 := hide (new_block w3 (.cells #[.int .i64 0, .int .i64 0] 29))
  have hlp_h : w.heap.size < w3.heap.size := size_of (unhide Kp_3)
  have hlq_h : w.heap.size + 1 < w3.heap.size := size_of (unhide Kq_3)
  have hlg_h : w.heap.size + 1 + 1 < w3.heap.size := size_of (unhide Kg_3)
  have hlf_h : T < w3.heap.size := size_of (unhide Kf_3)
  obtain ⟨T2, eT2⟩ : ∃ X, w3.heap.size = X := ⟨_, rfl⟩
  obtain ⟨W4, eW4⟩ : ∃ X, w3.alloc (.cells #[.int .i64 0, .int .i64 0] 29) = X := ⟨_, rfl⟩
  rw [eT2, eW4] at Kh_4; rw [eW4] at HX_4 Kp_4 Kq_4 Kg_4 Kf_4; rw [eT2] at hlp_h hlq_h hlg_h hlf_h; rw [eT2, eW4]
  clear eT2 eW4 HX_3 Kp_3 Kq_3 Kg_3 Kf_3
  have hqt2 : w.heap.size + 1 + 1 < T2 := by omega
  by_cases hq : c = 0
  · subst hq
    have HE1 : Hid (awaitR 0 xs x = ((0, []), true)) := rfl
    clear HER
    obtain ⟨p0, p1, pf0, pf1, pl⟩ := block2 (unhide Kp_4)
    obtain ⟨h0, h1, hf0, hf1, hl⟩ := block2 (unhide Kh_4)
    obtain ⟨q0, q1, qf0, qf1, ql⟩ := block2 (unhide Kq_4)
    obtain ⟨g0, g1, gf0, gf1, gl⟩ := block2 (unhide Kg_4)
    go_wp2_with fail
    clear p0 p1 pf0 pf1 pl h0 h1 hf0 hf1 hl q0 q1 qf0 qf1 ql g0 g1 gf0 gf1 gl
    have HX_a5 := hide (put2_below (y0 := .int .i64 0) (y1 := .slice none 0 0) (unhide HX_4) (show w.heap.size ≤ w.heap.size + 1 by first | omega | (have := unhide HBA; omega)))
    have Kp_a5 := hide ((put2_keep (y0 := .int .i64 0) (y1 := .slice none 0 0) (show w.heap.size ≠ w.heap.size + 1 by omega)).trans (unhide Kp_4))
    have Kq_a5 := hide (put2_new (y0 := .int .i64 0) (y1 := .slice none 0 0) (unhide Kq_4))
    have Kg_a5 := hide ((put2_keep (y0 := .int .i64 0) (y1 := .slice none 0 0) (show w.heap.size + 1 + 1 ≠ w.heap.size + 1 by omega)).trans (unhide Kg_4))
    have Kf_a5 := hide ((put2_keep (y0 := .int .i64 0) (y1 := .slice none 0 0) (show T ≠ w.heap.size + 1 by omega)).trans (unhide Kf_4))
    have Kh_a5 := hide ((put2_keep (y0 := .int .i64 0) (y1 := .slice none 0 0) (show T2 ≠ w.heap.size + 1 by omega)).trans (unhide Kh_4))
    obtain ⟨V1, eV1⟩ : ∃ X, put2 W4 (w.heap.size + 1) (.int .i64 0) (.slice none 0 0) = X := ⟨_, rfl⟩
    rw [eV1] at HX_a5 Kp_a5 Kq_a5 Kg_a5 Kf_a5 Kh_a5
    have eV12 : ((W4).setCell ⟨w.heap.size + 1, 0, none⟩ (.int .i64 0)).setCell ⟨w.heap.size + 1, 1, none⟩ (.slice none 0 0) = V1 := eV1
    rw [eV12]
    clear eV1 eV12 HX_4 Kp_4 Kq_4 Kg_4 Kf_4 Kh_4
    have HX_a6 := hide (put2_below (y0 := .int .i64 0) (y1 := .int .i64 0) (unhide HX_a5) (show w.heap.size ≤ w.heap.size + 1 + 1 by first | omega | (have := unhide HBA; omega)))
    have Kp_a6 := hide ((put2_keep (y0 := .int .i64 0) (y1 := .int .i64 0) (show w.heap.size ≠ w.heap.size + 1 + 1 by omega)).trans (unhide Kp_a5))
    have Kq_a6 := hide ((put2_keep (y0 := .int .i64 0) (y1 := .int .i64 0) (show w.heap.size + 1 ≠ w.heap.size + 1 + 1 by omega)).trans (unhide Kq_a5))
    have Kg_a6 := hide (put2_new (y0 := .int .i64 0) (y1 := .int .i64 0) (unhide Kg_a5))
    have Kf_a6 := hide ((put2_keep (y0 := .int .i64 0) (y1 := .int .i64 0) (show T ≠ w.heap.size + 1 + 1 by omega)).trans (unhide Kf_a5))
    have Kh_a6 := hide ((put2_keep (y0 := .int .i64 0) (y1 := .int .i64 0) (show T2 ≠ w.heap.size + 1 + 1 by omega)).trans (unhide Kh_a5))
    obtain ⟨V2, eV2⟩ : ∃ X, put2 V1 (w.heap.size + 1 + 1) (.int .i64 0) (.int .i64 0) = X := ⟨_, rfl⟩
    rw [eV2] at HX_a6 Kp_a6 Kq_a6 Kg_a6 Kf_a6 Kh_a6
    have eV22 : ((V1).setCell ⟨w.heap.size + 1 + 1, 0, none⟩ (.int .i64 0)).setCell ⟨w.heap.size + 1 + 1, 1, none⟩ (.int .i64 0) = V2 := eV2
    rw [eV22]
    clear eV2 eV22 HX_a5 Kp_a5 Kq_a5 Kg_a5 Kf_a5 Kh_a5
    obtain ⟨q0, q1, qf0, qf1, ql⟩ := block2 (unhide Kq_a6)
    obtain ⟨g0, g1, gf0, gf1, gl⟩ := block2 (unhide Kg_a6)
    refine bodyPost_ret (v := .tuple #[.agg #[.int .i64 0, .slice none 0 0], .bool true, .agg #[.int .i64 0, .int .i64 0]]) (by simp [results, Try.results13, go_sem, q0, q1, g0, g1]) rfl ⟨.agg #[.int .i64 0, .slice none 0 0], ?_, ?_, unhide HX_a6⟩
    · rw [unhide HE1]
    · rw [unhide HE1]
      exact zero_newg _ _ _
  · have hq2 : (c == 0) = false := by simpa using hq
    have HQC := hide hq
    obtain ⟨p0, p1, pf0, pf1, pl⟩ := block2 (unhide Kp_4)
    obtain ⟨h0, h1, hf0, hf1, hl⟩ := block2 (unhide Kh_4)
    go_upto_region 9 with fail
    clear p0 p1 pf0 pf1 pl h0 h1 hf0 hf1 hl
    clear hq hq2
    have hLE : w.heap.size + 1 ≤ W4.heap.size := size_of (unhide Kp_4)
    have HLE := hide hLE
    clear hLE
    have HSS : Hid (∀ W, Below (w.heap.size + 1) W4 W → W.cell? ⟨w.heap.size, 0, none⟩ = some (.int .i64 c) ∧ W.cell? ⟨w.heap.size, 1, none⟩ = some (.slice a0 n c0) ∧ Below (w.heap.size + 1) W4 W) := fun W hW => by
      obtain ⟨k0, k1, -, -, -⟩ := block2 (keep_at (unhide Kp_4) hW (Nat.lt_succ_self _))
      exact ⟨k0, k1, hW⟩
    have HF9 : Hid (∀ W, Below W4.heap.size W4 W → Calls Try.prog 35 #[.slice a0 n c0] W fun e w' => ∃ a' c', e = .returned (.slice a' n c') ∧ Own KI W.heap.size w' (.slice a' n c') xs ∧ Below W.heap.size W w') := fun W hW => unhide HFR W (Below.next (unhide HX_4) hW (Nat.le_refl _))
    have HX9 : Hid (∀ W, Below W4.heap.size W4 W → Below (w.heap.size + 1) W4 W) := fun W hW => hW.mono (unhide HLE)
    obtain ⟨k0, k1, -⟩ := unhide HSS _ (Below.refl _ _)
    go_wp2_with fail
    go_region_held3 (fun W => W.cell? ⟨w.heap.size, 0, none⟩ = some (.int .i64 c) ∧ W.cell? ⟨w.heap.size, 1, none⟩ = some (.slice a0 n c0) ∧ Below (w.heap.size + 1) W4 W)
      (first | with_reducible exact unhide HSS _ (unhide HX9 _ (Below.refl _ _).drew) | with_reducible exact unhide HSS _ (unhide HX9 _ ((Below.refl W4.heap.size W4).alloc (Nat.le_refl _) _).drew) | with_reducible exact unhide HSS _ (unhide HX9 _ (unhide HX5)) | with_reducible exact unhide HSS _ (unhide HX9 _ ((unhide HX5).alloc (unhide HX5).size _)) | with_reducible exact unhide HSS _ (unhide HX9 _ (unhide HX6)) | exact unhide HSS _ (put2_below (unhide HX9 _ (unhide HX6)) (Nat.le_refl _)) | exact unhide HSS _ (put2_below (put2_below (unhide HX9 _ (unhide HX6)) (Nat.le_refl _)) (Nat.le_succ _)))
      (first
        | (go_at_call 35; refine (unhide HF9 _ (by first | exact (Below.refl _ _).drew | exact ((Below.refl W4.heap.size W4).alloc (Nat.le_refl _) _).drew)).mono ?_; rintro e w5 ⟨b1, d1, rfl, ho5, hb5⟩; have HX5 : Hid (Below W4.heap.size W4 w5) := Below.next (by first | exact (Below.refl _ _).drew | exact ((Below.refl W4.heap.size W4).alloc (Nat.le_refl _) _).drew) hb5 (Nat.le_refl _); have HO5 : Hid (Own KI W4.heap.size w5 (.slice b1 n d1) xs) := ho5.base (by first | exact Nat.le_refl _ | simp [World.drew]); have HB5 := hide hb5; clear ho5 hb5)
        | (refine step_append ki (by rfl) (.tmp 34) (.tmp 36) rfl W4.heap.size (.slice b1 n d1) xs rfl (by first | exact unhide HO5 | exact (unhide HO5).below ((Below.refl _ _).alloc (Nat.le_refl _) _)) _ [x] rfl (by first | exact isl_one ki w5 x | exact ((isl_one ki W4 x).below (Below.refl _ _).drew).below (unhide HB5)) (n + 1) (by simp [unhide HEN]) (by simp [KI]; omega) (by first | exact (unhide HX5).size | exact ((unhide HX5).alloc (unhide HX5).size _).size) ?_; intro b2 d2 w6 ho6 hg6; have HO6 := hide ho6; have HX6 : Hid (Below W4.heap.size W4 w6) := (by first | exact (unhide HX5).grown hg6 (unhide HX5).size (fun k hk => ((unhide HO5).lt k hk).1) | exact ((unhide HX5).alloc (unhide HX5).size _).grown hg6 ((unhide HX5).alloc (unhide HX5).size _).size (fun k hk => ((unhide HO5).lt k hk).1)); have HQ6 := hide (keep_below (unhide Kq_4) (unhide HX6)); have HG6 := hide (keep_below (unhide Kg_4) (unhide HX6)); obtain ⟨q0, q1, qf0, qf1, ql⟩ := block2 (unhide HQ6); obtain ⟨g0, g1, gf0, gf1, gl⟩ := block2 (unhide HG6); clear ho6 hg6))
    all_goals
      have HX7 := hide (Below.next (unhide HX_4) (unhide HX6) (Nat.le_refl _))
      have HB7 := hide (unhide HX_4).size
      clear q0 q1 qf0 qf1 ql g0 g1 gf0 gf1 gl
      have HX_bz1 := hide (put2_below (y0 := .int .i64 c) (y1 := .slice b2 (n + 1) d2) (unhide HX7) (show w.heap.size ≤ w.heap.size + 1 by first | omega | (have := unhide HBA; omega)))
      have Kq_bz1 := hide (put2_new (y0 := .int .i64 c) (y1 := .slice b2 (n + 1) d2) (unhide HQ6))
      have Kg_bz1 := hide ((put2_keep (y0 := .int .i64 c) (y1 := .slice b2 (n + 1) d2) (show w.heap.size + 1 + 1 ≠ w.heap.size + 1 by omega)).trans (unhide HG6))
      have Ol_bz1 := hide ((unhide HO6).keep (fun k hk => put2_keep (y0 := .int .i64 c) (y1 := .slice b2 (n + 1) d2) (Own.ne (unhide HO6) (unhide HQ6) (by decide) k hk)))
      obtain ⟨V1, eV1⟩ : ∃ X, put2 w6 (w.heap.size + 1) (.int .i64 c) (.slice b2 (n + 1) d2) = X := ⟨_, rfl⟩
      rw [eV1] at HX_bz1 Kq_bz1 Kg_bz1 Ol_bz1
      have eV12 : ((w6).setCell ⟨w.heap.size + 1, 0, none⟩ (.int .i64 c)).setCell ⟨w.heap.size + 1, 1, none⟩ (.slice b2 (n + 1) d2) = V1 := eV1
      rw [eV12]
      clear eV1 eV12 HX7 HQ6 HG6 HO6
      have HX_bz2 := hide (put2_below (y0 := .int .i64 0) (y1 := .int .i64 0) (unhide HX_bz1) (show w.heap.size ≤ w.heap.size + 1 + 1 by first | omega | (have := unhide HBA; omega)))
      have Kq_bz2 := hide ((put2_keep (y0 := .int .i64 0) (y1 := .int .i64 0) (show w.heap.size + 1 ≠ w.heap.size + 1 + 1 by omega)).trans (unhide Kq_bz1))
      have Kg_bz2 := hide (put2_new (y0 := .int .i64 0) (y1 := .int .i64 0) (unhide Kg_bz1))
      have Ol_bz2 := hide ((unhide Ol_bz1).keep (fun k hk => put2_keep (y0 := .int .i64 0) (y1 := .int .i64 0) (Own.ne (unhide Ol_bz1) (unhide Kg_bz1) (by decide) k hk)))
      obtain ⟨V2, eV2⟩ : ∃ X, put2 V1 (w.heap.size + 1 + 1) (.int .i64 0) (.int .i64 0) = X := ⟨_, rfl⟩
      rw [eV2] at HX_bz2 Kq_bz2 Kg_bz2 Ol_bz2
      have eV22 : ((V1).setCell ⟨w.heap.size + 1 + 1, 0, none⟩ (.int .i64 0)).setCell ⟨w.heap.size + 1 + 1, 1, none⟩ (.int .i64 0) = V2 := eV2
      rw [eV22]
      clear eV2 eV22 HX_bz1 Kq_bz1 Kg_bz1 Ol_bz1
      obtain ⟨q0, q1, qf0, qf1, ql⟩ := block2 (unhide Kq_bz2)
      obtain ⟨g0, g1, gf0, gf1, gl⟩ := block2 (unhide Kg_bz2)
      go_wp2_with fail
      refine bodyPost_ret (v := .tuple #[.agg #[.int .i64 c, .slice b2 (n + 1) d2], .bool false, .agg #[.int .i64 0, .int .i64 0]]) (by simp [results, Try.results13, go_sem, q0, q1, g0, g1]) rfl ⟨.agg #[.int .i64 c, .slice b2 (n + 1) d2], ?_, ?_, unhide HX_bz2⟩
      · rw [unhide HER (unhide HQC)]
      · rw [unhide HER (unhide HQC)]
        exact ⟨_, rfl, ((unhide Ol_bz2).base (unhide HB7)).new⟩
end Go.Proofs.Ytpogcfdmkeebmaa
