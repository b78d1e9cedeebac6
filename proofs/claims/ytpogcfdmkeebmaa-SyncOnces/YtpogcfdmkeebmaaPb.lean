/-
  sync.Begin.
-/
import Derived.Test.YtpogcfdmkeebmaaP
namespace Go.Proofs.Ytpogcfdmkeebmaa
open Go.RowKit

set_option maxRecDepth 100000 in
set_option maxHeartbeats 2000000 in
theorem begin_fault (w : World) (v : Value) (b : Int) (d : Bool) (xs : List Int) (x : Int) (h : IsO w v b d xs) (hn : xs.length ≤ maxLen) (hf : (beginF b d xs x).1 ≠ 0) :
    Calls Try.prog 19 #[v, .int .i64 x] w fun e w' => e = .returned (.tuple #[.agg #[.int .i64 0, .bool false, .slice none 0 0], .int .i64 0, faultV (beginF b d xs x)]) ∧ Below w.heap.size w w' := by
  have HC : Hid (∀ W, Below w.heap.size w W → Calls Try.prog 39 #[v, .int .i64 x] W fun e w' => e = .returned (faultV (beginF b d xs x)) ∧ Below W.heap.size W w') := fun W hW => checkBegin_any W v b d xs x (h.below hW) hn
  obtain ⟨⟨F0, F1⟩, eF⟩ : ∃ F, beginF b d xs x = F := ⟨_, rfl⟩
  rw [eF] at HC hf ⊢
  obtain ⟨a0, c0, rfl, hL⟩ := h.form
  generalize xs.length = n at *
  have x0 : (F0 != 0) = true := by simpa using hf
  clear h hL eF hf hn
  obtain ⟨W0, e0, hB, k0, k1, k2⟩ := three_new w (.cells #[.int .i64 b, .bool d, .slice a0 n c0] 41) (.cells #[.int .i64 0, .bool false, .slice none 0 0] 41) (.cells #[.int .i64 0, .int .i64 0] 29)
  have HX := hide hB; have HP := hide k0; have HQ := hide k1; have HG := hide k2; have HE := hide e0
  clear hB k0 k1 k2 e0
  go_enter Try.func19, Try.ntmps19
  go_upto_region 1 with fail
  rw [unhide HE]
  clear HE
  obtain ⟨⟨p0, p1, p2⟩, ⟨pf0, pf1, pf2⟩, pl⟩ := block3 (unhide HP)
  go_upto_region 2 with (go_at_call 39; refine (unhide HC _ (unhide HX)).mono ?_; rintro e w1 ⟨he, hb1⟩; obtain rfl : e = .returned (.agg #[.int .i64 F0, .int .i64 F1]) := he; have HX_1 := hide (Below.next (unhide HX) hb1 (by first | exact Nat.le_refl _ | (have := unhide HBA; omega))); have Kp_1 := hide (keep_below (unhide HP) hb1); have Kq_1 := hide (keep_below (unhide HQ) hb1); have Kg_1 := hide (keep_below (unhide HG) hb1); clear HX HP HQ HG; clear hb1 p0 p1 p2 pf0 pf1 pf2 pl)
  have HX_2 := hide ((unhide HX_1).alloc (Nat.le_trans (show w.heap.size ≤ w.heap.size from Nat.le_refl _) (unhide HX_1).size) (.cells #[.int .i64 F0, .int .i64 F1] 29))
  have Kp_2 := hide (keep_alloc (unhide Kp_1) (.cells #[.int .i64 F0, .int .i64 F1] 29))
  have Kq_2 := hide (keep_alloc (unhide Kq_1) (.cells #[.int .i64 F0, .int .i64 F1] 29))
  have Kg_2 := hide (keep_alloc (unhide Kg_1) (.cells #[.int .i64 F0, .int .i64 F1] 29))
  have Kf_2 := hide (new_block w1 (.cells #[.int .i64 F0, .int .i64 F1] 29))
  have hlp_f : w.heap.size < w1.heap.size := size_of (unhide Kp_1)
  have hlq_f : w.heap.size + 1 < w1.heap.size := size_of (unhide Kq_1)
  have hlg_f : w.heap.size + 1 + 1 < w1.heap.size := size_of (unhide Kg_1)
  obtain ⟨T, eT⟩ : ∃ X, w1.heap.size = X := ⟨_, rfl⟩
  obtain ⟨W2, eW2⟩ : ∃ X, w1.alloc (.cells #[.int .i64 F0, .int .i64 F1] 29) = X := ⟨_, rfl⟩
  rw [eT, eW2] at Kf_2; rw [eW2] at HX_2 Kp_2 Kq_2 Kg_2; rw [eT] at hlp_f hlq_f hlg_f; rw [eT, eW2]
  clear eT eW2 HX_1 Kp_1 Kq_1 Kg_1
  have hqt : w.heap.size + 1 + 1 < T := by omega
  obtain ⟨⟨q0, q1, q2⟩, ⟨qf0, qf1, qf2⟩, ql⟩ := block3 (unhide Kq_2)
  obtain ⟨g0, g1, gf0, gf1, gl⟩ := block2 (unhide Kg_2)
  obtain ⟨f0, f1, ff0, ff1, fl⟩ := block2 (unhide Kf_2)
  have u1_ : w.heap.size + 1 ≠ T := by omega
  have u2_ : w.heap.size + 1 + 1 ≠ T := by omega
  have u3_ : T ≠ w.heap.size + 1 := by omega
  have u4_ : T ≠ w.heap.size + 1 + 1 := by omega
  go_wp2_with fail
  go_region
  clear q0 q1 q2 qf0 qf1 qf2 ql g0 g1 gf0 gf1 gl f0 f1 ff0 ff1 fl
  have HX_3 := hide (putL_below (y0 := .int .i64 0) (y1 := .bool false) (y2 := .slice none 0 0) (unhide HX_2) (show w.heap.size ≤ w.heap.size + 1 by first | omega | (have := unhide HBA; omega)))
  have Kp_3 := hide ((putL_keep (y0 := .int .i64 0) (y1 := .bool false) (y2 := .slice none 0 0) (show w.heap.size ≠ w.heap.size + 1 by omega)).trans (unhide Kp_2))
  have Kq_3 := hide (putL_new (y0 := .int .i64 0) (y1 := .bool false) (y2 := .slice none 0 0) (unhide Kq_2))
  have Kg_3 := hide ((putL_keep (y0 := .int .i64 0) (y1 := .bool false) (y2 := .slice none 0 0) (show w.heap.size + 1 + 1 ≠ w.heap.size + 1 by omega)).trans (unhide Kg_2))
  have Kf_3 := hide ((putL_keep (y0 := .int .i64 0) (y1 := .bool false) (y2 := .slice none 0 0) (show T ≠ w.heap.size + 1 by omega)).trans (unhide Kf_2))
  obtain ⟨V1, eV1⟩ : ∃ X, putL W2 (w.heap.size + 1) (.int .i64 0) (.bool false) (.slice none 0 0) = X := ⟨_, rfl⟩
  rw [eV1] at HX_3 Kp_3 Kq_3 Kg_3 Kf_3
  have eV12 : (((W2).setCell ⟨w.heap.size + 1, 0, none⟩ (.int .i64 0)).setCell ⟨w.heap.size + 1, 1, none⟩ (.bool false)).setCell ⟨w.heap.size + 1, 2, none⟩ (.slice none 0 0) = V1 := eV1
  rw [eV12]
  clear eV1 eV12 HX_2 Kp_2 Kq_2 Kg_2 Kf_2
  have HX_4 := hide (put2_below (y0 := .int .i64 F0) (y1 := .int .i64 F1) (unhide HX_3) (show w.heap.size ≤ w.heap.size + 1 + 1 by first | omega | (have := unhide HBA; omega)))
  have Kp_4 := hide ((put2_keep (y0 := .int .i64 F0) (y1 := .int .i64 F1) (show w.heap.size ≠ w.heap.size + 1 + 1 by omega)).trans (unhide Kp_3))
  have Kq_4 := hide ((put2_keep (y0 := .int .i64 F0) (y1 := .int .i64 F1) (show w.heap.size + 1 ≠ w.heap.size + 1 + 1 by omega)).trans (unhide Kq_3))
  have Kg_4 := hide (put2_new (y0 := .int .i64 F0) (y1 := .int .i64 F1) (unhide Kg_3))
  have Kf_4 := hide ((put2_keep (y0 := .int .i64 F0) (y1 := .int .i64 F1) (show T ≠ w.heap.size + 1 + 1 by omega)).trans (unhide Kf_3))
  obtain ⟨V2, eV2⟩ : ∃ X, put2 V1 (w.heap.size + 1 + 1) (.int .i64 F0) (.int .i64 F1) = X := ⟨_, rfl⟩
  rw [eV2] at HX_4 Kp_4 Kq_4 Kg_4 Kf_4
  have eV22 : ((V1).setCell ⟨w.heap.size + 1 + 1, 0, none⟩ (.int .i64 F0)).setCell ⟨w.heap.size + 1 + 1, 1, none⟩ (.int .i64 F1) = V2 := eV2
  rw [eV22]
  clear eV2 eV22 HX_3 Kp_3 Kq_3 Kg_3 Kf_3
  have hV3 : Below V2.heap.size V2 V2.drew := (Below.refl _ _).drew
  obtain ⟨V3, eV3⟩ : ∃ X, V2.drew = X := ⟨_, rfl⟩
  rw [eV3] at hV3 ⊢
  (have HX_5 := hide (Below.next (unhide HX_4) hV3 (by first | exact Nat.le_refl _ | (have := unhide HBA; omega))); have Kp_5 := hide (keep_below (unhide Kp_4) hV3); have Kq_5 := hide (keep_below (unhide Kq_4) hV3); have Kg_5 := hide (keep_below (unhide Kg_4) hV3); have Kf_5 := hide (keep_below (unhide Kf_4) hV3); clear HX_4 Kp_4 Kq_4 Kg_4 Kf_4)
  clear hV3 eV3
  obtain ⟨⟨q0, q1, q2⟩, ⟨qf0, qf1, qf2⟩, ql⟩ := block3 (unhide Kq_5)
  obtain ⟨g0, g1, gf0, gf1, gl⟩ := block2 (unhide Kg_5)
  go_wp2_with fail
  exact bodyPost_ret (v := .tuple #[.agg #[.int .i64 0, .bool false, .slice none 0 0], .int .i64 0, .agg #[.int .i64 F0, .int .i64 F1]]) (by simp [results, Try.results19, go_sem, q0, q1, q2, g0, g1]) rfl ⟨rfl, unhide HX_5⟩

set_option maxRecDepth 100000 in
set_option maxHeartbeats 4000000 in
theorem begin_ok (w : World) (v : Value) (b : Int) (d : Bool) (xs : List Int) (x : Int) (h : IsO w v b d xs) (hf : (beginF b d xs x).1 = 0) :
    Calls Try.prog 19 #[v, .int .i64 x] w fun e w' => ∃ v1, e = .returned (.tuple #[v1, .int .i64 (beginR b d xs x).2, .agg #[.int .i64 0, .int .i64 0]]) ∧ NewO w.heap.size w' v1 (beginR b d xs x).1.1 (beginR b d xs x).1.2.1 (beginR b d xs x).1.2.2 ∧ Below w.heap.size w w' := by
  obtain ⟨hg, hc, -, hz⟩ := beginF_good hf
  obtain ⟨-, -, hl, -⟩ := onceF_good hg
  obtain ⟨-, -, -, hl5⟩ := comesF_good hc
  have HC : Hid (∀ W, Below w.heap.size w W → Calls Try.prog 39 #[v, .int .i64 x] W fun e w' => e = .returned (faultV (0, 0)) ∧ Below W.heap.size W w') := fun W hW => by
    have := checkBegin_any W v b d xs x (h.below hW) (by unfold maxLen; omega)
    rw [hz] at this
    exact this
  obtain ⟨a0, c0, rfl, hL⟩ := h.form
  have HFR : Hid (∀ W, Below w.heap.size w W → Calls Try.prog 35 #[.slice a0 xs.length c0] W fun e w' => ∃ a' c', e = .returned (.slice a' xs.length c') ∧ Own KI W.heap.size w' (.slice a' xs.length c') xs ∧ Below W.heap.size W w') := fun W hW => fresh_any W _ xs (hL.below hW) (by omega)
  obtain ⟨R, eR⟩ : ∃ R, beginR b d xs x = R := ⟨_, rfl⟩
  rw [eR]
  unfold beginR at eR
  obtain ⟨n, en⟩ : ∃ n, xs.length = n := ⟨_, rfl⟩
  rw [en] at HC HFR hl hl5 ⊢
  have HEN := hide en; have HR := hide eR
  clear h hL hf hg hc hz en eR
  obtain ⟨W0, e0, hB, k0, k1, k2⟩ := three_new w (.cells #[.int .i64 b, .bool d, .slice a0 n c0] 41) (.cells #[.int .i64 0, .bool false, .slice none 0 0] 41) (.cells #[.int .i64 0, .int .i64 0] 29)
  have HX := hide hB; have HP := hide k0; have HQ := hide k1; have HG := hide k2; have HE := hide e0
  clear hB k0 k1 k2 e0
  go_enter Try.func19, Try.ntmps19
  go_upto_region 1 with fail
  rw [unhide HE]
  clear HE
  obtain ⟨⟨p0, p1, p2⟩, ⟨pf0, pf1, pf2⟩, pl⟩ := block3 (unhide HP)
  go_upto_region 2 with (go_at_call 39; refine (unhide HC _ (unhide HX)).mono ?_; rintro e w1 ⟨he, hb1⟩; obtain rfl : e = .returned (.agg #[.int .i64 0, .int .i64 0]) := he; have HX_1 := hide (Below.next (unhide HX) hb1 (by first | exact Nat.le_refl _ | (have := unhide HBA; omega))); have Kp_1 := hide (keep_below (unhide HP) hb1); have Kq_1 := hide (keep_below (unhide HQ) hb1); have Kg_1 := hide (keep_below (unhide HG) hb1); clear HX HP HQ HG; clear hb1 p0 p1 p2 pf0 pf1 pf2 pl)
  have HX_2 := hide ((unhide HX_1).alloc (Nat.le_trans (show w.heap.size ≤ w.heap.size from Nat.le_refl _) (unhide HX_1).size) (.cells #[.int .i64 0, .int .i64 0] 29))
  have Kp_2 := hide (keep_alloc (unhide Kp_1) (.cells #[.int .i64 0, .int .i64 0] 29))
  have Kq_2 := hide (keep_alloc (unhide Kq_1) (.cells #[.int .i64 0, .int .i64 0] 29))
  have Kg_2 := hide (keep_alloc (unhide Kg_1) (.cells #[.int .i64 0, .int .i64 0] 29))
  have Kf_2 := hide (new_block w1 (.cells #[.int .i64 0, .int .i64 0] 29))
  have hlp_f : w.heap.size < w1.heap.size := size_of (unhide Kp_1)
  have hlq_f : w.heap.size + 1 < w1.heap.size := size_of (unhide Kq_1)
  have hlg_f : w.heap.size + 1 + 1 < w1.heap.size := size_of (unhide Kg_1)
  obtain ⟨T, eT⟩ : ∃ X, w1.heap.size = X := ⟨_, rfl⟩
  obtain ⟨W2, eW2⟩ : ∃ X, w1.alloc (.cells #[.int .i64 0, .int .i64 0] 29) = X := ⟨_, rfl⟩
  rw [eT, eW2] at Kf_2; rw [eW2] at HX_2 Kp_2 Kq_2 Kg_2; rw [eT] at hlp_f hlq_f hlg_f; rw [eT, eW2]
  clear eT eW2 HX_1 Kp_1 Kq_1 Kg_1
  have hqt : w.heap.size + 1 + 1 < T := by omega
  cases d with
  | true =>
    have hr := unhide HR
    rw [if_pos rfl] at hr
    subst hr
    clear HR
    obtain ⟨⟨p0, p1, p2⟩, ⟨pf0, pf1, pf2⟩, pl⟩ := block3 (unhide Kp_2)
    obtain ⟨f0, f1, ff0, ff1, fl⟩ := block2 (unhide Kf_2)
    obtain ⟨⟨q0, q1, q2⟩, ⟨qf0, qf1, qf2⟩, ql⟩ := block3 (unhide Kq_2)
    obtain ⟨g0, g1, gf0, gf1, gl⟩ := block2 (unhide Kg_2)
    go_wp2_with fail
    clear p0 p1 p2 pf0 pf1 pf2 pl f0 f1 ff0 ff1 fl q0 q1 q2 qf0 qf1 qf2 ql g0 g1 gf0 gf1 gl
    have HX_a3 := hide (putL_below (y0 := .int .i64 0) (y1 := .bool true) (y2 := .slice none 0 0) (unhide HX_2) (show w.heap.size ≤ w.heap.size + 1 by first | omega | (have := unhide HBA; omega)))
    have Kp_a3 := hide ((putL_keep (y0 := .int .i64 0) (y1 := .bool true) (y2 := .slice none 0 0) (show w.heap.size ≠ w.heap.size + 1 by omega)).trans (unhide Kp_2))
    have Kq_a3 := hide (putL_new (y0 := .int .i64 0) (y1 := .bool true) (y2 := .slice none 0 0) (unhide Kq_2))
    have Kg_a3 := hide ((putL_keep (y0 := .int .i64 0) (y1 := .bool true) (y2 := .slice none 0 0) (show w.heap.size + 1 + 1 ≠ w.heap.size + 1 by omega)).trans (unhide Kg_2))
    have Kf_a3 := hide ((putL_keep (y0 := .int .i64 0) (y1 := .bool true) (y2 := .slice none 0 0) (show T ≠ w.heap.size + 1 by omega)).trans (unhide Kf_2))
    obtain ⟨V1, eV1⟩ : ∃ X, putL W2 (w.heap.size + 1) (.int .i64 0) (.bool true) (.slice none 0 0) = X := ⟨_, rfl⟩
    rw [eV1] at HX_a3 Kp_a3 Kq_a3 Kg_a3 Kf_a3
    have eV12 : (((W2).setCell ⟨w.heap.size + 1, 0, none⟩ (.int .i64 0)).setCell ⟨w.heap.size + 1, 1, none⟩ (.bool true)).setCell ⟨w.heap.size + 1, 2, none⟩ (.slice none 0 0) = V1 := eV1
    rw [eV12]
    clear eV1 eV12 HX_2 Kp_2 Kq_2 Kg_2 Kf_2
    have HX_a4 := hide (put2_below (y0 := .int .i64 0) (y1 := .int .i64 0) (unhide HX_a3) (show w.heap.size ≤ w.heap.size + 1 + 1 by first | omega | (have := unhide HBA; omega)))
    have Kp_a4 := hide ((put2_keep (y0 := .int .i64 0) (y1 := .int .i64 0) (show w.heap.size ≠ w.heap.size + 1 + 1 by omega)).trans (unhide Kp_a3))
    have Kq_a4 := hide ((put2_keep (y0 := .int .i64 0) (y1 := .int .i64 0) (show w.heap.size + 1 ≠ w.heap.size + 1 + 1 by omega)).trans (unhide Kq_a3))
    have Kg_a4 := hide (put2_new (y0 := .int .i64 0) (y1 := .int .i64 0) (unhide Kg_a3))
    have Kf_a4 := hide ((put2_keep (y0 := .int .i64 0) (y1 := .int .i64 0) (show T ≠ w.heap.size + 1 + 1 by omega)).trans (unhide Kf_a3))
    obtain ⟨V2, eV2⟩ : ∃ X, put2 V1 (w.heap.size + 1 + 1) (.int .i64 0) (.int .i64 0) = X := ⟨_, rfl⟩
    rw [eV2] at HX_a4 Kp_a4 Kq_a4 Kg_a4 Kf_a4
    have eV22 : ((V1).setCell ⟨w.heap.size + 1 + 1, 0, none⟩ (.int .i64 0)).setCell ⟨w.heap.size + 1 + 1, 1, none⟩ (.int .i64 0) = V2 := eV2
    rw [eV22]
    clear eV2 eV22 HX_a3 Kp_a3 Kq_a3 Kg_a3 Kf_a3
    obtain ⟨⟨q0, q1, q2⟩, ⟨qf0, qf1, qf2⟩, ql⟩ := block3 (unhide Kq_a4)
    obtain ⟨g0, g1, gf0, gf1, gl⟩ := block2 (unhide Kg_a4)
    exact bodyPost_ret (v := .tuple #[.agg #[.int .i64 0, .bool true, .slice none 0 0], .int .i64 2, .agg #[.int .i64 0, .int .i64 0]]) (by simp [results, Try.results19, go_sem, q0, q1, q2, g0, g1]) rfl ⟨.agg #[.int .i64 0, .bool true, .slice none 0 0], rfl, zero_newo _ _ _ _, unhide HX_a4⟩
  | false =>
    have hr := unhide HR
    rw [if_neg (by simp)] at hr
    have HR2 := hide hr
    clear HR hr
    by_cases h2 : b = 0
    · have hr := unhide HR2
      rw [if_pos h2] at hr
      subst hr
      have j2 : (b == 0) = true := by simpa using h2
      clear HR2 h2
      obtain ⟨⟨p0, p1, p2⟩, ⟨pf0, pf1, pf2⟩, pl⟩ := block3 (unhide Kp_2)
      obtain ⟨f0, f1, ff0, ff1, fl⟩ := block2 (unhide Kf_2)
      obtain ⟨⟨q0, q1, q2⟩, ⟨qf0, qf1, qf2⟩, ql⟩ := block3 (unhide Kq_2)
      obtain ⟨g0, g1, gf0, gf1, gl⟩ := block2 (unhide Kg_2)
      go_wp2_with fail
      clear p0 p1 p2 pf0 pf1 pf2 pl f0 f1 ff0 ff1 fl q0 q1 q2 qf0 qf1 qf2 ql g0 g1 gf0 gf1 gl
      have HX_b3 := hide (putL_below (y0 := .int .i64 x) (y1 := .bool false) (y2 := .slice none 0 0) (unhide HX_2) (show w.heap.size ≤ w.heap.size + 1 by first | omega | (have := unhide HBA; omega)))
      have Kp_b3 := hide ((putL_keep (y0 := .int .i64 x) (y1 := .bool false) (y2 := .slice none 0 0) (show w.heap.size ≠ w.heap.size + 1 by omega)).trans (unhide Kp_2))
      have Kq_b3 := hide (putL_new (y0 := .int .i64 x) (y1 := .bool false) (y2 := .slice none 0 0) (unhide Kq_2))
      have Kg_b3 := hide ((putL_keep (y0 := .int .i64 x) (y1 := .bool false) (y2 := .slice none 0 0) (show w.heap.size + 1 + 1 ≠ w.heap.size + 1 by omega)).trans (unhide Kg_2))
      have Kf_b3 := hide ((putL_keep (y0 := .int .i64 x) (y1 := .bool false) (y2 := .slice none 0 0) (show T ≠ w.heap.size + 1 by omega)).trans (unhide Kf_2))
      obtain ⟨V1, eV1⟩ : ∃ X, putL W2 (w.heap.size + 1) (.int .i64 x) (.bool false) (.slice none 0 0) = X := ⟨_, rfl⟩
      rw [eV1] at HX_b3 Kp_b3 Kq_b3 Kg_b3 Kf_b3
      have eV12 : (((W2).setCell ⟨w.heap.size + 1, 0, none⟩ (.int .i64 x)).setCell ⟨w.heap.size + 1, 1, none⟩ (.bool false)).setCell ⟨w.heap.size + 1, 2, none⟩ (.slice none 0 0) = V1 := eV1
      rw [eV12]
      clear eV1 eV12 HX_2 Kp_2 Kq_2 Kg_2 Kf_2
      have HX_b4 := hide (put2_below (y0 := .int .i64 0) (y1 := .int .i64 0) (unhide HX_b3) (show w.heap.size ≤ w.heap.size + 1 + 1 by first | omega | (have := unhide HBA; omega)))
      have Kp_b4 := hide ((put2_keep (y0 := .int .i64 0) (y1 := .int .i64 0) (show w.heap.size ≠ w.heap.size + 1 + 1 by omega)).trans (unhide Kp_b3))
      have Kq_b4 := hide ((put2_keep (y0 := .int .i64 0) (y1 := .int .i64 0) (show w.heap.size + 1 ≠ w.heap.size + 1 + 1 by omega)).trans (unhide Kq_b3))
      have Kg_b4 := hide (put2_new (y0 := .int .i64 0) (y1 := .int .i64 0) (unhide Kg_b3))
      have Kf_b4 := hide ((put2_keep (y0 := .int .i64 0) (y1 := .int .i64 0) (show T ≠ w.heap.size + 1 + 1 by omega)).trans (unhide Kf_b3))
      obtain ⟨V2, eV2⟩ : ∃ X, put2 V1 (w.heap.size + 1 + 1) (.int .i64 0) (.int .i64 0) = X := ⟨_, rfl⟩
      rw [eV2] at HX_b4 Kp_b4 Kq_b4 Kg_b4 Kf_b4
      have eV22 : ((V1).setCell ⟨w.heap.size + 1 + 1, 0, none⟩ (.int .i64 0)).setCell ⟨w.heap.size + 1 + 1, 1, none⟩ (.int .i64 0) = V2 := eV2
      rw [eV22]
      clear eV2 eV22 HX_b3 Kp_b3 Kq_b3 Kg_b3 Kf_b3
      obtain ⟨⟨q0, q1, q2⟩, ⟨qf0, qf1, qf2⟩, ql⟩ := block3 (unhide Kq_b4)
      obtain ⟨g0, g1, gf0, gf1, gl⟩ := block2 (unhide Kg_b4)
      exact bodyPost_ret (v := .tuple #[.agg #[.int .i64 x, .bool false, .slice none 0 0], .int .i64 1, .agg #[.int .i64 0, .int .i64 0]]) (by simp [results, Try.results19, go_sem, q0, q1, q2, g0, g1]) rfl ⟨.agg #[.int .i64 x, .bool false, .slice none 0 0], rfl, zero_newo _ _ _ _, unhide HX_b4⟩
    · have hr := unhide HR2
      rw [if_neg h2] at hr
      subst hr
      have j2 : (b == 0) = false := by simpa using h2
      clear HR2 h2
      obtain ⟨⟨p0, p1, p2⟩, ⟨pf0, pf1, pf2⟩, pl⟩ := block3 (unhide Kp_2)
      obtain ⟨f0, f1, ff0, ff1, fl⟩ := block2 (unhide Kf_2)
      go_upto_region 8 with fail
      clear p0 p1 p2 pf0 pf1 pf2 pl f0 f1 ff0 ff1 fl
      have hLE : w.heap.size + 1 ≤ W2.heap.size := size_of (unhide Kp_2)
      have HLE := hide hLE
      clear hLE
      have HSS : Hid (∀ W, Below (w.heap.size + 1) W2 W → W.cell? ⟨w.heap.size, 0, none⟩ = some (.int .i64 b) ∧ W.cell? ⟨w.heap.size, 1, none⟩ = some (.bool false) ∧ W.cell? ⟨w.heap.size, 2, none⟩ = some (.slice a0 n c0) ∧ Below (w.heap.size + 1) W2 W) := fun W hW => by
        obtain ⟨⟨k0, k1, k2⟩, -, -⟩ := block3 (keep_at (unhide Kp_2) hW (Nat.lt_succ_self _))
        exact ⟨k0, k1, k2, hW⟩
      have HF9 : Hid (∀ W, Below W2.heap.size W2 W → Calls Try.prog 35 #[.slice a0 n c0] W fun e w' => ∃ a' c', e = .returned (.slice a' n c') ∧ Own KI W.heap.size w' (.slice a' n c') xs ∧ Below W.heap.size W w') := fun W hW => unhide HFR W (Below.next (unhide HX_2) hW (Nat.le_refl _))
      have HX9 : Hid (∀ W, Below W2.heap.size W2 W → Below (w.heap.size + 1) W2 W) := fun W hW => hW.mono (unhide HLE)
      obtain ⟨k0, k1, k2, -⟩ := unhide HSS _ (Below.refl _ _)
      go_wp2_with fail
      go_region_held3 (fun W => W.cell? ⟨w.heap.size, 0, none⟩ = some (.int .i64 b) ∧ W.cell? ⟨w.heap.size, 1, none⟩ = some (.bool false) ∧ W.cell? ⟨w.heap.size, 2, none⟩ = some (.slice a0 n c0) ∧ Below (w.heap.size + 1) W2 W)
        (first | with_reducible exact unhide HSS _ (unhide HX9 _ (Below.refl _ _).drew) | with_reducible exact unhide HSS _ (unhide HX9 _ ((Below.refl W2.heap.size W2).alloc (Nat.le_refl _) _).drew) | with_reducible exact unhide HSS _ (unhide HX9 _ (unhide HX5)) | with_reducible exact unhide HSS _ (unhide HX9 _ ((unhide HX5).alloc (unhide HX5).size _)) | with_reducible exact unhide HSS _ (unhide HX9 _ (unhide HX6)) | exact unhide HSS _ (putL_below (unhide HX9 _ (unhide HX6)) (Nat.le_refl _)) | exact unhide HSS _ (put2_below (putL_below (unhide HX9 _ (unhide HX6)) (Nat.le_refl _)) (Nat.le_succ _)))
        (first
          | (go_at_call 35; refine (unhide HF9 _ (by first | exact (Below.refl _ _).drew | exact ((Below.refl W2.heap.size W2).alloc (Nat.le_refl _) _).drew)).mono ?_; rintro e w5 ⟨b1, d1, rfl, ho5, hb5⟩; have HX5 : Hid (Below W2.heap.size W2 w5) := Below.next (by first | exact (Below.refl _ _).drew | exact ((Below.refl W2.heap.size W2).alloc (Nat.le_refl _) _).drew) hb5 (Nat.le_refl _); have HO5 : Hid (Own KI W2.heap.size w5 (.slice b1 n d1) xs) := ho5.base (by first | exact Nat.le_refl _ | simp [World.drew]); have HB5 := hide hb5; clear ho5 hb5)
          | (refine step_append ki (by rfl) (.tmp 32) (.tmp 34) rfl W2.heap.size (.slice b1 n d1) xs rfl (by first | exact unhide HO5 | exact (unhide HO5).below ((Below.refl _ _).alloc (Nat.le_refl _) _)) _ [x] rfl (by first | exact isl_one ki w5 x | exact ((isl_one ki W2 x).below (Below.refl _ _).drew).below (unhide HB5)) (n + 1) (by simp [unhide HEN]) (by simp [KI]; omega) (by first | exact (unhide HX5).size | exact ((unhide HX5).alloc (unhide HX5).size _).size) ?_; intro b2 d2 w6 ho6 hg6; have HO6 := hide ho6; have HX6 : Hid (Below W2.heap.size W2 w6) := (by first | exact (unhide HX5).grown hg6 (unhide HX5).size (fun k hk => ((unhide HO5).lt k hk).1) | exact ((unhide HX5).alloc (unhide HX5).size _).grown hg6 ((unhide HX5).alloc (unhide HX5).size _).size (fun k hk => ((unhide HO5).lt k hk).1)); have HQ6 := hide (keep_below (unhide Kq_2) (unhide HX6)); have HG6 := hide (keep_below (unhide Kg_2) (unhide HX6)); obtain ⟨⟨q0, q1, q2⟩, ⟨qf0, qf1, qf2⟩, ql⟩ := block3 (unhide HQ6); obtain ⟨g0, g1, gf0, gf1, gl⟩ := block2 (unhide HG6); clear ho6 hg6))
      all_goals
        have HX7 := hide (Below.next (unhide HX_2) (unhide HX6) (Nat.le_refl _))
        have HB7 := hide (unhide HX_2).size
        clear q0 q1 q2 qf0 qf1 qf2 ql g0 g1 gf0 gf1 gl
        have HX_dz1 := hide (putL_below (y0 := .int .i64 b) (y1 := .bool false) (y2 := .slice b2 (n + 1) d2) (unhide HX7) (show w.heap.size ≤ w.heap.size + 1 by first | omega | (have := unhide HBA; omega)))
        have Kq_dz1 := hide (putL_new (y0 := .int .i64 b) (y1 := .bool false) (y2 := .slice b2 (n + 1) d2) (unhide HQ6))
        have Kg_dz1 := hide ((putL_keep (y0 := .int .i64 b) (y1 := .bool false) (y2 := .slice b2 (n + 1) d2) (show w.heap.size + 1 + 1 ≠ w.heap.size + 1 by omega)).trans (unhide HG6))
        have Ol_dz1 := hide ((unhide HO6).keep (fun k hk => putL_keep (y0 := .int .i64 b) (y1 := .bool false) (y2 := .slice b2 (n + 1) d2) (Own.ne (unhide HO6) (unhide HQ6) (by decide) k hk)))
        obtain ⟨V1, eV1⟩ : ∃ X, putL w6 (w.heap.size + 1) (.int .i64 b) (.bool false) (.slice b2 (n + 1) d2) = X := ⟨_, rfl⟩
        rw [eV1] at HX_dz1 Kq_dz1 Kg_dz1 Ol_dz1
        have eV12 : (((w6).setCell ⟨w.heap.size + 1, 0, none⟩ (.int .i64 b)).setCell ⟨w.heap.size + 1, 1, none⟩ (.bool false)).setCell ⟨w.heap.size + 1, 2, none⟩ (.slice b2 (n + 1) d2) = V1 := eV1
        rw [eV12]
        clear eV1 eV12 HX7 HQ6 HG6 HO6
        have HX_dz2 := hide (put2_below (y0 := .int .i64 0) (y1 := .int .i64 0) (unhide HX_dz1) (show w.heap.size ≤ w.heap.size + 1 + 1 by first | omega | (have := unhide HBA; omega)))
        have Kq_dz2 := hide ((put2_keep (y0 := .int .i64 0) (y1 := .int .i64 0) (show w.heap.size + 1 ≠ w.heap.size + 1 + 1 by omega)).trans (unhide Kq_dz1))
        have Kg_dz2 := hide (put2_new (y0 := .int .i64 0) (y1 := .int .i64 0) (unhide Kg_dz1))
        have Ol_dz2 := hide ((unhide Ol_dz1).keep (fun k hk => put2_keep (y0 := .int .i64 0) (y1 := .int .i64 0) (Own.ne (unhide Ol_dz1) (unhide Kg_dz1) (by decide) k hk)))
        obtain ⟨V2, eV2⟩ : ∃ X, put2 V1 (w.heap.size + 1 + 1) (.int .i64 0) (.int .i64 0) = X := ⟨_, rfl⟩
        rw [eV2] at HX_dz2 Kq_dz2 Kg_dz2 Ol_dz2
        have eV22 : ((V1).setCell ⟨w.heap.size + 1 + 1, 0, none⟩ (.int .i64 0)).setCell ⟨w.heap.size + 1 + 1, 1, none⟩ (.int .i64 0) = V2 := eV2
        rw [eV22]
        clear eV2 eV22 HX_dz1 Kq_dz1 Kg_dz1 Ol_dz1
        obtain ⟨⟨q0, q1, q2⟩, ⟨qf0, qf1, qf2⟩, ql⟩ := block3 (unhide Kq_dz2)
        obtain ⟨g0, g1, gf0, gf1, gl⟩ := block2 (unhide Kg_dz2)
        go_wp2_with fail
        refine bodyPost_ret (v := .tuple #[.agg #[.int .i64 b, .bool false, .slice b2 (n + 1) d2], .int .i64 0, .agg #[.int .i64 0, .int .i64 0]]) (by simp [results, Try.results19, go_sem, q0, q1, q2, g0, g1]) rfl ⟨.agg #[.int .i64 b, .bool false, .slice b2 (n + 1) d2], ?_, ?_, unhide HX_dz2⟩
        · rfl
        · exact ⟨_, rfl, ((unhide Ol_dz2).base (unhide HB7)).new⟩
end Go.Proofs.Ytpogcfdmkeebmaa
