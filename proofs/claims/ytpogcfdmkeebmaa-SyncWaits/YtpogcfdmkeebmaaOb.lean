/-
  sync.Add.
-/
import Derived.Test.YtpogcfdmkeebmaaO
namespace Go.Proofs.Ytpogcfdmkeebmaa
open Go.RowKit

set_option maxRecDepth 100000 in
set_option maxHeartbeats 2000000 in
theorem add_fault (w : World) (v : Value) (c : Int) (xs : List Int) (x : Int) (h : IsG KI w v c xs) (hn : xs.length ≤ maxLen) (hf : (addF c xs x).1 ≠ 0) :
    Calls Try.prog 12 #[v, .int .i64 x] w fun e w' => e = .returned (.tuple #[.agg #[.int .i64 0, .slice none 0 0], .slice none 0 0, .bool false, faultV (addF c xs x)]) ∧ Below w.heap.size w w' := by
  have HC : Hid (∀ W, Below w.heap.size w W → Calls Try.prog 34 #[v, .int .i64 x] W fun e w' => e = .returned (faultV (addF c xs x)) ∧ Below W.heap.size W w') := fun W hW => checkAdd_any W v c xs x (h.below hW) hn
  obtain ⟨⟨F0, F1⟩, eF⟩ : ∃ F, addF c xs x = F := ⟨_, rfl⟩
  rw [eF] at HC hf ⊢
  obtain ⟨a0, c0, rfl, hL⟩ := h.form
  generalize xs.length = n at *
  have x0 : (F0 != 0) = true := by simpa using hf
  clear h hL eF hf hn
  obtain ⟨W0, e0, hB, k0, k1, k2⟩ := three_new w (.cells #[.int .i64 c, .slice a0 n c0] 24) (.cells #[.int .i64 0, .slice none 0 0] 24) (.cells #[.int .i64 0, .int .i64 0] 29)
  have HX := hide hB; have HP := hide k0; have HQ := hide k1; have HG := hide k2; have HE := hide e0
  clear hB k0 k1 k2 e0
  go_enter Try.func12, Try.ntmps12
  go_upto_region 1 with fail
  rw [unhide HE]
  clear HE
  obtain ⟨p0, p1, pf0, pf1, pl⟩ := block2 (unhide HP)
  go_upto_region 2 with (go_at_call 34; refine (unhide HC _ (unhide HX)).mono ?_; rintro e w1 ⟨he, hb1⟩; obtain rfl : e = .returned (.agg #[.int .i64 F0, .int .i64 F1]) := he; have HX_1 := hide (Below.next (unhide HX) hb1 (by first | exact Nat.le_refl _ | (have := unhide HBA; omega))); have Kp_1 := hide (keep_below (unhide HP) hb1); have Kq_1 := hide (keep_below (unhide HQ) hb1); have Kg_1 := hide (keep_below (unhide HG) hb1); clear HX HP HQ HG; clear hb1 p0 p1 pf0 pf1 pl)
  have HX_2 := hide ((unhide HX_1).alloc (Nat.le_trans (show w.heap.size ≤ w.heap.size from Nat.le_refl _) (unhide HX_1).size) (.cells #[.int .i64 F0, .int .i64 F1] 29))
  have Kp_2 := hide (keep_alloc (unhide Kp_1) (.cells #[.int .i64 F0, .int .i64 F1] 29))
  have Kq_2 := hide (keep_alloc (unhide Kq_1) (.cells #[.int .i64 F0, .int .i64 F1] 29))
  have Kg_2 := hide (keep_alloc (unhide Kg_1) (.cells #[.int .i64 F0, .int .i64 F1] 29))
  have Kf_2 := hide (new_block w1 (.cells #[.int .i64 F0, .int .i64 F1] 29))
  have hlp_f : w.heap.size < w1.heap.size := size_of (unhide Kp_1)
  have hlq_f : w.heap.size + 1 < w1.heap.size := size_of (unhide Kq_1)
  have hlg_f : w.heap.size + 1 + 1 < w1.heap.size := size_of (unhide Kg_1)
  obtain ⟨T, eT⟩ : ∃ X, w1.heap.size = X := ⟨_, rfl⟩
  obtain ⟨W2, eW2⟩ : ∃ X, w1.alloc (.cells #[.int .i64 F0, .int .i64 F1] 29) = X := ⟨_, rfl⟩
  rw [eT, eW2] at Kf_2; rw [eW2] at HX_2 Kp_2 Kq_2 Kg_2; rw [eT] at hlp_f hlq_f hlg_f; rw [eT, eW2]
  clear eT eW2 HX_1 Kp_1 Kq_1 Kg_1
  have hqt : w.heap.size + 1 + 1 < T := by omega
  obtain ⟨q0, q1, qf0, qf1, ql⟩ := block2 (unhide Kq_2)
  obtain ⟨g0, g1, gf0, gf1, gl⟩ := block2 (unhide Kg_2)
  obtain ⟨f0, f1, ff0, ff1, fl⟩ := block2 (unhide Kf_2)
  have u1_ : w.heap.size + 1 ≠ T := by omega
  have u2_ : w.heap.size + 1 + 1 ≠ T := by omega
  have u3_ : T ≠ w.heap.size + 1 := by omega
  have u4_ : T ≠ w.heap.size + 1 + 1 := by omega
  go_wp2_with fail
  go_region
  clear q0 q1 qf0 qf1 ql g0 g1 gf0 gf1 gl f0 f1 ff0 ff1 fl
  have HX_3 := hide (put2_below (y0 := .int .i64 0) (y1 := .slice none 0 0) (unhide HX_2) (show w.heap.size ≤ w.heap.size + 1 by first | omega | (have := unhide HBA; omega)))
  have Kp_3 := hide ((put2_keep (y0 := .int .i64 0) (y1 := .slice none 0 0) (show w.heap.size ≠ w.heap.size + 1 by omega)).trans (unhide Kp_2))
  have Kq_3 := hide (put2_new (y0 := .int .i64 0) (y1 := .slice none 0 0) (unhide Kq_2))
  have Kg_3 := hide ((put2_keep (y0 := .int .i64 0) (y1 := .slice none 0 0) (show w.heap.size + 1 + 1 ≠ w.heap.size + 1 by omega)).trans (unhide Kg_2))
  have Kf_3 := hide ((put2_keep (y0 := .int .i64 0) (y1 := .slice none 0 0) (show T ≠ w.heap.size + 1 by omega)).trans (unhide Kf_2))
  obtain ⟨V1, eV1⟩ : ∃ X, put2 W2 (w.heap.size + 1) (.int .i64 0) (.slice none 0 0) = X := ⟨_, rfl⟩
  rw [eV1] at HX_3 Kp_3 Kq_3 Kg_3 Kf_3
  have eV12 : ((W2).setCell ⟨w.heap.size + 1, 0, none⟩ (.int .i64 0)).setCell ⟨w.heap.size + 1, 1, none⟩ (.slice none 0 0) = V1 := eV1
  rw [eV12]
  clear eV1 eV12 HX_2 Kp_2 Kq_2 Kg_2 Kf_2
  have HX_4 := hide (put2_below (y0 := .int .i64 F0) (y1 := .int .i64 F1) (unhide HX_3) (show w.heap.size ≤ w.heap.size + 1 + 1 by first | omega | (have := unhide HBA; omega)))
  have Kp_4 := hide ((put2_keep (y0 := .int .i64 F0) (y1 := .int .i64 F1) (show w.heap.size ≠ w.heap.size + 1 + 1 by omega)).trans (unhide Kp_3))
  have Kq_4 := hide ((put2_keep (y0 := .int .i64 F0) (y1 := .int .i64 F1) (show w.heap.size + 1 ≠ w.heap.size + 1 + 1 by omega)).trans (unhide Kq_3))
  have Kg_4 := hide (put2_new (y0 := .int .i64 F0) (y1 := .int .i64 F1) (unhide Kg_3))
  have Kf_4 := hide ((put2_keep (y0 := .int .i64 F0) (y1 := .int .i64 F1) (show T ≠ w.heap.size + 1 + 1 by omega)).trans (unhide Kf_3))
  obtain ⟨V2, eV2⟩ : ∃ X, put2 V1 (w.heap.size + 1 + 1) (.int .i64 F0) (.int .i64 F1) = X := ⟨_, rfl⟩
  rw [eV2] at HX_4 Kp_4 Kq_4 Kg_4 Kf_4
  have eV22 : ((V1).setCell ⟨w.heap.size + 1 + 1, 0, none⟩ (.int .i64 F0)).setCell ⟨w.heap.size + 1 + 1, 1, none⟩ (.int .i64 F1) = V2 := eV2
  rw [eV22]
  clear eV2 eV22 HX_3 Kp_3 Kq_3 Kg_3 Kf_3
  have hV3 : Below V2.heap.size V2 V2.drew := (Below.refl _ _).drew
  obtain ⟨V3, eV3⟩ : ∃ X, V2.drew = X := ⟨_, rfl⟩
  rw [eV3] at hV3 ⊢
  (have HX_5 := hide (Below.next (unhide HX_4) hV3 (by first | exact Nat.le_refl _ | (have := unhide HBA; omega))); have Kp_5 := hide (keep_below (unhide Kp_4) hV3); have Kq_5 := hide (keep_below (unhide Kq_4) hV3); have Kg_5 := hide (keep_below (unhide Kg_4) hV3); have Kf_5 := hide (keep_below (unhide Kf_4) hV3); clear HX_4 Kp_4 Kq_4 Kg_4 Kf_4)
  clear hV3 eV3
  obtain ⟨q0, q1, qf0, qf1, ql⟩ := block2 (unhide Kq_5)
  obtain ⟨g0, g1, gf0, gf1, gl⟩ := block2 (unhide Kg_5)
  go_wp2_with fail
  exact bodyPost_ret (v := .tuple #[.agg #[.int .i64 0, .slice none 0 0], .slice none 0 0, .bool false, .agg #[.int .i64 F0, .int .i64 F1]]) (by simp [results, Try.results12, go_sem, q0, q1, g0, g1]) rfl ⟨rfl, unhide HX_5⟩

set_option maxRecDepth 100000 in
set_option maxHeartbeats 4000000 in
theorem add_ok (w : World) (v : Value) (c : Int) (xs : List Int) (x : Int) (h : IsG KI w v c xs) (hf : (addF c xs x).1 = 0) :
    Calls Try.prog 12 #[v, .int .i64 x] w fun e w' => ∃ v1 v2, e = .returned (.tuple #[v1, v2, .bool (addR c xs x).2, .agg #[.int .i64 0, .int .i64 0]]) ∧ NewG KI w.heap.size w' v1 (addR c xs x).1.1.1 (addR c xs x).1.1.2 ∧ New KI w.heap.size w' v2 (addR c xs x).1.2 ∧ Below w.heap.size w w' := by
  obtain ⟨hg, hz, hx0, hx1, hcx⟩ := addF_good hf
  obtain ⟨-, -, hl, hc1, hc2, -⟩ := groupF_good hg
  have HC : Hid (∀ W, Below w.heap.size w W → Calls Try.prog 34 #[v, .int .i64 x] W fun e w' => e = .returned (faultV (0, 0)) ∧ Below W.heap.size W w') := fun W hW => by
    have := checkAdd_any W v c xs x (h.below hW) (by unfold maxLen; omega)
    rw [hz] at this
    exact this
  obtain ⟨a0, c0, rfl, hL⟩ := h.form
  have HFR : Hid (∀ W, Below w.heap.size w W → Calls Try.prog 35 #[.slice a0 xs.length c0] W fun e w' => ∃ a' c', e = .returned (.slice a' xs.length c') ∧ Own KI W.heap.size w' (.slice a' xs.length c') xs ∧ Below W.heap.size W w') := fun W hW => fresh_any W _ xs (hL.below hW) (by omega)
  obtain ⟨R, eR⟩ : ∃ R, addR c xs x = R := ⟨_, rfl⟩
  rw [eR]
  unfold addR at eR
  obtain ⟨n, en⟩ : ∃ n, xs.length = n := ⟨_, rfl⟩
  rw [en] at HC HFR ⊢
  have hwf : IntKind.i64.wrap (c + x) = c + x := wrapi (by omega) (by omega)
  have HR := hide eR
  clear h hL hf hg hz en eR
  obtain ⟨W0, e0, hB, k0, k1, k2⟩ := three_new w (.cells #[.int .i64 c, .slice a0 n c0] 24) (.cells #[.int .i64 0, .slice none 0 0] 24) (.cells #[.int .i64 0, .int .i64 0] 29)
  have HX := hide hB; have HP := hide k0; have HQ := hide k1; have HG := hide k2; have HE := hide e0
  clear hB k0 k1 k2 e0
  go_enter Try.func12, Try.ntmps12
  go_upto_region 1 with fail
  rw [unhide HE]
  clear HE
  obtain ⟨p0, p1, pf0, pf1, pl⟩ := block2 (unhide HP)
  go_upto_region 2 with (go_at_call 34; refine (unhide HC _ (unhide HX)).mono ?_; rintro e w1 ⟨he, hb1⟩; obtain rfl : e = .returned (.agg #[.int .i64 0, .int .i64 0]) := he; have HX_1 := hide (Below.next (unhide HX) hb1 (by first | exact Nat.le_refl _ | (have := unhide HBA; omega))); have Kp_1 := hide (keep_below (unhide HP) hb1); have Kq_1 := hide (keep_below (unhide HQ) hb1); have Kg_1 := hide (keep_below (unhide HG) hb1); clear HX HP HQ HG; clear hb1 p0 p1 pf0 pf1 pl)
  have HX_2 := hide ((unhide HX_1).alloc (Nat.le_trans (show w.heap.size ≤ w.heap.size from Nat.le_refl _) (unhide HX_1).size) (.cells #[.int .i64 0, .int .i64 0] 29))
  have Kp_2 := hide (keep_alloc (unhide Kp_1) (.cells #[.int .i64 0, .int .i64 0] 29))
  have Kq_2 := hide (keep_alloc (unhide Kq_1) (.cells #[.int .i64 0, .int .i64 0] 29))
  have Kg_2 := hide (keep_alloc (unhide Kg_1) (.cells #[.int .i64 0, .int .i64 0] 29))
  have Kf_2 := hide (new_block w1 (.cells #[.int .i64 0, .int .i64 0] 29))
  have hlp_f : w.heap.size < w1.heap.size := size_of (unhide Kp_1)
  have hlq_f : w.heap.size + 1 < w1.heap.size := size_of (unhide Kq_1)
  have hlg_f : w.heap.size + 1 + 1 < w1.heap.size := size_of (unhide Kg_1)
  obtain ⟨T, eT⟩ : ∃ X, w1.heap.size = X := ⟨_, rfl⟩
  obtain ⟨W2, eW2⟩ : ∃ X, w1.alloc (.cells #[.int .i64 0, .int .i64 0] 29) = X := ⟨_, rfl⟩
  rw [eT, eW2] at Kf_2; rw [eW2] at HX_2 Kp_2 Kq_2 Kg_2; rw [eT] at hlp_f hlq_f hlg_f; rw [eT, eW2]
  clear eT eW2 HX_1 Kp_1 Kq_1 Kg_1
  have hqt : w.heap.size + 1 + 1 < T := by omega
  by_cases h1 : c + x < 0
  · have hr := unhide HR
    rw [if_pos h1] at hr
    subst hr
    clear HR
    obtain ⟨p0, p1, pf0, pf1, pl⟩ := block2 (unhide Kp_2)
    obtain ⟨f0, f1, ff0, ff1, fl⟩ := block2 (unhide Kf_2)
    go_upto_region 6 with fail
    clear p0 p1 pf0 pf1 pl f0 f1 ff0 ff1 fl
    have HLE := hide (show w.heap.size + 1 ≤ W2.heap.size from size_of (unhide Kp_2))
    have HSS : Hid (∀ W, Below (w.heap.size + 1) W2 W → W.cell? ⟨w.heap.size, 0, none⟩ = some (.int .i64 c) ∧ W.cell? ⟨w.heap.size, 1, none⟩ = some (.slice a0 n c0) ∧ Below (w.heap.size + 1) W2 W) := fun W hW => by
      obtain ⟨k0, k1, -, -, -⟩ := block2 (keep_at (unhide Kp_2) hW (Nat.lt_succ_self _))
      exact ⟨k0, k1, hW⟩
    have HF9 : Hid (∀ W, Below W2.heap.size W2 W → Calls Try.prog 35 #[.slice a0 n c0] W fun e w' => ∃ a' c', e = .returned (.slice a' n c') ∧ Own KI W.heap.size w' (.slice a' n c') xs ∧ Below W.heap.size W w') := fun W hW => unhide HFR W (Below.next (unhide HX_2) hW (Nat.le_refl _))
    have HX9 : Hid (∀ W, Below W2.heap.size W2 W → Below (w.heap.size + 1) W2 W) := fun W hW => hW.mono (unhide HLE)
    obtain ⟨k0, k1, -⟩ := unhide HSS _ (Below.refl _ _)
    go_wp2_with fail
    go_region_held3 (fun W => W.cell? ⟨w.heap.size, 0, none⟩ = some (.int .i64 c) ∧ W.cell? ⟨w.heap.size, 1, none⟩ = some (.slice a0 n c0) ∧ Below (w.heap.size + 1) W2 W)
      (first | with_reducible exact unhide HSS _ (unhide HX9 _ (Below.refl _ _).drew) | with_reducible exact unhide HSS _ (unhide HX9 _ (unhide HX5)) | exact unhide HSS _ (put2_below (unhide HX9 _ (unhide HX5)) (Nat.le_refl _)) | exact unhide HSS _ (put2_below (put2_below (unhide HX9 _ (unhide HX5)) (Nat.le_refl _)) (Nat.le_succ _)))
      (first | (go_at_call 35; refine (unhide HF9 _ (Below.refl _ _).drew).mono ?_; rintro e w5 ⟨b1, d1, rfl, ho5, hb5⟩; have HX5 : Hid (Below W2.heap.size W2 w5) := Below.next (Below.refl _ _).drew hb5 (Nat.le_refl _); have HO5 : Hid (Own KI W2.heap.size w5 (.slice b1 n d1) xs) := ho5; have HQ6 := hide (keep_below (unhide Kq_2) (unhide HX5)); have HG6 := hide (keep_below (unhide Kg_2) (unhide HX5)); obtain ⟨q0, q1, qf0, qf1, ql⟩ := block2 (unhide HQ6); obtain ⟨g0, g1, gf0, gf1, gl⟩ := block2 (unhide HG6); clear ho5 hb5))
    have HX7 := hide (Below.next (unhide HX_2) (unhide HX5) (Nat.le_refl _))
    have HB7 := hide (unhide HX_2).size
    clear q0 q1 qf0 qf1 ql g0 g1 gf0 gf1 gl
    have HX_az1 := hide (put2_below (y0 := .int .i64 c) (y1 := .slice b1 n d1) (unhide HX7) (show w.heap.size ≤ w.heap.size + 1 by first | omega | (have := unhide HBA; omega)))
    have Kq_az1 := hide (put2_new (y0 := .int .i64 c) (y1 := .slice b1 n d1) (unhide HQ6))
    have Kg_az1 := hide ((put2_keep (y0 := .int .i64 c) (y1 := .slice b1 n d1) (show w.heap.size + 1 + 1 ≠ w.heap.size + 1 by omega)).trans (unhide HG6))
    have Ol_az1 := hide ((unhide HO5).keep (fun k hk => put2_keep (y0 := .int .i64 c) (y1 := .slice b1 n d1) (Own.ne (unhide HO5) (unhide HQ6) (by decide) k hk)))
    obtain ⟨V1, eV1⟩ : ∃ X, put2 w5 (w.heap.size + 1) (.int .i64 c) (.slice b1 n d1) = X := ⟨_, rfl⟩
    rw [eV1] at HX_az1 Kq_az1 Kg_az1 Ol_az1
    have eV12 : ((w5).setCell ⟨w.heap.size + 1, 0, none⟩ (.int .i64 c)).setCell ⟨w.heap.size + 1, 1, none⟩ (.slice b1 n d1) = V1 := eV1
    rw [eV12]
    clear eV1 eV12 HX7 HQ6 HG6 HO5
    have HX_az2 := hide (put2_below (y0 := .int .i64 0) (y1 := .int .i64 0) (unhide HX_az1) (show w.heap.size ≤ w.heap.size + 1 + 1 by first | omega | (have := unhide HBA; omega)))
    have Kq_az2 := hide ((put2_keep (y0 := .int .i64 0) (y1 := .int .i64 0) (show w.heap.size + 1 ≠ w.heap.size + 1 + 1 by omega)).trans (unhide Kq_az1))
    have Kg_az2 := hide (put2_new (y0 := .int .i64 0) (y1 := .int .i64 0) (unhide Kg_az1))
    have Ol_az2 := hide ((unhide Ol_az1).keep (fun k hk => put2_keep (y0 := .int .i64 0) (y1 := .int .i64 0) (Own.ne (unhide Ol_az1) (unhide Kg_az1) (by decide) k hk)))
    obtain ⟨V2, eV2⟩ : ∃ X, put2 V1 (w.heap.size + 1 + 1) (.int .i64 0) (.int .i64 0) = X := ⟨_, rfl⟩
    rw [eV2] at HX_az2 Kq_az2 Kg_az2 Ol_az2
    have eV22 : ((V1).setCell ⟨w.heap.size + 1 + 1, 0, none⟩ (.int .i64 0)).setCell ⟨w.heap.size + 1 + 1, 1, none⟩ (.int .i64 0) = V2 := eV2
    rw [eV22]
    clear eV2 eV22 HX_az1 Kq_az1 Kg_az1 Ol_az1
    obtain ⟨q0, q1, qf0, qf1, ql⟩ := block2 (unhide Kq_az2)
    obtain ⟨g0, g1, gf0, gf1, gl⟩ := block2 (unhide Kg_az2)
    go_wp2_with fail
    exact bodyPost_ret (v := .tuple #[.agg #[.int .i64 c, .slice b1 n d1], .slice none 0 0, .bool true, .agg #[.int .i64 0, .int .i64 0]]) (by simp [results, Try.results12, go_sem, q0, q1, g0, g1]) rfl ⟨.agg #[.int .i64 c, .slice b1 n d1], .slice none 0 0, rfl, ⟨_, rfl, ((unhide Ol_az2).base (unhide HB7)).new⟩, new_nil _ _, unhide HX_az2⟩
  by_cases h2 : c + x = 0
  · have hr := unhide HR
    rw [if_neg h1, if_pos h2] at hr
    subst hr
    clear HR
    have h3 : ((c + x) == 0) = true := by simpa using h2
    clear h2
    obtain ⟨p0, p1, pf0, pf1, pl⟩ := block2 (unhide Kp_2)
    obtain ⟨f0, f1, ff0, ff1, fl⟩ := block2 (unhide Kf_2)
    go_upto_region 8 with fail
    clear p0 p1 pf0 pf1 pl f0 f1 ff0 ff1 fl
    obtain ⟨p0, p1, pf0, pf1, pl⟩ := block2 (unhide Kp_2)
    go_wp2_with (go_at_call 35; refine (unhide HFR _ (unhide HX_2)).mono ?_; rintro e w5 ⟨b1, d1, rfl, ho5, hb5⟩; have HO5 := hide (ho5.base (unhide HX_2).size); have HX_b3 := hide (Below.next (unhide HX_2) hb5 (by first | exact Nat.le_refl _ | (have := unhide HBA; omega))); have Kp_b3 := hide (keep_below (unhide Kp_2) hb5); have Kq_b3 := hide (keep_below (unhide Kq_2) hb5); have Kg_b3 := hide (keep_below (unhide Kg_2) hb5); have Kf_b3 := hide (keep_below (unhide Kf_2) hb5); clear HX_2 Kp_2 Kq_2 Kg_2 Kf_2; clear ho5 hb5 p0 p1 pf0 pf1 pl; obtain ⟨q0, q1, qf0, qf1, ql⟩ := block2 (unhide Kq_b3); obtain ⟨g0, g1, gf0, gf1, gl⟩ := block2 (unhide Kg_b3))
    clear q0 q1 qf0 qf1 ql g0 g1 gf0 gf1 gl
    have HX_b4 := hide (put2_below (y0 := .int .i64 0) (y1 := .slice none 0 0) (unhide HX_b3) (show w.heap.size ≤ w.heap.size + 1 by first | omega | (have := unhide HBA; omega)))
    have Kp_b4 := hide ((put2_keep (y0 := .int .i64 0) (y1 := .slice none 0 0) (show w.heap.size ≠ w.heap.size + 1 by omega)).trans (unhide Kp_b3))
    have Kq_b4 := hide (put2_new (y0 := .int .i64 0) (y1 := .slice none 0 0) (unhide Kq_b3))
    have Kg_b4 := hide ((put2_keep (y0 := .int .i64 0) (y1 := .slice none 0 0) (show w.heap.size + 1 + 1 ≠ w.heap.size + 1 by omega)).trans (unhide Kg_b3))
    have Kf_b4 := hide ((put2_keep (y0 := .int .i64 0) (y1 := .slice none 0 0) (show T ≠ w.heap.size + 1 by omega)).trans (unhide Kf_b3))
    have Ol_b4 := hide ((unhide HO5).keep (fun k hk => put2_keep (y0 := .int .i64 0) (y1 := .slice none 0 0) (Own.ne (unhide HO5) (unhide Kq_b3) (by decide) k hk)))
    obtain ⟨V1, eV1⟩ : ∃ X, put2 w5 (w.heap.size + 1) (.int .i64 0) (.slice none 0 0) = X := ⟨_, rfl⟩
    rw [eV1] at HX_b4 Kp_b4 Kq_b4 Kg_b4 Kf_b4 Ol_b4
    have eV12 : ((w5).setCell ⟨w.heap.size + 1, 0, none⟩ (.int .i64 0)).setCell ⟨w.heap.size + 1, 1, none⟩ (.slice none 0 0) = V1 := eV1
    rw [eV12]
    clear eV1 eV12 HX_b3 Kp_b3 Kq_b3 Kg_b3 Kf_b3 HO5
    have HX_b5 := hide (put2_below (y0 := .int .i64 0) (y1 := .int .i64 0) (unhide HX_b4) (show w.heap.size ≤ w.heap.size + 1 + 1 by first | omega | (have := unhide HBA; omega)))
    have Kp_b5 := hide ((put2_keep (y0 := .int .i64 0) (y1 := .int .i64 0) (show w.heap.size ≠ w.heap.size + 1 + 1 by omega)).trans (unhide Kp_b4))
    have Kq_b5 := hide ((put2_keep (y0 := .int .i64 0) (y1 := .int .i64 0) (show w.heap.size + 1 ≠ w.heap.size + 1 + 1 by omega)).trans (unhide Kq_b4))
    have Kg_b5 := hide (put2_new (y0 := .int .i64 0) (y1 := .int .i64 0) (unhide Kg_b4))
    have Kf_b5 := hide ((put2_keep (y0 := .int .i64 0) (y1 := .int .i64 0) (show T ≠ w.heap.size + 1 + 1 by omega)).trans (unhide Kf_b4))
    have Ol_b5 := hide ((unhide Ol_b4).keep (fun k hk => put2_keep (y0 := .int .i64 0) (y1 := .int .i64 0) (Own.ne (unhide Ol_b4) (unhide Kg_b4) (by decide) k hk)))
    obtain ⟨V2, eV2⟩ : ∃ X, put2 V1 (w.heap.size + 1 + 1) (.int .i64 0) (.int .i64 0) = X := ⟨_, rfl⟩
    rw [eV2] at HX_b5 Kp_b5 Kq_b5 Kg_b5 Kf_b5 Ol_b5
    have eV22 : ((V1).setCell ⟨w.heap.size + 1 + 1, 0, none⟩ (.int .i64 0)).setCell ⟨w.heap.size + 1 + 1, 1, none⟩ (.int .i64 0) = V2 := eV2
    rw [eV22]
    clear eV2 eV22 HX_b4 Kp_b4 Kq_b4 Kg_b4 Kf_b4 Ol_b4
    obtain ⟨q0, q1, qf0, qf1, ql⟩ := block2 (unhide Kq_b5)
    obtain ⟨g0, g1, gf0, gf1, gl⟩ := block2 (unhide Kg_b5)
    exact bodyPost_ret (v := .tuple #[.agg #[.int .i64 0, .slice none 0 0], .slice b1 n d1, .bool false, .agg #[.int .i64 0, .int .i64 0]]) (by simp [results, Try.results12, go_sem, q0, q1, g0, g1]) rfl ⟨.agg #[.int .i64 0, .slice none 0 0], .slice b1 n d1, rfl, zero_newg _ _ _, (unhide Ol_b5).new, unhide HX_b5⟩
  · have hr := unhide HR
    rw [if_neg h1, if_neg h2] at hr
    subst hr
    clear HR
    have h3 : ((c + x) == 0) = false := by simpa using h2
    clear h2
    obtain ⟨p0, p1, pf0, pf1, pl⟩ := block2 (unhide Kp_2)
    obtain ⟨f0, f1, ff0, ff1, fl⟩ := block2 (unhide Kf_2)
    go_upto_region 9 with fail
    clear p0 p1 pf0 pf1 pl f0 f1 ff0 ff1 fl
    try rw [hwf]
    obtain ⟨p0, p1, pf0, pf1, pl⟩ := block2 (unhide Kp_2)
    go_wp2_with (go_at_call 35; refine (unhide HFR _ (unhide HX_2)).mono ?_; rintro e w5 ⟨b1, d1, rfl, ho5, hb5⟩; have HO5 := hide (ho5.base (unhide HX_2).size); have HX_d3 := hide (Below.next (unhide HX_2) hb5 (by first | exact Nat.le_refl _ | (have := unhide HBA; omega))); have Kp_d3 := hide (keep_below (unhide Kp_2) hb5); have Kq_d3 := hide (keep_below (unhide Kq_2) hb5); have Kg_d3 := hide (keep_below (unhide Kg_2) hb5); have Kf_d3 := hide (keep_below (unhide Kf_2) hb5); clear HX_2 Kp_2 Kq_2 Kg_2 Kf_2; clear ho5 hb5 p0 p1 pf0 pf1 pl; obtain ⟨q0, q1, qf0, qf1, ql⟩ := block2 (unhide Kq_d3); obtain ⟨g0, g1, gf0, gf1, gl⟩ := block2 (unhide Kg_d3))
    clear q0 q1 qf0 qf1 ql g0 g1 gf0 gf1 gl
    have HX_d4 := hide (put2_below (y0 := .int .i64 (c + x)) (y1 := .slice b1 n d1) (unhide HX_d3) (show w.heap.size ≤ w.heap.size + 1 by first | omega | (have := unhide HBA; omega)))
    have Kp_d4 := hide ((put2_keep (y0 := .int .i64 (c + x)) (y1 := .slice b1 n d1) (show w.heap.size ≠ w.heap.size + 1 by omega)).trans (unhide Kp_d3))
    have Kq_d4 := hide (put2_new (y0 := .int .i64 (c + x)) (y1 := .slice b1 n d1) (unhide Kq_d3))
    have Kg_d4 := hide ((put2_keep (y0 := .int .i64 (c + x)) (y1 := .slice b1 n d1) (show w.heap.size + 1 + 1 ≠ w.heap.size + 1 by omega)).trans (unhide Kg_d3))
    have Kf_d4 := hide ((put2_keep (y0 := .int .i64 (c + x)) (y1 := .slice b1 n d1) (show T ≠ w.heap.size + 1 by omega)).trans (unhide Kf_d3))
    have Ol_d4 := hide ((unhide HO5).keep (fun k hk => put2_keep (y0 := .int .i64 (c + x)) (y1 := .slice b1 n d1) (Own.ne (unhide HO5) (unhide Kq_d3) (by decide) k hk)))
    obtain ⟨V1, eV1⟩ : ∃ X, put2 w5 (w.heap.size + 1) (.int .i64 (c + x)) (.slice b1 n d1) = X := ⟨_, rfl⟩
    rw [eV1] at HX_d4 Kp_d4 Kq_d4 Kg_d4 Kf_d4 Ol_d4
    have eV12 : ((w5).setCell ⟨w.heap.size + 1, 0, none⟩ (.int .i64 (c + x))).setCell ⟨w.heap.size + 1, 1, none⟩ (.slice b1 n d1) = V1 := eV1
    rw [eV12]
    clear eV1 eV12 HX_d3 Kp_d3 Kq_d3 Kg_d3 Kf_d3 HO5
    have HX_d5 := hide (put2_below (y0 := .int .i64 0) (y1 := .int .i64 0) (unhide HX_d4) (show w.heap.size ≤ w.heap.size + 1 + 1 by first | omega | (have := unhide HBA; omega)))
    have Kp_d5 := hide ((put2_keep (y0 := .int .i64 0) (y1 := .int .i64 0) (show w.heap.size ≠ w.heap.size + 1 + 1 by omega)).trans (unhide Kp_d4))
    have Kq_d5 := hide ((put2_keep (y0 := .int .i64 0) (y1 := .int .i64 0) (show w.heap.size + 1 ≠ w.heap.size + 1 + 1 by omega)).trans (unhide Kq_d4))
    have Kg_d5 := hide (put2_new (y0 := .int .i64 0) (y1 := .int .i64 0) (unhide Kg_d4))
    have Kf_d5 := hide ((put2_keep (y0 := .int .i64 0) (y1 := .int .i64 0) (show T ≠ w.heap.size + 1 + 1 by omega)).trans (unhide Kf_d4))
    have Ol_d5 := hide ((unhide Ol_d4).keep (fun k hk => put2_keep (y0 := .int .i64 0) (y1 := .int .i64 0) (Own.ne (unhide Ol_d4) (unhide Kg_d4) (by decide) k hk)))
    obtain ⟨V2, eV2⟩ : ∃ X, put2 V1 (w.heap.size + 1 + 1) (.int .i64 0) (.int .i64 0) = X := ⟨_, rfl⟩
    rw [eV2] at HX_d5 Kp_d5 Kq_d5 Kg_d5 Kf_d5 Ol_d5
    have eV22 : ((V1).setCell ⟨w.heap.size + 1 + 1, 0, none⟩ (.int .i64 0)).setCell ⟨w.heap.size + 1 + 1, 1, none⟩ (.int .i64 0) = V2 := eV2
    rw [eV22]
    clear eV2 eV22 HX_d4 Kp_d4 Kq_d4 Kg_d4 Kf_d4 Ol_d4
    obtain ⟨q0, q1, qf0, qf1, ql⟩ := block2 (unhide Kq_d5)
    obtain ⟨g0, g1, gf0, gf1, gl⟩ := block2 (unhide Kg_d5)
    exact bodyPost_ret (v := .tuple #[.agg #[.int .i64 (c + x), .slice b1 n d1], .slice none 0 0, .bool false, .agg #[.int .i64 0, .int .i64 0]]) (by simp [results, Try.results12, go_sem, q0, q1, g0, g1]) rfl ⟨.agg #[.int .i64 (c + x), .slice b1 n d1], .slice none 0 0, rfl, ⟨_, rfl, (unhide Ol_d5).new⟩, new_nil _ _, unhide HX_d5⟩
end Go.Proofs.Ytpogcfdmkeebmaa
