/-
  sync.End.
-/
import Derived.Test.YtpogcfdmkeebmaaP
namespace Go.Proofs.Ytpogcfdmkeebmaa
open Go.RowKit

set_option maxRecDepth 100000 in
set_option maxHeartbeats 2000000 in
theorem end_once (w : World) (v : Value) (b : Int) (d : Bool) (xs : List Int) (x : Int) (h : IsO w v b d xs) (hn : xs.length ≤ maxLen) (hf : (onceF b d xs).1 ≠ 0) :
    Calls Try.prog 20 #[v, .int .i64 x] w fun e w' => e = .returned (.tuple #[.agg #[.int .i64 0, .bool false, .slice none 0 0], .slice none 0 0, faultV (onceF b d xs)]) ∧ Below w.heap.size w w' := by
  have HC : Hid (∀ W, Below w.heap.size w W → Calls Try.prog 40 #[v] W fun e w' => e = .returned (faultV (onceF b d xs)) ∧ Below W.heap.size W w') := fun W hW => checkOnce_any W v b d xs (h.below hW) hn
  obtain ⟨⟨F0, F1⟩, eF⟩ : ∃ F, onceF b d xs = F := ⟨_, rfl⟩
  rw [eF] at HC hf ⊢
  obtain ⟨a0, c0, rfl, hL⟩ := h.form
  generalize xs.length = n at *
  have x0 : (F0 != 0) = true := by simpa using hf
  clear h hL eF hf hn
  obtain ⟨W0, e0, hB, k0, k1, k2⟩ := three_new w (.cells #[.int .i64 b, .bool d, .slice a0 n c0] 41) (.cells #[.int .i64 0, .bool false, .slice none 0 0] 41) (.cells #[.int .i64 0, .int .i64 0] 29)
  have HX := hide hB; have HP := hide k0; have HQ := hide k1; have HG := hide k2; have HE := hide e0
  clear hB k0 k1 k2 e0
  go_enter Try.func20, Try.ntmps20
  go_upto_region 1 with fail
  rw [unhide HE]
  clear HE
  obtain ⟨⟨p0, p1, p2⟩, ⟨pf0, pf1, pf2⟩, pl⟩ := block3 (unhide HP)
  go_upto_region 2 with (go_at_call 40; refine (unhide HC _ (unhide HX)).mono ?_; rintro e w1 ⟨he, hb1⟩; obtain rfl : e = .returned (.agg #[.int .i64 F0, .int .i64 F1]) := he; have HX_1 := hide (Below.next (unhide HX) hb1 (by first | exact Nat.le_refl _ | (have := unhide HBA; omega))); have Kp_1 := hide (keep_below (unhide HP) hb1); have Kq_1 := hide (keep_below (unhide HQ) hb1); have Kg_1 := hide (keep_below (unhide HG) hb1); clear HX HP HQ HG; clear hb1 p0 p1 p2 pf0 pf1 pf2 pl)
  have HX_2 := hide ((unhide HX_1).alloc (Nat.le_trans (show w.heap.size ≤ w.heap.size from Nat.le_refl _) (unhide HX_1).size) (.cells #[.int .i64 F0, .int .i64 F1] 29))
  have Kp_2 := hide (keep_alloc (unhide Kp_1) (.cells #[.int .i64 F0, .int .i64 F1] 29))
  have Kq_2 := hide (keep_alloc (unhide Kq_1) (.cells #[.int .i64 F0, .int .i64 F1] 29))
  have Kg_2 := hide (keep_alloc (unhide Kg_1) (.cells #[.int .i64 F0, .int .i64 F1] 29))
  have Kf_2 := hide (new_block w1 (.cells #[.int .i64 F0, .int .i64 F1] 29))
  have hlp_f : w.heap.size < w1.heap.size := size_of (unhide Kp_1)
  have hlq_f : w.heap.size + 1 < w1.heap.size := size_of (unhide Kq_1)
  have hlg_f : w.heap.size + 1 + 1 < w1.heap.size := size_of (unhide Kg_1)
  obtain ⟨T, eT⟩ : ∃ X, w1.heap.size = X := ⟨_, rfl⟩
  obtain ⟨W2, eW2⟩ : ∃ X, w1.alloc (.cells #[.int .i64 F0, .int .i64 F1] 29) = X := ⟨_, rfl⟩
  rw [eT, eW2] at Kf_2; rw [eW2] at HX_2 Kp_2 Kq_2 Kg_2; rw [eT] at hlp_f hlq_f hlg_f; rw [eT, eW2]
  clear eT eW2 HX_1 Kp_1 Kq_1 Kg_1
  have hqt : w.heap.size + 1 + 1 < T := by omega
  obtain ⟨⟨q0, q1, q2⟩, ⟨qf0, qf1, qf2⟩, ql⟩ := block3 (unhide Kq_2)
  obtain ⟨g0, g1, gf0, gf1, gl⟩ := block2 (unhide Kg_2)
  obtain ⟨f0, f1, ff0, ff1, fl⟩ := block2 (unhide Kf_2)
  have u1_ : w.heap.size + 1 ≠ T := by omega
  have u2_ : w.heap.size + 1 + 1 ≠ T := by omega
  have u3_ : T ≠ w.heap.size + 1 := by omega
  have u4_ : T ≠ w.heap.size + 1 + 1 := by omega
  go_wp2_with fail
  go_region
  clear q0 q1 q2 qf0 qf1 qf2 ql g0 g1 gf0 gf1 gl f0 f1 ff0 ff1 fl
  have HX_3 := hide (putL_below (y0 := .int .i64 0) (y1 := .bool false) (y2 := .slice none 0 0) (unhide HX_2) (show w.heap.size ≤ w.heap.size + 1 by first | omega | (have := unhide HBA; omega)))
  have Kp_3 := hide ((putL_keep (y0 := .int .i64 0) (y1 := .bool false) (y2 := .slice none 0 0) (show w.heap.size ≠ w.heap.size + 1 by omega)).trans (unhide Kp_2))
  have Kq_3 := hide (putL_new (y0 := .int .i64 0) (y1 := .bool false) (y2 := .slice none 0 0) (unhide Kq_2))
  have Kg_3 := hide ((putL_keep (y0 := .int .i64 0) (y1 := .bool false) (y2 := .slice none 0 0) (show w.heap.size + 1 + 1 ≠ w.heap.size + 1 by omega)).trans (unhide Kg_2))
  have Kf_3 := hide ((putL_keep (y0 := .int .i64 0) (y1 := .bool false) (y2 := .slice none 0 0) (show T ≠ w.heap.size + 1 by omega)).trans (unhide Kf_2))
  obtain ⟨V1, eV1⟩ : ∃ X, putL W2 (w.heap.size + 1) (.int .i64 0) (.bool false) (.slice none 0 0) = X := ⟨_, rfl⟩
  rw [eV1] at HX_3 Kp_3 Kq_3 Kg_3 Kf_3
  have eV12 : (((W2).setCell ⟨w.heap.size + 1, 0, none⟩ (.int .i64 0)).setCell ⟨w.heap.size + 1, 1, none⟩ (.bool false)).setCell ⟨w.heap.size + 1, 2, none⟩ (.slice none 0 0) = V1 := eV1
  rw [eV12]
  clear eV1 eV12 HX_2 Kp_2 Kq_2 Kg_2 Kf_2
  have HX_4 := hide (put2_below (y0 := .int .i64 F0) (y1 := .int .i64 F1) (unhide HX_3) (show w.heap.size ≤ w.heap.size + 1 + 1 by first | omega | (have := unhide HBA; omega)))
  have Kp_4 := hide ((put2_keep (y0 := .int .i64 F0) (y1 := .int .i64 F1) (show w.heap.size ≠ w.heap.size + 1 + 1 by omega)).trans (unhide Kp_3))
  have Kq_4 := hide ((put2_keep (y0 := .int .i64 F0) (y1 := .int .i64 F1) (show w.heap.size + 1 ≠ w.heap.size + 1 + 1 by omega)).trans (unhide Kq_3))
  have Kg_4 := hide (put2_new (y0 := .int .i64 F0) (y1 := .int .i64 F1) (unhide Kg_3))
  have Kf_4 := hide ((put2_keep (y0 := .int .i64 F0) (y1 := .int .i64 F1) (show T ≠ w.heap.size + 1 + 1 by omega)).trans (unhide Kf_3))
  obtain ⟨V2, eV2⟩ : ∃ X, put2 V1 (w.heap.size + 1 + 1) (.int .i64 F0) (.int .i64 F1) = X := ⟨_, rfl⟩
  rw [eV2] at HX_4 Kp_4 Kq_4 Kg_4 Kf_4
  have eV22 : ((V1).setCell ⟨w.heap.size + 1 + 1, 0, none⟩ (.int .i64 F0)).setCell ⟨w.heap.size + 1 + 1, 1, none⟩ (.int .i64 F1) = V2 := eV2
  rw [eV22]
  clear eV2 eV22 HX_3 Kp_3 Kq_3 Kg_3 Kf_3
  have hV3 : Below V2.heap.size V2 V2.drew := (Below.refl _ _).drew
  obtain ⟨V3, eV3⟩ : ∃ X, V2.drew = X := ⟨_, rfl⟩
  rw [eV3] at hV3 ⊢
  (have HX_5 := hide (Below.next (unhide HX_4) hV3 (by first | exact Nat.le_refl _ | (have := unhide HBA; omega))); have Kp_5 := hide (keep_below (unhide Kp_4) hV3); have Kq_5 := hide (keep_below (unhide Kq_4) hV3); have Kg_5 := hide (keep_below (unhide Kg_4) hV3); have Kf_5 := hide (keep_below (unhide Kf_4) hV3); clear HX_4 Kp_4 Kq_4 Kg_4 Kf_4)
  clear hV3 eV3
  obtain ⟨⟨q0, q1, q2⟩, ⟨qf0, qf1, qf2⟩, ql⟩ := block3 (unhide Kq_5)
  obtain ⟨g0, g1, gf0, gf1, gl⟩ := block2 (unhide Kg_5)
  go_wp2_with fail
  exact bodyPost_ret (v := .tuple #[.agg #[.int .i64 0, .bool false, .slice none 0 0], .slice none 0 0, .agg #[.int .i64 F0, .int .i64 F1]]) (by simp [results, Try.results20, go_sem, q0, q1, q2, g0, g1]) rfl ⟨rfl, unhide HX_5⟩

set_option maxRecDepth 100000 in
set_option maxHeartbeats 2000000 in
theorem end_state (w : World) (v : Value) (b : Int) (d : Bool) (xs : List Int) (x : Int) (h : IsO w v b d xs) (hf : (onceF b d xs).1 = 0) (hs : x ≠ b ∨ x < 1) :
    Calls Try.prog 20 #[v, .int .i64 x] w fun e w' => e = .returned (.tuple #[.agg #[.int .i64 0, .bool false, .slice none 0 0], .slice none 0 0, faultV (11, -1)]) ∧ Below w.heap.size w w' := by
  obtain ⟨hz, -, hl, -⟩ := onceF_good hf
  have HC : Hid (∀ W, Below w.heap.size w W → Calls Try.prog 40 #[v] W fun e w' => e = .returned (faultV (0, 0)) ∧ Below W.heap.size W w') := fun W hW => by
    have := checkOnce_any W v b d xs (h.below hW) (by unfold maxLen; omega)
    rw [hz] at this
    exact this
  obtain ⟨a0, c0, rfl, hL⟩ := h.form
  generalize xs.length = n at *
  clear h hL hf hz hl
  obtain ⟨W0, e0, hB, k0, k1, k2⟩ := three_new w (.cells #[.int .i64 b, .bool d, .slice a0 n c0] 41) (.cells #[.int .i64 0, .bool false, .slice none 0 0] 41) (.cells #[.int .i64 0, .int .i64 0] 29)
  have HX := hide hB; have HP := hide k0; have HQ := hide k1; have HG := hide k2; have HE := hide e0
  clear hB k0 k1 k2 e0
  by_cases h1 : x = b
  · have h2 : x < 1 := by rcases hs with h | h; exact absurd h1 h; exact h
    have x1 : (x != b) = false := by simpa using h1
    clear h1 hs
    go_enter Try.func20, Try.ntmps20
    go_upto_region 1 with fail
    rw [unhide HE]
    clear HE
    obtain ⟨⟨p0, p1, p2⟩, ⟨pf0, pf1, pf2⟩, pl⟩ := block3 (unhide HP)
    go_upto_region 2 with (go_at_call 40; refine (unhide HC _ (unhide HX)).mono ?_; rintro e w1 ⟨he, hb1⟩; obtain rfl : e = .returned (.agg #[.int .i64 0, .int .i64 0]) := he; have HX_1 := hide (Below.next (unhide HX) hb1 (by first | exact Nat.le_refl _ | (have := unhide HBA; omega))); have Kp_1 := hide (keep_below (unhide HP) hb1); have Kq_1 := hide (keep_below (unhide HQ) hb1); have Kg_1 := hide (keep_below (unhide HG) hb1); clear HX HP HQ HG; clear hb1 p0 p1 p2 pf0 pf1 pf2 pl)
    have HX_2 := hide ((unhide HX_1).alloc (Nat.le_trans (show w.heap.size ≤ w.heap.size from Nat.le_refl _) (unhide HX_1).size) (.cells #[.int .i64 0, .int .i64 0] 29))
    have Kp_2 := hide (keep_alloc (unhide Kp_1) (.cells #[.int .i64 0, .int .i64 0] 29))
    have Kq_2 := hide (keep_alloc (unhide Kq_1) (.cells #[.int .i64 0, .int .i64 0] 29))
    have Kg_2 := hide (keep_alloc (unhide Kg_1) (.cells #[.int .i64 0, .int .i64 0] 29))
    have Kf_2 := hide (new_block w1 (.cells #[.int .i64 0, .int .i64 0] 29))
    have hlp_f : w.heap.size < w1.heap.size := size_of (unhide Kp_1)
    have hlq_f : w.heap.size + 1 < w1.heap.size := size_of (unhide Kq_1)
    have hlg_f : w.heap.size + 1 + 1 < w1.heap.size := size_of (unhide Kg_1)
    obtain ⟨T, eT⟩ : ∃ X, w1.heap.size = X := ⟨_, rfl⟩
    obtain ⟨W2, eW2⟩ : ∃ X, w1.alloc (.cells #[.int .i64 0, .int .i64 0] 29) = X := ⟨_, rfl⟩
    rw [eT, eW2] at Kf_2; rw [eW2] at HX_2 Kp_2 Kq_2 Kg_2; rw [eT] at hlp_f hlq_f hlg_f; rw [eT, eW2]
    clear eT eW2 HX_1 Kp_1 Kq_1 Kg_1
    have hqt : w.heap.size + 1 + 1 < T := by omega
    obtain ⟨⟨p0, p1, p2⟩, ⟨pf0, pf1, pf2⟩, pl⟩ := block3 (unhide Kp_2)
    obtain ⟨f0, f1, ff0, ff1, fl⟩ := block2 (unhide Kf_2)
    obtain ⟨⟨q0, q1, q2⟩, ⟨qf0, qf1, qf2⟩, ql⟩ := block3 (unhide Kq_2)
    obtain ⟨g0, g1, gf0, gf1, gl⟩ := block2 (unhide Kg_2)
    go_wp2_with fail
    clear p0 p1 p2 pf0 pf1 pf2 pl f0 f1 ff0 ff1 fl q0 q1 q2 qf0 qf1 qf2 ql g0 g1 gf0 gf1 gl
    have HX_3 := hide (putL_below (y0 := .int .i64 0) (y1 := .bool false) (y2 := .slice none 0 0) (unhide HX_2) (show w.heap.size ≤ w.heap.size + 1 by first | omega | (have := unhide HBA; omega)))
    have Kp_3 := hide ((putL_keep (y0 := .int .i64 0) (y1 := .bool false) (y2 := .slice none 0 0) (show w.heap.size ≠ w.heap.size + 1 by omega)).trans (unhide Kp_2))
    have Kq_3 := hide (putL_new (y0 := .int .i64 0) (y1 := .bool false) (y2 := .slice none 0 0) (unhide Kq_2))
    have Kg_3 := hide ((putL_keep (y0 := .int .i64 0) (y1 := .bool false) (y2 := .slice none 0 0) (show w.heap.size + 1 + 1 ≠ w.heap.size + 1 by omega)).trans (unhide Kg_2))
    have Kf_3 := hide ((putL_keep (y0 := .int .i64 0) (y1 := .bool false) (y2 := .slice none 0 0) (show T ≠ w.heap.size + 1 by omega)).trans (unhide Kf_2))
    obtain ⟨V1, eV1⟩ : ∃ X, putL W2 (w.heap.size + 1) (.int .i64 0) (.bool false) (.slice none 0 0) = X := ⟨_, rfl⟩
    rw [eV1] at HX_3 Kp_3 Kq_3 Kg_3 Kf_3
    have eV12 : (((W2).setCell ⟨w.heap.size + 1, 0, none⟩ (.int .i64 0)).setCell ⟨w.heap.size + 1, 1, none⟩ (.bool false)).setCell ⟨w.heap.size + 1, 2, none⟩ (.slice none 0 0) = V1 := eV1
    rw [eV12]
    clear eV1 eV12 HX_2 Kp_2 Kq_2 Kg_2 Kf_2
    have HX_4 := hide (put2_below (y0 := .int .i64 11) (y1 := .int .i64 (-1)) (unhide HX_3) (show w.heap.size ≤ w.heap.size + 1 + 1 by first | omega | (have := unhide HBA; omega)))
    have Kp_4 := hide ((put2_keep (y0 := .int .i64 11) (y1 := .int .i64 (-1)) (show w.heap.size ≠ w.heap.size + 1 + 1 by omega)).trans (unhide Kp_3))
    have Kq_4 := hide ((put2_keep (y0 := .int .i64 11) (y1 := .int .i64 (-1)) (show w.heap.size + 1 ≠ w.heap.size + 1 + 1 by omega)).trans (unhide Kq_3))
    have Kg_4 := hide (put2_new (y0 := .int .i64 11) (y1 := .int .i64 (-1)) (unhide Kg_3))
    have Kf_4 := hide ((put2_keep (y0 := .int .i64 11) (y1 := .int .i64 (-1)) (show T ≠ w.heap.size + 1 + 1 by omega)).trans (unhide Kf_3))
    obtain ⟨V2, eV2⟩ : ∃ X, put2 V1 (w.heap.size + 1 + 1) (.int .i64 11) (.int .i64 (-1)) = X := ⟨_, rfl⟩
    rw [eV2] at HX_4 Kp_4 Kq_4 Kg_4 Kf_4
    have eV22 : ((V1).setCell ⟨w.heap.size + 1 + 1, 0, none⟩ (.int .i64 11)).setCell ⟨w.heap.size + 1 + 1, 1, none⟩ (.int .i64 (-1)) = V2 := eV2
    rw [eV22]
    clear eV2 eV22 HX_3 Kp_3 Kq_3 Kg_3 Kf_3
    obtain ⟨⟨q0, q1, q2⟩, ⟨qf0, qf1, qf2⟩, ql⟩ := block3 (unhide Kq_4)
    obtain ⟨g0, g1, gf0, gf1, gl⟩ := block2 (unhide Kg_4)
    exact bodyPost_ret (v := .tuple #[.agg #[.int .i64 0, .bool false, .slice none 0 0], .slice none 0 0, .agg #[.int .i64 11, .int .i64 (-1)]]) (by simp [results, Try.results20, go_sem, q0, q1, q2, g0, g1]) rfl ⟨rfl, unhide HX_4⟩
  · have x1 : (x != b) = true := by simpa using h1
    clear h1 hs
    go_enter Try.func20, Try.ntmps20
    go_upto_region 1 with fail
    rw [unhide HE]
    clear HE
    obtain ⟨⟨p0, p1, p2⟩, ⟨pf0, pf1, pf2⟩, pl⟩ := block3 (unhide HP)
    go_upto_region 2 with (go_at_call 40; refine (unhide HC _ (unhide HX)).mono ?_; rintro e w1 ⟨he, hb1⟩; obtain rfl : e = .returned (.agg #[.int .i64 0, .int .i64 0]) := he; have HX_1 := hide (Below.next (unhide HX) hb1 (by first | exact Nat.le_refl _ | (have := unhide HBA; omega))); have Kp_1 := hide (keep_below (unhide HP) hb1); have Kq_1 := hide (keep_below (unhide HQ) hb1); have Kg_1 := hide (keep_below (unhide HG) hb1); clear HX HP HQ HG; clear hb1 p0 p1 p2 pf0 pf1 pf2 pl)
    have HX_2 := hide ((unhide HX_1).alloc (Nat.le_trans (show w.heap.size ≤ w.heap.size from Nat.le_refl _) (unhide HX_1).size) (.cells #[.int .i64 0, .int .i64 0] 29))
    have Kp_2 := hide (keep_alloc (unhide Kp_1) (.cells #[.int .i64 0, .int .i64 0] 29))
    have Kq_2 := hide (keep_alloc (unhide Kq_1) (.cells #[.int .i64 0, .int .i64 0] 29))
    have Kg_2 := hide (keep_alloc (unhide Kg_1) (.cells #[.int .i64 0, .int .i64 0] 29))
    have Kf_2 := hide (new_block w1 (.cells #[.int .i64 0, .int .i64 0] 29))
    have hlp_f : w.heap.size < w1.heap.size := size_of (unhide Kp_1)
    have hlq_f : w.heap.size + 1 < w1.heap.size := size_of (unhide Kq_1)
    have hlg_f : w.heap.size + 1 + 1 < w1.heap.size := size_of (unhide Kg_1)
    obtain ⟨T, eT⟩ : ∃ X, w1.heap.size = X := ⟨_, rfl⟩
    obtain ⟨W2, eW2⟩ : ∃ X, w1.alloc (.cells #[.int .i64 0, .int .i64 0] 29) = X := ⟨_, rfl⟩
    rw [eT, eW2] at Kf_2; rw [eW2] at HX_2 Kp_2 Kq_2 Kg_2; rw [eT] at hlp_f hlq_f hlg_f; rw [eT, eW2]
    clear eT eW2 HX_1 Kp_1 Kq_1 Kg_1
    have hqt : w.heap.size + 1 + 1 < T := by omega
    obtain ⟨⟨p0, p1, p2⟩, ⟨pf0, pf1, pf2⟩, pl⟩ := block3 (unhide Kp_2)
    obtain ⟨f0, f1, ff0, ff1, fl⟩ := block2 (unhide Kf_2)
    obtain ⟨⟨q0, q1, q2⟩, ⟨qf0, qf1, qf2⟩, ql⟩ := block3 (unhide Kq_2)
    obtain ⟨g0, g1, gf0, gf1, gl⟩ := block2 (unhide Kg_2)
    go_wp2_with fail
    clear p0 p1 p2 pf0 pf1 pf2 pl f0 f1 ff0 ff1 fl q0 q1 q2 qf0 qf1 qf2 ql g0 g1 gf0 gf1 gl
    have HX_3 := hide (putL_below (y0 := .int .i64 0) (y1 := .bool false) (y2 := .slice none 0 0) (unhide HX_2) (show w.heap.size ≤ w.heap.size + 1 by first | omega | (have := unhide HBA; omega)))
    have Kp_3 := hide ((putL_keep (y0 := .int .i64 0) (y1 := .bool false) (y2 := .slice none 0 0) (show w.heap.size ≠ w.heap.size + 1 by omega)).trans (unhide Kp_2))
    have Kq_3 := hide (putL_new (y0 := .int .i64 0) (y1 := .bool false) (y2 := .slice none 0 0) (unhide Kq_2))
    have Kg_3 := hide ((putL_keep (y0 := .int .i64 0) (y1 := .bool false) (y2 := .slice none 0 0) (show w.heap.size + 1 + 1 ≠ w.heap.size + 1 by omega)).trans (unhide Kg_2))
    have Kf_3 := hide ((putL_keep (y0 := .int .i64 0) (y1 := .bool false) (y2 := .slice none 0 0) (show T ≠ w.heap.size + 1 by omega)).trans (unhide Kf_2))
    obtain ⟨V1, eV1⟩ : ∃ X, putL W2 (w.heap.size + 1) (.int .i64 0) (.bool false) (.slice none 0 0) = X := ⟨_, rfl⟩
    rw [eV1] at HX_3 Kp_3 Kq_3 Kg_3 Kf_3
    have eV12 : (((W2).setCell ⟨w.heap.size + 1, 0, none⟩ (.int .i64 0)).setCell ⟨w.heap.size + 1, 1, none⟩ (.bool false)).setCell ⟨w.heap.size + 1, 2, none⟩ (.slice none 0 0) = V1 := eV1
    rw [eV12]
    clear eV1 eV12 HX_2 Kp_2 Kq_2 Kg_2 Kf_2
    have HX_4 := hide (put2_below (y0 := .int .i64 11) (y1 := .int .i64 (-1)) (unhide HX_3) (show w.heap.size ≤ w.heap.size + 1 + 1 by first | omega | (have := unhide HBA; omega)))
    have Kp_4 := hide ((put2_keep (y0 := .int .i64 11) (y1 := .int .i64 (-1)) (show w.heap.size ≠ w.heap.size + 1 + 1 by omega)).trans (unhide Kp_3))
    have Kq_4 := hide ((put2_keep (y0 := .int .i64 11) (y1 := .int .i64 (-1)) (show w.heap.size + 1 ≠ w.heap.size + 1 + 1 by omega)).trans (unhide Kq_3))
    have Kg_4 := hide (put2_new (y0 := .int .i64 11) (y1 := .int .i64 (-1)) (unhide Kg_3))
    have Kf_4 := hide ((put2_keep (y0 := .int .i64 11) (y1 := .int .i64 (-1)) (show T ≠ w.heap.size + 1 + 1 by omega)).trans (unhide Kf_3))
    obtain ⟨V2, eV2⟩ : ∃ X, put2 V1 (w.heap.size + 1 + 1) (.int .i64 11) (.int .i64 (-1)) = X := ⟨_, rfl⟩
    rw [eV2] at HX_4 Kp_4 Kq_4 Kg_4 Kf_4
    have eV22 : ((V1).setCell ⟨w.heap.size + 1 + 1, 0, none⟩ (.int .i64 11)).setCell ⟨w.heap.size + 1 + 1, 1, none⟩ (.int .i64 (-1)) = V2 := eV2
    rw [eV22]
    clear eV2 eV22 HX_3 Kp_3 Kq_3 Kg_3 Kf_3
    obtain ⟨⟨q0, q1, q2⟩, ⟨qf0, qf1, qf2⟩, ql⟩ := block3 (unhide Kq_4)
    obtain ⟨g0, g1, gf0, gf1, gl⟩ := block2 (unhide Kg_4)
    exact bodyPost_ret (v := .tuple #[.agg #[.int .i64 0, .bool false, .slice none 0 0], .slice none 0 0, .agg #[.int .i64 11, .int .i64 (-1)]]) (by simp [results, Try.results20, go_sem, q0, q1, q2, g0, g1]) rfl ⟨rfl, unhide HX_4⟩

set_option maxRecDepth 100000 in
set_option maxHeartbeats 2000000 in
theorem end_ok (w : World) (v : Value) (b : Int) (d : Bool) (xs : List Int) (x : Int) (h : IsO w v b d xs) (hf : (onceF b d xs).1 = 0) (h1 : x = b) (h2 : ¬ x < 1) :
    Calls Try.prog 20 #[v, .int .i64 x] w fun e w' => ∃ v2, e = .returned (.tuple #[.agg #[.int .i64 0, .bool true, .slice none 0 0], v2, .agg #[.int .i64 0, .int .i64 0]]) ∧ New KI w.heap.size w' v2 xs ∧ Below w.heap.size w w' := by
  obtain ⟨hz, -, hl, -⟩ := onceF_good hf
  have HC : Hid (∀ W, Below w.heap.size w W → Calls Try.prog 40 #[v] W fun e w' => e = .returned (faultV (0, 0)) ∧ Below W.heap.size W w') := fun W hW => by
    have := checkOnce_any W v b d xs (h.below hW) (by unfold maxLen; omega)
    rw [hz] at this
    exact this
  obtain ⟨a0, c0, rfl, hL⟩ := h.form
  have HFR : Hid (∀ W, Below w.heap.size w W → Calls Try.prog 35 #[.slice a0 xs.length c0] W fun e w' => ∃ a' c', e = .returned (.slice a' xs.length c') ∧ Own KI W.heap.size w' (.slice a' xs.length c') xs ∧ Below W.heap.size W w') := fun W hW => fresh_any W _ xs (hL.below hW) (by omega)
  obtain ⟨n, en⟩ : ∃ n, xs.length = n := ⟨_, rfl⟩
  rw [en] at HC HFR ⊢
  clear h hL hf hz en hl
  obtain ⟨W0, e0, hB, k0, k1, k2⟩ := three_new w (.cells #[.int .i64 b, .bool d, .slice a0 n c0] 41) (.cells #[.int .i64 0, .bool false, .slice none 0 0] 41) (.cells #[.int .i64 0, .int .i64 0] 29)
  have HX := hide hB; have HP := hide k0; have HQ := hide k1; have HG := hide k2; have HE := hide e0
  clear hB k0 k1 k2 e0
  have x1 : (x != b) = false := by simpa using h1
  clear h1
  go_enter Try.func20, Try.ntmps20
  go_upto_region 1 with fail
  rw [unhide HE]
  clear HE
  obtain ⟨⟨p0, p1, p2⟩, ⟨pf0, pf1, pf2⟩, pl⟩ := block3 (unhide HP)
  go_upto_region 2 with (go_at_call 40; refine (unhide HC _ (unhide HX)).mono ?_; rintro e w1 ⟨he, hb1⟩; obtain rfl : e = .returned (.agg #[.int .i64 0, .int .i64 0]) := he; have HX_1 := hide (Below.next (unhide HX) hb1 (by first | exact Nat.le_refl _ | (have := unhide HBA; omega))); have Kp_1 := hide (keep_below (unhide HP) hb1); have Kq_1 := hide (keep_below (unhide HQ) hb1); have Kg_1 := hide (keep_below (unhide HG) hb1); clear HX HP HQ HG; clear hb1 p0 p1 p2 pf0 pf1 pf2 pl)
  have HX_2 := hide ((unhide HX_1).alloc (Nat.le_trans (show w.heap.size ≤ w.heap.size from Nat.le_refl _) (unhide HX_1).size) (.cells #[.int .i64 0, .int .i64 0] 29))
  have Kp_2 := hide (keep_alloc (unhide Kp_1) (.cells #[.int .i64 0, .int .i64 0] 29))
  have Kq_2 := hide (keep_alloc (unhide Kq_1) (.cells #[.int .i64 0, .int .i64 0] 29))
  have Kg_2 := hide (keep_alloc (unhide Kg_1) (.cells #[.int .i64 0, .int .i64 0] 29))
  have Kf_2 := hide (new_block w1 (.cells #[.int .i64 0, .int .i64 0] 29))
  have hlp_f : w.heap.size < w1.heap.size := size_of (unhide Kp_1)
  have hlq_f : w.heap.size + 1 < w1.heap.size := size_of (unhide Kq_1)
  have hlg_f : w.heap.size + 1 + 1 < w1.heap.size := size_of (unhide Kg_1)
  obtain ⟨T, eT⟩ : ∃ X, w1.heap.size = X := ⟨_, rfl⟩
  obtain ⟨W2, eW2⟩ : ∃ X, w1.alloc (.cells #[.int .i64 0, .int .i64 0] 29) = X := ⟨_, rfl⟩
  rw [eT, eW2] at Kf_2; rw [eW2] at HX_2 Kp_2 Kq_2 Kg_2; rw [eT] at hlp_f hlq_f hlg_f; rw [eT, eW2]
  clear eT eW2 HX_1 Kp_1 Kq_1 Kg_1
  have hqt : w.heap.size + 1 + 1 < T := by omega
  obtain ⟨⟨p0, p1, p2⟩, ⟨pf0, pf1, pf2⟩, pl⟩ := block3 (unhide Kp_2)
  obtain ⟨f0, f1, ff0, ff1, fl⟩ := block2 (unhide Kf_2)
  go_wp2_with (go_at_call 35; refine (unhide HFR _ (unhide HX_2)).mono ?_; rintro e w5 ⟨b1, d1, rfl, ho5, hb5⟩; have HO5 := hide (ho5.base (unhide HX_2).size); have HX_3 := hide (Below.next (unhide HX_2) hb5 (by first | exact Nat.le_refl _ | (have := unhide HBA; omega))); have Kp_3 := hide (keep_below (unhide Kp_2) hb5); have Kq_3 := hide (keep_below (unhide Kq_2) hb5); have Kg_3 := hide (keep_below (unhide Kg_2) hb5); have Kf_3 := hide (keep_below (unhide Kf_2) hb5); clear HX_2 Kp_2 Kq_2 Kg_2 Kf_2; clear ho5 hb5 p0 p1 p2 pf0 pf1 pf2 pl f0 f1 ff0 ff1 fl; obtain ⟨⟨q0, q1, q2⟩, ⟨qf0, qf1, qf2⟩, ql⟩ := block3 (unhide Kq_3); obtain ⟨g0, g1, gf0, gf1, gl⟩ := block2 (unhide Kg_3))
  clear q0 q1 q2 qf0 qf1 qf2 ql g0 g1 gf0 gf1 gl
  have HX_4 := hide (putL_below (y0 := .int .i64 0) (y1 := .bool true) (y2 := .slice none 0 0) (unhide HX_3) (show w.heap.size ≤ w.heap.size + 1 by first | omega | (have := unhide HBA; omega)))
  have Kp_4 := hide ((putL_keep (y0 := .int .i64 0) (y1 := .bool true) (y2 := .slice none 0 0) (show w.heap.size ≠ w.heap.size + 1 by omega)).trans (unhide Kp_3))
  have Kq_4 := hide (putL_new (y0 := .int .i64 0) (y1 := .bool true) (y2 := .slice none 0 0) (unhide Kq_3))
  have Kg_4 := hide ((putL_keep (y0 := .int .i64 0) (y1 := .bool true) (y2 := .slice none 0 0) (show w.heap.size + 1 + 1 ≠ w.heap.size + 1 by omega)).trans (unhide Kg_3))
  have Kf_4 := hide ((putL_keep (y0 := .int .i64 0) (y1 := .bool true) (y2 := .slice none 0 0) (show T ≠ w.heap.size + 1 by omega)).trans (unhide Kf_3))
  have Ol_4 := hide ((unhide HO5).keep (fun k hk => putL_keep (y0 := .int .i64 0) (y1 := .bool true) (y2 := .slice none 0 0) (Own.ne (unhide HO5) (unhide Kq_3) (by decide) k hk)))
  obtain ⟨V1, eV1⟩ : ∃ X, putL w5 (w.heap.size + 1) (.int .i64 0) (.bool true) (.slice none 0 0) = X := ⟨_, rfl⟩
  rw [eV1] at HX_4 Kp_4 Kq_4 Kg_4 Kf_4 Ol_4
  have eV12 : (((w5).setCell ⟨w.heap.size + 1, 0, none⟩ (.int .i64 0)).setCell ⟨w.heap.size + 1, 1, none⟩ (.bool true)).setCell ⟨w.heap.size + 1, 2, none⟩ (.slice none 0 0) = V1 := eV1
  rw [eV12]
  clear eV1 eV12 HX_3 Kp_3 Kq_3 Kg_3 Kf_3 HO5
  have HX_5 := hide (put2_below (y0 := .int .i64 0) (y1 := .int .i64 0) (unhide HX_4) (show w.heap.size ≤ w.heap.size + 1 + 1 by first | omega | (have := unhide HBA; omega)))
  have Kp_5 := hide ((put2_keep (y0 := .int .i64 0) (y1 := .int .i64 0) (show w.heap.size ≠ w.heap.size + 1 + 1 by omega)).trans (unhide Kp_4))
  have Kq_5 := hide ((put2_keep (y0 := .int .i64 0) (y1 := .int .i64 0) (show w.heap.size + 1 ≠ w.heap.size + 1 + 1 by omega)).trans (unhide Kq_4))
  have Kg_5 := hide (put2_new (y0 := .int .i64 0) (y1 := .int .i64 0) (unhide Kg_4))
  have Kf_5 := hide ((put2_keep (y0 := .int .i64 0) (y1 := .int .i64 0) (show T ≠ w.heap.size + 1 + 1 by omega)).trans (unhide Kf_4))
  have Ol_5 := hide ((unhide Ol_4).keep (fun k hk => put2_keep (y0 := .int .i64 0) (y1 := .int .i64 0) (Own.ne (unhide Ol_4) (unhide Kg_4) (by decide) k hk)))
  obtain ⟨V2, eV2⟩ : ∃ X, put2 V1 (w.heap.size + 1 + 1) (.int .i64 0) (.int .i64 0) = X := ⟨_, rfl⟩
  rw [eV2] at HX_5 Kp_5 Kq_5 Kg_5 Kf_5 Ol_5
  have eV22 : ((V1).setCell ⟨w.heap.size + 1 + 1, 0, none⟩ (.int .i64 0)).setCell ⟨w.heap.size + 1 + 1, 1, none⟩ (.int .i64 0) = V2 := eV2
  rw [eV22]
  clear eV2 eV22 HX_4 Kp_4 Kq_4 Kg_4 Kf_4 Ol_4
  obtain ⟨⟨q0, q1, q2⟩, ⟨qf0, qf1, qf2⟩, ql⟩ := block3 (unhide Kq_5)
  obtain ⟨g0, g1, gf0, gf1, gl⟩ := block2 (unhide Kg_5)
  exact bodyPost_ret (v := .tuple #[.agg #[.int .i64 0, .bool true, .slice none 0 0], .slice b1 n d1, .agg #[.int .i64 0, .int .i64 0]]) (by simp [results, Try.results20, go_sem, q0, q1, q2, g0, g1]) rfl ⟨.slice b1 n d1, rfl, (unhide Ol_5).new, unhide HX_5⟩
end Go.Proofs.Ytpogcfdmkeebmaa
