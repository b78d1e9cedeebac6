/-
  clock.Stop, clock.Soon, clock.Set.
-/
import Derived.Test.YtidpmcanfedbdaaP
namespace Go.Proofs.Ytidpmcanfedbdaa
open Go.RowKit

set_option maxRecDepth 100000 in
set_option maxHeartbeats 2000000 in
theorem stop_fault (w : World) (v : Value) (now next : Int) (xs : List Al) (id : Int) (h : IsC w v now next xs) (hn : xs.length ≤ maxLen) (hf : (clockF now next xs).1 ≠ 0) :
    Calls Try.prog 13 #[v, .int .i64 id] w fun e w' => e = .returned (.tuple #[.agg #[.int .i64 0, .int .i64 0, .slice none 0 0], .bool false, faultV (clockF now next xs)]) ∧ Below w.heap.size w w' := by
  have HC : Hid (∀ W, Below w.heap.size w W → Calls Try.prog 11 #[v] W fun e w' => e = .returned (faultV (clockF now next xs)) ∧ Below W.heap.size W w') := fun W hW => check_any W v now next xs (h.below hW) hn
  obtain ⟨⟨F0, F1⟩, eF⟩ : ∃ F, clockF now next xs = F := ⟨_, rfl⟩
  rw [eF] at HC hf ⊢
  obtain ⟨a0, c0, rfl, hL⟩ := h.form
  generalize xs.length = n at *
  have x0 : (F0 != 0) = true := by simpa using hf
  clear h hL eF hf
  obtain ⟨W0, e0, hB, k0, k1, k2⟩ := three_new w (.cells #[.int .i64 now, .int .i64 next, .slice a0 n c0] 24) (.cells #[.int .i64 0, .int .i64 0, .slice none 0 0] 24) (.cells #[.int .i64 0, .int .i64 0] 29)
  have HX := hide hB; have HP := hide k0; have HQ := hide k1; have HG := hide k2; have HE := hide e0
  clear hB k0 k1 k2 e0
  go_enter Try.func13, Try.ntmps13
  go_upto_region 1 with fail
  rw [unhide HE]
  clear HE
  obtain ⟨⟨p0, p1, p2⟩, ⟨pf0, pf1, pf2⟩, pl⟩ := block3 (unhide HP)
  go_upto_region 2 with (go_at_call 11; refine (unhide HC _ (unhide HX)).mono ?_; rintro e w1 ⟨he, hb1⟩; obtain rfl : e = .returned (.agg #[.int .i64 F0, .int .i64 F1]) := he; have HX_1 := hide (Below.next (unhide HX) hb1 (by first | exact Nat.le_refl _ | (have := unhide HBA; omega))); have Kp_1 := hide (keep_below (unhide HP) hb1); have Kq_1 := hide (keep_below (unhide HQ) hb1); have Kg_1 := hide (keep_below (unhide HG) hb1); clear HX HP HQ HG; clear hb1 p0 p1 p2 pf0 pf1 pf2 pl)
  have HX_2 := hide ((unhide HX_1).alloc (Nat.le_trans (show w.heap.size ≤ w.heap.size from Nat.le_refl _) (unhide HX_1).size) (.cells #[.int .i64 F0, .int .i64 F1] 29))
  have Kp_2 := hide (keep_alloc (unhide Kp_1) (.cells #[.int .i64 F0, .int .i64 F1] 29))
  have Kq_2 := hide (keep_alloc (unhide Kq_1) (.cells #[.int .i64 F0, .int .i64 F1] 29))
  have Kg_2 := hide (keep_alloc (unhide Kg_1) (.cells #[.int .i64 F0, .int .i64 F1] 29))
  have Kf_2 := hide (new_block w1 (.cells #[.int .i64 F0, .int .i64 F1] 29))
  have hlp_f : w.heap.size < w1.heap.size := size_of (unhide Kp_1)
  have hlq_f : w.heap.size + 1 < w1.heap.size := size_of (unhide Kq_1)
  have hlg_f : w.heap.size + 1 + 1 < w1.heap.size := size_of (unhide Kg_1)
  obtain ⟨T, eT⟩ : ∃ X, w1.heap.size = X := ⟨_, rfl⟩
  obtain ⟨W2, eW2⟩ : ∃ X, w1.alloc (.cells #[.int .i64 F0, .int .i64 F1] 29) = X := ⟨_, rfl⟩
  rw [eT, eW2] at Kf_2; rw [eW2] at HX_2 Kp_2 Kq_2 Kg_2; rw [eT] at hlp_f hlq_f hlg_f; rw [eT, eW2]
  clear eT eW2 HX_1 Kp_1 Kq_1 Kg_1
  obtain ⟨f0, f1, ff0, ff1, fl⟩ := block2 (unhide Kf_2)
  go_upto_region 3 with fail
  clear f0 f1 ff0 ff1 fl
  obtain ⟨⟨q0, q1, q2⟩, ⟨qf0, qf1, qf2⟩, ql⟩ := block3 (unhide Kq_2)
  obtain ⟨g0, g1, gf0, gf1, gl⟩ := block2 (unhide Kg_2)
  obtain ⟨f0, f1, ff0, ff1, fl⟩ := block2 (unhide Kf_2)
  have u1_ : w.heap.size + 1 ≠ T := by omega
  have u2_ : w.heap.size + 1 + 1 ≠ T := by omega
  have u3_ : T ≠ w.heap.size + 1 := by omega
  have u4_ : T ≠ w.heap.size + 1 + 1 := by omega
  go_wp2_with fail
  go_region
  clear q0 q1 q2 qf0 qf1 qf2 ql g0 g1 gf0 gf1 gl f0 f1 ff0 ff1 fl
  have HX_3 := hide (putL_below (y0 := .int .i64 0) (y1 := .int .i64 0) (y2 := .slice none 0 0) (unhide HX_2) (show w.heap.size ≤ w.heap.size + 1 by first | omega | (have := unhide HBA; omega)))
  have Kp_3 := hide ((putL_keep (y0 := .int .i64 0) (y1 := .int .i64 0) (y2 := .slice none 0 0) (show w.heap.size ≠ w.heap.size + 1 by omega)).trans (unhide Kp_2))
  have Kq_3 := hide (putL_new (y0 := .int .i64 0) (y1 := .int .i64 0) (y2 := .slice none 0 0) (unhide Kq_2))
  have Kg_3 := hide ((putL_keep (y0 := .int .i64 0) (y1 := .int .i64 0) (y2 := .slice none 0 0) (show w.heap.size + 1 + 1 ≠ w.heap.size + 1 by omega)).trans (unhide Kg_2))
  have Kf_3 := hide ((putL_keep (y0 := .int .i64 0) (y1 := .int .i64 0) (y2 := .slice none 0 0) (show T ≠ w.heap.size + 1 by omega)).trans (unhide Kf_2))
  obtain ⟨V1, eV1⟩ : ∃ X, putL W2 (w.heap.size + 1) (.int .i64 0) (.int .i64 0) (.slice none 0 0) = X := ⟨_, rfl⟩
  rw [eV1] at HX_3 Kp_3 Kq_3 Kg_3 Kf_3
  have eV12 : (((W2).setCell ⟨w.heap.size + 1, 0, none⟩ (.int .i64 0)).setCell ⟨w.heap.size + 1, 1, none⟩ (.int .i64 0)).setCell ⟨w.heap.size + 1, 2, none⟩ (.slice none 0 0) = V1 := eV1
  rw [eV12]
  clear eV1 eV12 HX_2 Kp_2 Kq_2 Kg_2 Kf_2
  have HX_4 := hide (put2_below (y0 := .int .i64 F0) (y1 := .int .i64 F1) (unhide HX_3) (show w.heap.size ≤ w.heap.size + 1 + 1 by first | omega | (have := unhide HBA; omega)))
  have Kp_4 := hide ((put2_keep (y0 := .int .i64 F0) (y1 := .int .i64 F1) (show w.heap.size ≠ w.heap.size + 1 + 1 by omega)).trans (unhide Kp_3))
  have Kq_4 := hide ((put2_keep (y0 := .int .i64 F0) (y1 := .int .i64 F1) (show w.heap.size + 1 ≠ w.heap.size + 1 + 1 by omega)).trans (unhide Kq_3))
  have Kg_4 := hide (put2_new (y0 := .int .i64 F0) (y1 := .int .i64 F1) (unhide Kg_3))
  have Kf_4 := hide ((put2_keep (y0 := .int .i64 F0) (y1 := .int .i64 F1) (show T ≠ w.heap.size + 1 + 1 by omega)).trans (unhide Kf_3))
  obtain ⟨V2, eV2⟩ : ∃ X, put2 V1 (w.heap.size + 1 + 1) (.int .i64 F0) (.int .i64 F1) = X := ⟨_, rfl⟩
  rw [eV2] at HX_4 Kp_4 Kq_4 Kg_4 Kf_4
  have eV22 : ((V1).setCell ⟨w.heap.size + 1 + 1, 0, none⟩ (.int .i64 F0)).setCell ⟨w.heap.size + 1 + 1, 1, none⟩ (.int .i64 F1) = V2 := eV2
  rw [eV22]
  clear eV2 eV22 HX_3 Kp_3 Kq_3 Kg_3 Kf_3
  have hV3 : Below V2.heap.size V2 V2.drew := (Below.refl _ _).drew
  obtain ⟨V3, eV3⟩ : ∃ X, V2.drew = X := ⟨_, rfl⟩
  rw [eV3] at hV3 ⊢
  (have HX_5 := hide (Below.next (unhide HX_4) hV3 (by first | exact Nat.le_refl _ | (have := unhide HBA; omega))); have Kp_5 := hide (keep_below (unhide Kp_4) hV3); have Kq_5 := hide (keep_below (unhide Kq_4) hV3); have Kg_5 := hide (keep_below (unhide Kg_4) hV3); have Kf_5 := hide (keep_below (unhide Kf_4) hV3); clear HX_4 Kp_4 Kq_4 Kg_4 Kf_4)
  clear hV3 eV3
  obtain ⟨⟨q0, q1, q2⟩, ⟨qf0, qf1, qf2⟩, ql⟩ := block3 (unhide Kq_5)
  obtain ⟨g0, g1, gf0, gf1, gl⟩ := block2 (unhide Kg_5)
  go_wp2_with fail
  exact bodyPost_ret (v := .tuple #[.agg #[.int .i64 0, .int .i64 0, .slice none 0 0], .bool false, .agg #[.int .i64 F0, .int .i64 F1]]) (by simp [results, Try.results13, go_sem, q0, q1, q2, g0, g1]) rfl ⟨rfl, unhide HX_5⟩

set_option maxRecDepth 100000 in
set_option maxHeartbeats 2000000 in
theorem set_fault (w : World) (v : Value) (now next : Int) (xs : List Al) (id after period : Int) (h : IsC w v now next xs) (hn : xs.length ≤ maxLen) (hf : (setF now next xs id after period).1 ≠ 0) :
    Calls Try.prog 12 #[v, .int .i64 id, .int .i64 after, .int .i64 period] w fun e w' => e = .returned (.tuple #[.agg #[.int .i64 0, .int .i64 0, .slice none 0 0], .bool false, faultV (setF now next xs id after period)]) ∧ Below w.heap.size w w' := by
  have HC : Hid (∀ W, Below w.heap.size w W → Calls Try.prog 30 #[v, .int .i64 id, .int .i64 after, .int .i64 period] W fun e w' => e = .returned (faultV (setF now next xs id after period)) ∧ Below W.heap.size W w') := fun W hW => checkSet_any W v now next xs id after period (h.below hW) hn
  obtain ⟨⟨F0, F1⟩, eF⟩ : ∃ F, setF now next xs id after period = F := ⟨_, rfl⟩
  rw [eF] at HC hf ⊢
  obtain ⟨a0, c0, rfl, hL⟩ := h.form
  generalize xs.length = n at *
  have x0 : (F0 != 0) = true := by simpa using hf
  clear h hL eF hf
  obtain ⟨W0, e0, hB, k0, k1, k2⟩ := three_new w (.cells #[.int .i64 now, .int .i64 next, .slice a0 n c0] 24) (.cells #[.int .i64 0, .int .i64 0, .slice none 0 0] 24) (.cells #[.int .i64 0, .int .i64 0] 29)
  have HX := hide hB; have HP := hide k0; have HQ := hide k1; have HG := hide k2; have HE := hide e0
  clear hB k0 k1 k2 e0
  go_enter Try.func12, Try.ntmps12
  go_upto_region 1 with fail
  rw [unhide HE]
  clear HE
  obtain ⟨⟨p0, p1, p2⟩, ⟨pf0, pf1, pf2⟩, pl⟩ := block3 (unhide HP)
  go_upto_region 2 with (go_at_call 30; refine (unhide HC _ (unhide HX)).mono ?_; rintro e w1 ⟨he, hb1⟩; obtain rfl : e = .returned (.agg #[.int .i64 F0, .int .i64 F1]) := he; have HX_1 := hide (Below.next (unhide HX) hb1 (by first | exact Nat.le_refl _ | (have := unhide HBA; omega))); have Kp_1 := hide (keep_below (unhide HP) hb1); have Kq_1 := hide (keep_below (unhide HQ) hb1); have Kg_1 := hide (keep_below (unhide HG) hb1); clear HX HP HQ HG; clear hb1 p0 p1 p2 pf0 pf1 pf2 pl)
  have HX_2 := hide ((unhide HX_1).alloc (Nat.le_trans (show w.heap.size ≤ w.heap.size from Nat.le_refl _) (unhide HX_1).size) (.cells #[.int .i64 F0, .int .i64 F1] 29))
  have Kp_2 := hide (keep_alloc (unhide Kp_1) (.cells #[.int .i64 F0, .int .i64 F1] 29))
  have Kq_2 := hide (keep_alloc (unhide Kq_1) (.cells #[.int .i64 F0, .int .i64 F1] 29))
  have Kg_2 := hide (keep_alloc (unhide Kg_1) (.cells #[.int .i64 F0, .int .i64 F1] 29))
  have Kf_2 := hide (new_block w1 (.cells #[.int .i64 F0, .int .i64 F1] 29))
  have hlp_f : w.heap.size < w1.heap.size := size_of (unhide Kp_1)
  have hlq_f : w.heap.size + 1 < w1.heap.size := size_of (unhide Kq_1)
  have hlg_f : w.heap.size + 1 + 1 < w1.heap.size := size_of (unhide Kg_1)
  obtain ⟨T, eT⟩ : ∃ X, w1.heap.size = X := ⟨_, rfl⟩
  obtain ⟨W2, eW2⟩ : ∃ X, w1.alloc (.cells #[.int .i64 F0, .int .i64 F1] 29) = X := ⟨_, rfl⟩
  rw [eT, eW2] at Kf_2; rw [eW2] at HX_2 Kp_2 Kq_2 Kg_2; rw [eT] at hlp_f hlq_f hlg_f; rw [eT, eW2]
  clear eT eW2 HX_1 Kp_1 Kq_1 Kg_1
  obtain ⟨f0, f1, ff0, ff1, fl⟩ := block2 (unhide Kf_2)
  go_upto_region 3 with fail
  clear f0 f1 ff0 ff1 fl
  obtain ⟨⟨q0, q1, q2⟩, ⟨qf0, qf1, qf2⟩, ql⟩ := block3 (unhide Kq_2)
  obtain ⟨g0, g1, gf0, gf1, gl⟩ := block2 (unhide Kg_2)
  obtain ⟨f0, f1, ff0, ff1, fl⟩ := block2 (unhide Kf_2)
  have u1_ : w.heap.size + 1 ≠ T := by omega
  have u2_ : w.heap.size + 1 + 1 ≠ T := by omega
  have u3_ : T ≠ w.heap.size + 1 := by omega
  have u4_ : T ≠ w.heap.size + 1 + 1 := by omega
  go_wp2_with fail
  go_region
  clear q0 q1 q2 qf0 qf1 qf2 ql g0 g1 gf0 gf1 gl f0 f1 ff0 ff1 fl
  have HX_3 := hide (putL_below (y0 := .int .i64 0) (y1 := .int .i64 0) (y2 := .slice none 0 0) (unhide HX_2) (show w.heap.size ≤ w.heap.size + 1 by first | omega | (have := unhide HBA; omega)))
  have Kp_3 := hide ((putL_keep (y0 := .int .i64 0) (y1 := .int .i64 0) (y2 := .slice none 0 0) (show w.heap.size ≠ w.heap.size + 1 by omega)).trans (unhide Kp_2))
  have Kq_3 := hide (putL_new (y0 := .int .i64 0) (y1 := .int .i64 0) (y2 := .slice none 0 0) (unhide Kq_2))
  have Kg_3 := hide ((putL_keep (y0 := .int .i64 0) (y1 := .int .i64 0) (y2 := .slice none 0 0) (show w.heap.size + 1 + 1 ≠ w.heap.size + 1 by omega)).trans (unhide Kg_2))
  have Kf_3 := hide ((putL_keep (y0 := .int .i64 0) (y1 := .int .i64 0) (y2 := .slice none 0 0) (show T ≠ w.heap.size + 1 by omega)).trans (unhide Kf_2))
  obtain ⟨V1, eV1⟩ : ∃ X, putL W2 (w.heap.size + 1) (.int .i64 0) (.int .i64 0) (.slice none 0 0) = X := ⟨_, rfl⟩
  rw [eV1] at HX_3 Kp_3 Kq_3 Kg_3 Kf_3
  have eV12 : (((W2).setCell ⟨w.heap.size + 1, 0, none⟩ (.int .i64 0)).setCell ⟨w.heap.size + 1, 1, none⟩ (.int .i64 0)).setCell ⟨w.heap.size + 1, 2, none⟩ (.slice none 0 0) = V1 := eV1
  rw [eV12]
  clear eV1 eV12 HX_2 Kp_2 Kq_2 Kg_2 Kf_2
  have HX_4 := hide (put2_below (y0 := .int .i64 F0) (y1 := .int .i64 F1) (unhide HX_3) (show w.heap.size ≤ w.heap.size + 1 + 1 by first | omega | (have := unhide HBA; omega)))
  have Kp_4 := hide ((put2_keep (y0 := .int .i64 F0) (y1 := .int .i64 F1) (show w.heap.size ≠ w.heap.size + 1 + 1 by omega)).trans (unhide Kp_3))
  have Kq_4 := hide ((put2_keep (y0 := .int .i64 F0) (y1 := .int .i64 F1) (show w.heap.size + 1 ≠ w.heap.size + 1 + 1 by omega)).trans (unhide Kq_3))
  have Kg_4 := hide (put2_new (y0 := .int .i64 F0) (y1 := .int .i64 F1) (unhide Kg_3))
  have Kf_4 := hide ((put2_keep (y0 := .int .i64 F0) (y1 := .int .i64 F1) (show T ≠ w.heap.size + 1 + 1 by omega)).trans (unhide Kf_3))
  obtain ⟨V2, eV2⟩ : ∃ X, put2 V1 (w.heap.size + 1 + 1) (.int .i64 F0) (.int .i64 F1) = X := ⟨_, rfl⟩
  rw [eV2] at HX_4 Kp_4 Kq_4 Kg_4 Kf_4
  have eV22 : ((V1).setCell ⟨w.heap.size + 1 + 1, 0, none⟩ (.int .i64 F0)).setCell ⟨w.heap.size + 1 + 1, 1, none⟩ (.int .i64 F1) = V2 := eV2
  rw [eV22]
  clear eV2 eV22 HX_3 Kp_3 Kq_3 Kg_3 Kf_3
  have hV3 : Below V2.heap.size V2 V2.drew := (Below.refl _ _).drew
  obtain ⟨V3, eV3⟩ : ∃ X, V2.drew = X := ⟨_, rfl⟩
  rw [eV3] at hV3 ⊢
  (have HX_5 := hide (Below.next (unhide HX_4) hV3 (by first | exact Nat.le_refl _ | (have := unhide HBA; omega))); have Kp_5 := hide (keep_below (unhide Kp_4) hV3); have Kq_5 := hide (keep_below (unhide Kq_4) hV3); have Kg_5 := hide (keep_below (unhide Kg_4) hV3); have Kf_5 := hide (keep_below (unhide Kf_4) hV3); clear HX_4 Kp_4 Kq_4 Kg_4 Kf_4)
  clear hV3 eV3
  obtain ⟨⟨q0, q1, q2⟩, ⟨qf0, qf1, qf2⟩, ql⟩ := block3 (unhide Kq_5)
  obtain ⟨g0, g1, gf0, gf1, gl⟩ := block2 (unhide Kg_5)
  go_wp2_with fail
  exact bodyPost_ret (v := .tuple #[.agg #[.int .i64 0, .int .i64 0, .slice none 0 0], .bool false, .agg #[.int .i64 F0, .int .i64 F1]]) (by simp [results, Try.results12, go_sem, q0, q1, q2, g0, g1]) rfl ⟨rfl, unhide HX_5⟩

set_option maxRecDepth 100000 in
set_option maxHeartbeats 2000000 in
theorem stop_ok (w : World) (v : Value) (now next : Int) (xs : List Al) (id : Int) (h : IsC w v now next xs) (hn : xs.length ≤ maxLen) (g : Good now next xs) :
    Calls Try.prog 13 #[v, .int .i64 id] w fun e w' => ∃ a c, e = .returned (.tuple #[.agg #[.int .i64 now, .int .i64 next, .slice a (noL id xs).length c], .bool (decide ((noL id xs).length < xs.length)), .agg #[.int .i64 0, .int .i64 0]]) ∧ Own KA w.heap.size w' (.slice a (noL id xs).length c) (noL id xs) ∧ Below w.heap.size w w' := by
  have gl := g.len
  obtain ⟨a0, c0, rfl, hL⟩ := h.form
  have HL := hide hL
  have HC : Hid (∀ W, Below w.heap.size w W → Calls Try.prog 11 #[.agg #[.int .i64 now, .int .i64 next, .slice a0 xs.length c0]] W fun e w' => e = .returned (.agg #[.int .i64 0, .int .i64 0]) ∧ Below W.heap.size W w') := fun W hW => by
    have := check_any W _ now next xs (h.below hW) hn
    rw [good_clockF g] at this
    exact this
  have HWO : Hid (∀ W, Below w.heap.size w W → Calls Try.prog 31 #[.slice a0 xs.length c0, .int .i64 id] W fun e w' => ∃ a c, e = .returned (.slice a (noL id xs).length c) ∧ Own KA W.heap.size w' (.slice a (noL id xs).length c) (noL id xs) ∧ Below W.heap.size W w') := fun W hW => without_any W _ xs id (hL.below hW) (by omega)
  obtain ⟨n, en⟩ : ∃ n, xs.length = n := ⟨_, rfl⟩
  rw [en] at HC HWO HL hn ⊢
  obtain ⟨m, em⟩ : ∃ m, (noL id xs).length = m := ⟨_, rfl⟩
  rw [em] at HWO ⊢
  have HN := hide en; have HM := hide em
  clear h hL en em
  obtain ⟨W0, e0, hB, k0, k1, k2⟩ := three_new w (.cells #[.int .i64 now, .int .i64 next, .slice a0 n c0] 24) (.cells #[.int .i64 0, .int .i64 0, .slice none 0 0] 24) (.cells #[.int .i64 0, .int .i64 0] 29)
  have HX := hide hB; have HP := hide k0; have HQ := hide k1; have HG := hide k2; have HE := hide e0
  clear hB k0 k1 k2 e0
  go_enter Try.func13, Try.ntmps13
  go_upto_region 1 with fail
  rw [unhide HE]
  clear HE
  obtain ⟨⟨p0, p1, p2⟩, ⟨pf0, pf1, pf2⟩, pl⟩ := block3 (unhide HP)
  go_upto_region 2 with (go_at_call 11; refine (unhide HC _ (unhide HX)).mono ?_; rintro e w1 ⟨he, hb1⟩; obtain rfl : e = .returned (.agg #[.int .i64 0, .int .i64 0]) := he; have HX_1 := hide (Below.next (unhide HX) hb1 (by first | exact Nat.le_refl _ | (have := unhide HBA; omega))); have Kp_1 := hide (keep_below (unhide HP) hb1); have Kq_1 := hide (keep_below (unhide HQ) hb1); have Kg_1 := hide (keep_below (unhide HG) hb1); clear HX HP HQ HG; clear hb1 p0 p1 p2 pf0 pf1 pf2 pl)
  have HX_2 := hide ((unhide HX_1).alloc (Nat.le_trans (show w.heap.size ≤ w.heap.size from Nat.le_refl _) (unhide HX_1).size) (.cells #[.int .i64 0, .int .i64 0] 29))
  have Kp_2 := hide (keep_alloc (unhide Kp_1) (.cells #[.int .i64 0, .int .i64 0] 29))
  have Kq_2 := hide (keep_alloc (unhide Kq_1) (.cells #[.int .i64 0, .int .i64 0] 29))
  have Kg_2 := hide (keep_alloc (unhide Kg_1) (.cells #[.int .i64 0, .int .i64 0] 29))
  have Kf_2 := hide (new_block w1 (.cells #[.int .i64 0, .int .i64 0] 29))
  have hlp_f : w.heap.size < w1.heap.size := size_of (unhide Kp_1)
  have hlq_f : w.heap.size + 1 < w1.heap.size := size_of (unhide Kq_1)
  have hlg_f : w.heap.size + 1 + 1 < w1.heap.size := size_of (unhide Kg_1)
  obtain ⟨T, eT⟩ : ∃ X, w1.heap.size = X := ⟨_, rfl⟩
  obtain ⟨W2, eW2⟩ : ∃ X, w1.alloc (.cells #[.int .i64 0, .int .i64 0] 29) = X := ⟨_, rfl⟩
  rw [eT, eW2] at Kf_2; rw [eW2] at HX_2 Kp_2 Kq_2 Kg_2; rw [eT] at hlp_f hlq_f hlg_f; rw [eT, eW2]
  clear eT eW2 HX_1 Kp_1 Kq_1 Kg_1
  obtain ⟨⟨p0, p1, p2⟩, ⟨pf0, pf1, pf2⟩, pl⟩ := block3 (unhide Kp_2)
  obtain ⟨f0, f1, ff0, ff1, fl⟩ := block2 (unhide Kf_2)
  go_upto_region 5 with (go_at_call 31; refine (unhide HWO _ (unhide HX_2)).mono ?_; rintro e w5 ⟨a5, c5, rfl, ho5, hb5⟩; have HO5 := hide (ho5.base (unhide HX_2).size); have HX_3 := hide (Below.next (unhide HX_2) hb5 (by first | exact Nat.le_refl _ | (have := unhide HBA; omega))); have Kp_3 := hide (keep_below (unhide Kp_2) hb5); have Kq_3 := hide (keep_below (unhide Kq_2) hb5); have Kg_3 := hide (keep_below (unhide Kg_2) hb5); have Kf_3 := hide (keep_below (unhide Kf_2) hb5); clear HX_2 Kp_2 Kq_2 Kg_2 Kf_2; clear hb5 ho5 p0 p1 p2 pf0 pf1 pf2 pl f0 f1 ff0 ff1 fl)
  obtain ⟨⟨p0, p1, p2⟩, ⟨pf0, pf1, pf2⟩, pl⟩ := block3 (unhide Kp_3)
  obtain ⟨⟨q0, q1, q2⟩, ⟨qf0, qf1, qf2⟩, ql⟩ := block3 (unhide Kq_3)
  obtain ⟨g0, g1, gf0, gf1, gl⟩ := block2 (unhide Kg_3)
  have x1 : decide ((m : Int) < (n : Int)) = decide (m < n) := by simp
  go_wp2_with fail
  refine bodyPost_ret (v := .tuple #[.agg #[.int .i64 now, .int .i64 next, .slice a5 m c5], .bool (decide (m < n)), .agg #[.int .i64 0, .int .i64 0]]) (by simp [results, Try.results13, go_sem, q0, q1, q2, g0, g1]) rfl ⟨a5, c5, rfl, ?_, ?_⟩
  · exact put2_own (putL_own (unhide HO5) (unhide Kq_3) (by decide)) (putL_keeps (unhide Kg_3) (by omega)) (by decide)
  · exact put2_below (putL_below (unhide HX_3) (by omega)) (by omega)

end Go.Proofs.Ytidpmcanfedbdaa
