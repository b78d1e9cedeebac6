/-
  taskmillref.GateFault, GroupFault, OnceFault.
-/
import Derived.Test.YtpogcfdmkeebmaaT
import Derived.Test.YtpogcfdmkeebmaaO
import Derived.Test.YtpogcfdmkeebmaaP
namespace Go.Proofs.Ytpogcfdmkeebmaa
open Go.RowKit

set_option maxRecDepth 100000 in
set_option maxHeartbeats 2000000 in
theorem gateFault_any (w : World) (v : Value) (c : Int) (xs : List Int) (h : IsG KI w v c xs) (hn : xs.length ≤ maxLen) :
    Calls Try.prog 32 #[v] w fun e w' => e = .returned (faultV (gateF c xs)) ∧ Below w.heap.size w w' := by
  obtain ⟨a0, c0, rfl, hL⟩ := h.form
  have HC : Hid (∀ W, Below w.heap.size w W → Calls Try.prog 38 #[.slice a0 xs.length c0] W fun e w' => e = .returned (faultV (lineF xs)) ∧ Below W.heap.size W w') := fun W hW => lineFault_any W _ xs (hL.below hW) hn
  obtain ⟨R, eR⟩ : ∃ R, gateF c xs = R := ⟨_, rfl⟩
  rw [eR]
  unfold gateF at eR
  obtain ⟨⟨F0, F1⟩, eF⟩ : ∃ F, lineF xs = F := ⟨_, rfl⟩
  have HZ : Hid ((lineF xs).1 = 0 → (lineF xs).2 = 0) := fun hz => by rw [(lineF_zero hz).1]
  rw [eF] at HC eR HZ
  unfold maxLen at hn
  generalize xs.length = n at *
  simp only at eR
  have HR := hide eR
  clear h hL eR eF
  obtain ⟨W0, e0, hB, k0, k1⟩ := two_new w (.cells #[.int .i64 c, .slice a0 n c0] 67) (.cells #[.int .i64 0, .int .i64 0] 29)
  have HX := hide hB; have HP := hide k0; have HQ := hide k1; have HE := hide e0
  clear hB k0 k1 e0
  go_enter Try.func32, Try.ntmps32
  go_upto_region 1 with fail
  rw [unhide HE]
  clear HE
  obtain ⟨p0, p1, pf0, pf1, pl⟩ := block2 (unhide HP)
  go_upto_region 2 with (go_at_call 38; refine (unhide HC _ (unhide HX)).mono ?_; rintro e w1 ⟨he, hb1⟩; obtain rfl : e = .returned (.agg #[.int .i64 F0, .int .i64 F1]) := he; have HX_1 := hide (Below.next (unhide HX) hb1 (by first | exact Nat.le_refl _ | (have := unhide HBA; omega))); have Kp_1 := hide (keep_below (unhide HP) hb1); have Kq_1 := hide (keep_below (unhide HQ) hb1); clear HX HP HQ; clear hb1 p0 p1 pf0 pf1 pl)
  have HX_2 := hide ((unhide HX_1).alloc (Nat.le_trans (show w.heap.size ≤ w.heap.size from Nat.le_refl _) (unhide HX_1).size) (.cells #[.int .i64 F0, .int .i64 F1] 29))
  have Kp_2 := hide (keep_alloc (unhide Kp_1) (.cells #[.int .i64 F0, .int .i64 F1] 29))
  have Kq_2 := hide (keep_alloc (unhide Kq_1) (.cells #[.int .i64 F0, .int .i64 F1] 29))
  have Kf_2 := hide (new_block w1 (.cells #[.int .i64 F0, .int .i64 F1] 29))
  have hlp_f : w.heap.size < w1.heap.size := size_of (unhide Kp_1)
  have hlq_f : w.heap.size + 1 < w1.heap.size := size_of (unhide Kq_1)
  obtain ⟨T, eT⟩ : ∃ X, w1.heap.size = X := ⟨_, rfl⟩
  obtain ⟨W2, eW2⟩ : ∃ X, w1.alloc (.cells #[.int .i64 F0, .int .i64 F1] 29) = X := ⟨_, rfl⟩
  rw [eT, eW2] at Kf_2; rw [eW2] at HX_2 Kp_2 Kq_2; rw [eT] at hlp_f hlq_f; rw [eT, eW2]
  clear eT eW2 HX_1 Kp_1 Kq_1
  have hqt : w.heap.size + 1 < T := by omega
  by_cases hF : F0 ≠ 0
  · have hr := unhide HR
    rw [if_pos hF] at hr
    subst hr
    have x0 : (F0 == 0) = false := by simpa using hF
    clear HR hF
    obtain ⟨p0, p1, pf0, pf1, pl⟩ := block2 (unhide Kp_2)
    obtain ⟨f0, f1, ff0, ff1, fl⟩ := block2 (unhide Kf_2)
    obtain ⟨q0, q1, qf0, qf1, ql⟩ := block2 (unhide Kq_2)
    go_wp2_with fail
    exact bodyPost_ret (v := .agg #[.int .i64 F0, .int .i64 F1]) (by simp [results, Try.results32, go_sem, q0, q1]) rfl ⟨rfl, below_set2 (unhide HX_2) (Nat.le_succ _) _ _⟩
  have hr := unhide HR
  rw [if_neg hF] at hr
  have HR2 := hide hr
  have hF0 : F0 = 0 := by omega
  subst hF0
  have hF1 : F1 = 0 := unhide HZ rfl
  subst hF1
  clear HR hr hF HZ
  by_cases h1 : c < 1
  · have hr := unhide HR2
    rw [if_pos (Or.inl h1)] at hr
    subst hr
    clear HR2
    obtain ⟨p0, p1, pf0, pf1, pl⟩ := block2 (unhide Kp_2)
    obtain ⟨f0, f1, ff0, ff1, fl⟩ := block2 (unhide Kf_2)
    go_upto_region 4 with (go_at_call 16; refine (refF_any _ _ _).mono ?_; rintro e w3 ⟨rfl, hb3⟩; have HX_b3 := hide (Below.next (unhide HX_2) hb3 (by first | exact Nat.le_refl _ | (have := unhide HBA; omega))); have Kp_b3 := hide (keep_below (unhide Kp_2) hb3); have Kq_b3 := hide (keep_below (unhide Kq_2) hb3); have Kf_b3 := hide (keep_below (unhide Kf_2) hb3); clear HX_2 Kp_2 Kq_2 Kf_2; clear hb3 p0 p1 pf0 pf1 pl f0 f1 ff0 ff1 fl; obtain ⟨p0, p1, pf0, pf1, pl⟩ := block2 (unhide Kp_b3); obtain ⟨f0, f1, ff0, ff1, fl⟩ := block2 (unhide Kf_b3))
    clear p0 p1 pf0 pf1 pl f0 f1 ff0 ff1 fl
    have HX_b4 := hide (put2_below (y0 := .int .i64 3) (y1 := .int .i64 0) (unhide HX_b3) (show w.heap.size ≤ T by first | omega | (have := unhide HBA; omega)))
    have Kp_b4 := hide ((put2_keep (y0 := .int .i64 3) (y1 := .int .i64 0) (show w.heap.size ≠ T by omega)).trans (unhide Kp_b3))
    have Kq_b4 := hide ((put2_keep (y0 := .int .i64 3) (y1 := .int .i64 0) (show w.heap.size + 1 ≠ T by omega)).trans (unhide Kq_b3))
    have Kf_b4 := hide (put2_new (y0 := .int .i64 3) (y1 := .int .i64 0) (unhide Kf_b3))
    obtain ⟨W4, eW4⟩ : ∃ X, put2 w3 (T) (.int .i64 3) (.int .i64 0) = X := ⟨_, rfl⟩
    rw [eW4] at HX_b4 Kp_b4 Kq_b4 Kf_b4
    have eW42 : ((w3).setCell ⟨T, 0, none⟩ (.int .i64 3)).setCell ⟨T, 1, none⟩ (.int .i64 0) = W4 := eW4
    rw [eW42]
    clear eW4 eW42 HX_b3 Kp_b3 Kq_b3 Kf_b3
    obtain ⟨p0, p1, pf0, pf1, pl⟩ := block2 (unhide Kp_b4)
    obtain ⟨f0, f1, ff0, ff1, fl⟩ := block2 (unhide Kf_b4)
    obtain ⟨q0, q1, qf0, qf1, ql⟩ := block2 (unhide Kq_b4)
    go_wp2_with fail
    exact bodyPost_ret (v := .agg #[.int .i64 3, .int .i64 0]) (by simp [results, Try.results32, go_sem, q0, q1]) rfl ⟨rfl, below_set2 (unhide HX_b4) (Nat.le_succ _) _ _⟩
  by_cases h2 : 5000 < c
  · have hr := unhide HR2
    rw [if_pos (Or.inr h2)] at hr
    subst hr
    clear HR2
    obtain ⟨p0, p1, pf0, pf1, pl⟩ := block2 (unhide Kp_2)
    obtain ⟨f0, f1, ff0, ff1, fl⟩ := block2 (unhide Kf_2)
    go_upto_region 4 with (go_at_call 16; refine (refF_any _ _ _).mono ?_; rintro e w3 ⟨rfl, hb3⟩; have HX_c3 := hide (Below.next (unhide HX_2) hb3 (by first | exact Nat.le_refl _ | (have := unhide HBA; omega))); have Kp_c3 := hide (keep_below (unhide Kp_2) hb3); have Kq_c3 := hide (keep_below (unhide Kq_2) hb3); have Kf_c3 := hide (keep_below (unhide Kf_2) hb3); clear HX_2 Kp_2 Kq_2 Kf_2; clear hb3 p0 p1 pf0 pf1 pl f0 f1 ff0 ff1 fl; obtain ⟨p0, p1, pf0, pf1, pl⟩ := block2 (unhide Kp_c3); obtain ⟨f0, f1, ff0, ff1, fl⟩ := block2 (unhide Kf_c3))
    clear p0 p1 pf0 pf1 pl f0 f1 ff0 ff1 fl
    have HX_c4 := hide (put2_below (y0 := .int .i64 3) (y1 := .int .i64 0) (unhide HX_c3) (show w.heap.size ≤ T by first | omega | (have := unhide HBA; omega)))
    have Kp_c4 := hide ((put2_keep (y0 := .int .i64 3) (y1 := .int .i64 0) (show w.heap.size ≠ T by omega)).trans (unhide Kp_c3))
    have Kq_c4 := hide ((put2_keep (y0 := .int .i64 3) (y1 := .int .i64 0) (show w.heap.size + 1 ≠ T by omega)).trans (unhide Kq_c3))
    have Kf_c4 := hide (put2_new (y0 := .int .i64 3) (y1 := .int .i64 0) (unhide Kf_c3))
    obtain ⟨W4, eW4⟩ : ∃ X, put2 w3 (T) (.int .i64 3) (.int .i64 0) = X := ⟨_, rfl⟩
    rw [eW4] at HX_c4 Kp_c4 Kq_c4 Kf_c4
    have eW42 : ((w3).setCell ⟨T, 0, none⟩ (.int .i64 3)).setCell ⟨T, 1, none⟩ (.int .i64 0) = W4 := eW4
    rw [eW42]
    clear eW4 eW42 HX_c3 Kp_c3 Kq_c3 Kf_c3
    obtain ⟨p0, p1, pf0, pf1, pl⟩ := block2 (unhide Kp_c4)
    obtain ⟨f0, f1, ff0, ff1, fl⟩ := block2 (unhide Kf_c4)
    obtain ⟨q0, q1, qf0, qf1, ql⟩ := block2 (unhide Kq_c4)
    go_wp2_with fail
    exact bodyPost_ret (v := .agg #[.int .i64 3, .int .i64 0]) (by simp [results, Try.results32, go_sem, q0, q1]) rfl ⟨rfl, below_set2 (unhide HX_c4) (Nat.le_succ _) _ _⟩
  have hr := unhide HR2
  rw [if_neg (fun h => h.elim h1 h2)] at hr
  have HR3 := hide hr
  clear HR2 hr
  by_cases h3 : c ≤ (n : Int)
  · have hr := unhide HR3
    rw [if_pos h3] at hr
    subst hr
    clear HR3
    obtain ⟨p0, p1, pf0, pf1, pl⟩ := block2 (unhide Kp_2)
    obtain ⟨f0, f1, ff0, ff1, fl⟩ := block2 (unhide Kf_2)
    go_upto_region 6 with (go_at_call 16; refine (refF_any _ _ _).mono ?_; rintro e w3 ⟨rfl, hb3⟩; have HX_d3 := hide (Below.next (unhide HX_2) hb3 (by first | exact Nat.le_refl _ | (have := unhide HBA; omega))); have Kp_d3 := hide (keep_below (unhide Kp_2) hb3); have Kq_d3 := hide (keep_below (unhide Kq_2) hb3); have Kf_d3 := hide (keep_below (unhide Kf_2) hb3); clear HX_2 Kp_2 Kq_2 Kf_2; clear hb3 p0 p1 pf0 pf1 pl f0 f1 ff0 ff1 fl; obtain ⟨p0, p1, pf0, pf1, pl⟩ := block2 (unhide Kp_d3); obtain ⟨f0, f1, ff0, ff1, fl⟩ := block2 (unhide Kf_d3))
    clear p0 p1 pf0 pf1 pl f0 f1 ff0 ff1 fl
    have HX_d4 := hide (put2_below (y0 := .int .i64 5) (y1 := .int .i64 0) (unhide HX_d3) (show w.heap.size ≤ T by first | omega | (have := unhide HBA; omega)))
    have Kp_d4 := hide ((put2_keep (y0 := .int .i64 5) (y1 := .int .i64 0) (show w.heap.size ≠ T by omega)).trans (unhide Kp_d3))
    have Kq_d4 := hide ((put2_keep (y0 := .int .i64 5) (y1 := .int .i64 0) (show w.heap.size + 1 ≠ T by omega)).trans (unhide Kq_d3))
    have Kf_d4 := hide (put2_new (y0 := .int .i64 5) (y1 := .int .i64 0) (unhide Kf_d3))
    obtain ⟨W4, eW4⟩ : ∃ X, put2 w3 (T) (.int .i64 5) (.int .i64 0) = X := ⟨_, rfl⟩
    rw [eW4] at HX_d4 Kp_d4 Kq_d4 Kf_d4
    have eW42 : ((w3).setCell ⟨T, 0, none⟩ (.int .i64 5)).setCell ⟨T, 1, none⟩ (.int .i64 0) = W4 := eW4
    rw [eW42]
    clear eW4 eW42 HX_d3 Kp_d3 Kq_d3 Kf_d3
    obtain ⟨p0, p1, pf0, pf1, pl⟩ := block2 (unhide Kp_d4)
    obtain ⟨f0, f1, ff0, ff1, fl⟩ := block2 (unhide Kf_d4)
    obtain ⟨q0, q1, qf0, qf1, ql⟩ := block2 (unhide Kq_d4)
    go_wp2_with fail
    exact bodyPost_ret (v := .agg #[.int .i64 5, .int .i64 0]) (by simp [results, Try.results32, go_sem, q0, q1]) rfl ⟨rfl, below_set2 (unhide HX_d4) (Nat.le_succ _) _ _⟩
  · have hr := unhide HR3
    rw [if_neg h3] at hr
    subst hr
    clear HR3
    obtain ⟨p0, p1, pf0, pf1, pl⟩ := block2 (unhide Kp_2)
    obtain ⟨f0, f1, ff0, ff1, fl⟩ := block2 (unhide Kf_2)
    obtain ⟨q0, q1, qf0, qf1, ql⟩ := block2 (unhide Kq_2)
    go_wp2_with fail
    exact bodyPost_ret (v := .agg #[.int .i64 0, .int .i64 0]) (by simp [results, Try.results32, go_sem, q0, q1]) rfl ⟨rfl, below_set2 (unhide HX_2) (Nat.le_succ _) _ _⟩

set_option maxRecDepth 100000 in
set_option maxHeartbeats 2000000 in
theorem groupFault_any (w : World) (v : Value) (c : Int) (xs : List Int) (h : IsG KI w v c xs) (hn : xs.length ≤ maxLen) :
    Calls Try.prog 14 #[v] w fun e w' => e = .returned (faultV (groupF c xs)) ∧ Below w.heap.size w w' := by
  obtain ⟨a0, c0, rfl, hL⟩ := h.form
  have HC : Hid (∀ W, Below w.heap.size w W → Calls Try.prog 38 #[.slice a0 xs.length c0] W fun e w' => e = .returned (faultV (lineF xs)) ∧ Below W.heap.size W w') := fun W hW => lineFault_any W _ xs (hL.below hW) hn
  obtain ⟨R, eR⟩ : ∃ R, groupF c xs = R := ⟨_, rfl⟩
  rw [eR]
  unfold groupF at eR
  obtain ⟨⟨F0, F1⟩, eF⟩ : ∃ F, lineF xs = F := ⟨_, rfl⟩
  have HZ : Hid ((lineF xs).1 = 0 → (lineF xs).2 = 0) := fun hz => by rw [(lineF_zero hz).1]
  rw [eF] at HC eR HZ
  unfold maxLen at hn
  generalize xs.length = n at *
  simp only at eR
  have HR := hide eR
  clear h hL eR eF
  obtain ⟨W0, e0, hB, k0, k1⟩ := two_new w (.cells #[.int .i64 c, .slice a0 n c0] 24) (.cells #[.int .i64 0, .int .i64 0] 29)
  have HX := hide hB; have HP := hide k0; have HQ := hide k1; have HE := hide e0
  clear hB k0 k1 e0
  go_enter Try.func14, Try.ntmps14
  go_upto_region 1 with fail
  rw [unhide HE]
  clear HE
  obtain ⟨p0, p1, pf0, pf1, pl⟩ := block2 (unhide HP)
  go_upto_region 2 with (go_at_call 38; refine (unhide HC _ (unhide HX)).mono ?_; rintro e w1 ⟨he, hb1⟩; obtain rfl : e = .returned (.agg #[.int .i64 F0, .int .i64 F1]) := he; have HX_1 := hide (Below.next (unhide HX) hb1 (by first | exact Nat.le_refl _ | (have := unhide HBA; omega))); have Kp_1 := hide (keep_below (unhide HP) hb1); have Kq_1 := hide (keep_below (unhide HQ) hb1); clear HX HP HQ; clear hb1 p0 p1 pf0 pf1 pl)
  have HX_2 := hide ((unhide HX_1).alloc (Nat.le_trans (show w.heap.size ≤ w.heap.size from Nat.le_refl _) (unhide HX_1).size) (.cells #[.int .i64 F0, .int .i64 F1] 29))
  have Kp_2 := hide (keep_alloc (unhide Kp_1) (.cells #[.int .i64 F0, .int .i64 F1] 29))
  have Kq_2 := hide (keep_alloc (unhide Kq_1) (.cells #[.int .i64 F0, .int .i64 F1] 29))
  have Kf_2 := hide (new_block w1 (.cells #[.int .i64 F0, .int .i64 F1] 29))
  have hlp_f : w.heap.size < w1.heap.size := size_of (unhide Kp_1)
  have hlq_f : w.heap.size + 1 < w1.heap.size := size_of (unhide Kq_1)
  obtain ⟨T, eT⟩ : ∃ X, w1.heap.size = X := ⟨_, rfl⟩
  obtain ⟨W2, eW2⟩ : ∃ X, w1.alloc (.cells #[.int .i64 F0, .int .i64 F1] 29) = X := ⟨_, rfl⟩
  rw [eT, eW2] at Kf_2; rw [eW2] at HX_2 Kp_2 Kq_2; rw [eT] at hlp_f hlq_f; rw [eT, eW2]
  clear eT eW2 HX_1 Kp_1 Kq_1
  have hqt : w.heap.size + 1 < T := by omega
  by_cases hF : F0 ≠ 0
  · have hr := unhide HR
    rw [if_pos hF] at hr
    subst hr
    have x0 : (F0 == 0) = false := by simpa using hF
    clear HR hF
    obtain ⟨p0, p1, pf0, pf1, pl⟩ := block2 (unhide Kp_2)
    obtain ⟨f0, f1, ff0, ff1, fl⟩ := block2 (unhide Kf_2)
    obtain ⟨q0, q1, qf0, qf1, ql⟩ := block2 (unhide Kq_2)
    go_wp2_with fail
    exact bodyPost_ret (v := .agg #[.int .i64 F0, .int .i64 F1]) (by simp [results, Try.results14, go_sem, q0, q1]) rfl ⟨rfl, below_set2 (unhide HX_2) (Nat.le_succ _) _ _⟩
  have hr := unhide HR
  rw [if_neg hF] at hr
  have HR2 := hide hr
  have hF0 : F0 = 0 := by omega
  subst hF0
  have hF1 : F1 = 0 := unhide HZ rfl
  subst hF1
  clear HR hr hF HZ
  by_cases h1 : c < 0
  · have hr := unhide HR2
    rw [if_pos (Or.inl h1)] at hr
    subst hr
    clear HR2
    obtain ⟨p0, p1, pf0, pf1, pl⟩ := block2 (unhide Kp_2)
    obtain ⟨f0, f1, ff0, ff1, fl⟩ := block2 (unhide Kf_2)
    go_upto_region 4 with (go_at_call 16; refine (refF_any _ _ _).mono ?_; rintro e w3 ⟨rfl, hb3⟩; have HX_b3 := hide (Below.next (unhide HX_2) hb3 (by first | exact Nat.le_refl _ | (have := unhide HBA; omega))); have Kp_b3 := hide (keep_below (unhide Kp_2) hb3); have Kq_b3 := hide (keep_below (unhide Kq_2) hb3); have Kf_b3 := hide (keep_below (unhide Kf_2) hb3); clear HX_2 Kp_2 Kq_2 Kf_2; clear hb3 p0 p1 pf0 pf1 pl f0 f1 ff0 ff1 fl; obtain ⟨p0, p1, pf0, pf1, pl⟩ := block2 (unhide Kp_b3); obtain ⟨f0, f1, ff0, ff1, fl⟩ := block2 (unhide Kf_b3))
    clear p0 p1 pf0 pf1 pl f0 f1 ff0 ff1 fl
    have HX_b4 := hide (put2_below (y0 := .int .i64 3) (y1 := .int .i64 0) (unhide HX_b3) (show w.heap.size ≤ T by first | omega | (have := unhide HBA; omega)))
    have Kp_b4 := hide ((put2_keep (y0 := .int .i64 3) (y1 := .int .i64 0) (show w.heap.size ≠ T by omega)).trans (unhide Kp_b3))
    have Kq_b4 := hide ((put2_keep (y0 := .int .i64 3) (y1 := .int .i64 0) (show w.heap.size + 1 ≠ T by omega)).trans (unhide Kq_b3))
    have Kf_b4 := hide (put2_new (y0 := .int .i64 3) (y1 := .int .i64 0) (unhide Kf_b3))
    obtain ⟨W4, eW4⟩ : ∃ X, put2 w3 (T) (.int .i64 3) (.int .i64 0) = X := ⟨_, rfl⟩
    rw [eW4] at HX_b4 Kp_b4 Kq_b4 Kf_b4
    have eW42 : ((w3).setCell ⟨T, 0, none⟩ (.int .i64 3)).setCell ⟨T, 1, none⟩ (.int .i64 0) = W4 := eW4
    rw [eW42]
    clear eW4 eW42 HX_b3 Kp_b3 Kq_b3 Kf_b3
    obtain ⟨p0, p1, pf0, pf1, pl⟩ := block2 (unhide Kp_b4)
    obtain ⟨f0, f1, ff0, ff1, fl⟩ := block2 (unhide Kf_b4)
    obtain ⟨q0, q1, qf0, qf1, ql⟩ := block2 (unhide Kq_b4)
    go_wp2_with fail
    exact bodyPost_ret (v := .agg #[.int .i64 3, .int .i64 0]) (by simp [results, Try.results14, go_sem, q0, q1]) rfl ⟨rfl, below_set2 (unhide HX_b4) (Nat.le_succ _) _ _⟩
  by_cases h2 : 1000000000 < c
  · have hr := unhide HR2
    rw [if_pos (Or.inr h2)] at hr
    subst hr
    clear HR2
    obtain ⟨p0, p1, pf0, pf1, pl⟩ := block2 (unhide Kp_2)
    obtain ⟨f0, f1, ff0, ff1, fl⟩ := block2 (unhide Kf_2)
    go_upto_region 4 with (go_at_call 16; refine (refF_any _ _ _).mono ?_; rintro e w3 ⟨rfl, hb3⟩; have HX_c3 := hide (Below.next (unhide HX_2) hb3 (by first | exact Nat.le_refl _ | (have := unhide HBA; omega))); have Kp_c3 := hide (keep_below (unhide Kp_2) hb3); have Kq_c3 := hide (keep_below (unhide Kq_2) hb3); have Kf_c3 := hide (keep_below (unhide Kf_2) hb3); clear HX_2 Kp_2 Kq_2 Kf_2; clear hb3 p0 p1 pf0 pf1 pl f0 f1 ff0 ff1 fl; obtain ⟨p0, p1, pf0, pf1, pl⟩ := block2 (unhide Kp_c3); obtain ⟨f0, f1, ff0, ff1, fl⟩ := block2 (unhide Kf_c3))
    clear p0 p1 pf0 pf1 pl f0 f1 ff0 ff1 fl
    have HX_c4 := hide (put2_below (y0 := .int .i64 3) (y1 := .int .i64 0) (unhide HX_c3) (show w.heap.size ≤ T by first | omega | (have := unhide HBA; omega)))
    have Kp_c4 := hide ((put2_keep (y0 := .int .i64 3) (y1 := .int .i64 0) (show w.heap.size ≠ T by omega)).trans (unhide Kp_c3))
    have Kq_c4 := hide ((put2_keep (y0 := .int .i64 3) (y1 := .int .i64 0) (show w.heap.size + 1 ≠ T by omega)).trans (unhide Kq_c3))
    have Kf_c4 := hide (put2_new (y0 := .int .i64 3) (y1 := .int .i64 0) (unhide Kf_c3))
    obtain ⟨W4, eW4⟩ : ∃ X, put2 w3 (T) (.int .i64 3) (.int .i64 0) = X := ⟨_, rfl⟩
    rw [eW4] at HX_c4 Kp_c4 Kq_c4 Kf_c4
    have eW42 : ((w3).setCell ⟨T, 0, none⟩ (.int .i64 3)).setCell ⟨T, 1, none⟩ (.int .i64 0) = W4 := eW4
    rw [eW42]
    clear eW4 eW42 HX_c3 Kp_c3 Kq_c3 Kf_c3
    obtain ⟨p0, p1, pf0, pf1, pl⟩ := block2 (unhide Kp_c4)
    obtain ⟨f0, f1, ff0, ff1, fl⟩ := block2 (unhide Kf_c4)
    obtain ⟨q0, q1, qf0, qf1, ql⟩ := block2 (unhide Kq_c4)
    go_wp2_with fail
    exact bodyPost_ret (v := .agg #[.int .i64 3, .int .i64 0]) (by simp [results, Try.results14, go_sem, q0, q1]) rfl ⟨rfl, below_set2 (unhide HX_c4) (Nat.le_succ _) _ _⟩
  have hr := unhide HR2
  rw [if_neg (fun h => h.elim h1 h2)] at hr
  have HR3 := hide hr
  clear HR2 hr
  by_cases h3 : c = 0
  · by_cases h4 : 0 < n
    · have hr := unhide HR3
      rw [if_pos ⟨h3, h4⟩] at hr
      subst hr
      clear HR3
      subst h3
      have j4 : (0 : Int) < (n : Int) := by omega
      obtain ⟨p0, p1, pf0, pf1, pl⟩ := block2 (unhide Kp_2)
      obtain ⟨f0, f1, ff0, ff1, fl⟩ := block2 (unhide Kf_2)
      go_upto_region 6 with (go_at_call 16; refine (refF_any _ _ _).mono ?_; rintro e w3 ⟨rfl, hb3⟩; have HX_d3 := hide (Below.next (unhide HX_2) hb3 (by first | exact Nat.le_refl _ | (have := unhide HBA; omega))); have Kp_d3 := hide (keep_below (unhide Kp_2) hb3); have Kq_d3 := hide (keep_below (unhide Kq_2) hb3); have Kf_d3 := hide (keep_below (unhide Kf_2) hb3); clear HX_2 Kp_2 Kq_2 Kf_2; clear hb3 p0 p1 pf0 pf1 pl f0 f1 ff0 ff1 fl; obtain ⟨p0, p1, pf0, pf1, pl⟩ := block2 (unhide Kp_d3); obtain ⟨f0, f1, ff0, ff1, fl⟩ := block2 (unhide Kf_d3))
      clear p0 p1 pf0 pf1 pl f0 f1 ff0 ff1 fl
      have HX_d4 := hide (put2_below (y0 := .int .i64 5) (y1 := .int .i64 0) (unhide HX_d3) (show w.heap.size ≤ T by first | omega | (have := unhide HBA; omega)))
      have Kp_d4 := hide ((put2_keep (y0 := .int .i64 5) (y1 := .int .i64 0) (show w.heap.size ≠ T by omega)).trans (unhide Kp_d3))
      have Kq_d4 := hide ((put2_keep (y0 := .int .i64 5) (y1 := .int .i64 0) (show w.heap.size + 1 ≠ T by omega)).trans (unhide Kq_d3))
      have Kf_d4 := hide (put2_new (y0 := .int .i64 5) (y1 := .int .i64 0) (unhide Kf_d3))
      obtain ⟨W4, eW4⟩ : ∃ X, put2 w3 (T) (.int .i64 5) (.int .i64 0) = X := ⟨_, rfl⟩
      rw [eW4] at HX_d4 Kp_d4 Kq_d4 Kf_d4
      have eW42 : ((w3).setCell ⟨T, 0, none⟩ (.int .i64 5)).setCell ⟨T, 1, none⟩ (.int .i64 0) = W4 := eW4
      rw [eW42]
      clear eW4 eW42 HX_d3 Kp_d3 Kq_d3 Kf_d3
      obtain ⟨p0, p1, pf0, pf1, pl⟩ := block2 (unhide Kp_d4)
      obtain ⟨f0, f1, ff0, ff1, fl⟩ := block2 (unhide Kf_d4)
      obtain ⟨q0, q1, qf0, qf1, ql⟩ := block2 (unhide Kq_d4)
      go_wp2_with fail
      exact bodyPost_ret (v := .agg #[.int .i64 5, .int .i64 0]) (by simp [results, Try.results14, go_sem, q0, q1]) rfl ⟨rfl, below_set2 (unhide HX_d4) (Nat.le_succ _) _ _⟩
    · have hr := unhide HR3
      rw [if_neg (fun h => h4 h.2)] at hr
      subst hr
      clear HR3
      subst h3
      have j4 : ¬ (0 : Int) < (n : Int) := by omega
      obtain ⟨p0, p1, pf0, pf1, pl⟩ := block2 (unhide Kp_2)
      obtain ⟨f0, f1, ff0, ff1, fl⟩ := block2 (unhide Kf_2)
      obtain ⟨q0, q1, qf0, qf1, ql⟩ := block2 (unhide Kq_2)
      go_wp2_with fail
      exact bodyPost_ret (v := .agg #[.int .i64 0, .int .i64 0]) (by simp [results, Try.results14, go_sem, q0, q1]) rfl ⟨rfl, below_set2 (unhide HX_2) (Nat.le_succ _) _ _⟩
  · have hr := unhide HR3
    rw [if_neg (fun h => h3 h.1)] at hr
    subst hr
    clear HR3
    have j3 : (c == 0) = false := by simpa using h3
    clear h3
    obtain ⟨p0, p1, pf0, pf1, pl⟩ := block2 (unhide Kp_2)
    obtain ⟨f0, f1, ff0, ff1, fl⟩ := block2 (unhide Kf_2)
    obtain ⟨q0, q1, qf0, qf1, ql⟩ := block2 (unhide Kq_2)
    go_wp2_with fail
    exact bodyPost_ret (v := .agg #[.int .i64 0, .int .i64 0]) (by simp [results, Try.results14, go_sem, q0, q1]) rfl ⟨rfl, below_set2 (unhide HX_2) (Nat.le_succ _) _ _⟩

set_option maxRecDepth 100000 in
set_option maxHeartbeats 2000000 in
theorem onceFault_any (w : World) (v : Value) (b : Int) (d : Bool) (xs : List Int) (h : IsO w v b d xs) (hn : xs.length ≤ maxLen) :
    Calls Try.prog 21 #[v] w fun e w' => e = .returned (faultV (onceF b d xs)) ∧ Below w.heap.size w w' := by
  obtain ⟨a0, c0, rfl, hL⟩ := h.form
  have HC : Hid (∀ W, Below w.heap.size w W → Calls Try.prog 38 #[.slice a0 xs.length c0] W fun e w' => e = .returned (faultV (lineF xs)) ∧ Below W.heap.size W w') := fun W hW => lineFault_any W _ xs (hL.below hW) hn
  obtain ⟨R, eR⟩ : ∃ R, onceF b d xs = R := ⟨_, rfl⟩
  rw [eR]
  unfold onceF at eR
  obtain ⟨⟨F0, F1⟩, eF⟩ : ∃ F, lineF xs = F := ⟨_, rfl⟩
  have HZ : Hid ((lineF xs).1 = 0 → (lineF xs).2 = 0) := fun hz => by rw [(lineF_zero hz).1]
  rw [eF] at HC eR HZ
  have HI : Hid (∀ W, Below w.heap.size w W → Calls Try.prog 30 #[.slice a0 xs.length c0, .int .i64 b] W fun e w' => e = .returned (.bool (xs.contains b)) ∧ w' = W) := fun W hW => has_same W _ xs b (hL.below hW) hn
  obtain ⟨q, eq⟩ : ∃ q, xs.contains b = q := ⟨_, rfl⟩
  rw [eq] at HI eR
  clear eq
  unfold maxLen at hn
  generalize xs.length = n at *
  simp only at eR
  have HR := hide eR
  clear h hL eR eF
  obtain ⟨W0, e0, hB, k0, k1⟩ := two_new w (.cells #[.int .i64 b, .bool d, .slice a0 n c0] 41) (.cells #[.int .i64 0, .int .i64 0] 29)
  have HX := hide hB; have HP := hide k0; have HQ := hide k1; have HE := hide e0
  clear hB k0 k1 e0
  go_enter Try.func21, Try.ntmps21
  go_upto_region 1 with fail
  rw [unhide HE]
  clear HE
  obtain ⟨⟨p0, p1, p2⟩, ⟨pf0, pf1, pf2⟩, pl⟩ := block3 (unhide HP)
  go_upto_region 2 with (go_at_call 38; refine (unhide HC _ (unhide HX)).mono ?_; rintro e w1 ⟨he, hb1⟩; obtain rfl : e = .returned (.agg #[.int .i64 F0, .int .i64 F1]) := he; have HX_1 := hide (Below.next (unhide HX) hb1 (by first | exact Nat.le_refl _ | (have := unhide HBA; omega))); have Kp_1 := hide (keep_below (unhide HP) hb1); have Kq_1 := hide (keep_below (unhide HQ) hb1); clear HX HP HQ; clear hb1 p0 p1 p2 pf0 pf1 pf2 pl)
  have HX_2 := hide ((unhide HX_1).alloc (Nat.le_trans (show w.heap.size ≤ w.heap.size from Nat.le_refl _) (unhide HX_1).size) (.cells #[.int .i64 F0, .int .i64 F1] 29))
  have Kp_2 := hide (keep_alloc (unhide Kp_1) (.cells #[.int .i64 F0, .int .i64 F1] 29))
  have Kq_2 := hide (keep_alloc (unhide Kq_1) (.cells #[.int .i64 F0, .int .i64 F1] 29))
  have Kf_2 := hide (new_block w1 (.cells #[.int .i64 F0, .int .i64 F1] 29))
  have hlp_f : w.heap.size < w1.heap.size := size_of (unhide Kp_1)
  have hlq_f : w.heap.size + 1 < w1.heap.size := size_of (unhide Kq_1)
  obtain ⟨T, eT⟩ : ∃ X, w1.heap.size = X := ⟨_, rfl⟩
  obtain ⟨W2, eW2⟩ : ∃ X, w1.alloc (.cells #[.int .i64 F0, .int .i64 F1] 29) = X := ⟨_, rfl⟩
  rw [eT, eW2] at Kf_2; rw [eW2] at HX_2 Kp_2 Kq_2; rw [eT] at hlp_f hlq_f; rw [eT, eW2]
  clear eT eW2 HX_1 Kp_1 Kq_1
  have hqt : w.heap.size + 1 < T := by omega
  by_cases hF : F0 ≠ 0
  · have hr := unhide HR
    rw [if_pos hF] at hr
    subst hr
    have x0 : (F0 == 0) = false := by simpa using hF
    clear HR hF
    obtain ⟨⟨p0, p1, p2⟩, ⟨pf0, pf1, pf2⟩, pl⟩ := block3 (unhide Kp_2)
    obtain ⟨f0, f1, ff0, ff1, fl⟩ := block2 (unhide Kf_2)
    obtain ⟨q0, q1, qf0, qf1, ql⟩ := block2 (unhide Kq_2)
    go_wp2_with fail
    exact bodyPost_ret (v := .agg #[.int .i64 F0, .int .i64 F1]) (by simp [results, Try.results21, go_sem, q0, q1]) rfl ⟨rfl, below_set2 (unhide HX_2) (Nat.le_succ _) _ _⟩
  have hr := unhide HR
  rw [if_neg hF] at hr
  have HR2 := hide hr
  have hF0 : F0 = 0 := by omega
  subst hF0
  have hF1 : F1 = 0 := unhide HZ rfl
  subst hF1
  clear HR hr hF HZ
  by_cases h1 : b < 0
  · have hr := unhide HR2
    rw [if_pos h1] at hr
    subst hr
    clear HR2
    obtain ⟨⟨p0, p1, p2⟩, ⟨pf0, pf1, pf2⟩, pl⟩ := block3 (unhide Kp_2)
    obtain ⟨f0, f1, ff0, ff1, fl⟩ := block2 (unhide Kf_2)
    go_upto_region 4 with (go_at_call 16; refine (refF_any _ _ _).mono ?_; rintro e w3 ⟨rfl, hb3⟩; have HX_b3 := hide (Below.next (unhide HX_2) hb3 (by first | exact Nat.le_refl _ | (have := unhide HBA; omega))); have Kp_b3 := hide (keep_below (unhide Kp_2) hb3); have Kq_b3 := hide (keep_below (unhide Kq_2) hb3); have Kf_b3 := hide (keep_below (unhide Kf_2) hb3); clear HX_2 Kp_2 Kq_2 Kf_2; clear hb3 p0 p1 p2 pf0 pf1 pf2 pl f0 f1 ff0 ff1 fl; obtain ⟨⟨p0, p1, p2⟩, ⟨pf0, pf1, pf2⟩, pl⟩ := block3 (unhide Kp_b3); obtain ⟨f0, f1, ff0, ff1, fl⟩ := block2 (unhide Kf_b3))
    clear p0 p1 p2 pf0 pf1 pf2 pl f0 f1 ff0 ff1 fl
    have HX_b4 := hide (put2_below (y0 := .int .i64 3) (y1 := .int .i64 0) (unhide HX_b3) (show w.heap.size ≤ T by first | omega | (have := unhide HBA; omega)))
    have Kp_b4 := hide ((put2_keep (y0 := .int .i64 3) (y1 := .int .i64 0) (show w.heap.size ≠ T by omega)).trans (unhide Kp_b3))
    have Kq_b4 := hide ((put2_keep (y0 := .int .i64 3) (y1 := .int .i64 0) (show w.heap.size + 1 ≠ T by omega)).trans (unhide Kq_b3))
    have Kf_b4 := hide (put2_new (y0 := .int .i64 3) (y1 := .int .i64 0) (unhide Kf_b3))
    obtain ⟨W4, eW4⟩ : ∃ X, put2 w3 (T) (.int .i64 3) (.int .i64 0) = X := ⟨_, rfl⟩
    rw [eW4] at HX_b4 Kp_b4 Kq_b4 Kf_b4
    have eW42 : ((w3).setCell ⟨T, 0, none⟩ (.int .i64 3)).setCell ⟨T, 1, none⟩ (.int .i64 0) = W4 := eW4
    rw [eW42]
    clear eW4 eW42 HX_b3 Kp_b3 Kq_b3 Kf_b3
    obtain ⟨⟨p0, p1, p2⟩, ⟨pf0, pf1, pf2⟩, pl⟩ := block3 (unhide Kp_b4)
    obtain ⟨f0, f1, ff0, ff1, fl⟩ := block2 (unhide Kf_b4)
    obtain ⟨q0, q1, qf0, qf1, ql⟩ := block2 (unhide Kq_b4)
    go_wp2_with fail
    exact bodyPost_ret (v := .agg #[.int .i64 3, .int .i64 0]) (by simp [results, Try.results21, go_sem, q0, q1]) rfl ⟨rfl, below_set2 (unhide HX_b4) (Nat.le_succ _) _ _⟩
  have hr := unhide HR2
  rw [if_neg h1] at hr
  have HR3 := hide hr
  clear HR2 hr
  by_cases h2 : b = 0
  · subst h2
    by_cases h3 : 0 < n
    · have hr := unhide HR3
      rw [if_pos (Or.inr (Or.inl ⟨rfl, h3⟩))] at hr
      subst hr
      clear HR3
      have j3 : (0 : Int) < (n : Int) := by omega
      cases d
      all_goals
        obtain ⟨⟨p0, p1, p2⟩, ⟨pf0, pf1, pf2⟩, pl⟩ := block3 (unhide Kp_2)
        obtain ⟨f0, f1, ff0, ff1, fl⟩ := block2 (unhide Kf_2)
        go_upto_region 6 with (go_at_call 16; refine (refF_any _ _ _).mono ?_; rintro e w3 ⟨rfl, hb3⟩; have HX_c3 := hide (Below.next (unhide HX_2) hb3 (by first | exact Nat.le_refl _ | (have := unhide HBA; omega))); have Kp_c3 := hide (keep_below (unhide Kp_2) hb3); have Kq_c3 := hide (keep_below (unhide Kq_2) hb3); have Kf_c3 := hide (keep_below (unhide Kf_2) hb3); clear HX_2 Kp_2 Kq_2 Kf_2; clear hb3 p0 p1 p2 pf0 pf1 pf2 pl f0 f1 ff0 ff1 fl; obtain ⟨⟨p0, p1, p2⟩, ⟨pf0, pf1, pf2⟩, pl⟩ := block3 (unhide Kp_c3); obtain ⟨f0, f1, ff0, ff1, fl⟩ := block2 (unhide Kf_c3))
        clear p0 p1 p2 pf0 pf1 pf2 pl f0 f1 ff0 ff1 fl
        have HX_c4 := hide (put2_below (y0 := .int .i64 5) (y1 := .int .i64 0) (unhide HX_c3) (show w.heap.size ≤ T by first | omega | (have := unhide HBA; omega)))
        have Kp_c4 := hide ((put2_keep (y0 := .int .i64 5) (y1 := .int .i64 0) (show w.heap.size ≠ T by omega)).trans (unhide Kp_c3))
        have Kq_c4 := hide ((put2_keep (y0 := .int .i64 5) (y1 := .int .i64 0) (show w.heap.size + 1 ≠ T by omega)).trans (unhide Kq_c3))
        have Kf_c4 := hide (put2_new (y0 := .int .i64 5) (y1 := .int .i64 0) (unhide Kf_c3))
        obtain ⟨W4, eW4⟩ : ∃ X, put2 w3 (T) (.int .i64 5) (.int .i64 0) = X := ⟨_, rfl⟩
        rw [eW4] at HX_c4 Kp_c4 Kq_c4 Kf_c4
        have eW42 : ((w3).setCell ⟨T, 0, none⟩ (.int .i64 5)).setCell ⟨T, 1, none⟩ (.int .i64 0) = W4 := eW4
        rw [eW42]
        clear eW4 eW42 HX_c3 Kp_c3 Kq_c3 Kf_c3
        obtain ⟨⟨p0, p1, p2⟩, ⟨pf0, pf1, pf2⟩, pl⟩ := block3 (unhide Kp_c4)
        obtain ⟨f0, f1, ff0, ff1, fl⟩ := block2 (unhide Kf_c4)
        obtain ⟨q0, q1, qf0, qf1, ql⟩ := block2 (unhide Kq_c4)
        go_wp2_with fail
        exact bodyPost_ret (v := .agg #[.int .i64 5, .int .i64 0]) (by simp [results, Try.results21, go_sem, q0, q1]) rfl ⟨rfl, below_set2 (unhide HX_c4) (Nat.le_succ _) _ _⟩
    · have j3 : ¬ (0 : Int) < (n : Int) := by omega
      cases d
      all_goals
        cases q with
        | true =>
          have hr := unhide HR3
          rw [if_pos (Or.inr (Or.inr rfl))] at hr
          subst hr
          clear HR3
          obtain ⟨⟨p0, p1, p2⟩, ⟨pf0, pf1, pf2⟩, pl⟩ := block3 (unhide Kp_2)
          obtain ⟨f0, f1, ff0, ff1, fl⟩ := block2 (unhide Kf_2)
          go_upto_region 6 with (first | (go_at_call 30; refine (unhide HI _ (unhide HX_2)).mono ?_; rintro e W2 ⟨rfl, rfl⟩) | (go_at_call 16; refine (refF_any _ _ _).mono ?_; rintro e w3 ⟨rfl, hb3⟩; have HX_d3 := hide (Below.next (unhide HX_2) hb3 (by first | exact Nat.le_refl _ | (have := unhide HBA; omega))); have Kp_d3 := hide (keep_below (unhide Kp_2) hb3); have Kq_d3 := hide (keep_below (unhide Kq_2) hb3); have Kf_d3 := hide (keep_below (unhide Kf_2) hb3); clear HX_2 Kp_2 Kq_2 Kf_2; clear hb3 p0 p1 p2 pf0 pf1 pf2 pl f0 f1 ff0 ff1 fl; obtain ⟨⟨p0, p1, p2⟩, ⟨pf0, pf1, pf2⟩, pl⟩ := block3 (unhide Kp_d3); obtain ⟨f0, f1, ff0, ff1, fl⟩ := block2 (unhide Kf_d3)))
          clear p0 p1 p2 pf0 pf1 pf2 pl f0 f1 ff0 ff1 fl
          have HX_d4 := hide (put2_below (y0 := .int .i64 5) (y1 := .int .i64 0) (unhide HX_d3) (show w.heap.size ≤ T by first | omega | (have := unhide HBA; omega)))
          have Kp_d4 := hide ((put2_keep (y0 := .int .i64 5) (y1 := .int .i64 0) (show w.heap.size ≠ T by omega)).trans (unhide Kp_d3))
          have Kq_d4 := hide ((put2_keep (y0 := .int .i64 5) (y1 := .int .i64 0) (show w.heap.size + 1 ≠ T by omega)).trans (unhide Kq_d3))
          have Kf_d4 := hide (put2_new (y0 := .int .i64 5) (y1 := .int .i64 0) (unhide Kf_d3))
          obtain ⟨W4, eW4⟩ : ∃ X, put2 w3 (T) (.int .i64 5) (.int .i64 0) = X := ⟨_, rfl⟩
          rw [eW4] at HX_d4 Kp_d4 Kq_d4 Kf_d4
          have eW42 : ((w3).setCell ⟨T, 0, none⟩ (.int .i64 5)).setCell ⟨T, 1, none⟩ (.int .i64 0) = W4 := eW4
          rw [eW42]
          clear eW4 eW42 HX_d3 Kp_d3 Kq_d3 Kf_d3
          obtain ⟨⟨p0, p1, p2⟩, ⟨pf0, pf1, pf2⟩, pl⟩ := block3 (unhide Kp_d4)
          obtain ⟨f0, f1, ff0, ff1, fl⟩ := block2 (unhide Kf_d4)
          obtain ⟨q0, q1, qf0, qf1, ql⟩ := block2 (unhide Kq_d4)
          go_wp2_with fail
          exact bodyPost_ret (v := .agg #[.int .i64 5, .int .i64 0]) (by simp [results, Try.results21, go_sem, q0, q1]) rfl ⟨rfl, below_set2 (unhide HX_d4) (Nat.le_succ _) _ _⟩
        | false =>
          have hr := unhide HR3
          rw [if_neg (fun h => by rcases h with h | h | h; exact h.2 rfl; exact h3 h.2; cases h)] at hr
          subst hr
          clear HR3
          obtain ⟨⟨p0, p1, p2⟩, ⟨pf0, pf1, pf2⟩, pl⟩ := block3 (unhide Kp_2)
          obtain ⟨f0, f1, ff0, ff1, fl⟩ := block2 (unhide Kf_2)
          obtain ⟨q0, q1, qf0, qf1, ql⟩ := block2 (unhide Kq_2)
          go_wp2_with (go_at_call 30; refine (unhide HI _ (unhide HX_2)).mono ?_; rintro e W2 ⟨rfl, rfl⟩)
          exact bodyPost_ret (v := .agg #[.int .i64 0, .int .i64 0]) (by simp [results, Try.results21, go_sem, q0, q1]) rfl ⟨rfl, below_set2 (unhide HX_2) (Nat.le_succ _) _ _⟩
  · have j2 : (b == 0) = false := by simpa using h2
    have j22 : (b != 0) = true := by simpa using h2
    have HB2 := hide h2
    clear h2
    cases d with
    | true =>
      have hr := unhide HR3
      rw [if_pos (Or.inl ⟨rfl, unhide HB2⟩)] at hr
      subst hr
      clear HR3
      obtain ⟨⟨p0, p1, p2⟩, ⟨pf0, pf1, pf2⟩, pl⟩ := block3 (unhide Kp_2)
      obtain ⟨f0, f1, ff0, ff1, fl⟩ := block2 (unhide Kf_2)
      go_upto_region 6 with (go_at_call 16; refine (refF_any _ _ _).mono ?_; rintro e w3 ⟨rfl, hb3⟩; have HX_f3 := hide (Below.next (unhide HX_2) hb3 (by first | exact Nat.le_refl _ | (have := unhide HBA; omega))); have Kp_f3 := hide (keep_below (unhide Kp_2) hb3); have Kq_f3 := hide (keep_below (unhide Kq_2) hb3); have Kf_f3 := hide (keep_below (unhide Kf_2) hb3); clear HX_2 Kp_2 Kq_2 Kf_2; clear hb3 p0 p1 p2 pf0 pf1 pf2 pl f0 f1 ff0 ff1 fl; obtain ⟨⟨p0, p1, p2⟩, ⟨pf0, pf1, pf2⟩, pl⟩ := block3 (unhide Kp_f3); obtain ⟨f0, f1, ff0, ff1, fl⟩ := block2 (unhide Kf_f3))
      clear p0 p1 p2 pf0 pf1 pf2 pl f0 f1 ff0 ff1 fl
      have HX_f4 := hide (put2_below (y0 := .int .i64 5) (y1 := .int .i64 0) (unhide HX_f3) (show w.heap.size ≤ T by first | omega | (have := unhide HBA; omega)))
      have Kp_f4 := hide ((put2_keep (y0 := .int .i64 5) (y1 := .int .i64 0) (show w.heap.size ≠ T by omega)).trans (unhide Kp_f3))
      have Kq_f4 := hide ((put2_keep (y0 := .int .i64 5) (y1 := .int .i64 0) (show w.heap.size + 1 ≠ T by omega)).trans (unhide Kq_f3))
      have Kf_f4 := hide (put2_new (y0 := .int .i64 5) (y1 := .int .i64 0) (unhide Kf_f3))
      obtain ⟨W4, eW4⟩ : ∃ X, put2 w3 (T) (.int .i64 5) (.int .i64 0) = X := ⟨_, rfl⟩
      rw [eW4] at HX_f4 Kp_f4 Kq_f4 Kf_f4
      have eW42 : ((w3).setCell ⟨T, 0, none⟩ (.int .i64 5)).setCell ⟨T, 1, none⟩ (.int .i64 0) = W4 := eW4
      rw [eW42]
      clear eW4 eW42 HX_f3 Kp_f3 Kq_f3 Kf_f3
      obtain ⟨⟨p0, p1, p2⟩, ⟨pf0, pf1, pf2⟩, pl⟩ := block3 (unhide Kp_f4)
      obtain ⟨f0, f1, ff0, ff1, fl⟩ := block2 (unhide Kf_f4)
      obtain ⟨q0, q1, qf0, qf1, ql⟩ := block2 (unhide Kq_f4)
      go_wp2_with fail
      exact bodyPost_ret (v := .agg #[.int .i64 5, .int .i64 0]) (by simp [results, Try.results21, go_sem, q0, q1]) rfl ⟨rfl, below_set2 (unhide HX_f4) (Nat.le_succ _) _ _⟩
    | false =>
      cases q with
      | true =>
        have hr := unhide HR3
        rw [if_pos (Or.inr (Or.inr rfl))] at hr
        subst hr
        clear HR3
        obtain ⟨⟨p0, p1, p2⟩, ⟨pf0, pf1, pf2⟩, pl⟩ := block3 (unhide Kp_2)
        obtain ⟨f0, f1, ff0, ff1, fl⟩ := block2 (unhide Kf_2)
        go_upto_region 6 with (first | (go_at_call 30; refine (unhide HI _ (unhide HX_2)).mono ?_; rintro e W2 ⟨rfl, rfl⟩) | (go_at_call 16; refine (refF_any _ _ _).mono ?_; rintro e w3 ⟨rfl, hb3⟩; have HX_g3 := hide (Below.next (unhide HX_2) hb3 (by first | exact Nat.le_refl _ | (have := unhide HBA; omega))); have Kp_g3 := hide (keep_below (unhide Kp_2) hb3); have Kq_g3 := hide (keep_below (unhide Kq_2) hb3); have Kf_g3 := hide (keep_below (unhide Kf_2) hb3); clear HX_2 Kp_2 Kq_2 Kf_2; clear hb3 p0 p1 p2 pf0 pf1 pf2 pl f0 f1 ff0 ff1 fl; obtain ⟨⟨p0, p1, p2⟩, ⟨pf0, pf1, pf2⟩, pl⟩ := block3 (unhide Kp_g3); obtain ⟨f0, f1, ff0, ff1, fl⟩ := block2 (unhide Kf_g3)))
        clear p0 p1 p2 pf0 pf1 pf2 pl f0 f1 ff0 ff1 fl
        have HX_g4 := hide (put2_below (y0 := .int .i64 5) (y1 := .int .i64 0) (unhide HX_g3) (show w.heap.size ≤ T by first | omega | (have := unhide HBA; omega)))
        have Kp_g4 := hide ((put2_keep (y0 := .int .i64 5) (y1 := .int .i64 0) (show w.heap.size ≠ T by omega)).trans (unhide Kp_g3))
        have Kq_g4 := hide ((put2_keep (y0 := .int .i64 5) (y1 := .int .i64 0) (show w.heap.size + 1 ≠ T by omega)).trans (unhide Kq_g3))
        have Kf_g4 := hide (put2_new (y0 := .int .i64 5) (y1 := .int .i64 0) (unhide Kf_g3))
        obtain ⟨W4, eW4⟩ : ∃ X, put2 w3 (T) (.int .i64 5) (.int .i64 0) = X := ⟨_, rfl⟩
        rw [eW4] at HX_g4 Kp_g4 Kq_g4 Kf_g4
        have eW42 : ((w3).setCell ⟨T, 0, none⟩ (.int .i64 5)).setCell ⟨T, 1, none⟩ (.int .i64 0) = W4 := eW4
        rw [eW42]
        clear eW4 eW42 HX_g3 Kp_g3 Kq_g3 Kf_g3
        obtain ⟨⟨p0, p1, p2⟩, ⟨pf0, pf1, pf2⟩, pl⟩ := block3 (unhide Kp_g4)
        obtain ⟨f0, f1, ff0, ff1, fl⟩ := block2 (unhide Kf_g4)
        obtain ⟨q0, q1, qf0, qf1, ql⟩ := block2 (unhide Kq_g4)
        go_wp2_with fail
        exact bodyPost_ret (v := .agg #[.int .i64 5, .int .i64 0]) (by simp [results, Try.results21, go_sem, q0, q1]) rfl ⟨rfl, below_set2 (unhide HX_g4) (Nat.le_succ _) _ _⟩
      | false =>
        have hr := unhide HR3
        rw [if_neg (fun h => by rcases h with h | h | h; cases h.1; exact unhide HB2 h.1; cases h)] at hr
        subst hr
        clear HR3
        obtain ⟨⟨p0, p1, p2⟩, ⟨pf0, pf1, pf2⟩, pl⟩ := block3 (unhide Kp_2)
        obtain ⟨f0, f1, ff0, ff1, fl⟩ := block2 (unhide Kf_2)
        obtain ⟨q0, q1, qf0, qf1, ql⟩ := block2 (unhide Kq_2)
        go_wp2_with (go_at_call 30; refine (unhide HI _ (unhide HX_2)).mono ?_; rintro e W2 ⟨rfl, rfl⟩)
        exact bodyPost_ret (v := .agg #[.int .i64 0, .int .i64 0]) (by simp [results, Try.results21, go_sem, q0, q1]) rfl ⟨rfl, below_set2 (unhide HX_2) (Nat.le_succ _) _ _⟩
end Go.Proofs.Ytpogcfdmkeebmaa
