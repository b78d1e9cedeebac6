/-
  sync.checkGate, sync.Arrive.
-/
import Derived.Test.YtpogcfdmkeebmaaM
namespace Go.Proofs.Ytpogcfdmkeebmaa
open Go.RowKit

/-- What is wrong with a gate. -/
def gateF (c : Int) (xs : List Int) : Int × Int := if (lineF xs).1 ≠ 0 then lineF xs else if c < 1 ∨ 5000 < c then (3, 0) else if c ≤ (xs.length : Int) then (5, 0) else (0, 0)
/-- What is wrong with an Arrive. -/
def arrF (c : Int) (xs : List Int) (x : Int) : Int × Int := if (gateF c xs).1 ≠ 0 then gateF c xs else comesF xs x
/-- A gate behind an Arrive that nothing is wrong with; who goes. -/
def arrR (c : Int) (xs : List Int) (x : Int) : (Int × List Int) × List Int := if ((xs.length : Int) + 1 = c) then ((c, []), xs ++ [x]) else ((c, xs ++ [x]), [])
theorem lineF_zero {xs : List Int} (h : (lineF xs).1 = 0) : lineF xs = (0, 0) ∧ xs.length ≤ 5000 := by
  unfold lineF at h ⊢
  split at h
  · cases h
  · rename_i q
    rw [if_neg q]
    exact ⟨firstC_zero h, by omega⟩
theorem comesF_good {xs : List Int} {x : Int} (h : (comesF xs x).1 = 0) : comesF xs x = (0, 0) ∧ 1 ≤ x ∧ xs.contains x = false ∧ xs.length ≠ 5000 := by
  unfold comesF at h ⊢
  split at h
  · cases h
  · split at h
    · cases h
    · split at h
      · cases h
      · rename_i q1 q2 q3
        rw [if_neg q1, if_neg q2, if_neg q3]
        exact ⟨rfl, by omega, by simpa using q2, q3⟩
theorem gateF_good {c : Int} {xs : List Int} (h : (gateF c xs).1 = 0) : gateF c xs = (0, 0) ∧ lineF xs = (0, 0) ∧ xs.length ≤ 5000 ∧ 1 ≤ c ∧ c ≤ 5000 ∧ (xs.length : Int) < c := by
  unfold gateF at h ⊢
  split at h
  · rename_i q; exact absurd h q
  · rename_i q0
    split at h
    · cases h
    · split at h
      · cases h
      · rename_i q1 q2
        rw [if_neg q0, if_neg q1, if_neg q2]
        have := lineF_zero (xs := xs) (by omega)
        exact ⟨rfl, this.1, this.2, by omega, by omega, by omega⟩
theorem arrF_good {c : Int} {xs : List Int} {x : Int} (h : (arrF c xs x).1 = 0) : (gateF c xs).1 = 0 ∧ (comesF xs x).1 = 0 ∧ arrF c xs x = (0, 0) := by
  unfold arrF at h ⊢
  split at h
  · rename_i q; exact absurd h q
  · rename_i q
    rw [if_neg q]
    exact ⟨by omega, h, (comesF_good h).1⟩

set_option maxRecDepth 100000 in
set_option maxHeartbeats 2000000 in
theorem checkGate_any (w : World) (v : Value) (c : Int) (xs : List Int) (h : IsG KI w v c xs) (hn : xs.length ≤ maxLen) :
    Calls Try.prog 49 #[v] w fun e w' => e = .returned (faultV (gateF c xs)) ∧ Below w.heap.size w w' := by
  obtain ⟨a0, c0, rfl, hL⟩ := h.form
  have HC : Hid (∀ W, Below w.heap.size w W → Calls Try.prog 50 #[.slice a0 xs.length c0] W fun e w' => e = .returned (faultV (lineF xs)) ∧ Below W.heap.size W w') := fun W hW => checkLine_any W _ xs (hL.below hW) hn
  obtain ⟨R, eR⟩ : ∃ R, gateF c xs = R := ⟨_, rfl⟩
  rw [eR]
  unfold gateF at eR
  obtain ⟨⟨F0, F1⟩, eF⟩ : ∃ F, lineF xs = F := ⟨_, rfl⟩
  rw [eF] at HC eR
  unfold maxLen at hn
  generalize xs.length = n at *
  simp only at eR
  have HR := hide eR
  clear h hL eR eF
  obtain ⟨W0, e0, hB, k0, k1⟩ := two_new w (.cells #[.int .i64 c, .slice a0 n c0] 67) (.cells #[.int .i64 0, .int .i64 0] 29)
  have HX := hide hB; have HP := hide k0; have HQ := hide k1; have HE := hide e0
  clear hB k0 k1 e0
  go_enter Try.func49, Try.ntmps49
  go_upto_region 1 with fail
  rw [unhide HE]
  clear HE
  obtain ⟨p0, p1, pf0, pf1, pl⟩ := block2 (unhide HP)
  go_upto_region 2 with (go_at_call 50; refine (unhide HC _ (unhide HX)).mono ?_; rintro e w1 ⟨he, hb1⟩; obtain rfl : e = .returned (.agg #[.int .i64 F0, .int .i64 F1]) := he; have HX_1 := hide (Below.next (unhide HX) hb1 (by first | exact Nat.le_refl _ | (have := unhide HBA; omega))); have Kp_1 := hide (keep_below (unhide HP) hb1); have Kq_1 := hide (keep_below (unhide HQ) hb1); clear HX HP HQ; clear hb1 p0 p1 pf0 pf1 pl)
  have HX_2 := hide ((unhide HX_1).alloc (Nat.le_trans (show w.heap.size ≤ w.heap.size from Nat.le_refl _) (unhide HX_1).size) (.cells #[.int .i64 F0, .int .i64 F1] 29))
  have Kp_2 := hide (keep_alloc (unhide Kp_1) (.cells #[.int .i64 F0, .int .i64 F1] 29))
  have Kq_2 := hide (keep_alloc (unhide Kq_1) (.cells #[.int .i64 F0, .int .i64 F1] 29))
  have Kf_2 := hide (new_block w1 (.cells #[.int .i64 F0, .int .i64 F1] 29))
  have hlp_f : w.heap.size < w1.heap.size := size_of (unhide Kp_1)
  have hlq_f : w.heap.size + 1 < w1.heap.size := size_of (unhide Kq_1)
  obtain ⟨T, eT⟩ : ∃ X, w1.heap.size = X := ⟨_, rfl⟩
  obtain ⟨W2, eW2⟩ : ∃ X, w1.alloc (.cells #[.int .i64 F0, .int .i64 F1] 29) = X := ⟨_, rfl⟩
  rw [eT, eW2] at Kf_2; rw [eW2] at HX_2 Kp_2 Kq_2; rw [eT] at hlp_f hlq_f; rw [eT, eW2]
  clear eT eW2 HX_1 Kp_1 Kq_1
  have hqt : w.heap.size + 1 < T := by omega
  obtain ⟨p0, p1, pf0, pf1, pl⟩ := block2 (unhide Kp_2)
  obtain ⟨q0, q1, qf0, qf1, ql⟩ := block2 (unhide Kq_2)
  obtain ⟨f0, f1, ff0, ff1, fl⟩ := block2 (unhide Kf_2)
  by_cases hF : F0 = 0
  · have hr := unhide HR
    rw [if_neg (by simpa using hF)] at hr
    have HR2 := hide hr
    subst hF
    clear HR hr
    by_cases h1 : c < 1
    · have hr := unhide HR2
      rw [if_pos (Or.inl h1)] at hr
      subst hr
      clear HR2
      go_wp2_with fail
      exact bodyPost_ret (v := .agg #[.int .i64 3, .int .i64 0]) (by simp [results, Try.results49, go_sem, q0, q1]) rfl ⟨rfl, below_set2 (unhide HX_2) (Nat.le_succ _) _ _⟩
    by_cases h2 : 5000 < c
    · have hr := unhide HR2
      rw [if_pos (Or.inr h2)] at hr
      subst hr
      clear HR2
      go_wp2_with fail
      exact bodyPost_ret (v := .agg #[.int .i64 3, .int .i64 0]) (by simp [results, Try.results49, go_sem, q0, q1]) rfl ⟨rfl, below_set2 (unhide HX_2) (Nat.le_succ _) _ _⟩
    have hr := unhide HR2
    rw [if_neg (fun h => h.elim h1 h2)] at hr
    have HR3 := hide hr
    clear HR2 hr
    by_cases h3 : c ≤ (n : Int)
    · have hr := unhide HR3
      rw [if_pos h3] at hr
      subst hr
      clear HR3
      go_wp2_with fail
      exact bodyPost_ret (v := .agg #[.int .i64 5, .int .i64 0]) (by simp [results, Try.results49, go_sem, q0, q1]) rfl ⟨rfl, below_set2 (unhide HX_2) (Nat.le_succ _) _ _⟩
    · have hr := unhide HR3
      rw [if_neg h3] at hr
      subst hr
      clear HR3
      go_wp2_with fail
      exact bodyPost_ret (v := .agg #[.int .i64 0, .int .i64 0]) (by simp [results, Try.results49, go_sem, q0, q1]) rfl ⟨rfl, below_set2 (unhide HX_2) (Nat.le_succ _) _ _⟩
  · have hr := unhide HR
    rw [if_pos hF] at hr
    subst hr
    have x0 : (F0 != 0) = true := by simpa using hF
    clear HR hF
    go_wp2_with fail
    exact bodyPost_ret (v := .agg #[.int .i64 F0, .int .i64 F1]) (by simp [results, Try.results49, go_sem, q0, q1]) rfl ⟨rfl, below_set2 (unhide HX_2) (Nat.le_succ _) _ _⟩

set_option maxRecDepth 100000 in
set_option maxHeartbeats 2000000 in
theorem arrive_gate (w : World) (v : Value) (c : Int) (xs : List Int) (x : Int) (h : IsG KI w v c xs) (hn : xs.length ≤ maxLen) (hf : (gateF c xs).1 ≠ 0) :
    Calls Try.prog 31 #[v, .int .i64 x] w fun e w' => e = .returned (.tuple #[.agg #[.int .i64 0, .slice none 0 0], .slice none 0 0, faultV (gateF c xs)]) ∧ Below w.heap.size w w' := by
  have HC : Hid (∀ W, Below w.heap.size w W → Calls Try.prog 49 #[v] W fun e w' => e = .returned (faultV (gateF c xs)) ∧ Below W.heap.size W w') := fun W hW => checkGate_any W v c xs (h.below hW) hn
  obtain ⟨⟨F0, F1⟩, eF⟩ : ∃ F, gateF c xs = F := ⟨_, rfl⟩
  rw [eF] at HC hf ⊢
  obtain ⟨a0, c0, rfl, hL⟩ := h.form
  generalize xs.length = n at *
  have x0 : (F0 != 0) = true := by simpa using hf
  clear h hL eF hf hn
  obtain ⟨W0, e0, hB, k0, k1, k2⟩ := three_new w (.cells #[.int .i64 c, .slice a0 n c0] 67) (.cells #[.int .i64 0, .slice none 0 0] 67) (.cells #[.int .i64 0, .int .i64 0] 29)
  have HX := hide hB; have HP := hide k0; have HQ := hide k1; have HG := hide k2; have HE := hide e0
  clear hB k0 k1 k2 e0
  go_enter Try.func31, Try.ntmps31
  go_upto_region 1 with fail
  rw [unhide HE]
  clear HE
  obtain ⟨p0, p1, pf0, pf1, pl⟩ := block2 (unhide HP)
  go_upto_region 2 with (go_at_call 49; refine (unhide HC _ (unhide HX)).mono ?_; rintro e w1 ⟨he, hb1⟩; obtain rfl : e = .returned (.agg #[.int .i64 F0, .int .i64 F1]) := he; have HX_1 := hide (Below.next (unhide HX) hb1 (by first | exact Nat.le_refl _ | (have := unhide HBA; omega))); have Kp_1 := hide (keep_below (unhide HP) hb1); have Kq_1 := hide (keep_below (unhide HQ) hb1); have Kg_1 := hide (keep_below (unhide HG) hb1); clear HX HP HQ HG; clear hb1 p0 p1 pf0 pf1 pl)
  have HX_2 := hide ((unhide HX_1).alloc (Nat.le_trans (show w.heap.size ≤ w.heap.size from Nat.le_refl _) (unhide HX_1).size) (.cells #[.int .i64 F0, .int .i64 F1] 29))
  have Kp_2 := hide (keep_alloc (unhide Kp_1) (.cells #[.int .i64 F0, .int .i64 F1] 29))
  have Kq_2 := hide (keep_alloc (unhide Kq_1) (.cells #[.int .i64 F0, .int .i64 F1] 29))
  have Kg_2 := hide (keep_alloc (unhide Kg_1) (.cells #[.int .i64 F0, .int .i64 F1] 29))
  have Kf_2 := hide (new_block w1 (.cells #[.int .i64 F0, .int .i64 F1] 29))
  have hlp_f : w.heap.size < w1.heap.size := size_of (unhide Kp_1)
  have hlq_f : w.heap.size + 1 < w1.heap.size := size_of (unhide Kq_1)
  have hlg_f : w.heap.size + 1 + 1 < w1.heap.size := size_of (unhide Kg_1)
  obtain ⟨T, eT⟩ : ∃ X, w1.heap.size = X := ⟨_, rfl⟩
  obtain ⟨W2, eW2⟩ : ∃ X, w1.alloc (.cells #[.int .i64 F0, .int .i64 F1] 29) = X := ⟨_, rfl⟩
  rw [eT, eW2] at Kf_2; rw [eW2] at HX_2 Kp_2 Kq_2 Kg_2; rw [eT] at hlp_f hlq_f hlg_f; rw [eT, eW2]
  clear eT eW2 HX_1 Kp_1 Kq_1 Kg_1
  have hqt : w.heap.size + 1 + 1 < T := by omega
  obtain ⟨q0, q1, qf0, qf1, ql⟩ := block2 (unhide Kq_2)
  obtain ⟨g0, g1, gf0, gf1, gl⟩ := block2 (unhide Kg_2)
  obtain ⟨f0, f1, ff0, ff1, fl⟩ := block2 (unhide Kf_2)
  have u1_ : w.heap.size + 1 ≠ T := by omega
  have u2_ : w.heap.size + 1 + 1 ≠ T := by omega
  have u3_ : T ≠ w.heap.size + 1 := by omega
  have u4_ : T ≠ w.heap.size + 1 + 1 := by omega
  go_wp2_with fail
  go_region
  clear q0 q1 qf0 qf1 ql g0 g1 gf0 gf1 gl f0 f1 ff0 ff1 fl
  have HX_3 := hide (put2_below (y0 := .int .i64 0) (y1 := .slice none 0 0) (unhide HX_2) (show w.heap.size ≤ w.heap.size + 1 by first | omega | (have := unhide HBA; omega)))
  have Kp_3 := hide ((put2_keep (y0 := .int .i64 0) (y1 := .slice none 0 0) (show w.heap.size ≠ w.heap.size + 1 by omega)).trans (unhide Kp_2))
  have Kq_3 := hide (put2_new (y0 := .int .i64 0) (y1 := .slice none 0 0) (unhide Kq_2))
  have Kg_3 := hide ((put2_keep (y0 := .int .i64 0) (y1 := .slice none 0 0) (show w.heap.size + 1 + 1 ≠ w.heap.size + 1 by omega)).trans (unhide Kg_2))
  have Kf_3 := hide ((put2_keep (y0 := .int .i64 0) (y1 := .slice none 0 0) (show T ≠ w.heap.size + 1 by omega)).trans (unhide Kf_2))
  obtain ⟨V1, eV1⟩ : ∃ X, put2 W2 (w.heap.size + 1) (.int .i64 0) (.slice none 0 0) = X := ⟨_, rfl⟩
  rw [eV1] at HX_3 Kp_3 Kq_3 Kg_3 Kf_3
  have eV12 : ((W2).setCell ⟨w.heap.size + 1, 0, none⟩ (.int .i64 0)).setCell ⟨w.heap.size + 1, 1, none⟩ (.slice none 0 0) = V1 := eV1
  rw [eV12]
  clear eV1 eV12 HX_2 Kp_2 Kq_2 Kg_2 Kf_2
  have HX_4 := hide (put2_below (y0 := .int .i64 F0) (y1 := .int .i64 F1) (unhide HX_3) (show w.heap.size ≤ w.heap.size + 1 + 1 by first | omega | (have := unhide HBA; omega)))
  have Kp_4 := hide ((put2_keep (y0 := .int .i64 F0) (y1 := .int .i64 F1) (show w.heap.size ≠ w.heap.size + 1 + 1 by omega)).trans (unhide Kp_3))
  have Kq_4 := hide ((put2_keep (y0 := .int .i64 F0) (y1 := .int .i64 F1) (show w.heap.size + 1 ≠ w.heap.size + 1 + 1 by omega)).trans (unhide Kq_3))
  have Kg_4 := hide (put2_new (y0 := .int .i64 F0) (y1 := .int .i64 F1) (unhide Kg_3))
  have Kf_4 := hide ((put2_keep (y0 := .int .i64 F0) (y1 := .int .i64 F1) (show T ≠ w.heap.size + 1 + 1 by omega)).trans (unhide Kf_3))
  obtain ⟨V2, eV2⟩ : ∃ X, put2 V1 (w.heap.size + 1 + 1) (.int .i64 F0) (.int .i64 F1) = X := ⟨_, rfl⟩
  rw [eV2] at HX_4 Kp_4 Kq_4 Kg_4 Kf_4
  have eV22 : ((V1).setCell ⟨w.heap.size + 1 + 1, 0, none⟩ (.int .i64 F0)).setCell ⟨w.heap.size + 1 + 1, 1, none⟩ (.int .i64 F1) = V2 := eV2
  rw [eV22]
  clear eV2 eV22 HX_3 Kp_3 Kq_3 Kg_3 Kf_3
  have hV3 : Below V2.heap.size V2 V2.drew := (Below.refl _ _).drew
  obtain ⟨V3, eV3⟩ : ∃ X, V2.drew = X := ⟨_, rfl⟩
  rw [eV3] at hV3 ⊢
  (have HX_5 := hide (Below.next (unhide HX_4) hV3 (by first | exact Nat.le_refl _ | (have := unhide HBA; omega))); have Kp_5 := hide (keep_below (unhide Kp_4) hV3); have Kq_5 := hide (keep_below (unhide Kq_4) hV3); have Kg_5 := hide (keep_below (unhide Kg_4) hV3); have Kf_5 := hide (keep_below (unhide Kf_4) hV3); clear HX_4 Kp_4 Kq_4 Kg_4 Kf_4)
  clear hV3 eV3
  obtain ⟨q0, q1, qf0, qf1, ql⟩ := block2 (unhide Kq_5)
  obtain ⟨g0, g1, gf0, gf1, gl⟩ := block2 (unhide Kg_5)
  go_wp2_with fail
  exact bodyPost_ret (v := .tuple #[.agg #[.int .i64 0, .slice none 0 0], .slice none 0 0, .agg #[.int .i64 F0, .int .i64 F1]]) (by simp [results, Try.results31, go_sem, q0, q1, g0, g1]) rfl ⟨rfl, unhide HX_5⟩

set_option maxRecDepth 100000 in
set_option maxHeartbeats 2000000 in
theorem arrive_comes (w : World) (v : Value) (c : Int) (xs : List Int) (x : Int) (h : IsG KI w v c xs) (hg : (gateF c xs).1 = 0) (hf : (comesF xs x).1 ≠ 0) :
    Calls Try.prog 31 #[v, .int .i64 x] w fun e w' => e = .returned (.tuple #[.agg #[.int .i64 0, .slice none 0 0], .slice none 0 0, faultV (comesF xs x)]) ∧ Below w.heap.size w w' := by
  obtain ⟨hz, -, hl, -⟩ := gateF_good hg
  have HC : Hid (∀ W, Below w.heap.size w W → Calls Try.prog 49 #[v] W fun e w' => e = .returned (faultV (0, 0)) ∧ Below W.heap.size W w') := fun W hW => by
    have := checkGate_any W v c xs (h.below hW) (by unfold maxLen; omega)
    rw [hz] at this
    exact this
  obtain ⟨a0, c0, rfl, hL⟩ := h.form
  have HC2 : Hid (∀ W, Below w.heap.size w W → Calls Try.prog 37 #[.slice a0 xs.length c0, .int .i64 x] W fun e w' => e = .returned (faultV (comesF xs x)) ∧ Below W.heap.size W w') := fun W hW => checkComes_any W _ xs x (hL.below hW) (by unfold maxLen; omega)
  obtain ⟨⟨F0, F1⟩, eF⟩ : ∃ F, comesF xs x = F := ⟨_, rfl⟩
  rw [eF] at HC2 hf ⊢
  generalize xs.length = n at *
  have x0 : (F0 != 0) = true := by simpa using hf
  clear h hL eF hf hg hz hl
  obtain ⟨W0, e0, hB, k0, k1, k2⟩ := three_new w (.cells #[.int .i64 c, .slice a0 n c0] 67) (.cells #[.int .i64 0, .slice none 0 0] 67) (.cells #[.int .i64 0, .int .i64 0] 29)
  have HX := hide hB; have HP := hide k0; have HQ := hide k1; have HG := hide k2; have HE := hide e0
  clear hB k0 k1 k2 e0
  go_enter Try.func31, Try.ntmps31
  go_upto_region 1 with fail
  rw [unhide HE]
  clear HE
  obtain ⟨p0, p1, pf0, pf1, pl⟩ := block2 (unhide HP)
  go_upto_region 2 with (go_at_call 49; refine (unhide HC _ (unhide HX)).mono ?_; rintro e w1 ⟨he, hb1⟩; obtain rfl : e = .returned (.agg #[.int .i64 0, .int .i64 0]) := he; have HX_1 := hide (Below.next (unhide HX) hb1 (by first | exact Nat.le_refl _ | (have := unhide HBA; omega))); have Kp_1 := hide (keep_below (unhide HP) hb1); have Kq_1 := hide (keep_below (unhide HQ) hb1); have Kg_1 := hide (keep_below (unhide HG) hb1); clear HX HP HQ HG; clear hb1 p0 p1 pf0 pf1 pl)
  have HX_2 := hide ((unhide HX_1).alloc (Nat.le_trans (show w.heap.size ≤ w.heap.size from Nat.le_refl _) (unhide HX_1).size) (.cells #[.int .i64 0, .int .i64 0] 29))
  have Kp_2 := hide (keep_alloc (unhide Kp_1) (.cells #[.int .i64 0, .int .i64 0] 29))
  have Kq_2 := hide (keep_alloc (unhide Kq_1) (.cells #[.int .i64 0, .int .i64 0] 29))
  have Kg_2 := hide (keep_alloc (unhide Kg_1) (.cells #[.int .i64 0, .int .i64 0] 29))
  have Kf_2 := hide (new_block w1 (.cells #[.int .i64 0, .int .i64 0] 29))
  have hlp_f : w.heap.size < w1.heap.size := size_of (unhide Kp_1)
  have hlq_f : w.heap.size + 1 < w1.heap.size := size_of (unhide Kq_1)
  have hlg_f : w.heap.size + 1 + 1 < w1.heap.size := size_of (unhide Kg_1)
  obtain ⟨T, eT⟩ : ∃ X, w1.heap.size = X := ⟨_, rfl⟩
  obtain ⟨W2, eW2⟩ : ∃ X, w1.alloc (.cells #[.int .i64 0, .int .i64 0] 29) = X := ⟨_, rfl⟩
  rw [eT, eW2] at Kf_2; rw [eW2] at HX_2 Kp_2 Kq_2 Kg_2; rw [eT] at hlp_f hlq_f hlg_f; rw [eT, eW2]
  clear eT eW2 HX_1 Kp_1 Kq_1 Kg_1
  have hqt : w.heap.size + 1 + 1 < T := by omega
  obtain ⟨p0, p1, pf0, pf1, pl⟩ := block2 (unhide Kp_2)
  obtain ⟨f0, f1, ff0, ff1, fl⟩ := block2 (unhide Kf_2)
  go_upto_region 5 with (go_at_call 37; refine (unhide HC2 _ (unhide HX_2)).mono ?_; rintro e w3 ⟨he, hb1⟩; obtain rfl : e = .returned (.agg #[.int .i64 F0, .int .i64 F1]) := he; have HX_3 := hide (Below.next (unhide HX_2) hb1 (by first | exact Nat.le_refl _ | (have := unhide HBA; omega))); have Kp_3 := hide (keep_below (unhide Kp_2) hb1); have Kq_3 := hide (keep_below (unhide Kq_2) hb1); have Kg_3 := hide (keep_below (unhide Kg_2) hb1); have Kf_3 := hide (keep_below (unhide Kf_2) hb1); clear HX_2 Kp_2 Kq_2 Kg_2 Kf_2; clear hb1 p0 p1 pf0 pf1 pl f0 f1 ff0 ff1 fl)
  have HX_4 := hide ((unhide HX_3).alloc (Nat.le_trans (show w.heap.size ≤ w.heap.size from Nat.le_refl _) (unhide HX_3).size) (.cells #[.int .i64 F0, .int .i64 F1] 29))
  have Kp_4 := hide (keep_alloc (unhide Kp_3) (.cells #[.int .i64 F0, .int .i64 F1] 29))
  have Kq_4 := hide (keep_alloc (unhide Kq_3) (.cells #[.int .i64 F0, .int .i64 F1] 29))
  have Kg_4 := hide (keep_alloc (unhide Kg_3) (.cells #[.int .i64 F0, .int .i64 F1] 29))
  have Kf_4 := hide (keep_alloc (unhide Kf_3) (.cells #[.int .i64 F0, .int .i64 F1] 29))
  have Kh_4 := hide (new_block w3 (.cells #[.int .i64 F0, .int .i64 F1] 29))
  have hlp_h : w.heap.size < w3.heap.size := size_of (unhide Kp_3)
  have hlq_h : w.heap.size + 1 < w3.heap.size := size_of (unhide Kq_3)
  have hlg_h : w.heap.size + 1 + 1 < w3.heap.size := size_of (unhide Kg_3)
  have hlf_h : T < w3.heap.size := size_of (unhide Kf_3)
  obtain ⟨T2, eT2⟩ : ∃ X, w3.heap.size = X := ⟨_, rfl⟩
  obtain ⟨W4, eW4⟩ : ∃ X, w3.alloc (.cells #[.int .i64 F0, .int .i64 F1] 29) = X := ⟨_, rfl⟩
  rw [eT2, eW4] at Kh_4; rw [eW4] at HX_4 Kp_4 Kq_4 Kg_4 Kf_4; rw [eT2] at hlp_h hlq_h hlg_h hlf_h; rw [eT2, eW4]
  clear eT2 eW4 HX_3 Kp_3 Kq_3 Kg_3 Kf_3
  have hqt2 : w.heap.size + 1 + 1 < T2 := by omega
  obtain ⟨q0, q1, qf0, qf1, ql⟩ := block2 (unhide Kq_4)
  obtain ⟨g0, g1, gf0, gf1, gl⟩ := block2 (unhide Kg_4)
  obtain ⟨f0, f1, ff0, ff1, fl⟩ := block2 (unhide Kh_4)
  have u1_ : w.heap.size + 1 ≠ T2 := by omega
  have u2_ : w.heap.size + 1 + 1 ≠ T2 := by omega
  have u3_ : T2 ≠ w.heap.size + 1 := by omega
  have u4_ : T2 ≠ w.heap.size + 1 + 1 := by omega
  go_wp2_with fail
  go_region
  clear q0 q1 qf0 qf1 ql g0 g1 gf0 gf1 gl f0 f1 ff0 ff1 fl
  have HX_5 := hide (put2_below (y0 := .int .i64 0) (y1 := .slice none 0 0) (unhide HX_4) (show w.heap.size ≤ w.heap.size + 1 by first | omega | (have := unhide HBA; omega)))
  have Kp_5 := hide ((put2_keep (y0 := .int .i64 0) (y1 := .slice none 0 0) (show w.heap.size ≠ w.heap.size + 1 by omega)).trans (unhide Kp_4))
  have Kq_5 := hide (put2_new (y0 := .int .i64 0) (y1 := .slice none 0 0) (unhide Kq_4))
  have Kg_5 := hide ((put2_keep (y0 := .int .i64 0) (y1 := .slice none 0 0) (show w.heap.size + 1 + 1 ≠ w.heap.size + 1 by omega)).trans (unhide Kg_4))
  have Kf_5 := hide ((put2_keep (y0 := .int .i64 0) (y1 := .slice none 0 0) (show T ≠ w.heap.size + 1 by omega)).trans (unhide Kf_4))
  have Kh_5 := hide ((put2_keep (y0 := .int .i64 0) (y1 := .slice none 0 0) (show T2 ≠ w.heap.size + 1 by omega)).trans (unhide Kh_4))
  obtain ⟨V1, eV1⟩ : ∃ X, put2 W4 (w.heap.size + 1) (.int .i64 0) (.slice none 0 0) = X := ⟨_, rfl⟩
  rw [eV1] at HX_5 Kp_5 Kq_5 Kg_5 Kf_5 Kh_5
  have eV12 : ((W4).setCell ⟨w.heap.size + 1, 0, none⟩ (.int .i64 0)).setCell ⟨w.heap.size + 1, 1, none⟩ (.slice none 0 0) = V1 := eV1
  rw [eV12]
  clear eV1 eV12 HX_4 Kp_4 Kq_4 Kg_4 Kf_4 Kh_4
  have HX_6 := hide (put2_below (y0 := .int .i64 F0) (y1 := .int .i64 F1) (unhide HX_5) (show w.heap.size ≤ w.heap.size + 1 + 1 by first | omega | (have := unhide HBA; omega)))
  have Kp_6 := hide ((put2_keep (y0 := .int .i64 F0) (y1 := .int .i64 F1) (show w.heap.size ≠ w.heap.size + 1 + 1 by omega)).trans (unhide Kp_5))
  have Kq_6 := hide ((put2_keep (y0 := .int .i64 F0) (y1 := .int .i64 F1) (show w.heap.size + 1 ≠ w.heap.size + 1 + 1 by omega)).trans (unhide Kq_5))
  have Kg_6 := hide (put2_new (y0 := .int .i64 F0) (y1 := .int .i64 F1) (unhide Kg_5))
  have Kf_6 := hide ((put2_keep (y0 := .int .i64 F0) (y1 := .int .i64 F1) (show T ≠ w.heap.size + 1 + 1 by omega)).trans (unhide Kf_5))
  have Kh_6 := hide ((put2_keep (y0 := .int .i64 F0) (y1 := .int .i64 F1) (show T2 ≠ w.heap.size + 1 + 1 by omega)).trans (unhide Kh_5))
  obtain ⟨V2, eV2⟩ : ∃ X, put2 V1 (w.heap.size + 1 + 1) (.int .i64 F0) (.int .i64 F1) = X := ⟨_, rfl⟩
  rw [eV2] at HX_6 Kp_6 Kq_6 Kg_6 Kf_6 Kh_6
  have eV22 : ((V1).setCell ⟨w.heap.size + 1 + 1, 0, none⟩ (.int .i64 F0)).setCell ⟨w.heap.size + 1 + 1, 1, none⟩ (.int .i64 F1) = V2 := eV2
  rw [eV22]
  clear eV2 eV22 HX_5 Kp_5 Kq_5 Kg_5 Kf_5 Kh_5
  have hV3 : Below V2.heap.size V2 V2.drew := (Below.refl _ _).drew
  obtain ⟨V3, eV3⟩ : ∃ X, V2.drew = X := ⟨_, rfl⟩
  rw [eV3] at hV3 ⊢
  (have HX_7 := hide (Below.next (unhide HX_6) hV3 (by first | exact Nat.le_refl _ | (have := unhide HBA; omega))); have Kp_7 := hide (keep_below (unhide Kp_6) hV3); have Kq_7 := hide (keep_below (unhide Kq_6) hV3); have Kg_7 := hide (keep_below (unhide Kg_6) hV3); have Kf_7 := hide (keep_below (unhide Kf_6) hV3); have Kh_7 := hide (keep_below (unhide Kh_6) hV3); clear HX_6 Kp_6 Kq_6 Kg_6 Kf_6 Kh_6)
  clear hV3 eV3
  obtain ⟨q0, q1, qf0, qf1, ql⟩ := block2 (unhide Kq_7)
  obtain ⟨g0, g1, gf0, gf1, gl⟩ := block2 (unhide Kg_7)
  go_wp2_with fail
  exact bodyPost_ret (v := .tuple #[.agg #[.int .i64 0, .slice none 0 0], .slice none 0 0, .agg #[.int .i64 F0, .int .i64 F1]]) (by simp [results, Try.results31, go_sem, q0, q1, g0, g1]) rfl ⟨rfl, unhide HX_7⟩

set_option maxRecDepth 100000 in
set_option maxHeartbeats 2000000 in
theorem arrive_ok (w : World) (v : Value) (c : Int) (xs : List Int) (x : Int) (h : IsG KI w v c xs) (hf : (arrF c xs x).1 = 0) :
    Calls Try.prog 31 #[v, .int .i64 x] w fun e w' => ∃ v1 v2, e = .returned (.tuple #[v1, v2, .agg #[.int .i64 0, .int .i64 0]]) ∧ NewG KI w.heap.size w' v1 (arrR c xs x).1.1 (arrR c xs x).1.2 ∧ New KI w.heap.size w' v2 (arrR c xs x).2 ∧ Below w.heap.size w w' := by
  obtain ⟨hg, hc, -⟩ := arrF_good hf
  obtain ⟨hz, -, hl, hc1, hc2, hlc⟩ := gateF_good hg
  obtain ⟨hz2, hx1, -, hl5⟩ := comesF_good hc
  have HC : Hid (∀ W, Below w.heap.size w W → Calls Try.prog 49 #[v] W fun e w' => e = .returned (faultV (0, 0)) ∧ Below W.heap.size W w') := fun W hW => by
    have := checkGate_any W v c xs (h.below hW) (by unfold maxLen; omega)
    rw [hz] at this
    exact this
  obtain ⟨a0, c0, rfl, hL⟩ := h.form
  have HC2 : Hid (∀ W, Below w.heap.size w W → Calls Try.prog 37 #[.slice a0 xs.length c0, .int .i64 x] W fun e w' => e = .returned (faultV (0, 0)) ∧ Below W.heap.size W w') := fun W hW => by
    have := checkComes_any W _ xs x (hL.below hW) (by unfold maxLen; omega)
    rw [hz2] at this
    exact this
  have HFR : Hid (∀ W, Below w.heap.size w W → Calls Try.prog 35 #[.slice a0 xs.length c0] W fun e w' => ∃ a' c', e = .returned (.slice a' xs.length c') ∧ Own KI W.heap.size w' (.slice a' xs.length c') xs ∧ Below W.heap.size W w') := fun W hW => fresh_any W _ xs (hL.below hW) (by omega)
  obtain ⟨n, en⟩ : ∃ n, xs.length = n := ⟨_, rfl⟩
  have HER : Hid (arrR c xs x = if ((n : Int) + 1 = c) then ((c, []), xs ++ [x]) else ((c, xs ++ [x]), [])) := by unfold arrR; rw [en]; exact rfl
  rw [en] at HC HC2 HFR hl hlc hl5 ⊢
  have HEN := hide en
  clear h hL hf hg hc hz hz2 en
  obtain ⟨W0, e0, hB, k0, k1, k2⟩ := three_new w (.cells #[.int .i64 c, .slice a0 n c0] 67) (.cells #[.int .i64 0, .slice none 0 0] 67) (.cells #[.int .i64 0, .int .i64 0] 29)
  have HX := hide hB; have HP := hide k0; have HQ := hide k1; have HG := hide k2; have HE := hide e0
  clear hB k0 k1 k2 e0
  go_enter Try.func31, Try.ntmps31
  go_upto_region 1 with fail
  rw [unhide HE]
  clear HE
  obtain ⟨p0, p1, pf0, pf1, pl⟩ := block2 (unhide HP)
  go_upto_region 2 with (go_at_call 49; refine (unhide HC _ (unhide HX)).mono ?_; rintro e w1 ⟨he, hb1⟩; obtain rfl : e = .returned (.agg #[.int .i64 0, .int .i64 0]) := he; have HX_1 := hide (Below.next (unhide HX) hb1 (by first | exact Nat.le_refl _ | (have := unhide HBA; omega))); have Kp_1 := hide (keep_below (unhide HP) hb1); have Kq_1 := hide (keep_below (unhide HQ) hb1); have Kg_1 := hide (keep_below (unhide HG) hb1); clear HX HP HQ HG; clear hb1 p0 p1 pf0 pf1 pl)
  have HX_2 := hide ((unhide HX_1).alloc (Nat.le_trans (show w.heap.size ≤ w.heap.size from Nat.le_refl _) (unhide HX_1).size) (.cells #[.int .i64 0, .int .i64 0] 29))
  have Kp_2 := hide (keep_alloc (unhide Kp_1) (.cells #[.int .i64 0, .int .i64 0] 29))
  have Kq_2 := hide (keep_alloc (unhide Kq_1) (.cells #[.int .i64 0, .int .i64 0] 29))
  have Kg_2 := hide (keep_alloc (unhide Kg_1) (.cells #[.int .i64 0, .int .i64 0] 29))
  have Kf_2 := hide (new_block w1 (.cells #[.int .i64 0, .int .i64 0] 29))
  have hlp_f : w.heap.size < w1.heap.size := size_of (unhide Kp_1)
  have hlq_f : w.heap.size + 1 < w1.heap.size := size_of (unhide Kq_1)
  have hlg_f : w.heap.size + 1 + 1 < w1.heap.size := size_of (unhide Kg_1)
  obtain ⟨T, eT⟩ : ∃ X, w1.heap.size = X := ⟨_, rfl⟩
  obtain ⟨W2, eW2⟩ : ∃ X, w1.alloc (.cells #[.int .i64 0, .int .i64 0] 29) = X := ⟨_, rfl⟩
  rw [eT, eW2] at Kf_2; rw [eW2] at HX_2 Kp_2 Kq_2 Kg_2; rw [eT] at hlp_f hlq_f hlg_f; rw [eT, eW2]
  clear eT eW2 HX_1 Kp_1 Kq_1 Kg_1
  have hqt : w.heap.size + 1 + 1 < T := by omega
  obtain ⟨p0, p1, pf0, pf1, pl⟩ := block2 (unhide Kp_2)
  obtain ⟨f0, f1, ff0, ff1, fl⟩ := block2 (unhide Kf_2)
  go_upto_region 5 with (go_at_call 37; refine (unhide HC2 _ (unhide HX_2)).mono ?_; rintro e w3 ⟨he, hb1⟩; obtain rfl : e = .returned (.agg #[.int .i64 0, .int .i64 0]) := he; have HX_3 := hide (Below.next (unhide HX_2) hb1 (by first | exact Nat.le_refl _ | (have := unhide HBA; omega))); have Kp_3 := hide (keep_below (unhide Kp_2) hb1); have Kq_3 := hide (keep_below (unhide Kq_2) hb1); have Kg_3 := hide (keep_below (unhide Kg_2) hb1); have Kf_3 := hide (keep_below (unhide Kf_2) hb1); clear HX_2 Kp_2 Kq_2 Kg_2 Kf_2; clear hb1 p0 p1 pf0 pf1 pl f0 f1 ff0 ff1 fl)
  have HX_4 := hide ((unhide HX_3).alloc (Nat.le_trans (show w.heap.size ≤ w.heap.size from Nat.le_refl _) (unhide HX_3).size) (.cells #[.int .i64 0, .int .i64 0] 29))
  have Kp_4 := hide (keep_alloc (unhide Kp_3) (.cells #[.int .i64 0, .int .i64 0] 29))
  have Kq_4 := hide (keep_alloc (unhide Kq_3) (.cells #[.int .i64 0, .int .i64 0] 29))
  have Kg_4 := hide (keep_alloc (unhide Kg_3) (.cells #[.int .i64 0, .int .i64 0] 29))
  have Kf_4 := hide (keep_alloc (unhide Kf_3) (.cells #[.int .i64 0, .int .i64 0] 29))
  have Kh_4 := hide (new_block w3 (.cells #[.int .i64 0, .int .i64 0] 29))
  have hlp_h : w.heap.size < w3.heap.size := size_of (unhide Kp_3)
  have hlq_h : w.heap.size + 1 < w3.heap.size := size_of (unhide Kq_3)
  have hlg_h : w.heap.size + 1 + 1 < w3.heap.size := size_of (unhide Kg_3)
  have hlf_h : T < w3.heap.size := size_of (unhide Kf_3)
  obtain ⟨T2, eT2⟩ : ∃ X, w3.heap.size = X := ⟨_, rfl⟩
  obtain ⟨W4, eW4⟩ : ∃ X, w3.alloc (.cells #[.int .i64 0, .int .i64 0] 29) = X := ⟨_, rfl⟩
  rw [eT2, eW4] at Kh_4; rw [eW4] at HX_4 Kp_4 Kq_4 Kg_4 Kf_4; rw [eT2] at hlp_h hlq_h hlg_h hlf_h; rw [eT2, eW4]
  clear eT2 eW4 HX_3 Kp_3 Kq_3 Kg_3 Kf_3
  have hqt2 : w.heap.size + 1 + 1 < T2 := by omega
  obtain ⟨p0, p1, pf0, pf1, pl⟩ := block2 (unhide Kp_4)
  obtain ⟨h0, h1, hf0, hf1, hl⟩ := block2 (unhide Kh_4)
  obtain ⟨B5, eB5⟩ : ∃ X, W4.heap.size = X := ⟨_, rfl⟩
  have HB5 : Hid (w.heap.size ≤ B5) := by have := (unhide HX_4).size; rw [eB5] at this; exact this
  have HF3 := unhide HFR W4 (unhide HX_4)
  rw [eB5] at HF3
  have HFR3 := hide HF3
  clear HF3
  go_upto_region 8 with (first | (go_at_call 35; refine (unhide HFR3).mono ?_; rintro e w5 ⟨b1, d1, rfl, ho5, hb5⟩; have HO5 := hide ho5; rw [← eB5] at hb5; have hb5s : B5 ≤ w5.heap.size := (by rw [← eB5]; exact hb5.size); have HX_5 := hide (Below.next (unhide HX_4) hb5 (by first | exact Nat.le_refl _ | (have := unhide HBA; omega))); have Kp_5 := hide (keep_below (unhide Kp_4) hb5); have Kq_5 := hide (keep_below (unhide Kq_4) hb5); have Kg_5 := hide (keep_below (unhide Kg_4) hb5); have Kf_5 := hide (keep_below (unhide Kf_4) hb5); have Kh_5 := hide (keep_below (unhide Kh_4) hb5); clear HX_4 Kp_4 Kq_4 Kg_4 Kf_4 Kh_4; have HI6 := hide (isl_one ki w5 x); have HO6 := hide ((unhide HO5).below ((Below.refl _ _).alloc (Nat.le_refl _) (.cells #[.int .i64 x] 3))); have HS5 := hide hb5s; clear hb5 ho5 hb5s HFR3 p0 p1 pf0 pf1 pl h0 h1 hf0 hf1 hl) | (at_builtin; refine wpList_append ki rfl (.tmp 28) (.tmp 30) rfl B5 _ xs rfl (unhide HO6) _ [x] rfl (unhide HI6) (n + 1) (by simp [unhide HEN]) (by simp [KI]; omega) (by have := unhide HS5; simp; omega) ?_; intro b2 d2 w6 ho6 hg6; have HO7 := hide ho6; have HX_6 := hide (((unhide HX_5).alloc (unhide HX_5).size (.cells #[.int .i64 x] 3)).grown hg6 ((unhide HX_5).alloc (unhide HX_5).size (.cells #[.int .i64 x] 3)).size (fun k hk => by have := ((unhide HO5).lt k hk).1; have := unhide HB5; omega)); have Kp_6 := hide (keep_grown (keep_alloc (unhide Kp_5) (.cells #[.int .i64 x] 3)) hg6 (fun j hj => Own.ne ((unhide HO5).below ((Below.refl _ _).alloc (Nat.le_refl _) (.cells #[.int .i64 x] 3))) (keep_alloc (unhide Kp_5) (.cells #[.int .i64 x] 3)) (by decide) j hj)); have Kq_6 := hide (keep_grown (keep_alloc (unhide Kq_5) (.cells #[.int .i64 x] 3)) hg6 (fun j hj => Own.ne ((unhide HO5).below ((Below.refl _ _).alloc (Nat.le_refl _) (.cells #[.int .i64 x] 3))) (keep_alloc (unhide Kq_5) (.cells #[.int .i64 x] 3)) (by decide) j hj)); have Kg_6 := hide (keep_grown (keep_alloc (unhide Kg_5) (.cells #[.int .i64 x] 3)) hg6 (fun j hj => Own.ne ((unhide HO5).below ((Below.refl _ _).alloc (Nat.le_refl _) (.cells #[.int .i64 x] 3))) (keep_alloc (unhide Kg_5) (.cells #[.int .i64 x] 3)) (by decide) j hj)); have Kf_6 := hide (keep_grown (keep_alloc (unhide Kf_5) (.cells #[.int .i64 x] 3)) hg6 (fun j hj => Own.ne ((unhide HO5).below ((Below.refl _ _).alloc (Nat.le_refl _) (.cells #[.int .i64 x] 3))) (keep_alloc (unhide Kf_5) (.cells #[.int .i64 x] 3)) (by decide) j hj)); have Kh_6 := hide (keep_grown (keep_alloc (unhide Kh_5) (.cells #[.int .i64 x] 3)) hg6 (fun j hj => Own.ne ((unhide HO5).below ((Below.refl _ _).alloc (Nat.le_refl _) (.cells #[.int .i64 x] 3))) (keep_alloc (unhide Kh_5) (.cells #[.int .i64 x] 3)) (by decide) j hj)); clear HX_5 Kp_5 Kq_5 Kg_5 Kf_5 Kh_5; clear ho6 hg6 HI6 HO6; obtain ⟨p0, p1, pf0, pf1, pl⟩ := block2 (unhide Kp_6)))
  clear eB5 HO5
  obtain ⟨q0, q1, qf0, qf1, ql⟩ := block2 (unhide Kq_6)
  obtain ⟨g0, g1, gf0, gf1, gl⟩ := block2 (unhide Kg_6)
  by_cases hq : (n : Int) + 1 = c
  · have hq2 : ((((n + 1 : Nat) : Int)) == c) = true := by simpa using hq
    go_wp2_with fail
    clear p0 p1 pf0 pf1 pl q0 q1 qf0 qf1 ql g0 g1 gf0 gf1 gl
    have HX_a7 := hide (put2_below (y0 := .int .i64 c) (y1 := .slice none 0 0) (unhide HX_6) (show w.heap.size ≤ w.heap.size + 1 by first | omega | (have := unhide HBA; omega)))
    have Kp_a7 := hide ((put2_keep (y0 := .int .i64 c) (y1 := .slice none 0 0) (show w.heap.size ≠ w.heap.size + 1 by omega)).trans (unhide Kp_6))
    have Kq_a7 := hide (put2_new (y0 := .int .i64 c) (y1 := .slice none 0 0) (unhide Kq_6))
    have Kg_a7 := hide ((put2_keep (y0 := .int .i64 c) (y1 := .slice none 0 0) (show w.heap.size + 1 + 1 ≠ w.heap.size + 1 by omega)).trans (unhide Kg_6))
    have Kf_a7 := hide ((put2_keep (y0 := .int .i64 c) (y1 := .slice none 0 0) (show T ≠ w.heap.size + 1 by omega)).trans (unhide Kf_6))
    have Kh_a7 := hide ((put2_keep (y0 := .int .i64 c) (y1 := .slice none 0 0) (show T2 ≠ w.heap.size + 1 by omega)).trans (unhide Kh_6))
    have Ol_a7 := hide ((unhide HO7).keep (fun k hk => put2_keep (y0 := .int .i64 c) (y1 := .slice none 0 0) (Own.ne (unhide HO7) (unhide Kq_6) (by decide) k hk)))
    obtain ⟨V1, eV1⟩ : ∃ X, put2 w6 (w.heap.size + 1) (.int .i64 c) (.slice none 0 0) = X := ⟨_, rfl⟩
    rw [eV1] at HX_a7 Kp_a7 Kq_a7 Kg_a7 Kf_a7 Kh_a7 Ol_a7
    have eV12 : ((w6).setCell ⟨w.heap.size + 1, 0, none⟩ (.int .i64 c)).setCell ⟨w.heap.size + 1, 1, none⟩ (.slice none 0 0) = V1 := eV1
    rw [eV12]
    clear eV1 eV12 HX_6 Kp_6 Kq_6 Kg_6 Kf_6 Kh_6 HO7
    have HX_a8 := hide (put2_below (y0 := .int .i64 0) (y1 := .int .i64 0) (unhide HX_a7) (show w.heap.size ≤ w.heap.size + 1 + 1 by first | omega | (have := unhide HBA; omega)))
    have Kp_a8 := hide ((put2_keep (y0 := .int .i64 0) (y1 := .int .i64 0) (show w.heap.size ≠ w.heap.size + 1 + 1 by omega)).trans (unhide Kp_a7))
    have Kq_a8 := hide ((put2_keep (y0 := .int .i64 0) (y1 := .int .i64 0) (show w.heap.size + 1 ≠ w.heap.size + 1 + 1 by omega)).trans (unhide Kq_a7))
    have Kg_a8 := hide (put2_new (y0 := .int .i64 0) (y1 := .int .i64 0) (unhide Kg_a7))
    have Kf_a8 := hide ((put2_keep (y0 := .int .i64 0) (y1 := .int .i64 0) (show T ≠ w.heap.size + 1 + 1 by omega)).trans (unhide Kf_a7))
    have Kh_a8 := hide ((put2_keep (y0 := .int .i64 0) (y1 := .int .i64 0) (show T2 ≠ w.heap.size + 1 + 1 by omega)).trans (unhide Kh_a7))
    have Ol_a8 := hide ((unhide Ol_a7).keep (fun k hk => put2_keep (y0 := .int .i64 0) (y1 := .int .i64 0) (Own.ne (unhide Ol_a7) (unhide Kg_a7) (by decide) k hk)))
    obtain ⟨V2, eV2⟩ : ∃ X, put2 V1 (w.heap.size + 1 + 1) (.int .i64 0) (.int .i64 0) = X := ⟨_, rfl⟩
    rw [eV2] at HX_a8 Kp_a8 Kq_a8 Kg_a8 Kf_a8 Kh_a8 Ol_a8
    have eV22 : ((V1).setCell ⟨w.heap.size + 1 + 1, 0, none⟩ (.int .i64 0)).setCell ⟨w.heap.size + 1 + 1, 1, none⟩ (.int .i64 0) = V2 := eV2
    rw [eV22]
    clear eV2 eV22 HX_a7 Kp_a7 Kq_a7 Kg_a7 Kf_a7 Kh_a7 Ol_a7
    obtain ⟨q0, q1, qf0, qf1, ql⟩ := block2 (unhide Kq_a8)
    obtain ⟨g0, g1, gf0, gf1, gl⟩ := block2 (unhide Kg_a8)
    refine bodyPost_ret (v := .tuple #[.agg #[.int .i64 c, .slice none 0 0], .slice b2 (n + 1) d2, .agg #[.int .i64 0, .int .i64 0]]) (by simp [results, Try.results31, go_sem, q0, q1, g0, g1]) rfl ⟨.agg #[.int .i64 c, .slice none 0 0], .slice b2 (n + 1) d2, rfl, ?_, ?_, unhide HX_a8⟩
    · rw [unhide HER, if_pos hq]
      exact zero_newg _ _ _
    · rw [unhide HER, if_pos hq]
      exact ((unhide Ol_a8).base (unhide HB5)).new
  · have hq2 : ((((n + 1 : Nat) : Int)) == c) = false := by simpa using hq
    go_wp2_with fail
    clear p0 p1 pf0 pf1 pl q0 q1 qf0 qf1 ql g0 g1 gf0 gf1 gl
    have HX_b7 := hide (put2_below (y0 := .int .i64 c) (y1 := .slice b2 (n + 1) d2) (unhide HX_6) (show w.heap.size ≤ w.heap.size + 1 by first | omega | (have := unhide HBA; omega)))
    have Kp_b7 := hide ((put2_keep (y0 := .int .i64 c) (y1 := .slice b2 (n + 1) d2) (show w.heap.size ≠ w.heap.size + 1 by omega)).trans (unhide Kp_6))
    have Kq_b7 := hide (put2_new (y0 := .int .i64 c) (y1 := .slice b2 (n + 1) d2) (unhide Kq_6))
    have Kg_b7 := hide ((put2_keep (y0 := .int .i64 c) (y1 := .slice b2 (n + 1) d2) (show w.heap.size + 1 + 1 ≠ w.heap.size + 1 by omega)).trans (unhide Kg_6))
    have Kf_b7 := hide ((put2_keep (y0 := .int .i64 c) (y1 := .slice b2 (n + 1) d2) (show T ≠ w.heap.size + 1 by omega)).trans (unhide Kf_6))
    have Kh_b7 := hide ((put2_keep (y0 := .int .i64 c) (y1 := .slice b2 (n + 1) d2) (show T2 ≠ w.heap.size + 1 by omega)).trans (unhide Kh_6))
    have Ol_b7 := hide ((unhide HO7).keep (fun k hk => put2_keep (y0 := .int .i64 c) (y1 := .slice b2 (n + 1) d2) (Own.ne (unhide HO7) (unhide Kq_6) (by decide) k hk)))
    obtain ⟨V1, eV1⟩ : ∃ X, put2 w6 (w.heap.size + 1) (.int .i64 c) (.slice b2 (n + 1) d2) = X := ⟨_, rfl⟩
    rw [eV1] at HX_b7 Kp_b7 Kq_b7 Kg_b7 Kf_b7 Kh_b7 Ol_b7
    have eV12 : ((w6).setCell ⟨w.heap.size + 1, 0, none⟩ (.int .i64 c)).setCell ⟨w.heap.size + 1, 1, none⟩ (.slice b2 (n + 1) d2) = V1 := eV1
    rw [eV12]
    clear eV1 eV12 HX_6 Kp_6 Kq_6 Kg_6 Kf_6 Kh_6 HO7
    have HX_b8 := hide (put2_below (y0 := .int .i64 0) (y1 := .int .i64 0) (unhide HX_b7) (show w.heap.size ≤ w.heap.size + 1 + 1 by first | omega | (have := unhide HBA; omega)))
    have Kp_b8 := hide ((put2_keep (y0 := .int .i64 0) (y1 := .int .i64 0) (show w.heap.size ≠ w.heap.size + 1 + 1 by omega)).trans (unhide Kp_b7))
    have Kq_b8 := hide ((put2_keep (y0 := .int .i64 0) (y1 := .int .i64 0) (show w.heap.size + 1 ≠ w.heap.size + 1 + 1 by omega)).trans (unhide Kq_b7))
    have Kg_b8 := hide (put2_new (y0 := .int .i64 0) (y1 := .int .i64 0) (unhide Kg_b7))
    have Kf_b8 := hide ((put2_keep (y0 := .int .i64 0) (y1 := .int .i64 0) (show T ≠ w.heap.size + 1 + 1 by omega)).trans (unhide Kf_b7))
    have Kh_b8 := hide ((put2_keep (y0 := .int .i64 0) (y1 := .int .i64 0) (show T2 ≠ w.heap.size + 1 + 1 by omega)).trans (unhide Kh_b7))
    have Ol_b8 := hide ((unhide Ol_b7).keep (fun k hk => put2_keep (y0 := .int .i64 0) (y1 := .int .i64 0) (Own.ne (unhide Ol_b7) (unhide Kg_b7) (by decide) k hk)))
    obtain ⟨V2, eV2⟩ : ∃ X, put2 V1 (w.heap.size + 1 + 1) (.int .i64 0) (.int .i64 0) = X := ⟨_, rfl⟩
    rw [eV2] at HX_b8 Kp_b8 Kq_b8 Kg_b8 Kf_b8 Kh_b8 Ol_b8
    have eV22 : ((V1).setCell ⟨w.heap.size + 1 + 1, 0, none⟩ (.int .i64 0)).setCell ⟨w.heap.size + 1 + 1, 1, none⟩ (.int .i64 0) = V2 := eV2
    rw [eV22]
    clear eV2 eV22 HX_b7 Kp_b7 Kq_b7 Kg_b7 Kf_b7 Kh_b7 Ol_b7
    obtain ⟨q0, q1, qf0, qf1, ql⟩ := block2 (unhide Kq_b8)
    obtain ⟨g0, g1, gf0, gf1, gl⟩ := block2 (unhide Kg_b8)
    refine bodyPost_ret (v := .tuple #[.agg #[.int .i64 c, .slice b2 (n + 1) d2], .slice none 0 0, .agg #[.int .i64 0, .int .i64 0]]) (by simp [results, Try.results31, go_sem, q0, q1, g0, g1]) rfl ⟨.agg #[.int .i64 c, .slice b2 (n + 1) d2], .slice none 0 0, rfl, ?_, ?_, unhide HX_b8⟩
    · rw [unhide HER, if_neg hq]
      exact ⟨_, rfl, ((unhide Ol_b8).base (unhide HB5)).new⟩
    · rw [unhide HER, if_neg hq]
      exact new_nil _ _
end Go.Proofs.Ytpogcfdmkeebmaa
