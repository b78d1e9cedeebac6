/-
  sync.checkOnce, sync.checkBegin.
-/
import Derived.Test.YtpogcfdmkeebmaaN
namespace Go.Proofs.Ytpogcfdmkeebmaa
open Go.RowKit

/-- What is wrong with a once. -/
def onceF (b : Int) (d : Bool) (xs : List Int) : Int × Int := if (lineF xs).1 ≠ 0 then lineF xs else if b < 0 then (3, 0) else if (d = true ∧ b ≠ 0) ∨ (b = 0 ∧ 0 < xs.length) ∨ xs.contains b = true then (5, 0) else (0, 0)
theorem onceF_good {b : Int} {d : Bool} {xs : List Int} (h : (onceF b d xs).1 = 0) : onceF b d xs = (0, 0) ∧ lineF xs = (0, 0) ∧ xs.length ≤ 5000 ∧ 0 ≤ b ∧ (d = true → b = 0) ∧ (b = 0 → xs = []) ∧ xs.contains b = false := by
  unfold onceF at h ⊢
  split at h
  · rename_i q; exact absurd h q
  · rename_i q0
    split at h
    · cases h
    · split at h
      · cases h
      · rename_i q1 q2
        rw [if_neg q0, if_neg q1, if_neg q2]
        have := lineF_zero (xs := xs) (by omega)
        refine ⟨rfl, this.1, this.2, by omega, fun hd => ?_, fun hc => List.eq_nil_of_length_eq_zero ?_, ?_⟩
        · by_cases hb : b = 0
          · exact hb
          · exact absurd (Or.inl ⟨hd, hb⟩) q2
        · have : ¬ 0 < xs.length := fun hl => q2 (Or.inr (Or.inl ⟨hc, hl⟩))
          omega
        · cases hq : xs.contains b with
          | false => rfl
          | true => exact absurd (Or.inr (Or.inr hq)) q2
/-- What is wrong with a Begin. -/
def beginF (b : Int) (d : Bool) (xs : List Int) (x : Int) : Int × Int := if (onceF b d xs).1 ≠ 0 then onceF b d xs else if (comesF xs x).1 ≠ 0 then comesF xs x else if x = b then (11, -1) else (0, 0)
theorem beginF_good {b : Int} {d : Bool} {xs : List Int} {x : Int} (h : (beginF b d xs x).1 = 0) : (onceF b d xs).1 = 0 ∧ (comesF xs x).1 = 0 ∧ x ≠ b ∧ beginF b d xs x = (0, 0) := by
  unfold beginF at h ⊢
  split at h
  · rename_i q; exact absurd h q
  · rename_i q0
    split at h
    · rename_i q; exact absurd h q
    · rename_i q1
      split at h
      · cases h
      · rename_i q2
        rw [if_neg q0, if_neg q1, if_neg q2]
        exact ⟨by omega, by omega, q2, rfl⟩
/-- What is wrong with an End. -/
def endF (b : Int) (d : Bool) (xs : List Int) (x : Int) : Int × Int := if (onceF b d xs).1 ≠ 0 then onceF b d xs else if x ≠ b ∨ x < 1 then (11, -1) else (0, 0)
/-- A once behind a Begin that nothing is wrong with; what it tells. -/
def beginR (b : Int) (d : Bool) (xs : List Int) (x : Int) : (Int × Bool × List Int) × Int := if d = true then ((0, true, []), 2) else if b = 0 then ((x, false, []), 1) else ((b, false, xs ++ [x]), 0)

set_option maxRecDepth 100000 in
set_option maxHeartbeats 2000000 in
theorem checkOnce_any (w : World) (v : Value) (b : Int) (d : Bool) (xs : List Int) (h : IsO w v b d xs) (hn : xs.length ≤ maxLen) :
    Calls Try.prog 40 #[v] w fun e w' => e = .returned (faultV (onceF b d xs)) ∧ Below w.heap.size w w' := by
  obtain ⟨a0, c0, rfl, hL⟩ := h.form
  have HC : Hid (∀ W, Below w.heap.size w W → Calls Try.prog 50 #[.slice a0 xs.length c0] W fun e w' => e = .returned (faultV (lineF xs)) ∧ Below W.heap.size W w') := fun W hW => checkLine_any W _ xs (hL.below hW) hn
  have HI : Hid (∀ W, Below w.heap.size w W → Calls Try.prog 44 #[.slice a0 xs.length c0, .int .i64 b] W fun e w' => e = .returned (.bool (xs.contains b)) ∧ w' = W) := fun W hW => waits_any W _ xs b (hL.below hW) hn
  obtain ⟨R, eR⟩ : ∃ R, onceF b d xs = R := ⟨_, rfl⟩
  rw [eR]
  unfold onceF at eR
  obtain ⟨⟨F0, F1⟩, eF⟩ : ∃ F, lineF xs = F := ⟨_, rfl⟩
  obtain ⟨q, eq⟩ : ∃ q, xs.contains b = q := ⟨_, rfl⟩
  rw [eF] at HC eR
  rw [eq] at HI eR
  unfold maxLen at hn
  generalize xs.length = n at *
  simp only at eR
  have HR := hide eR
  clear h hL eR eF eq
  obtain ⟨W0, e0, hB, k0, k1⟩ := two_new w (.cells #[.int .i64 b, .bool d, .slice a0 n c0] 41) (.cells #[.int .i64 0, .int .i64 0] 29)
  have HX := hide hB; have HP := hide k0; have HQ := hide k1; have HE := hide e0
  clear hB k0 k1 e0
  go_enter Try.func40, Try.ntmps40
  go_upto_region 1 with fail
  rw [unhide HE]
  clear HE
  obtain ⟨⟨p0, p1, p2⟩, ⟨pf0, pf1, pf2⟩, pl⟩ := block3 (unhide HP)
  go_upto_region 2 with (go_at_call 50; refine (unhide HC _ (unhide HX)).mono ?_; rintro e w1 ⟨he, hb1⟩; obtain rfl : e = .returned (.agg #[.int .i64 F0, .int .i64 F1]) := he; have HX_1 := hide (Below.next (unhide HX) hb1 (by first | exact Nat.le_refl _ | (have := unhide HBA; omega))); have Kp_1 := hide (keep_below (unhide HP) hb1); have Kq_1 := hide (keep_below (unhide HQ) hb1); clear HX HP HQ; clear hb1 p0 p1 p2 pf0 pf1 pf2 pl)
  have HX_2 := hide ((unhide HX_1).alloc (Nat.le_trans (show w.heap.size ≤ w.heap.size from Nat.le_refl _) (unhide HX_1).size) (.cells #[.int .i64 F0, .int .i64 F1] 29))
  have Kp_2 := hide (keep_alloc (unhide Kp_1) (.cells #[.int .i64 F0, .int .i64 F1] 29))
  have Kq_2 := hide (keep_alloc (unhide Kq_1) (.cells #[.int .i64 F0, .int .i64 F1] 29))
  have Kf_2 := hide (new_block w1 (.cells #[.int .i64 F0, .int .i64 F1] 29))
  have hlp_f : w.heap.size < w1.heap.size := size_of (unhide Kp_1)
  have hlq_f : w.heap.size + 1 < w1.heap.size := size_of (unhide Kq_1)
  obtain ⟨T, eT⟩ : ∃ X, w1.heap.size = X := ⟨_, rfl⟩
  obtain ⟨W2, eW2⟩ : ∃ X, w1.alloc (.cells #[.int .i64 F0, .int .i64 F1] 29) = X := ⟨_, rfl⟩
  rw [eT, eW2] at Kf_2; rw [eW2] at HX_2 Kp_2 Kq_2; rw [eT] at hlp_f hlq_f; rw [eT, eW2]
  clear eT eW2 HX_1 Kp_1 Kq_1
  have hqt : w.heap.size + 1 < T := by omega
  obtain ⟨⟨p0, p1, p2⟩, ⟨pf0, pf1, pf2⟩, pl⟩ := block3 (unhide Kp_2)
  obtain ⟨q0, q1, qf0, qf1, ql⟩ := block2 (unhide Kq_2)
  obtain ⟨f0, f1, ff0, ff1, fl⟩ := block2 (unhide Kf_2)
  by_cases hF : F0 = 0
  · have hr := unhide HR
    rw [if_neg (by simpa using hF)] at hr
    have HR2 := hide hr
    subst hF
    clear HR hr
    by_cases h1 : b < 0
    · have hr := unhide HR2
      rw [if_pos h1] at hr
      subst hr
      clear HR2
      go_wp2_with fail
      exact bodyPost_ret (v := .agg #[.int .i64 3, .int .i64 0]) (by simp [results, Try.results40, go_sem, q0, q1]) rfl ⟨rfl, below_set2 (unhide HX_2) (Nat.le_succ _) _ _⟩
    have hr := unhide HR2
    rw [if_neg h1] at hr
    have HR3 := hide hr
    clear HR2 hr
    by_cases h2 : b = 0
    · subst h2
      by_cases h3 : 0 < n
      · have hr := unhide HR3
        rw [if_pos (Or.inr (Or.inl ⟨rfl, h3⟩))] at hr
        subst hr
        have j3 : (0 : Int) < (n : Int) := by omega
        clear HR3
        cases d
        all_goals
          go_wp2_with fail
          exact bodyPost_ret (v := .agg #[.int .i64 5, .int .i64 0]) (by simp [results, Try.results40, go_sem, q0, q1]) rfl ⟨rfl, below_set2 (unhide HX_2) (Nat.le_succ _) _ _⟩
      · have j3 : ¬ (0 : Int) < (n : Int) := by omega
        cases d
        all_goals
          cases q with
          | true =>
            have hr := unhide HR3
            rw [if_pos (Or.inr (Or.inr rfl))] at hr
            subst hr
            clear HR3
            go_wp2_with (go_at_call 44; refine (unhide HI _ (unhide HX_2)).mono ?_; rintro e w3 ⟨rfl, rfl⟩)
            exact bodyPost_ret (v := .agg #[.int .i64 5, .int .i64 0]) (by simp [results, Try.results40, go_sem, q0, q1]) rfl ⟨rfl, below_set2 (unhide HX_2) (Nat.le_succ _) _ _⟩
          | false =>
            have hr := unhide HR3
            rw [if_neg (fun h => by rcases h with h | h | h; exact h.2 rfl; exact h3 h.2; cases h)] at hr
            subst hr
            clear HR3
            go_wp2_with (go_at_call 44; refine (unhide HI _ (unhide HX_2)).mono ?_; rintro e w3 ⟨rfl, rfl⟩)
            exact bodyPost_ret (v := .agg #[.int .i64 0, .int .i64 0]) (by simp [results, Try.results40, go_sem, q0, q1]) rfl ⟨rfl, below_set2 (unhide HX_2) (Nat.le_succ _) _ _⟩
    · have j2 : (b == 0) = false := by simpa using h2
      have j22 : (b != 0) = true := by simpa using h2
      have HB2 := hide h2
      clear h2
      cases d with
      | true =>
        have hr := unhide HR3
        rw [if_pos (Or.inl ⟨rfl, unhide HB2⟩)] at hr
        subst hr
        clear HR3
        go_wp2_with fail
        exact bodyPost_ret (v := .agg #[.int .i64 5, .int .i64 0]) (by simp [results, Try.results40, go_sem, q0, q1]) rfl ⟨rfl, below_set2 (unhide HX_2) (Nat.le_succ _) _ _⟩
      | false =>
        cases q with
        | true =>
          have hr := unhide HR3
          rw [if_pos (Or.inr (Or.inr rfl))] at hr
          subst hr
          clear HR3
          go_wp2_with (go_at_call 44; refine (unhide HI _ (unhide HX_2)).mono ?_; rintro e w3 ⟨rfl, rfl⟩)
          exact bodyPost_ret (v := .agg #[.int .i64 5, .int .i64 0]) (by simp [results, Try.results40, go_sem, q0, q1]) rfl ⟨rfl, below_set2 (unhide HX_2) (Nat.le_succ _) _ _⟩
        | false =>
          have hr := unhide HR3
          rw [if_neg (fun h => by rcases h with h | h | h; cases h.1; exact unhide HB2 h.1; cases h)] at hr
          subst hr
          clear HR3
          go_wp2_with (go_at_call 44; refine (unhide HI _ (unhide HX_2)).mono ?_; rintro e w3 ⟨rfl, rfl⟩)
          exact bodyPost_ret (v := .agg #[.int .i64 0, .int .i64 0]) (by simp [results, Try.results40, go_sem, q0, q1]) rfl ⟨rfl, below_set2 (unhide HX_2) (Nat.le_succ _) _ _⟩
  · have hr := unhide HR
    rw [if_pos hF] at hr
    subst hr
    have x0 : (F0 != 0) = true := by simpa using hF
    clear HR hF
    go_wp2_with fail
    exact bodyPost_ret (v := .agg #[.int .i64 F0, .int .i64 F1]) (by simp [results, Try.results40, go_sem, q0, q1]) rfl ⟨rfl, below_set2 (unhide HX_2) (Nat.le_succ _) _ _⟩

set_option maxRecDepth 100000 in
set_option maxHeartbeats 2000000 in
theorem checkBegin_any (w : World) (v : Value) (b : Int) (d : Bool) (xs : List Int) (x : Int) (h : IsO w v b d xs) (hn : xs.length ≤ maxLen) :
    Calls Try.prog 39 #[v, .int .i64 x] w fun e w' => e = .returned (faultV (beginF b d xs x)) ∧ Below w.heap.size w w' := by
  have HC : Hid (∀ W, Below w.heap.size w W → Calls Try.prog 40 #[v] W fun e w' => e = .returned (faultV (onceF b d xs)) ∧ Below W.heap.size W w') := fun W hW => checkOnce_any W v b d xs (h.below hW) hn
  obtain ⟨a0, c0, rfl, hL⟩ := h.form
  have HC2 : Hid (∀ W, Below w.heap.size w W → Calls Try.prog 37 #[.slice a0 xs.length c0, .int .i64 x] W fun e w' => e = .returned (faultV (comesF xs x)) ∧ Below W.heap.size W w') := fun W hW => checkComes_any W _ xs x (hL.below hW) hn
  obtain ⟨R, eR⟩ : ∃ R, beginF b d xs x = R := ⟨_, rfl⟩
  rw [eR]
  unfold beginF at eR
  obtain ⟨⟨F0, F1⟩, eF⟩ : ∃ F, onceF b d xs = F := ⟨_, rfl⟩
  obtain ⟨⟨G0, G1⟩, eG⟩ : ∃ F, comesF xs x = F := ⟨_, rfl⟩
  rw [eF] at HC eR
  rw [eG] at HC2 eR
  generalize xs.length = n at *
  simp only at eR
  have HR := hide eR
  clear h hL eR eF eG
  obtain ⟨W0, e0, hB, k0, k1⟩ := two_new w (.cells #[.int .i64 b, .bool d, .slice a0 n c0] 41) (.cells #[.int .i64 0, .int .i64 0] 29)
  have HX := hide hB; have HP := hide k0; have HQ := hide k1; have HE := hide e0
  clear hB k0 k1 e0
  go_enter Try.func39, Try.ntmps39
  go_upto_region 1 with fail
  rw [unhide HE]
  clear HE
  obtain ⟨⟨p0, p1, p2⟩, ⟨pf0, pf1, pf2⟩, pl⟩ := block3 (unhide HP)
  go_upto_region 2 with (go_at_call 40; refine (unhide HC _ (unhide HX)).mono ?_; rintro e w1 ⟨he, hb1⟩; obtain rfl : e = .returned (.agg #[.int .i64 F0, .int .i64 F1]) := he; have HX_1 := hide (Below.next (unhide HX) hb1 (by first | exact Nat.le_refl _ | (have := unhide HBA; omega))); have Kp_1 := hide (keep_below (unhide HP) hb1); have Kq_1 := hide (keep_below (unhide HQ) hb1); clear HX HP HQ; clear hb1 p0 p1 p2 pf0 pf1 pf2 pl)
  have HX_2 := hide ((unhide HX_1).alloc (Nat.le_trans (show w.heap.size ≤ w.heap.size from Nat.le_refl _) (unhide HX_1).size) (.cells #[.int .i64 F0, .int .i64 F1] 29))
  have Kp_2 := hide (keep_alloc (unhide Kp_1) (.cells #[.int .i64 F0, .int .i64 F1] 29))
  have Kq_2 := hide (keep_alloc (unhide Kq_1) (.cells #[.int .i64 F0, .int .i64 F1] 29))
  have Kf_2 := hide (new_block w1 (.cells #[.int .i64 F0, .int .i64 F1] 29))
  have hlp_f : w.heap.size < w1.heap.size := size_of (unhide Kp_1)
  have hlq_f : w.heap.size + 1 < w1.heap.size := size_of (unhide Kq_1)
  obtain ⟨T, eT⟩ : ∃ X, w1.heap.size = X := ⟨_, rfl⟩
  obtain ⟨W2, eW2⟩ : ∃ X, w1.alloc (.cells #[.int .i64 F0, .int .i64 F1] 29) = X := ⟨_, rfl⟩
  rw [eT, eW2] at Kf_2; rw [eW2] at HX_2 Kp_2 Kq_2; rw [eT] at hlp_f hlq_f; rw [eT, eW2]
  clear eT eW2 HX_1 Kp_1 Kq_1
  have hqt : w.heap.size + 1 < T := by omega
  by_cases hF : F0 ≠ 0
  · have hr := unhide HR
    rw [if_pos hF] at hr
    subst hr
    have x0 : (F0 != 0) = true := by simpa using hF
    clear HR hF
    obtain ⟨q0, q1, qf0, qf1, ql⟩ := block2 (unhide Kq_2)
    obtain ⟨f0, f1, ff0, ff1, fl⟩ := block2 (unhide Kf_2)
    go_wp2_with fail
    exact bodyPost_ret (v := .agg #[.int .i64 F0, .int .i64 F1]) (by simp [results, Try.results39, go_sem, q0, q1]) rfl ⟨rfl, below_set2 (unhide HX_2) (Nat.le_succ _) _ _⟩
  have hr := unhide HR
  rw [if_neg hF] at hr
  have HR2 := hide hr
  have hF0 : F0 = 0 := by omega
  subst hF0
  clear HR hr hF
  obtain ⟨⟨p0, p1, p2⟩, ⟨pf0, pf1, pf2⟩, pl⟩ := block3 (unhide Kp_2)
  obtain ⟨f0, f1, ff0, ff1, fl⟩ := block2 (unhide Kf_2)
  go_upto_region 5 with (go_at_call 37; refine (unhide HC2 _ (unhide HX_2)).mono ?_; rintro e w3 ⟨he, hb1⟩; obtain rfl : e = .returned (.agg #[.int .i64 G0, .int .i64 G1]) := he; have HX_b3 := hide (Below.next (unhide HX_2) hb1 (by first | exact Nat.le_refl _ | (have := unhide HBA; omega))); have Kp_b3 := hide (keep_below (unhide Kp_2) hb1); have Kq_b3 := hide (keep_below (unhide Kq_2) hb1); have Kf_b3 := hide (keep_below (unhide Kf_2) hb1); clear HX_2 Kp_2 Kq_2 Kf_2; clear hb1 p0 p1 p2 pf0 pf1 pf2 pl f0 f1 ff0 ff1 fl)
  have HX_b4 := hide ((unhide HX_b3).alloc (Nat.le_trans (show w.heap.size ≤ w.heap.size from Nat.le_refl _) (unhide HX_b3).size) (.cells #[.int .i64 G0, .int .i64 G1] 29))
  have Kp_b4 := hide (keep_alloc (unhide Kp_b3) (.cells #[.int .i64 G0, .int .i64 G1] 29))
  have Kq_b4 := hide (keep_alloc (unhide Kq_b3) (.cells #[.int .i64 G0, .int .i64 G1] 29))
  have Kf_b4 := hide (keep_alloc (unhide Kf_b3) (.cells #[.int .i64 G0, .int .i64 G1] 29))
  have Kh_b4 := hide (new_block w3 (.cells #[.int .i64 G0, .int .i64 G1] 29))
  have hlp_h : w.heap.size < w3.heap.size := size_of (unhide Kp_b3)
  have hlq_h : w.heap.size + 1 < w3.heap.size := size_of (unhide Kq_b3)
  have hlf_h : T < w3.heap.size := size_of (unhide Kf_b3)
  obtain ⟨T2, eT2⟩ : ∃ X, w3.heap.size = X := ⟨_, rfl⟩
  obtain ⟨W4, eW4⟩ : ∃ X, w3.alloc (.cells #[.int .i64 G0, .int .i64 G1] 29) = X := ⟨_, rfl⟩
  rw [eT2, eW4] at Kh_b4; rw [eW4] at HX_b4 Kp_b4 Kq_b4 Kf_b4; rw [eT2] at hlp_h hlq_h hlf_h; rw [eT2, eW4]
  clear eT2 eW4 HX_b3 Kp_b3 Kq_b3 Kf_b3
  have hqt2 : w.heap.size + 1 < T2 := by omega
  obtain ⟨⟨p0, p1, p2⟩, ⟨pf0, pf1, pf2⟩, pl⟩ := block3 (unhide Kp_b4)
  obtain ⟨q0, q1, qf0, qf1, ql⟩ := block2 (unhide Kq_b4)
  obtain ⟨h0, h1, hf0, hf1, hl⟩ := block2 (unhide Kh_b4)
  by_cases hG : G0 ≠ 0
  · have hr := unhide HR2
    rw [if_pos hG] at hr
    subst hr
    have x0 : (G0 != 0) = true := by simpa using hG
    clear HR2 hG
    go_wp2_with fail
    exact bodyPost_ret (v := .agg #[.int .i64 G0, .int .i64 G1]) (by simp [results, Try.results39, go_sem, q0, q1]) rfl ⟨rfl, below_set2 (unhide HX_b4) (Nat.le_succ _) _ _⟩
  have hr := unhide HR2
  rw [if_neg hG] at hr
  have HR3 := hide hr
  have hG0 : G0 = 0 := by omega
  subst hG0
  clear HR2 hr hG
  by_cases h1 : x = b
  · have hr := unhide HR3
    rw [if_pos h1] at hr
    subst hr
    have x1 : (x == b) = true := by simpa using h1
    clear HR3 h1
    go_wp2_with fail
    exact bodyPost_ret (v := .agg #[.int .i64 11, .int .i64 (-1)]) (by simp [results, Try.results39, go_sem, q0, q1]) rfl ⟨rfl, below_set2 (unhide HX_b4) (Nat.le_succ _) _ _⟩
  · have hr := unhide HR3
    rw [if_neg h1] at hr
    subst hr
    have x1 : (x == b) = false := by simpa using h1
    clear HR3 h1
    go_wp2_with fail
    exact bodyPost_ret (v := .agg #[.int .i64 0, .int .i64 0]) (by simp [results, Try.results39, go_sem, q0, q1]) rfl ⟨rfl, below_set2 (unhide HX_b4) (Nat.le_succ _) _ _⟩
end Go.Proofs.Ytpogcfdmkeebmaa
