/-
  sync.checkGroup, sync.checkAdd.
-/
import Derived.Test.YtpogcfdmkeebmaaN
namespace Go.Proofs.Ytpogcfdmkeebmaa
open Go.RowKit

/-- What is wrong with a group. -/
def groupF (c : Int) (xs : List Int) : Int × Int := if (lineF xs).1 ≠ 0 then lineF xs else if c < 0 ∨ 1000000000 < c then (3, 0) else if c = 0 ∧ 0 < xs.length then (5, 0) else (0, 0)
theorem groupF_good {c : Int} {xs : List Int} (h : (groupF c xs).1 = 0) : groupF c xs = (0, 0) ∧ lineF xs = (0, 0) ∧ xs.length ≤ 5000 ∧ 0 ≤ c ∧ c ≤ 1000000000 ∧ (c = 0 → xs = []) := by
  unfold groupF at h ⊢
  split at h
  · rename_i q; exact absurd h q
  · rename_i q0
    split at h
    · cases h
    · split at h
      · cases h
      · rename_i q1 q2
        rw [if_neg q0, if_neg q1, if_neg q2]
        have := lineF_zero (xs := xs) (by omega)
        exact ⟨rfl, this.1, this.2, by omega, by omega, fun hc => List.eq_nil_of_length_eq_zero (by
          have : ¬ 0 < xs.length := fun hl => q2 ⟨hc, hl⟩
          omega)⟩
/-- What is wrong with an Add. -/
def addF (c : Int) (xs : List Int) (x : Int) : Int × Int := if (groupF c xs).1 ≠ 0 then groupF c xs else if x < -1000000000 ∨ 1000000000 < x then (3, -1) else if 1000000000 < c + x then (9, 0) else (0, 0)
theorem addF_good {c : Int} {xs : List Int} {x : Int} (h : (addF c xs x).1 = 0) : (groupF c xs).1 = 0 ∧ addF c xs x = (0, 0) ∧ -1000000000 ≤ x ∧ x ≤ 1000000000 ∧ c + x ≤ 1000000000 := by
  unfold addF at h ⊢
  split at h
  · rename_i q; exact absurd h q
  · rename_i q0
    split at h
    · cases h
    · split at h
      · cases h
      · rename_i q1 q2
        rw [if_neg q0, if_neg q1, if_neg q2]
        exact ⟨by omega, rfl, by omega, by omega, by omega⟩
/-- What is wrong with an Await. -/
def awaitF (c : Int) (xs : List Int) (x : Int) : Int × Int := if (groupF c xs).1 ≠ 0 then groupF c xs else comesF xs x
theorem awaitF_good {c : Int} {xs : List Int} {x : Int} (h : (awaitF c xs x).1 = 0) : (groupF c xs).1 = 0 ∧ (comesF xs x).1 = 0 ∧ awaitF c xs x = (0, 0) := by
  unfold awaitF at h ⊢
  split at h
  · rename_i q; exact absurd h q
  · rename_i q
    rw [if_neg q]
    exact ⟨by omega, h, (comesF_good h).1⟩
/-- A group behind an Add that nothing is wrong with; who goes; whether it panics. -/
def addR (c : Int) (xs : List Int) (x : Int) : ((Int × List Int) × List Int) × Bool := if c + x < 0 then (((c, xs), []), true) else if c + x = 0 then (((0, []), xs), false) else (((c + x, xs), []), false)
/-- A group behind an Await that nothing is wrong with; whether the task need not wait. -/
def awaitR (c : Int) (xs : List Int) (x : Int) : (Int × List Int) × Bool := if c = 0 then ((0, []), true) else ((c, xs ++ [x]), false)

set_option maxRecDepth 100000 in
set_option maxHeartbeats 2000000 in
theorem checkGroup_any (w : World) (v : Value) (c : Int) (xs : List Int) (h : IsG KI w v c xs) (hn : xs.length ≤ maxLen) :
    Calls Try.prog 36 #[v] w fun e w' => e = .returned (faultV (groupF c xs)) ∧ Below w.heap.size w w' := by
  obtain ⟨a0, c0, rfl, hL⟩ := h.form
  have HC : Hid (∀ W, Below w.heap.size w W → Calls Try.prog 50 #[.slice a0 xs.length c0] W fun e w' => e = .returned (faultV (lineF xs)) ∧ Below W.heap.size W w') := fun W hW => checkLine_any W _ xs (hL.below hW) hn
  obtain ⟨R, eR⟩ : ∃ R, groupF c xs = R := ⟨_, rfl⟩
  rw [eR]
  unfold groupF at eR
  obtain ⟨⟨F0, F1⟩, eF⟩ : ∃ F, lineF xs = F := ⟨_, rfl⟩
  rw [eF] at HC eR
  unfold maxLen at hn
  generalize xs.length = n at *
  simp only at eR
  have HR := hide eR
  clear h hL eR eF
  obtain ⟨W0, e0, hB, k0, k1⟩ := two_new w (.cells #[.int .i64 c, .slice a0 n c0] 24) (.cells #[.int .i64 0, .int .i64 0] 29)
  have HX := hide hB; have HP := hide k0; have HQ := hide k1; have HE := hide e0
  clear hB k0 k1 e0
  go_enter Try.func36, Try.ntmps36
  go_upto_region 1 with fail
  rw [unhide HE]
  clear HE
  obtain ⟨p0, p1, pf0, pf1, pl⟩ := block2 (unhide HP)
  go_upto_region 2 with (go_at_call 50; refine (unhide HC _ (unhide HX)).mono ?_; rintro e w1 ⟨he, hb1⟩; obtain rfl : e = .returned (.agg #[.int .i64 F0, .int .i64 F1]) := he; have HX_1 := hide (Below.next (unhide HX) hb1 (by first | exact Nat.le_refl _ | (have := unhide HBA; omega))); have Kp_1 := hide (keep_below (unhide HP) hb1); have Kq_1 := hide (keep_below (unhide HQ) hb1); clear HX HP HQ; clear hb1 p0 p1 pf0 pf1 pl)
  have HX_2 := hide ((unhide HX_1).alloc (Nat.le_trans (show w.heap.size ≤ w.heap.size from Nat.le_refl _) (unhide HX_1).size) (.cells #[.int .i64 F0, .int .i64 F1] 29))
  have Kp_2 := hide (keep_alloc (unhide Kp_1) (.cells #[.int .i64 F0, .int .i64 F1] 29))
  have Kq_2 := hide (keep_alloc (unhide Kq_1) (.cells #[.int .i64 F0, .int .i64 F1] 29))
  have Kf_2 := hide (new_block w1 (.cells #[.int .i64 F0, .int .i64 F1] 29))
  have hlp_f : w.heap.size < w1.heap.size := size_of (unhide Kp_1)
  have hlq_f : w.heap.size + 1 < w1.heap.size := size_of (unhide Kq_1)
  obtain ⟨T, eT⟩ : ∃ X, w1.heap.size = X := ⟨_, rfl⟩
  obtain ⟨W2, eW2⟩ : ∃ X, w1.alloc (.cells #[.int .i64 F0, .int .i64 F1] 29) = X := ⟨_, rfl⟩
  rw [eT, eW2] at Kf_2; rw [eW2] at HX_2 Kp_2 Kq_2; rw [eT] at hlp_f hlq_f; rw [eT, eW2]
  clear eT eW2 HX_1 Kp_1 Kq_1
  have hqt : w.heap.size + 1 < T := by omega
  obtain ⟨p0, p1, pf0, pf1, pl⟩ := block2 (unhide Kp_2)
  obtain ⟨q0, q1, qf0, qf1, ql⟩ := block2 (unhide Kq_2)
  obtain ⟨f0, f1, ff0, ff1, fl⟩ := block2 (unhide Kf_2)
  by_cases hF : F0 = 0
  · have hr := unhide HR
    rw [if_neg (by simpa using hF)] at hr
    have HR2 := hide hr
    subst hF
    clear HR hr
    by_cases h1 : c < 0
    · have hr := unhide HR2
      rw [if_pos (Or.inl h1)] at hr
      subst hr
      clear HR2
      go_wp2_with fail
      exact bodyPost_ret (v := .agg #[.int .i64 3, .int .i64 0]) (by simp [results, Try.results36, go_sem, q0, q1]) rfl ⟨rfl, below_set2 (unhide HX_2) (Nat.le_succ _) _ _⟩
    by_cases h2 : 1000000000 < c
    · have hr := unhide HR2
      rw [if_pos (Or.inr h2)] at hr
      subst hr
      clear HR2
      go_wp2_with fail
      exact bodyPost_ret (v := .agg #[.int .i64 3, .int .i64 0]) (by simp [results, Try.results36, go_sem, q0, q1]) rfl ⟨rfl, below_set2 (unhide HX_2) (Nat.le_succ _) _ _⟩
    have hr := unhide HR2
    rw [if_neg (fun h => h.elim h1 h2)] at hr
    have HR3 := hide hr
    clear HR2 hr
    by_cases h3 : c = 0
    · by_cases h4 : 0 < n
      · have hr := unhide HR3
        rw [if_pos ⟨h3, h4⟩] at hr
        subst hr
        subst h3
        have j4 : (0 : Int) < (n : Int) := by omega
        clear HR3
        go_wp2_with fail
        exact bodyPost_ret (v := .agg #[.int .i64 5, .int .i64 0]) (by simp [results, Try.results36, go_sem, q0, q1]) rfl ⟨rfl, below_set2 (unhide HX_2) (Nat.le_succ _) _ _⟩
      · have hr := unhide HR3
        rw [if_neg (fun h => h4 h.2)] at hr
        subst hr
        subst h3
        have j4 : ¬ (0 : Int) < (n : Int) := by omega
        clear HR3
        go_wp2_with fail
        exact bodyPost_ret (v := .agg #[.int .i64 0, .int .i64 0]) (by simp [results, Try.results36, go_sem, q0, q1]) rfl ⟨rfl, below_set2 (unhide HX_2) (Nat.le_succ _) _ _⟩
    · have hr := unhide HR3
      rw [if_neg (fun h => h3 h.1)] at hr
      subst hr
      have j3 : (c == 0) = false := by simpa using h3
      clear HR3 h3
      go_wp2_with fail
      exact bodyPost_ret (v := .agg #[.int .i64 0, .int .i64 0]) (by simp [results, Try.results36, go_sem, q0, q1]) rfl ⟨rfl, below_set2 (unhide HX_2) (Nat.le_succ _) _ _⟩
  · have hr := unhide HR
    rw [if_pos hF] at hr
    subst hr
    have x0 : (F0 != 0) = true := by simpa using hF
    clear HR hF
    go_wp2_with fail
    exact bodyPost_ret (v := .agg #[.int .i64 F0, .int .i64 F1]) (by simp [results, Try.results36, go_sem, q0, q1]) rfl ⟨rfl, below_set2 (unhide HX_2) (Nat.le_succ _) _ _⟩

set_option maxRecDepth 100000 in
set_option maxHeartbeats 2000000 in
theorem checkAdd_any (w : World) (v : Value) (c : Int) (xs : List Int) (x : Int) (h : IsG KI w v c xs) (hn : xs.length ≤ maxLen) :
    Calls Try.prog 34 #[v, .int .i64 x] w fun e w' => e = .returned (faultV (addF c xs x)) ∧ Below w.heap.size w w' := by
  have HC : Hid (∀ W, Below w.heap.size w W → Calls Try.prog 36 #[v] W fun e w' => e = .returned (faultV (groupF c xs)) ∧ Below W.heap.size W w') := fun W hW => checkGroup_any W v c xs (h.below hW) hn
  obtain ⟨R, eR⟩ : ∃ R, addF c xs x = R := ⟨_, rfl⟩
  rw [eR]
  unfold addF at eR
  have HGD : Hid ((groupF c xs).1 = 0 → 0 ≤ c ∧ c ≤ 1000000000) := fun hz => ⟨(groupF_good hz).2.2.2.1, (groupF_good hz).2.2.2.2.1⟩
  obtain ⟨⟨F0, F1⟩, eF⟩ : ∃ F, groupF c xs = F := ⟨_, rfl⟩
  rw [eF] at HC eR HGD
  obtain ⟨a0, c0, rfl, hL⟩ := h.form
  generalize xs.length = n at *
  simp only at eR HGD
  have HR := hide eR
  clear h hL eR eF
  obtain ⟨W0, e0, hB, k0, k1⟩ := two_new w (.cells #[.int .i64 c, .slice a0 n c0] 24) (.cells #[.int .i64 0, .int .i64 0] 29)
  have HX := hide hB; have HP := hide k0; have HQ := hide k1; have HE := hide e0
  clear hB k0 k1 e0
  go_enter Try.func34, Try.ntmps34
  go_upto_region 1 with fail
  rw [unhide HE]
  clear HE
  obtain ⟨p0, p1, pf0, pf1, pl⟩ := block2 (unhide HP)
  go_upto_region 2 with (go_at_call 36; refine (unhide HC _ (unhide HX)).mono ?_; rintro e w1 ⟨he, hb1⟩; obtain rfl : e = .returned (.agg #[.int .i64 F0, .int .i64 F1]) := he; have HX_1 := hide (Below.next (unhide HX) hb1 (by first | exact Nat.le_refl _ | (have := unhide HBA; omega))); have Kp_1 := hide (keep_below (unhide HP) hb1); have Kq_1 := hide (keep_below (unhide HQ) hb1); clear HX HP HQ; clear hb1 p0 p1 pf0 pf1 pl)
  have HX_2 := hide ((unhide HX_1).alloc (Nat.le_trans (show w.heap.size ≤ w.heap.size from Nat.le_refl _) (unhide HX_1).size) (.cells #[.int .i64 F0, .int .i64 F1] 29))
  have Kp_2 := hide (keep_alloc (unhide Kp_1) (.cells #[.int .i64 F0, .int .i64 F1] 29))
  have Kq_2 := hide (keep_alloc (unhide Kq_1) (.cells #[.int .i64 F0, .int .i64 F1] 29))
  have Kf_2 := hide (new_block w1 (.cells #[.int .i64 F0, .int .i64 F1] 29))
  have hlp_f : w.heap.size < w1.heap.size := size_of (unhide Kp_1)
  have hlq_f : w.heap.size + 1 < w1.heap.size := size_of (unhide Kq_1)
  obtain ⟨T, eT⟩ : ∃ X, w1.heap.size = X := ⟨_, rfl⟩
  obtain ⟨W2, eW2⟩ : ∃ X, w1.alloc (.cells #[.int .i64 F0, .int .i64 F1] 29) = X := ⟨_, rfl⟩
  rw [eT, eW2] at Kf_2; rw [eW2] at HX_2 Kp_2 Kq_2; rw [eT] at hlp_f hlq_f; rw [eT, eW2]
  clear eT eW2 HX_1 Kp_1 Kq_1
  have hqt : w.heap.size + 1 < T := by omega
  obtain ⟨p0, p1, pf0, pf1, pl⟩ := block2 (unhide Kp_2)
  obtain ⟨q0, q1, qf0, qf1, ql⟩ := block2 (unhide Kq_2)
  obtain ⟨f0, f1, ff0, ff1, fl⟩ := block2 (unhide Kf_2)
  by_cases hF : F0 = 0
  · have hr := unhide HR
    rw [if_neg (by simpa using hF)] at hr
    have HR2 := hide hr
    subst hF
    obtain ⟨hf0, hf1⟩ := unhide HGD rfl
    clear HR hr HGD
    by_cases h1 : x < -1000000000
    · have hr := unhide HR2
      rw [if_pos (Or.inl h1)] at hr
      subst hr
      clear HR2
      go_wp2_with fail
      exact bodyPost_ret (v := .agg #[.int .i64 3, .int .i64 (-1)]) (by simp [results, Try.results34, go_sem, q0, q1]) rfl ⟨rfl, below_set2 (unhide HX_2) (Nat.le_succ _) _ _⟩
    by_cases h2 : 1000000000 < x
    · have hr := unhide HR2
      rw [if_pos (Or.inr h2)] at hr
      subst hr
      clear HR2
      go_wp2_with fail
      exact bodyPost_ret (v := .agg #[.int .i64 3, .int .i64 (-1)]) (by simp [results, Try.results34, go_sem, q0, q1]) rfl ⟨rfl, below_set2 (unhide HX_2) (Nat.le_succ _) _ _⟩
    have hr := unhide HR2
    rw [if_neg (fun h => h.elim h1 h2)] at hr
    have HR3 := hide hr
    have hwf : IntKind.i64.wrap (c + x) = c + x := wrapi (by omega) (by omega)
    clear HR2 hr
    by_cases h3 : 1000000000 < c + x
    · have hr := unhide HR3
      rw [if_pos h3] at hr
      subst hr
      clear HR3
      go_wp2_with fail
      exact bodyPost_ret (v := .agg #[.int .i64 9, .int .i64 0]) (by simp [results, Try.results34, go_sem, q0, q1]) rfl ⟨rfl, below_set2 (unhide HX_2) (Nat.le_succ _) _ _⟩
    · have hr := unhide HR3
      rw [if_neg h3] at hr
      subst hr
      clear HR3
      go_wp2_with fail
      exact bodyPost_ret (v := .agg #[.int .i64 0, .int .i64 0]) (by simp [results, Try.results34, go_sem, q0, q1]) rfl ⟨rfl, below_set2 (unhide HX_2) (Nat.le_succ _) _ _⟩
  · have hr := unhide HR
    rw [if_pos hF] at hr
    subst hr
    have x0 : (F0 != 0) = true := by simpa using hF
    clear HR hF
    go_wp2_with fail
    exact bodyPost_ret (v := .agg #[.int .i64 F0, .int .i64 F1]) (by simp [results, Try.results34, go_sem, q0, q1]) rfl ⟨rfl, below_set2 (unhide HX_2) (Nat.le_succ _) _ _⟩
end Go.Proofs.Ytpogcfdmkeebmaa
