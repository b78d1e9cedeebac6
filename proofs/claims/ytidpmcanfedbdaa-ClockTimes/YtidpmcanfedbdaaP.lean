/-
  clock.checkSet, clock.Stop, clock.Soon, clock.Set.
-/
import Derived.Test.YtidpmcanfedbdaaO
namespace Go.Proofs.Ytidpmcanfedbdaa
open Go.RowKit

/-- What is wrong with a Set. -/
def setF (now next : Int) (xs : List Al) (id after period : Int) : Int × Int := if (clockF now next xs).1 ≠ 0 then clockF now next xs else if id < 1 ∨ ¬ (1 ≤ after ∧ after ≤ 1000000000) ∨ ¬ (0 ≤ period ∧ period ≤ 1000000000) then (3, -1) else if (noL id xs).length = 5000 ∨ next = 1000000000 then (9, 0) else (0, 0)
theorem setF_good {now next : Int} {xs : List Al} {id after period : Int} (h : (setF now next xs id after period).1 = 0) : setF now next xs id after period = (0, 0) ∧ Good now next xs ∧ 1 ≤ id ∧ 1 ≤ after ∧ after ≤ 1000000000 ∧ 0 ≤ period ∧ period ≤ 1000000000 ∧ (noL id xs).length ≠ 5000 ∧ next ≠ 1000000000 := by
  unfold setF at h ⊢
  split at h
  · rename_i q; exact absurd h q
  rename_i q0
  split at h
  · cases h
  rename_i q1
  split at h
  · cases h
  rename_i q2
  rw [if_neg q0, if_neg q1, if_neg q2]
  exact ⟨rfl, (clockF_good (by omega)).2, by omega, by omega, by omega, by omega, by omega, by omega, by omega⟩
theorem setF_fine {now next : Int} {xs : List Al} {id after period : Int} (g : Good now next xs) (h1 : 1 ≤ id) (h2 : 1 ≤ after ∧ after ≤ 1000000000) (h3 : 0 ≤ period ∧ period ≤ 1000000000) (h4 : (noL id xs).length ≠ 5000) (h5 : next ≠ 1000000000) : setF now next xs id after period = (0, 0) := by
  unfold setF
  rw [good_clockF g, if_neg (by simp), if_neg (by omega), if_neg (by omega)]

set_option maxRecDepth 100000 in
set_option maxHeartbeats 2000000 in
theorem checkSet_any (w : World) (v : Value) (now next : Int) (xs : List Al) (id after period : Int) (h : IsC w v now next xs) (hn : xs.length ≤ maxLen) :
    Calls Try.prog 30 #[v, .int .i64 id, .int .i64 after, .int .i64 period] w fun e w' => e = .returned (faultV (setF now next xs id after period)) ∧ Below w.heap.size w w' := by
  have HC : Hid (∀ W, Below w.heap.size w W → Calls Try.prog 11 #[v] W fun e w' => e = .returned (faultV (clockF now next xs)) ∧ Below W.heap.size W w') := fun W hW => check_any W v now next xs (h.below hW) hn
  obtain ⟨R, eR⟩ : ∃ R, setF now next xs id after period = R := ⟨_, rfl⟩
  rw [eR]
  unfold setF at eR
  have HGD : Hid ((clockF now next xs).1 = 0 → xs.length ≤ 5000) := fun hz => (clockF_good hz).2.len
  obtain ⟨⟨F0, F1⟩, eF⟩ : ∃ F, clockF now next xs = F := ⟨_, rfl⟩
  rw [eF] at HC eR HGD
  obtain ⟨a0, c0, rfl, hL⟩ := h.form
  have HWO : Hid (∀ W, Below w.heap.size w W → xs.length ≤ 5000 → Calls Try.prog 31 #[.slice a0 xs.length c0, .int .i64 id] W fun e w' => ∃ a c, e = .returned (.slice a (noL id xs).length c) ∧ Own KA W.heap.size w' (.slice a (noL id xs).length c) (noL id xs) ∧ Below W.heap.size W w') := fun W hW hl => without_any W _ xs id (hL.below hW) (by omega)
  obtain ⟨n, en⟩ : ∃ n, xs.length = n := ⟨_, rfl⟩
  rw [en] at HC HWO HGD hn ⊢
  obtain ⟨m, em⟩ : ∃ m, (noL id xs).length = m := ⟨_, rfl⟩
  rw [em] at HWO eR
  simp only at eR HGD
  have HR := hide eR
  clear h hL eR eF en em
  obtain ⟨W0, e0, hB, k0, k1⟩ := two_new w (.cells #[.int .i64 now, .int .i64 next, .slice a0 n c0] 24) (.cells #[.int .i64 0, .int .i64 0] 29)
  have HX := hide hB; have HP := hide k0; have HQ := hide k1; have HE := hide e0
  clear hB k0 k1 e0
  go_enter Try.func30, Try.ntmps30
  go_upto_region 1 with fail
  rw [unhide HE]
  clear HE
  obtain ⟨⟨p0, p1, p2⟩, ⟨pf0, pf1, pf2⟩, pl⟩ := block3 (unhide HP)
  go_upto_region 2 with (go_at_call 11; refine (unhide HC _ (unhide HX)).mono ?_; rintro e w1 ⟨he, hb1⟩; obtain rfl : e = .returned (.agg #[.int .i64 F0, .int .i64 F1]) := he; have HX_1 := hide (Below.next (unhide HX) hb1 (by first | exact Nat.le_refl _ | (have := unhide HBA; omega))); have Kp_1 := hide (keep_below (unhide HP) hb1); have Kq_1 := hide (keep_below (unhide HQ) hb1); clear HX HP HQ; clear hb1 p0 p1 p2 pf0 pf1 pf2 pl)
  have HX_2 := hide ((unhide HX_1).alloc (Nat.le_trans (show w.heap.size ≤ w.heap.size from Nat.le_refl _) (unhide HX_1).size) (.cells #[.int .i64 F0, .int .i64 F1] 29))
  have Kp_2 := hide (keep_alloc (unhide Kp_1) (.cells #[.int .i64 F0, .int .i64 F1] 29))
  have Kq_2 := hide (keep_alloc (unhide Kq_1) (.cells #[.int .i64 F0, .int .i64 F1] 29))
  have Kf_2 := hide (new_block w1 (.cells #[.int .i64 F0, .int .i64 F1] 29))
  have hlp_f : w.heap.size < w1.heap.size := size_of (unhide Kp_1)
  have hlq_f : w.heap.size + 1 < w1.heap.size := size_of (unhide Kq_1)
  obtain ⟨T, eT⟩ : ∃ X, w1.heap.size = X := ⟨_, rfl⟩
  obtain ⟨W2, eW2⟩ : ∃ X, w1.alloc (.cells #[.int .i64 F0, .int .i64 F1] 29) = X := ⟨_, rfl⟩
  rw [eT, eW2] at Kf_2; rw [eW2] at HX_2 Kp_2 Kq_2; rw [eT] at hlp_f hlq_f; rw [eT, eW2]
  clear eT eW2 HX_1 Kp_1 Kq_1
  have hqt : w.heap.size + 1 < T := by omega
  obtain ⟨⟨p0, p1, p2⟩, ⟨pf0, pf1, pf2⟩, pl⟩ := block3 (unhide Kp_2)
  obtain ⟨q0, q1, qf0, qf1, ql⟩ := block2 (unhide Kq_2)
  obtain ⟨f0, f1, ff0, ff1, fl⟩ := block2 (unhide Kf_2)
  by_cases hF : F0 = 0
  · have hr := unhide HR
    rw [if_neg (by simpa using hF)] at hr
    have HR2 := hide hr
    have hn5 := unhide HGD hF
    have HWO2 := hide (fun W hW => unhide HWO W hW hn5)
    subst hF
    clear HR hr HGD HWO
    by_cases h1 : id < 1
    · have hr := unhide HR2
      rw [if_pos (Or.inl h1)] at hr
      subst hr
      clear HR2
      go_wp2_with fail
      exact bodyPost_ret (v := .agg #[.int .i64 3, .int .i64 (-1)]) (by simp [results, Try.results30, go_sem, q0, q1]) rfl ⟨rfl, below_set2 (unhide HX_2) (Nat.le_succ _) _ _⟩
    have HA := hide (fun W => within_any W after 1 1000000000)
    have HB := hide (fun W => within_any W period 0 1000000000)
    by_cases h2 : 1 ≤ after ∧ after ≤ 1000000000
    · rw [decide_eq_true h2] at HA
      by_cases h3 : 0 ≤ period ∧ period ≤ 1000000000
      · rw [decide_eq_true h3] at HB
        have hr := unhide HR2
        rw [if_neg (by omega)] at hr
        have HR3 := hide hr
        clear HR2 hr h2 h3
        by_cases h4 : m = 5000
        · subst h4
          have hr := unhide HR3
          rw [if_pos (Or.inl rfl)] at hr
          subst hr
          clear HR3
          go_wp2_with (first | (go_at_call 23; (first | (with_reducible refine Calls.mono (unhide HA _) ?_) | (with_reducible refine Calls.mono (unhide HB _) ?_)); rintro e w3 ⟨rfl, rfl⟩) | (go_at_call 31; refine (unhide HWO2 _ (unhide HX_2)).mono ?_; rintro e w5 ⟨a5, c5, rfl, -, hb5⟩; have HX_3 := hide (Below.next (unhide HX_2) hb5 (by first | exact Nat.le_refl _ | (have := unhide HBA; omega))); have Kp_3 := hide (keep_below (unhide Kp_2) hb5); have Kq_3 := hide (keep_below (unhide Kq_2) hb5); have Kf_3 := hide (keep_below (unhide Kf_2) hb5); clear HX_2 Kp_2 Kq_2 Kf_2; clear hb5 p0 p1 p2 pf0 pf1 pf2 pl q0 q1 qf0 qf1 ql f0 f1 ff0 ff1 fl; obtain ⟨⟨p0, p1, p2⟩, ⟨pf0, pf1, pf2⟩, pl⟩ := block3 (unhide Kp_3); obtain ⟨q0, q1, qf0, qf1, ql⟩ := block2 (unhide Kq_3); obtain ⟨f0, f1, ff0, ff1, fl⟩ := block2 (unhide Kf_3)))
          exact bodyPost_ret (v := .agg #[.int .i64 9, .int .i64 0]) (by simp [results, Try.results30, go_sem, q0, q1]) rfl ⟨rfl, below_set2 (unhide HX_3) (Nat.le_succ _) _ _⟩
        by_cases h5 : next = 1000000000
        · subst h5
          have hr := unhide HR3
          rw [if_pos (Or.inr rfl)] at hr
          subst hr
          have j4 : ((m : Int) == 5000) = false := by rw [beq_eq_false_iff_ne]; omega
          clear HR3
          go_wp2_with (first | (go_at_call 23; (first | (with_reducible refine Calls.mono (unhide HA _) ?_) | (with_reducible refine Calls.mono (unhide HB _) ?_)); rintro e w3 ⟨rfl, rfl⟩) | (go_at_call 31; refine (unhide HWO2 _ (unhide HX_2)).mono ?_; rintro e w5 ⟨a5, c5, rfl, -, hb5⟩; have HX_3 := hide (Below.next (unhide HX_2) hb5 (by first | exact Nat.le_refl _ | (have := unhide HBA; omega))); have Kp_3 := hide (keep_below (unhide Kp_2) hb5); have Kq_3 := hide (keep_below (unhide Kq_2) hb5); have Kf_3 := hide (keep_below (unhide Kf_2) hb5); clear HX_2 Kp_2 Kq_2 Kf_2; clear hb5 p0 p1 p2 pf0 pf1 pf2 pl q0 q1 qf0 qf1 ql f0 f1 ff0 ff1 fl; obtain ⟨⟨p0, p1, p2⟩, ⟨pf0, pf1, pf2⟩, pl⟩ := block3 (unhide Kp_3); obtain ⟨q0, q1, qf0, qf1, ql⟩ := block2 (unhide Kq_3); obtain ⟨f0, f1, ff0, ff1, fl⟩ := block2 (unhide Kf_3)))
          exact bodyPost_ret (v := .agg #[.int .i64 9, .int .i64 0]) (by simp [results, Try.results30, go_sem, q0, q1]) rfl ⟨rfl, below_set2 (unhide HX_3) (Nat.le_succ _) _ _⟩
        have hr := unhide HR3
        rw [if_neg (fun h => h.elim h4 h5)] at hr
        subst hr
        have j4 : ((m : Int) == 5000) = false := by rw [beq_eq_false_iff_ne]; omega
        have j5 : (next == 1000000000) = false := by simpa using h5
        clear HR3
        go_wp2_with (first | (go_at_call 23; (first | (with_reducible refine Calls.mono (unhide HA _) ?_) | (with_reducible refine Calls.mono (unhide HB _) ?_)); rintro e w3 ⟨rfl, rfl⟩) | (go_at_call 31; refine (unhide HWO2 _ (unhide HX_2)).mono ?_; rintro e w5 ⟨a5, c5, rfl, -, hb5⟩; have HX_3 := hide (Below.next (unhide HX_2) hb5 (by first | exact Nat.le_refl _ | (have := unhide HBA; omega))); have Kp_3 := hide (keep_below (unhide Kp_2) hb5); have Kq_3 := hide (keep_below (unhide Kq_2) hb5); have Kf_3 := hide (keep_below (unhide Kf_2) hb5); clear HX_2 Kp_2 Kq_2 Kf_2; clear hb5 p0 p1 p2 pf0 pf1 pf2 pl q0 q1 qf0 qf1 ql f0 f1 ff0 ff1 fl; obtain ⟨⟨p0, p1, p2⟩, ⟨pf0, pf1, pf2⟩, pl⟩ := block3 (unhide Kp_3); obtain ⟨q0, q1, qf0, qf1, ql⟩ := block2 (unhide Kq_3); obtain ⟨f0, f1, ff0, ff1, fl⟩ := block2 (unhide Kf_3)))
        exact bodyPost_ret (v := .agg #[.int .i64 0, .int .i64 0]) (by simp [results, Try.results30, go_sem, q0, q1]) rfl ⟨rfl, below_set2 (unhide HX_3) (Nat.le_succ _) _ _⟩
      · rw [decide_eq_false h3] at HB
        have hr := unhide HR2
        rw [if_pos (by omega)] at hr
        subst hr
        clear HR2 h2 h3
        go_wp2_with (go_at_call 23; (first | (with_reducible refine Calls.mono (unhide HA _) ?_) | (with_reducible refine Calls.mono (unhide HB _) ?_)); rintro e w3 ⟨rfl, rfl⟩)
        exact bodyPost_ret (v := .agg #[.int .i64 3, .int .i64 (-1)]) (by simp [results, Try.results30, go_sem, q0, q1]) rfl ⟨rfl, below_set2 (unhide HX_2) (Nat.le_succ _) _ _⟩
    · rw [decide_eq_false h2] at HA
      have hr := unhide HR2
      rw [if_pos (by omega)] at hr
      subst hr
      clear HR2 h2
      go_wp2_with (go_at_call 23; (first | (with_reducible refine Calls.mono (unhide HA _) ?_) | (with_reducible refine Calls.mono (unhide HB _) ?_)); rintro e w3 ⟨rfl, rfl⟩)
      exact bodyPost_ret (v := .agg #[.int .i64 3, .int .i64 (-1)]) (by simp [results, Try.results30, go_sem, q0, q1]) rfl ⟨rfl, below_set2 (unhide HX_2) (Nat.le_succ _) _ _⟩
  · have hr := unhide HR
    rw [if_pos hF] at hr
    subst hr
    have x0 : (F0 != 0) = true := by simpa using hF
    clear HR hF
    go_wp2_with fail
    exact bodyPost_ret (v := .agg #[.int .i64 F0, .int .i64 F1]) (by simp [results, Try.results30, go_sem, q0, q1]) rfl ⟨rfl, below_set2 (unhide HX_2) (Nat.le_succ _) _ _⟩

end Go.Proofs.Ytidpmcanfedbdaa
