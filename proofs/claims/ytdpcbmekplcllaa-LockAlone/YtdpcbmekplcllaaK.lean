/-
  lock.checkEnter.
-/
import Derived.Test.YtdpcbmekplcllaaH
import Derived.Test.YtdpcbmekplcllaaJ
namespace Go.Proofs.Ytdpcbmekplcllaa
open Go.RowKit

theorem lineC_zero {pre : List Int} {l : List Po} {i : Int} (h : (lineC pre l i).1 = 0) : lineC pre l i = (0, 0) := by
  induction l generalizing pre i with
  | nil => rfl
  | cons x l ih =>
    unfold lineC at h ⊢
    split
    · rename_i hd
      rw [if_pos hd] at h
      exact absurd h hd
    · rename_i hd
      rw [if_neg hd] at h
      exact ih h
theorem lockF_zero {P : Lk} (h : (lockF P).1 = 0) : lockF P = (0, 0) := by
  unfold lockF at h ⊢
  split
  · rename_i hd
    rw [if_pos hd] at h
    exact absurd h hd
  · rename_i hd
    rw [if_neg hd] at h
    exact lineC_zero h
/-- What is wrong with an Enter. -/
def enterF (P : Lk) (x : Int) : Int × Int := if (lockF P).1 ≠ 0 then lockF P else if x < 1 then (3, -1) else if P.line.any (isOfP x) = true then (10, -1) else if P.line.length = 5000 ∨ P.readers = 1000000000 then (9, 0) else (0, 0)

set_option maxRecDepth 100000 in
set_option maxHeartbeats 2000000 in
theorem checkEnter_any (w : World) (v : Value) (P : Lk) (x : Int) (h : IsLock w v P) (hn : P.line.length ≤ 100000) :
    Calls Try.prog 28 #[v, .int .i64 x] w fun e w' => e = .returned (.agg #[.int .i64 (enterF P x).1, .int .i64 (enterF P x).2]) ∧ Below w.heap.size w w' := by
  have HC : Hid (∀ W, Below w.heap.size w W → Calls Try.prog 10 #[v] W fun e w' => e = .returned (.agg #[.int .i64 (lockF P).1, .int .i64 (lockF P).2]) ∧ Below W.heap.size W w') := fun W hW => check_any W v P (h.below hW) hn
  have HWT : Hid (∀ W, Below w.heap.size w W → Calls Try.prog 31 #[v, .int .i64 x] W fun e w' => e = .returned (.bool (P.line.any (isOfP x))) ∧ Below W.heap.size W w') := fun W hW => waits_any W v P x (h.below hW) (by unfold maxLen; omega)
  obtain ⟨R, eR⟩ : ∃ R, enterF P x = R := ⟨_, rfl⟩
  rw [eR]
  unfold enterF at eR
  obtain ⟨Q, eQ⟩ : ∃ Q, P.line.any (isOfP x) = Q := ⟨_, rfl⟩
  obtain ⟨⟨F0, F1⟩, eF⟩ : ∃ F, lockF P = F := ⟨_, rfl⟩
  rw [eQ] at HWT eR; rw [eF] at HC eR
  obtain ⟨r, bw, line⟩ := P
  obtain ⟨a0, c0, rfl, hL⟩ := h.form
  simp only at hL HC HWT eR hn ⊢
  generalize line.length = n at *
  have HR := hide eR
  clear h hL eR eQ eF
  obtain ⟨W0, e0, hB, k0, k1⟩ := two_new w (.cells #[.int .i64 r, .bool bw, .slice a0 n c0] 24) (.cells #[.int .i64 0, .int .i64 0] 28)
  have HX := hide hB; have HP := hide k0; have HQ := hide k1; have HE := hide e0
  clear hB k0 k1 e0
  go_enter Try.func28, Try.ntmps28
  go_upto_region 1 with fail
  rw [unhide HE]
  clear HE
  obtain ⟨⟨p0, p1, p2⟩, ⟨pf0, pf1, pf2⟩, pl⟩ := block3 (unhide HP)
  go_upto_region 2 with (go_at_call 10; refine (unhide HC _ (unhide HX)).mono ?_; rintro e w1 ⟨rfl, hb1⟩; have HX_1 := hide (Below.next (unhide HX) hb1 (by first | exact Nat.le_refl _ | (have := unhide HBA; omega))); have Kp_1 := hide (keep_below (unhide HP) hb1); have Kq_1 := hide (keep_below (unhide HQ) hb1); clear HX HP HQ; clear hb1 p0 p1 p2 pf0 pf1 pf2 pl)
  have HX_2 := hide ((unhide HX_1).alloc (Nat.le_trans (show w.heap.size ≤ w.heap.size from Nat.le_refl _) (unhide HX_1).size) (.cells #[.int .i64 F0, .int .i64 F1] 28))
  have Kp_2 := hide (keep_alloc (unhide Kp_1) (.cells #[.int .i64 F0, .int .i64 F1] 28))
  have Kq_2 := hide (keep_alloc (unhide Kq_1) (.cells #[.int .i64 F0, .int .i64 F1] 28))
  have Kf_2 := hide (new_block w1 (.cells #[.int .i64 F0, .int .i64 F1] 28))
  have hlp_f : w.heap.size < w1.heap.size := size_of (unhide Kp_1)
  have hlq_f : w.heap.size + 1 < w1.heap.size := size_of (unhide Kq_1)
  obtain ⟨T, eT⟩ : ∃ X, w1.heap.size = X := ⟨_, rfl⟩
  obtain ⟨W2, eW2⟩ : ∃ X, w1.alloc (.cells #[.int .i64 F0, .int .i64 F1] 28) = X := ⟨_, rfl⟩
  rw [eT, eW2] at Kf_2; rw [eW2] at HX_2 Kp_2 Kq_2; rw [eT] at hlp_f hlq_f; rw [eT, eW2]
  clear eT eW2 HX_1 Kp_1 Kq_1
  have hqt : w.heap.size + 1 < T := by omega
  obtain ⟨⟨p0, p1, p2⟩, ⟨pf0, pf1, pf2⟩, pl⟩ := block3 (unhide Kp_2)
  obtain ⟨q0, q1, qf0, qf1, ql⟩ := block2 (unhide Kq_2)
  obtain ⟨f0, f1, ff0, ff1, fl⟩ := block2 (unhide Kf_2)
  by_cases hF : F0 = 0
  · have hr := unhide HR
    rw [if_neg (by simpa using hF)] at hr
    have HR2 := hide hr
    subst hF
    clear HR hr
    by_cases hx1 : x < 1
    · have hr := unhide HR2
      rw [if_pos hx1] at hr
      subst hr
      clear HR2
      go_wp2_with fail
      exact bodyPost_ret (v := .agg #[.int .i64 3, .int .i64 (-1)]) (by simp [results, Try.results28, go_sem, q0, q1]) rfl ⟨rfl, below_set2 (unhide HX_2) (Nat.le_succ _) _ _⟩
    · have hr := unhide HR2
      rw [if_neg hx1] at hr
      have HR3 := hide hr
      clear HR2 hr
      cases Q with
      | true =>
        have hr := unhide HR3
        rw [if_pos rfl] at hr
        subst hr
        clear HR3
        go_wp2_with (go_at_call 31; refine (unhide HWT _ (unhide HX_2)).mono ?_; rintro e w3 ⟨rfl, hb3⟩; have HX_3 := hide (Below.next (unhide HX_2) hb3 (by first | exact Nat.le_refl _ | (have := unhide HBA; omega))); have Kp_3 := hide (keep_below (unhide Kp_2) hb3); have Kq_3 := hide (keep_below (unhide Kq_2) hb3); have Kf_3 := hide (keep_below (unhide Kf_2) hb3); clear HX_2 Kp_2 Kq_2 Kf_2; clear hb3 p0 p1 p2 pf0 pf1 pf2 pl q0 q1 qf0 qf1 ql f0 f1 ff0 ff1 fl; obtain ⟨⟨p0, p1, p2⟩, -, pl⟩ := block3 (unhide Kp_3); obtain ⟨q0, q1, qf0, qf1, ql⟩ := block2 (unhide Kq_3))
        exact bodyPost_ret (v := .agg #[.int .i64 10, .int .i64 (-1)]) (by simp [results, Try.results28, go_sem, q0, q1]) rfl ⟨rfl, below_set2 (unhide HX_3) (Nat.le_succ _) _ _⟩
      | false =>
        have hr := unhide HR3
        rw [if_neg (by simp)] at hr
        have HR4 := hide hr
        clear HR3 hr
        by_cases hn5 : n = 5000
        · have hr := unhide HR4
          rw [if_pos (Or.inl hn5)] at hr
          subst hr
          subst hn5
          clear HR4
          go_wp2_with (go_at_call 31; refine (unhide HWT _ (unhide HX_2)).mono ?_; rintro e w3 ⟨rfl, hb3⟩; have HX_3 := hide (Below.next (unhide HX_2) hb3 (by first | exact Nat.le_refl _ | (have := unhide HBA; omega))); have Kp_3 := hide (keep_below (unhide Kp_2) hb3); have Kq_3 := hide (keep_below (unhide Kq_2) hb3); have Kf_3 := hide (keep_below (unhide Kf_2) hb3); clear HX_2 Kp_2 Kq_2 Kf_2; clear hb3 p0 p1 p2 pf0 pf1 pf2 pl q0 q1 qf0 qf1 ql f0 f1 ff0 ff1 fl; obtain ⟨⟨p0, p1, p2⟩, -, pl⟩ := block3 (unhide Kp_3); obtain ⟨q0, q1, qf0, qf1, ql⟩ := block2 (unhide Kq_3))
          exact bodyPost_ret (v := .agg #[.int .i64 9, .int .i64 0]) (by simp [results, Try.results28, go_sem, q0, q1]) rfl ⟨rfl, below_set2 (unhide HX_3) (Nat.le_succ _) _ _⟩
        · have xn : ((n : Int) == 5000) = false := by simp; omega
          by_cases hr9 : r = 1000000000
          · have hr := unhide HR4
            rw [if_pos (Or.inr hr9)] at hr
            subst hr
            subst hr9
            clear HR4
            go_wp2_with (go_at_call 31; refine (unhide HWT _ (unhide HX_2)).mono ?_; rintro e w3 ⟨rfl, hb3⟩; have HX_3 := hide (Below.next (unhide HX_2) hb3 (by first | exact Nat.le_refl _ | (have := unhide HBA; omega))); have Kp_3 := hide (keep_below (unhide Kp_2) hb3); have Kq_3 := hide (keep_below (unhide Kq_2) hb3); have Kf_3 := hide (keep_below (unhide Kf_2) hb3); clear HX_2 Kp_2 Kq_2 Kf_2; clear hb3 p0 p1 p2 pf0 pf1 pf2 pl q0 q1 qf0 qf1 ql f0 f1 ff0 ff1 fl; obtain ⟨⟨p0, p1, p2⟩, -, pl⟩ := block3 (unhide Kp_3); obtain ⟨q0, q1, qf0, qf1, ql⟩ := block2 (unhide Kq_3))
            exact bodyPost_ret (v := .agg #[.int .i64 9, .int .i64 0]) (by simp [results, Try.results28, go_sem, q0, q1]) rfl ⟨rfl, below_set2 (unhide HX_3) (Nat.le_succ _) _ _⟩
          · have hr := unhide HR4
            rw [if_neg (fun h => h.elim hn5 hr9)] at hr
            subst hr
            have xr : (r == 1000000000) = false := by simpa using hr9
            clear HR4 hr9 hn5
            go_wp2_with (go_at_call 31; refine (unhide HWT _ (unhide HX_2)).mono ?_; rintro e w3 ⟨rfl, hb3⟩; have HX_3 := hide (Below.next (unhide HX_2) hb3 (by first | exact Nat.le_refl _ | (have := unhide HBA; omega))); have Kp_3 := hide (keep_below (unhide Kp_2) hb3); have Kq_3 := hide (keep_below (unhide Kq_2) hb3); have Kf_3 := hide (keep_below (unhide Kf_2) hb3); clear HX_2 Kp_2 Kq_2 Kf_2; clear hb3 p0 p1 p2 pf0 pf1 pf2 pl q0 q1 qf0 qf1 ql f0 f1 ff0 ff1 fl; obtain ⟨⟨p0, p1, p2⟩, -, pl⟩ := block3 (unhide Kp_3); obtain ⟨q0, q1, qf0, qf1, ql⟩ := block2 (unhide Kq_3))
            exact bodyPost_ret (v := .agg #[.int .i64 0, .int .i64 0]) (by simp [results, Try.results28, go_sem, q0, q1]) rfl ⟨rfl, below_set2 (unhide HX_3) (Nat.le_succ _) _ _⟩
  · have hr := unhide HR
    rw [if_pos hF] at hr
    subst hr
    have x0 : (F0 != 0) = true := by simpa using hF
    clear HR hF
    go_wp2_with fail
    exact bodyPost_ret (v := .agg #[.int .i64 F0, .int .i64 F1]) (by simp [results, Try.results28, go_sem, q0, q1]) rfl ⟨rfl, below_set2 (unhide HX_2) (Nat.le_succ _) _ _⟩
end Go.Proofs.Ytdpcbmekplcllaa
