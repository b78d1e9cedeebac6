/-
  lock.Enter.
-/
import Derived.Test.YtdpcbmekplcllaaG
import Derived.Test.YtdpcbmekplcllaaK
namespace Go.Proofs.Ytdpcbmekplcllaa
open Go.RowKit

theorem lockF_good {P : Lk} (h : (lockF P).1 = 0) : P.line.length ≤ 5000 ∧ 0 ≤ P.readers ∧ P.readers ≤ 1000000000 ∧ (P.writer = true → P.readers = 0) ∧ lets P.readers P.writer P.line = false ∧ lineC [] P.line 0 = (0, 0) := by
  have h0 := lockF_zero h
  unfold lockF at h0
  have hw : wholeC P.readers P.writer P.line = 0 := by
    by_cases hd : wholeC P.readers P.writer P.line = 0
    · exact hd
    · rw [if_pos hd] at h0
      injection h0
  rw [if_neg (by simpa using hw)] at h0
  unfold wholeC at hw
  split at hw
  · cases hw
  · split at hw
    · cases hw
    · split at hw
      · cases hw
      · rename_i q1 q2 q3
        refine ⟨by omega, by omega, by omega, fun hb => ?_, ?_, h0⟩
        · have : ¬ 0 < P.readers := fun h => q3 (Or.inl ⟨hb, h⟩)
          omega
        · cases hl : lets P.readers P.writer P.line with
          | false => rfl
          | true => exact absurd (Or.inr hl) q3
theorem enterF_good {P : Lk} {x : Int} (h : (enterF P x).1 = 0) : (lockF P).1 = 0 ∧ enterF P x = (0, 0) ∧ 1 ≤ x ∧ P.line.any (isOfP x) = false ∧ P.line.length < 5000 ∧ P.readers < 1000000000 := by
  unfold enterF at h ⊢
  split at h
  · rename_i q; exact absurd h q
  · rename_i q0
    have q0' : (lockF P).1 = 0 := by omega
    have hg := lockF_good q0'
    split at h
    · cases h
    · split at h
      · cases h
      · split at h
        · cases h
        · rename_i q1 q2 q3
          rw [if_neg q0, if_neg q1, if_neg q2, if_neg q3]
          refine ⟨q0', rfl, by omega, by simpa using q2, ?_, ?_⟩
          · have := fun h => q3 (Or.inl h); omega
          · have := fun h => q3 (Or.inr h); omega
theorem admR_len (r : Int) (bw : Bool) (l : List Po) : (admR r bw l).1.line.length ≤ l.length := by
  induction l generalizing r bw with
  | nil => exact Nat.le_refl _
  | cons x l ih =>
    unfold admR
    split
    · exact Nat.le_trans (ih _ _) (Nat.le_succ _)
    · exact Nat.le_refl _
/-- The lock behind an Enter that nothing is wrong with, and whether the task holds it. -/
def enterR (P : Lk) (x : Int) (wr try_ : Bool) : Lk × Bool := (if try_ = true ∧ (admR P.readers P.writer (P.line ++ [(x, wr, 0)])).1.line.any (isOfP x) = true then P else (admR P.readers P.writer (P.line ++ [(x, wr, 0)])).1, !(admR P.readers P.writer (P.line ++ [(x, wr, 0)])).1.line.any (isOfP x))

set_option maxRecDepth 100000 in
set_option maxHeartbeats 2000000 in
theorem enter_fault (w : World) (v : Value) (P : Lk) (x : Int) (wt try_ : Bool) (h : IsLock w v P) (hn : P.line.length ≤ 100000) (hf : (enterF P x).1 ≠ 0) :
    Calls Try.prog 11 #[v, .int .i64 x, .bool wt, .bool try_] w fun e w' => e = .returned (.tuple #[.agg #[.int .i64 0, .bool false, .slice none 0 0], .bool false, .agg #[.int .i64 (enterF P x).1, .int .i64 (enterF P x).2]]) ∧ Below w.heap.size w w' := by
  have HC : Hid (∀ W, Below w.heap.size w W → Calls Try.prog 28 #[v, .int .i64 x] W fun e w' => e = .returned (.agg #[.int .i64 (enterF P x).1, .int .i64 (enterF P x).2]) ∧ Below W.heap.size W w') := fun W hW => checkEnter_any W v P x (h.below hW) hn
  obtain ⟨⟨F0, F1⟩, eF⟩ : ∃ F, enterF P x = F := ⟨_, rfl⟩
  rw [eF] at HC hf ⊢
  obtain ⟨r, bw, line⟩ := P
  obtain ⟨a0, c0, rfl, hL⟩ := h.form
  simp only at hL HC hn hf ⊢
  generalize line.length = n at *
  have x0 : (F0 != 0) = true := by simpa using hf
  clear h hL eF hf
  obtain ⟨W0, e0, hB, k0, k1, k2⟩ := three_new w (.cells #[.int .i64 r, .bool bw, .slice a0 n c0] 24) (.cells #[.int .i64 0, .bool false, .slice none 0 0] 24) (.cells #[.int .i64 0, .int .i64 0] 28)
  have HX := hide hB; have HP := hide k0; have HQ := hide k1; have HG := hide k2; have HE := hide e0
  clear hB k0 k1 k2 e0
  go_enter Try.func11, Try.ntmps11
  go_upto_region 1 with fail
  rw [unhide HE]
  clear HE
  obtain ⟨⟨p0, p1, p2⟩, ⟨pf0, pf1, pf2⟩, pl⟩ := block3 (unhide HP)
  go_upto_region 2 with (go_at_call 28; refine (unhide HC _ (unhide HX)).mono ?_; rintro e w1 ⟨rfl, hb1⟩; have HX_1 := hide (Below.next (unhide HX) hb1 (by first | exact Nat.le_refl _ | (have := unhide HBA; omega))); have Kp_1 := hide (keep_below (unhide HP) hb1); have Kq_1 := hide (keep_below (unhide HQ) hb1); have Kg_1 := hide (keep_below (unhide HG) hb1); clear HX HP HQ HG; clear hb1 p0 p1 p2 pf0 pf1 pf2 pl)
  have HX_2 := hide ((unhide HX_1).alloc (Nat.le_trans (show w.heap.size ≤ w.heap.size from Nat.le_refl _) (unhide HX_1).size) (.cells #[.int .i64 F0, .int .i64 F1] 28))
  have Kp_2 := hide (keep_alloc (unhide Kp_1) (.cells #[.int .i64 F0, .int .i64 F1] 28))
  have Kq_2 := hide (keep_alloc (unhide Kq_1) (.cells #[.int .i64 F0, .int .i64 F1] 28))
  have Kg_2 := hide (keep_alloc (unhide Kg_1) (.cells #[.int .i64 F0, .int .i64 F1] 28))
  have Kf_2 := hide (new_block w1 (.cells #[.int .i64 F0, .int .i64 F1] 28))
  have hlp_f : w.heap.size < w1.heap.size := size_of (unhide Kp_1)
  have hlq_f : w.heap.size + 1 < w1.heap.size := size_of (unhide Kq_1)
  have hlg_f : w.heap.size + 1 + 1 < w1.heap.size := size_of (unhide Kg_1)
  obtain ⟨T, eT⟩ : ∃ X, w1.heap.size = X := ⟨_, rfl⟩
  obtain ⟨W2, eW2⟩ : ∃ X, w1.alloc (.cells #[.int .i64 F0, .int .i64 F1] 28) = X := ⟨_, rfl⟩
  rw [eT, eW2] at Kf_2; rw [eW2] at HX_2 Kp_2 Kq_2 Kg_2; rw [eT] at hlp_f hlq_f hlg_f; rw [eT, eW2]
  clear eT eW2 HX_1 Kp_1 Kq_1 Kg_1
  have hqt : w.heap.size + 1 + 1 < T := by omega
  obtain ⟨⟨q0, q1, q2⟩, ⟨qf0, qf1, qf2⟩, ql⟩ := block3 (unhide Kq_2)
  obtain ⟨g0, g1, gf0, gf1, gl⟩ := block2 (unhide Kg_2)
  obtain ⟨f0, f1, ff0, ff1, fl⟩ := block2 (unhide Kf_2)
  have u1 : w.heap.size + 1 ≠ T := by omega
  have u2 : w.heap.size + 1 + 1 ≠ T := by omega
  have u3 : T ≠ w.heap.size + 1 := by omega
  have u4 : T ≠ w.heap.size + 1 + 1 := by omega
  go_wp2_with fail
  go_region
  clear q0 q1 q2 qf0 qf1 qf2 ql g0 g1 gf0 gf1 gl f0 f1 ff0 ff1 fl
  have HX_3 := hide (putL_below (y0 := .int .i64 0) (y1 := .bool false) (y2 := .slice none 0 0) (unhide HX_2) (show w.heap.size ≤ w.heap.size + 1 by first | omega | (have := unhide HBA; omega)))
  have Kp_3 := hide ((putL_keep (y0 := .int .i64 0) (y1 := .bool false) (y2 := .slice none 0 0) (show w.heap.size ≠ w.heap.size + 1 by omega)).trans (unhide Kp_2))
  have Kq_3 := hide (putL_new (y0 := .int .i64 0) (y1 := .bool false) (y2 := .slice none 0 0) (unhide Kq_2))
  have Kg_3 := hide ((putL_keep (y0 := .int .i64 0) (y1 := .bool false) (y2 := .slice none 0 0) (show w.heap.size + 1 + 1 ≠ w.heap.size + 1 by omega)).trans (unhide Kg_2))
  have Kf_3 := hide ((putL_keep (y0 := .int .i64 0) (y1 := .bool false) (y2 := .slice none 0 0) (show T ≠ w.heap.size + 1 by omega)).trans (unhide Kf_2))
  obtain ⟨V1, eV1⟩ : ∃ X, putL W2 (w.heap.size + 1) (.int .i64 0) (.bool false) (.slice none 0 0) = X := ⟨_, rfl⟩
  rw [eV1] at HX_3 Kp_3 Kq_3 Kg_3 Kf_3
  have eV12 : (((W2).setCell ⟨w.heap.size + 1, 0, none⟩ (.int .i64 0)).setCell ⟨w.heap.size + 1, 1, none⟩ (.bool false)).setCell ⟨w.heap.size + 1, 2, none⟩ (.slice none 0 0) = V1 := eV1
  rw [eV12]
  clear eV1 eV12 HX_2 Kp_2 Kq_2 Kg_2 Kf_2
  have HX_4 := hide (put2_below (y0 := .int .i64 F0) (y1 := .int .i64 F1) (unhide HX_3) (show w.heap.size ≤ w.heap.size + 1 + 1 by first | omega | (have := unhide HBA; omega)))
  have Kp_4 := hide ((put2_keep (y0 := .int .i64 F0) (y1 := .int .i64 F1) (show w.heap.size ≠ w.heap.size + 1 + 1 by omega)).trans (unhide Kp_3))
  have Kq_4 := hide ((put2_keep (y0 := .int .i64 F0) (y1 := .int .i64 F1) (show w.heap.size + 1 ≠ w.heap.size + 1 + 1 by omega)).trans (unhide Kq_3))
  have Kg_4 := hide (put2_new (y0 := .int .i64 F0) (y1 := .int .i64 F1) (unhide Kg_3))
  have Kf_4 := hide ((put2_keep (y0 := .int .i64 F0) (y1 := .int .i64 F1) (show T ≠ w.heap.size + 1 + 1 by omega)).trans (unhide Kf_3))
  obtain ⟨V2, eV2⟩ : ∃ X, put2 V1 (w.heap.size + 1 + 1) (.int .i64 F0) (.int .i64 F1) = X := ⟨_, rfl⟩
  rw [eV2] at HX_4 Kp_4 Kq_4 Kg_4 Kf_4
  have eV22 : ((V1).setCell ⟨w.heap.size + 1 + 1, 0, none⟩ (.int .i64 F0)).setCell ⟨w.heap.size + 1 + 1, 1, none⟩ (.int .i64 F1) = V2 := eV2
  rw [eV22]
  clear eV2 eV22 HX_3 Kp_3 Kq_3 Kg_3 Kf_3
  have hV3 : Below V2.heap.size V2 V2.drew := (Below.refl _ _).drew
  obtain ⟨V3, eV3⟩ : ∃ X, V2.drew = X := ⟨_, rfl⟩
  rw [eV3] at hV3 ⊢
  (have HX_5 := hide (Below.next (unhide HX_4) hV3 (by first | exact Nat.le_refl _ | (have := unhide HBA; omega))); have Kp_5 := hide (keep_below (unhide Kp_4) hV3); have Kq_5 := hide (keep_below (unhide Kq_4) hV3); have Kg_5 := hide (keep_below (unhide Kg_4) hV3); have Kf_5 := hide (keep_below (unhide Kf_4) hV3); clear HX_4 Kp_4 Kq_4 Kg_4 Kf_4)
  clear hV3 eV3
  obtain ⟨⟨q0, q1, q2⟩, ⟨qf0, qf1, qf2⟩, ql⟩ := block3 (unhide Kq_5)
  obtain ⟨g0, g1, gf0, gf1, gl⟩ := block2 (unhide Kg_5)
  go_wp2_with fail
  exact bodyPost_ret (v := .tuple #[.agg #[.int .i64 0, .bool false, .slice none 0 0], .bool false, .agg #[.int .i64 F0, .int .i64 F1]]) (by simp [results, Try.results11, go_sem, q0, q1, q2, g0, g1]) rfl ⟨rfl, unhide HX_5⟩

set_option maxRecDepth 100000 in
set_option maxHeartbeats 4000000 in
theorem enter_ok (w : World) (v : Value) (P : Lk) (x : Int) (wt try_ : Bool) (h : IsLock w v P) (hf : (enterF P x).1 = 0) :
    Calls Try.prog 11 #[v, .int .i64 x, .bool wt, .bool try_] w fun e w' => ∃ v1, e = .returned (.tuple #[v1, .bool (enterR P x wt try_).2, .agg #[.int .i64 0, .int .i64 0]]) ∧ NewLock w.heap.size w' v1 (enterR P x wt try_).1 ∧ Below w.heap.size w w' := by
  obtain ⟨hg, hz, hx1, hx2, hn, hr⟩ := enterF_good hf
  obtain ⟨-, hr0, -, -, -, -⟩ := lockF_good hg
  have HC : Hid (∀ W, Below w.heap.size w W → Calls Try.prog 28 #[v, .int .i64 x] W fun e w' => e = .returned (.agg #[.int .i64 0, .int .i64 0]) ∧ Below W.heap.size W w') := fun W hW => by
    have := checkEnter_any W v P x (h.below hW) (by omega)
    rw [hz] at this
    exact this
  have HFR : Hid (∀ W, Below w.heap.size w W → Calls Try.prog 29 #[v] W fun e w' => ∃ a c, e = .returned (.agg #[.int .i64 P.readers, .bool P.writer, .slice a P.line.length c]) ∧ Own KP W.heap.size w' (.slice a P.line.length c) P.line ∧ Below W.heap.size W w') := fun W hW => (fresh_any W v P (h.below hW) (by omega)).mono fun e w' ⟨v', h1, h2, h3⟩ => by
    obtain ⟨a, c, rfl, h4⟩ := h2.form
    exact ⟨a, c, h1, h4, h3⟩
  obtain ⟨Q, eQ⟩ : ∃ Q, admR P.readers P.writer (P.line ++ [(x, wt, 0)]) = Q := ⟨_, rfl⟩
  obtain ⟨E, eE⟩ : ∃ E, enterR P x wt try_ = E := ⟨_, rfl⟩
  rw [eE]
  unfold enterR at eE
  rw [eQ] at eE
  have HAD : Hid (∀ W a c, IsL KP W (.slice a (P.line.length + 1) c) (P.line ++ [(x, wt, 0)]) → Calls Try.prog 30 #[.agg #[.int .i64 P.readers, .bool P.writer, .slice a (P.line.length + 1) c]] W fun e w' => ∃ v1 v2, e = .returned (.tuple #[v1, v2]) ∧ AtLock (Value.slice a (P.line.length + 1) c).ownBlock w' v1 Q.1 ∧ Own KI W.heap.size w' v2 Q.2 ∧ Below W.heap.size W w') := fun W a c hW => by
    rw [← eQ]
    exact admitted_any W _ _ ⟨P.readers, P.writer, P.line ++ [(x, wt, 0)]⟩ ⟨_, rfl, at_own hW⟩ (by simp only; omega) (by simp only; omega) (by simp only [List.length_append, List.length_cons, List.length_nil]; omega)
  have hql : Q.1.line.length ≤ P.line.length + 1 := by
    rw [← eQ]
    have := admR_len P.readers P.writer (P.line ++ [(x, wt, 0)])
    simpa using this
  obtain ⟨⟨r2, bw2, line2⟩, ws⟩ := Q
  obtain ⟨z, ez⟩ : ∃ z, line2.any (isOfP x) = z := ⟨_, rfl⟩
  simp only at eE hql HAD
  rw [ez] at eE
  have HWT : Hid (∀ W a c, IsL KP W (.slice a line2.length c) line2 → Calls Try.prog 31 #[.agg #[.int .i64 r2, .bool bw2, .slice a line2.length c], .int .i64 x] W fun e w' => e = .returned (.bool z) ∧ Below W.heap.size W w') := fun W a c hW => by
    rw [← ez]
    exact waits_any W _ ⟨r2, bw2, line2⟩ x ⟨_, rfl, hW⟩ (by unfold maxLen; simp only; omega)
  have HEE := hide eE.symm
  obtain ⟨r, bw, line⟩ := P
  obtain ⟨a0, c0, rfl, hL⟩ := h.form
  simp only at hL HC HFR HAD hn hr hr0 hql HEE ⊢
  obtain ⟨n, en⟩ : ∃ n, line.length = n := ⟨_, rfl⟩
  obtain ⟨n2, en2⟩ : ∃ n, line2.length = n := ⟨_, rfl⟩
  rw [en] at HC HFR HAD hn hql ⊢
  rw [en2] at HWT hql
  have HEN := hide en; have HEN2 := hide en2
  clear h hL eE eQ ez hf hg hz hx2 en en2
  obtain ⟨W0, e0, hB, k0, k1, k2⟩ := three_new w (.cells #[.int .i64 r, .bool bw, .slice a0 n c0] 24) (.cells #[.int .i64 0, .bool false, .slice none 0 0] 24) (.cells #[.int .i64 0, .int .i64 0] 28)
  have HX := hide hB; have HP := hide k0; have HQ := hide k1; have HG := hide k2; have HE := hide e0
  clear hB k0 k1 k2 e0
  go_enter Try.func11, Try.ntmps11
  go_upto_region 1 with fail
  rw [unhide HE]
  clear HE
  obtain ⟨⟨p0, p1, p2⟩, ⟨pf0, pf1, pf2⟩, pl⟩ := block3 (unhide HP)
  go_upto_region 2 with (go_at_call 28; refine (unhide HC _ (unhide HX)).mono ?_; rintro e w1 ⟨rfl, hb1⟩; have HX_1 := hide (Below.next (unhide HX) hb1 (by first | exact Nat.le_refl _ | (have := unhide HBA; omega))); have Kp_1 := hide (keep_below (unhide HP) hb1); have Kq_1 := hide (keep_below (unhide HQ) hb1); have Kg_1 := hide (keep_below (unhide HG) hb1); clear HX HP HQ HG; clear hb1 p0 p1 p2 pf0 pf1 pf2 pl)
  have HX_2 := hide ((unhide HX_1).alloc (Nat.le_trans (show w.heap.size ≤ w.heap.size from Nat.le_refl _) (unhide HX_1).size) (.cells #[.int .i64 0, .int .i64 0] 28))
  have Kp_2 := hide (keep_alloc (unhide Kp_1) (.cells #[.int .i64 0, .int .i64 0] 28))
  have Kq_2 := hide (keep_alloc (unhide Kq_1) (.cells #[.int .i64 0, .int .i64 0] 28))
  have Kg_2 := hide (keep_alloc (unhide Kg_1) (.cells #[.int .i64 0, .int .i64 0] 28))
  have Kf_2 := hide (new_block w1 (.cells #[.int .i64 0, .int .i64 0] 28))
  have hlp_f : w.heap.size < w1.heap.size := size_of (unhide Kp_1)
  have hlq_f : w.heap.size + 1 < w1.heap.size := size_of (unhide Kq_1)
  have hlg_f : w.heap.size + 1 + 1 < w1.heap.size := size_of (unhide Kg_1)
  obtain ⟨T, eT⟩ : ∃ X, w1.heap.size = X := ⟨_, rfl⟩
  obtain ⟨W2, eW2⟩ : ∃ X, w1.alloc (.cells #[.int .i64 0, .int .i64 0] 28) = X := ⟨_, rfl⟩
  rw [eT, eW2] at Kf_2; rw [eW2] at HX_2 Kp_2 Kq_2 Kg_2; rw [eT] at hlp_f hlq_f hlg_f; rw [eT, eW2]
  clear eT eW2 HX_1 Kp_1 Kq_1 Kg_1
  have hqt : w.heap.size + 1 + 1 < T := by omega
  obtain ⟨⟨p0, p1, p2⟩, ⟨pf0, pf1, pf2⟩, pl⟩ := block3 (unhide Kp_2)
  obtain ⟨f0, f1, ff0, ff1, fl⟩ := block2 (unhide Kf_2)
  obtain ⟨B3, eB3⟩ : ∃ X, W2.heap.size = X := ⟨_, rfl⟩
  have HB3 : Hid (w.heap.size ≤ B3) := by have := (unhide HX_2).size; rw [eB3] at this; exact this
  have HBT : Hid (T < B3) := by have := size_of (unhide Kf_2); rw [eB3] at this; exact this
  have HF3 := unhide HFR W2 (unhide HX_2)
  rw [eB3] at HF3
  have HFR3 := hide HF3
  clear HF3
  go_upto_region 5 with (go_at_call 29; refine (unhide HFR3).mono ?_; rintro e w3 ⟨b1, d1, rfl, ho3, hb3⟩; have HO3 := hide ho3; rw [← eB3] at hb3; have hb3s : B3 ≤ w3.heap.size := (by rw [← eB3]; exact hb3.size); have HX_3 := hide (Below.next (unhide HX_2) hb3 (by first | exact Nat.le_refl _ | (have := unhide HBA; omega))); have Kp_3 := hide (keep_below (unhide Kp_2) hb3); have Kq_3 := hide (keep_below (unhide Kq_2) hb3); have Kg_3 := hide (keep_below (unhide Kg_2) hb3); have Kf_3 := hide (keep_below (unhide Kf_2) hb3); clear HX_2 Kp_2 Kq_2 Kg_2 Kf_2; clear hb3 ho3 HFR3 p0 p1 p2 pf0 pf1 pf2 pl f0 f1 ff0 ff1 fl)
  clear eB3
  have HX_4 := hide ((unhide HX_3).alloc (Nat.le_trans (show w.heap.size ≤ w.heap.size from Nat.le_refl _) (unhide HX_3).size) (.cells #[.int .i64 r, .bool bw, .slice b1 n d1] 24))
  have Kp_4 := hide (keep_alloc (unhide Kp_3) (.cells #[.int .i64 r, .bool bw, .slice b1 n d1] 24))
  have Kq_4 := hide (keep_alloc (unhide Kq_3) (.cells #[.int .i64 r, .bool bw, .slice b1 n d1] 24))
  have Kg_4 := hide (keep_alloc (unhide Kg_3) (.cells #[.int .i64 r, .bool bw, .slice b1 n d1] 24))
  have Kf_4 := hide (keep_alloc (unhide Kf_3) (.cells #[.int .i64 r, .bool bw, .slice b1 n d1] 24))
  have Ol_4 := hide ((unhide HO3).below ((Below.refl _ _).alloc (Nat.le_refl _) (.cells #[.int .i64 r, .bool bw, .slice b1 n d1] 24)))
  have Kt_4 := hide (new_block w3 (.cells #[.int .i64 r, .bool bw, .slice b1 n d1] 24))
  have hlp_t : w.heap.size < w3.heap.size := size_of (unhide Kp_3)
  have hlq_t : w.heap.size + 1 < w3.heap.size := size_of (unhide Kq_3)
  have hlg_t : w.heap.size + 1 + 1 < w3.heap.size := size_of (unhide Kg_3)
  have hlf_t : T < w3.heap.size := size_of (unhide Kf_3)
  obtain ⟨T2, eT2⟩ : ∃ X, w3.heap.size = X := ⟨_, rfl⟩
  obtain ⟨W4, eW4⟩ : ∃ X, w3.alloc (.cells #[.int .i64 r, .bool bw, .slice b1 n d1] 24) = X := ⟨_, rfl⟩
  rw [eT2, eW4] at Kt_4; rw [eW4] at HX_4 Kp_4 Kq_4 Kg_4 Kf_4 Ol_4; rw [eT2] at hlp_t hlq_t hlg_t hlf_t hb3s; rw [eT2, eW4]
  clear eT2 eW4 HX_3 Kp_3 Kq_3 Kg_3 Kf_3 HO3
  obtain ⟨⟨t0, t1, t2⟩, ⟨tf0, tf1, tf2⟩, tl⟩ := block3 (unhide Kt_4)
  have HI1 := hide (isl_one kp W4 (x, wt, 0))
  have HO5 := hide ((unhide Ol_4).below ((Below.refl _ _).alloc (Nat.le_refl _) (.cells #[.int .i64 x, .bool wt, .int .i64 0] 41)))
  have HBZ := hide hb3s
  clear hb3s
  go_upto_region 6 with (at_builtin; refine wpList_append kp rfl (.tmp 25) (.tmp 29) rfl B3 _ line rfl (unhide HO5) _ [(x, wt, 0)] rfl (unhide HI1) (n + 1) (by simp [unhide HEN]) (by simp [KP]; omega) (by have h1 := (unhide HO5).lt; have h2 := ((unhide HX_4).alloc (unhide HX_4).size (.cells #[.int .i64 x, .bool wt, .int .i64 0] 41)).size; have h3 := size_of (unhide Kt_4); have h4 := unhide HBT; have h5 := unhide HBZ; rw [World.size_alloc]; omega) ?_; intro b2 d2 w5 ho5 hg5; have HO6 := hide ho5; have HX_5 := hide (((unhide HX_4).alloc (unhide HX_4).size (.cells #[.int .i64 x, .bool wt, .int .i64 0] 41)).grown hg5 ((unhide HX_4).alloc (unhide HX_4).size (.cells #[.int .i64 x, .bool wt, .int .i64 0] 41)).size (fun k hk => by have := ((unhide Ol_4).lt k hk).1; have := unhide HB3; omega)); have Kp_5 := hide (keep_grown (keep_alloc (unhide Kp_4) (.cells #[.int .i64 x, .bool wt, .int .i64 0] 41)) hg5 (fun j hj => Own.ne ((unhide Ol_4).below ((Below.refl _ _).alloc (Nat.le_refl _) (.cells #[.int .i64 x, .bool wt, .int .i64 0] 41))) (keep_alloc (unhide Kp_4) (.cells #[.int .i64 x, .bool wt, .int .i64 0] 41)) (by decide) j hj)); have Kq_5 := hide (keep_grown (keep_alloc (unhide Kq_4) (.cells #[.int .i64 x, .bool wt, .int .i64 0] 41)) hg5 (fun j hj => Own.ne ((unhide Ol_4).below ((Below.refl _ _).alloc (Nat.le_refl _) (.cells #[.int .i64 x, .bool wt, .int .i64 0] 41))) (keep_alloc (unhide Kq_4) (.cells #[.int .i64 x, .bool wt, .int .i64 0] 41)) (by decide) j hj)); have Kg_5 := hide (keep_grown (keep_alloc (unhide Kg_4) (.cells #[.int .i64 x, .bool wt, .int .i64 0] 41)) hg5 (fun j hj => Own.ne ((unhide Ol_4).below ((Below.refl _ _).alloc (Nat.le_refl _) (.cells #[.int .i64 x, .bool wt, .int .i64 0] 41))) (keep_alloc (unhide Kg_4) (.cells #[.int .i64 x, .bool wt, .int .i64 0] 41)) (by decide) j hj)); have Kf_5 := hide (keep_grown (keep_alloc (unhide Kf_4) (.cells #[.int .i64 x, .bool wt, .int .i64 0] 41)) hg5 (fun j hj => Own.ne ((unhide Ol_4).below ((Below.refl _ _).alloc (Nat.le_refl _) (.cells #[.int .i64 x, .bool wt, .int .i64 0] 41))) (keep_alloc (unhide Kf_4) (.cells #[.int .i64 x, .bool wt, .int .i64 0] 41)) (by decide) j hj)); have Kt_5 := hide (keep_grown (keep_alloc (unhide Kt_4) (.cells #[.int .i64 x, .bool wt, .int .i64 0] 41)) hg5 (fun j hj => Own.ne ((unhide Ol_4).below ((Below.refl _ _).alloc (Nat.le_refl _) (.cells #[.int .i64 x, .bool wt, .int .i64 0] 41))) (keep_alloc (unhide Kt_4) (.cells #[.int .i64 x, .bool wt, .int .i64 0] 41)) (by decide) j hj)); clear HX_4 Kp_4 Kq_4 Kg_4 Kf_4 Kt_4; clear ho5 hg5 t0 t1 t2 tf0 tf1 tf2 tl; obtain ⟨⟨t0, t1, t2⟩, ⟨tf0, tf1, tf2⟩, tl⟩ := block3 (unhide Kt_5))
  clear t0 t1 t2 tf0 tf1 tf2 tl HI1 HO5 Ol_4
  have HX_6 := hide (below_set (i := 2) (unhide HX_5) (show w.heap.size ≤ T2 by first | omega | (have := unhide HBA; omega)) (.slice b2 (n + 1) d2))
  have Kp_6 := hide (keep_set (g := T2) (o := 2) (v := .slice b2 (n + 1) d2) (unhide Kp_5) (by omega))
  have Kq_6 := hide (keep_set (g := T2) (o := 2) (v := .slice b2 (n + 1) d2) (unhide Kq_5) (by omega))
  have Kg_6 := hide (keep_set (g := T2) (o := 2) (v := .slice b2 (n + 1) d2) (unhide Kg_5) (by omega))
  have Kf_6 := hide (keep_set (g := T2) (o := 2) (v := .slice b2 (n + 1) d2) (unhide Kf_5) (by omega))
  have Kt_6 := hide (set_block3 (i := 2) (y := .slice b2 (n + 1) d2) (unhide Kt_5))
  have Ol_6 := hide ((unhide HO6).keep (fun k hk => Below.heap_setCell w5 ⟨T2, 2, none⟩ (.slice b2 (n + 1) d2) k (by have := Own.ne (unhide HO6) (unhide Kt_5) (by decide) k hk; simpa using this)))
  obtain ⟨W6, eW6⟩ : ∃ X, w5.setCell ⟨T2, 2, none⟩ (.slice b2 (n + 1) d2) = X := ⟨_, rfl⟩
  rw [eW6] at HX_6 Kp_6 Kq_6 Kg_6 Kf_6 Kt_6 Ol_6 ⊢
  clear eW6 HX_5 Kp_5 Kq_5 Kg_5 Kf_5 Kt_5 HO6
  simp only [List.setIfInBounds_toArray, List.set_cons_zero, List.set_cons_succ] at Kt_6
  have HNE : Hid (∀ k, (Value.slice b2 (n + 1) d2).ownBlock = some k → k ≠ T2) := fun k hk => Own.ne (unhide Ol_6) (unhide Kt_6) (by decide) k hk
  have HNQ : Hid (∀ k, (Value.slice b2 (n + 1) d2).ownBlock = some k → k ≠ w.heap.size + 1) := fun k hk => Own.ne (unhide Ol_6) (unhide Kq_6) (by decide) k hk
  have HNG : Hid (∀ k, (Value.slice b2 (n + 1) d2).ownBlock = some k → k ≠ w.heap.size + 1 + 1) := fun k hk => Own.ne (unhide Ol_6) (unhide Kg_6) (by decide) k hk
  have HNB : Hid (∀ k, (Value.slice b2 (n + 1) d2).ownBlock = some k → w.heap.size ≤ k) := fun k hk => Nat.le_trans (unhide HB3) ((unhide Ol_6).lt k hk).1
  have HA6 := hide (unhide HAD W6 _ _ (unhide Ol_6).isl)
  clear Ol_6 HAD
  obtain ⟨ob, eob⟩ : ∃ o, (Value.slice b2 (n + 1) d2).ownBlock = o := ⟨_, rfl⟩
  rw [eob] at HNE HNQ HNG HNB HA6
  clear eob
  obtain ⟨⟨t0, t1, t2⟩, ⟨tf0, tf1, tf2⟩, tl⟩ := block3 (unhide Kt_6)
  go_upto_region 7 with (go_at_call 30; refine (unhide HA6).mono ?_; rintro e w7 ⟨v1, v2, rfl, ha7, ho7, hb7⟩; obtain ⟨b3, d3, rfl, ha8⟩ := AtLock.form ha7; simp only at ha8; rw [unhide HEN2] at ha8; have HA7 := hide ha8; have HX_7 := hide (Below.next (unhide HX_6) hb7 (by first | exact Nat.le_refl _ | (have := unhide HBA; omega))); have Kp_7 := hide (keep_below (unhide Kp_6) hb7); have Kq_7 := hide (keep_below (unhide Kq_6) hb7); have Kg_7 := hide (keep_below (unhide Kg_6) hb7); have Kf_7 := hide (keep_below (unhide Kf_6) hb7); have Kt_7 := hide (keep_below (unhide Kt_6) hb7); clear HX_6 Kp_6 Kq_6 Kg_6 Kf_6 Kt_6; clear ha7 ha8 ho7 hb7 HA6 t0 t1 t2 tf0 tf1 tf2 tl; obtain ⟨⟨t0, t1, t2⟩, ⟨tf0, tf1, tf2⟩, tl⟩ := block3 (unhide Kt_7); simp only [unhide HEN2])
  clear t0 t1 t2 tf0 tf1 tf2 tl
  have HX_8 := hide (putL_below (y0 := .int .i64 r2) (y1 := .bool bw2) (y2 := .slice b3 n2 d3) (unhide HX_7) (show w.heap.size ≤ T2 by first | omega | (have := unhide HBA; omega)))
  have Kp_8 := hide ((putL_keep (y0 := .int .i64 r2) (y1 := .bool bw2) (y2 := .slice b3 n2 d3) (show w.heap.size ≠ T2 by omega)).trans (unhide Kp_7))
  have Kq_8 := hide ((putL_keep (y0 := .int .i64 r2) (y1 := .bool bw2) (y2 := .slice b3 n2 d3) (show w.heap.size + 1 ≠ T2 by omega)).trans (unhide Kq_7))
  have Kg_8 := hide ((putL_keep (y0 := .int .i64 r2) (y1 := .bool bw2) (y2 := .slice b3 n2 d3) (show w.heap.size + 1 + 1 ≠ T2 by omega)).trans (unhide Kg_7))
  have Kf_8 := hide ((putL_keep (y0 := .int .i64 r2) (y1 := .bool bw2) (y2 := .slice b3 n2 d3) (show T ≠ T2 by omega)).trans (unhide Kf_7))
  have Kt_8 := hide (putL_new (y0 := .int .i64 r2) (y1 := .bool bw2) (y2 := .slice b3 n2 d3) (unhide Kt_7))
  have FA_8 := hide ((unhide HA7).keep kp (fun k hk => putL_keep (y0 := .int .i64 r2) (y1 := .bool bw2) (y2 := .slice b3 n2 d3) (unhide HNE k hk)))
  obtain ⟨W8, eW8⟩ : ∃ X, putL w7 (T2) (.int .i64 r2) (.bool bw2) (.slice b3 n2 d3) = X := ⟨_, rfl⟩
  rw [eW8] at HX_8 Kp_8 Kq_8 Kg_8 Kf_8 Kt_8 FA_8
  have eW82 : (((w7).setCell ⟨T2, 0, none⟩ (.int .i64 r2)).setCell ⟨T2, 1, none⟩ (.bool bw2)).setCell ⟨T2, 2, none⟩ (.slice b3 n2 d3) = W8 := eW8
  rw [eW82]
  clear eW8 eW82 HX_7 Kp_7 Kq_7 Kg_7 Kf_7 Kt_7 HA7
  obtain ⟨⟨t0, t1, t2⟩, ⟨tf0, tf1, tf2⟩, tl⟩ := block3 (unhide Kt_8)
  have HWT8 := hide (unhide HWT W8 _ _ (unhide FA_8).1)
  clear HWT
  go_upto_region 8 with (go_at_call 31; refine (unhide HWT8).mono ?_; rintro e w9 ⟨rfl, hb9⟩; have HX_9 := hide (Below.next (unhide HX_8) hb9 (by first | exact Nat.le_refl _ | (have := unhide HBA; omega))); have Kp_9 := hide (keep_below (unhide Kp_8) hb9); have Kq_9 := hide (keep_below (unhide Kq_8) hb9); have Kg_9 := hide (keep_below (unhide Kg_8) hb9); have Kf_9 := hide (keep_below (unhide Kf_8) hb9); have Kt_9 := hide (keep_below (unhide Kt_8) hb9); have FA_9 := hide ((unhide FA_8).below hb9); clear HX_8 Kp_8 Kq_8 Kg_8 Kf_8 Kt_8 FA_8; clear hb9 HWT8 t0 t1 t2 tf0 tf1 tf2 tl)
  cases z with
  | true =>
    cases try_ with
    | true =>
      obtain ⟨⟨p0, p1, p2⟩, ⟨pf0, pf1, pf2⟩, pl⟩ := block3 (unhide Kp_9)
      obtain ⟨⟨t0, t1, t2⟩, ⟨tf0, tf1, tf2⟩, tl⟩ := block3 (unhide Kt_9)
      obtain ⟨B4, eB4⟩ : ∃ X, w9.heap.size = X := ⟨_, rfl⟩
      have HB4 : Hid (w.heap.size ≤ B4) := by have := (unhide HX_9).size; rw [eB4] at this; exact this
      have HF4 := unhide HFR w9 (unhide HX_9)
      rw [eB4] at HF4
      have HFR4 := hide HF4
      clear HF4
      go_upto_region 10 with (go_at_call 29; refine (unhide HFR4).mono ?_; rintro e w10 ⟨b4, d4, rfl, ho4, hb4⟩; have HO4 := hide ho4; rw [← eB4] at hb4; have HX_a10 := hide (Below.next (unhide HX_9) hb4 (by first | exact Nat.le_refl _ | (have := unhide HBA; omega))); have Kp_a10 := hide (keep_below (unhide Kp_9) hb4); have Kq_a10 := hide (keep_below (unhide Kq_9) hb4); have Kg_a10 := hide (keep_below (unhide Kg_9) hb4); have Kf_a10 := hide (keep_below (unhide Kf_9) hb4); have Kt_a10 := hide (keep_below (unhide Kt_9) hb4); have FA_a10 := hide ((unhide FA_9).below hb4); clear HX_9 Kp_9 Kq_9 Kg_9 Kf_9 Kt_9 FA_9; clear hb4 ho4 HFR4 p0 p1 p2 pf0 pf1 pf2 pl t0 t1 t2 tf0 tf1 tf2 tl; obtain ⟨⟨t0, t1, t2⟩, ⟨tf0, tf1, tf2⟩, tl⟩ := block3 (unhide Kt_a10))
      clear t0 t1 t2 tf0 tf1 tf2 tl eB4
      clear FA_a10
      have HX_a11 := hide (putL_below (y0 := .int .i64 r) (y1 := .bool bw) (y2 := .slice b4 n d4) (unhide HX_a10) (show w.heap.size ≤ T2 by first | omega | (have := unhide HBA; omega)))
      have Kp_a11 := hide ((putL_keep (y0 := .int .i64 r) (y1 := .bool bw) (y2 := .slice b4 n d4) (show w.heap.size ≠ T2 by omega)).trans (unhide Kp_a10))
      have Kq_a11 := hide ((putL_keep (y0 := .int .i64 r) (y1 := .bool bw) (y2 := .slice b4 n d4) (show w.heap.size + 1 ≠ T2 by omega)).trans (unhide Kq_a10))
      have Kg_a11 := hide ((putL_keep (y0 := .int .i64 r) (y1 := .bool bw) (y2 := .slice b4 n d4) (show w.heap.size + 1 + 1 ≠ T2 by omega)).trans (unhide Kg_a10))
      have Kf_a11 := hide ((putL_keep (y0 := .int .i64 r) (y1 := .bool bw) (y2 := .slice b4 n d4) (show T ≠ T2 by omega)).trans (unhide Kf_a10))
      have Kt_a11 := hide (putL_new (y0 := .int .i64 r) (y1 := .bool bw) (y2 := .slice b4 n d4) (unhide Kt_a10))
      have Ol_a11 := hide ((unhide HO4).keep (fun k hk => putL_keep (y0 := .int .i64 r) (y1 := .bool bw) (y2 := .slice b4 n d4) (Own.ne (unhide HO4) (unhide Kt_a10) (by decide) k hk)))
      obtain ⟨W11, eW11⟩ : ∃ X, putL w10 (T2) (.int .i64 r) (.bool bw) (.slice b4 n d4) = X := ⟨_, rfl⟩
      rw [eW11] at HX_a11 Kp_a11 Kq_a11 Kg_a11 Kf_a11 Kt_a11 Ol_a11
      have eW112 : (((w10).setCell ⟨T2, 0, none⟩ (.int .i64 r)).setCell ⟨T2, 1, none⟩ (.bool bw)).setCell ⟨T2, 2, none⟩ (.slice b4 n d4) = W11 := eW11
      rw [eW112]
      clear eW11 eW112 HX_a10 Kp_a10 Kq_a10 Kg_a10 Kf_a10 Kt_a10 HO4
      obtain ⟨⟨t0, t1, t2⟩, ⟨tf0, tf1, tf2⟩, tl⟩ := block3 (unhide Kt_a11)
      obtain ⟨⟨q0, q1, q2⟩, ⟨qf0, qf1, qf2⟩, ql⟩ := block3 (unhide Kq_a11)
      obtain ⟨g0, g1, gf0, gf1, gl⟩ := block2 (unhide Kg_a11)
      go_wp2_with fail
      clear t0 t1 t2 tf0 tf1 tf2 tl q0 q1 q2 qf0 qf1 qf2 ql g0 g1 gf0 gf1 gl
      have HX_a12 := hide (putL_below (y0 := .int .i64 r) (y1 := .bool bw) (y2 := .slice b4 n d4) (unhide HX_a11) (show w.heap.size ≤ w.heap.size + 1 by first | omega | (have := unhide HBA; omega)))
      have Kp_a12 := hide ((putL_keep (y0 := .int .i64 r) (y1 := .bool bw) (y2 := .slice b4 n d4) (show w.heap.size ≠ w.heap.size + 1 by omega)).trans (unhide Kp_a11))
      have Kq_a12 := hide (putL_new (y0 := .int .i64 r) (y1 := .bool bw) (y2 := .slice b4 n d4) (unhide Kq_a11))
      have Kg_a12 := hide ((putL_keep (y0 := .int .i64 r) (y1 := .bool bw) (y2 := .slice b4 n d4) (show w.heap.size + 1 + 1 ≠ w.heap.size + 1 by omega)).trans (unhide Kg_a11))
      have Kf_a12 := hide ((putL_keep (y0 := .int .i64 r) (y1 := .bool bw) (y2 := .slice b4 n d4) (show T ≠ w.heap.size + 1 by omega)).trans (unhide Kf_a11))
      have Kt_a12 := hide ((putL_keep (y0 := .int .i64 r) (y1 := .bool bw) (y2 := .slice b4 n d4) (show T2 ≠ w.heap.size + 1 by omega)).trans (unhide Kt_a11))
      have Ol_a12 := hide ((unhide Ol_a11).keep (fun k hk => putL_keep (y0 := .int .i64 r) (y1 := .bool bw) (y2 := .slice b4 n d4) (Own.ne (unhide Ol_a11) (unhide Kq_a11) (by decide) k hk)))
      obtain ⟨V1, eV1⟩ : ∃ X, putL W11 (w.heap.size + 1) (.int .i64 r) (.bool bw) (.slice b4 n d4) = X := ⟨_, rfl⟩
      rw [eV1] at HX_a12 Kp_a12 Kq_a12 Kg_a12 Kf_a12 Kt_a12 Ol_a12
      have eV12 : (((W11).setCell ⟨w.heap.size + 1, 0, none⟩ (.int .i64 r)).setCell ⟨w.heap.size + 1, 1, none⟩ (.bool bw)).setCell ⟨w.heap.size + 1, 2, none⟩ (.slice b4 n d4) = V1 := eV1
      rw [eV12]
      clear eV1 eV12 HX_a11 Kp_a11 Kq_a11 Kg_a11 Kf_a11 Kt_a11 Ol_a11
      have HX_a13 := hide (put2_below (y0 := .int .i64 0) (y1 := .int .i64 0) (unhide HX_a12) (show w.heap.size ≤ w.heap.size + 1 + 1 by first | omega | (have := unhide HBA; omega)))
      have Kp_a13 := hide ((put2_keep (y0 := .int .i64 0) (y1 := .int .i64 0) (show w.heap.size ≠ w.heap.size + 1 + 1 by omega)).trans (unhide Kp_a12))
      have Kq_a13 := hide ((put2_keep (y0 := .int .i64 0) (y1 := .int .i64 0) (show w.heap.size + 1 ≠ w.heap.size + 1 + 1 by omega)).trans (unhide Kq_a12))
      have Kg_a13 := hide (put2_new (y0 := .int .i64 0) (y1 := .int .i64 0) (unhide Kg_a12))
      have Kf_a13 := hide ((put2_keep (y0 := .int .i64 0) (y1 := .int .i64 0) (show T ≠ w.heap.size + 1 + 1 by omega)).trans (unhide Kf_a12))
      have Kt_a13 := hide ((put2_keep (y0 := .int .i64 0) (y1 := .int .i64 0) (show T2 ≠ w.heap.size + 1 + 1 by omega)).trans (unhide Kt_a12))
      have Ol_a13 := hide ((unhide Ol_a12).keep (fun k hk => put2_keep (y0 := .int .i64 0) (y1 := .int .i64 0) (Own.ne (unhide Ol_a12) (unhide Kg_a12) (by decide) k hk)))
      obtain ⟨V2, eV2⟩ : ∃ X, put2 V1 (w.heap.size + 1 + 1) (.int .i64 0) (.int .i64 0) = X := ⟨_, rfl⟩
      rw [eV2] at HX_a13 Kp_a13 Kq_a13 Kg_a13 Kf_a13 Kt_a13 Ol_a13
      have eV22 : ((V1).setCell ⟨w.heap.size + 1 + 1, 0, none⟩ (.int .i64 0)).setCell ⟨w.heap.size + 1 + 1, 1, none⟩ (.int .i64 0) = V2 := eV2
      rw [eV22]
      clear eV2 eV22 HX_a12 Kp_a12 Kq_a12 Kg_a12 Kf_a12 Kt_a12 Ol_a12
      obtain ⟨⟨q0, q1, q2⟩, ⟨qf0, qf1, qf2⟩, ql⟩ := block3 (unhide Kq_a13)
      obtain ⟨g0, g1, gf0, gf1, gl⟩ := block2 (unhide Kg_a13)
      refine bodyPost_ret (v := .tuple #[.agg #[.int .i64 r, .bool bw, .slice b4 n d4], .bool false, .agg #[.int .i64 0, .int .i64 0]]) (by simp [results, Try.results11, go_sem, q0, q1, q2, g0, g1]) rfl ⟨.agg #[.int .i64 r, .bool bw, .slice b4 n d4], ?_, ?_, unhide HX_a13⟩
      · rw [unhide HEE]; simp
      · rw [unhide HEE]
        simp
        exact ⟨_, rfl, ((unhide Ol_a13).base (unhide HB4)).new⟩
    | false =>
      obtain ⟨⟨t0, t1, t2⟩, ⟨tf0, tf1, tf2⟩, tl⟩ := block3 (unhide Kt_9)
      obtain ⟨⟨q0, q1, q2⟩, ⟨qf0, qf1, qf2⟩, ql⟩ := block3 (unhide Kq_9)
      obtain ⟨g0, g1, gf0, gf1, gl⟩ := block2 (unhide Kg_9)
      go_wp2_with fail
      clear t0 t1 t2 tf0 tf1 tf2 tl q0 q1 q2 qf0 qf1 qf2 ql g0 g1 gf0 gf1 gl
      have HX_b10 := hide (putL_below (y0 := .int .i64 r2) (y1 := .bool bw2) (y2 := .slice b3 n2 d3) (unhide HX_9) (show w.heap.size ≤ w.heap.size + 1 by first | omega | (have := unhide HBA; omega)))
      have Kp_b10 := hide ((putL_keep (y0 := .int .i64 r2) (y1 := .bool bw2) (y2 := .slice b3 n2 d3) (show w.heap.size ≠ w.heap.size + 1 by omega)).trans (unhide Kp_9))
      have Kq_b10 := hide (putL_new (y0 := .int .i64 r2) (y1 := .bool bw2) (y2 := .slice b3 n2 d3) (unhide Kq_9))
      have Kg_b10 := hide ((putL_keep (y0 := .int .i64 r2) (y1 := .bool bw2) (y2 := .slice b3 n2 d3) (show w.heap.size + 1 + 1 ≠ w.heap.size + 1 by omega)).trans (unhide Kg_9))
      have Kf_b10 := hide ((putL_keep (y0 := .int .i64 r2) (y1 := .bool bw2) (y2 := .slice b3 n2 d3) (show T ≠ w.heap.size + 1 by omega)).trans (unhide Kf_9))
      have Kt_b10 := hide ((putL_keep (y0 := .int .i64 r2) (y1 := .bool bw2) (y2 := .slice b3 n2 d3) (show T2 ≠ w.heap.size + 1 by omega)).trans (unhide Kt_9))
      have FA_b10 := hide ((unhide FA_9).keep kp (fun k hk => putL_keep (y0 := .int .i64 r2) (y1 := .bool bw2) (y2 := .slice b3 n2 d3) (unhide HNQ k hk)))
      obtain ⟨V1, eV1⟩ : ∃ X, putL w9 (w.heap.size + 1) (.int .i64 r2) (.bool bw2) (.slice b3 n2 d3) = X := ⟨_, rfl⟩
      rw [eV1] at HX_b10 Kp_b10 Kq_b10 Kg_b10 Kf_b10 Kt_b10 FA_b10
      have eV12 : (((w9).setCell ⟨w.heap.size + 1, 0, none⟩ (.int .i64 r2)).setCell ⟨w.heap.size + 1, 1, none⟩ (.bool bw2)).setCell ⟨w.heap.size + 1, 2, none⟩ (.slice b3 n2 d3) = V1 := eV1
      rw [eV12]
      clear eV1 eV12 HX_9 Kp_9 Kq_9 Kg_9 Kf_9 Kt_9 FA_9
      have HX_b11 := hide (put2_below (y0 := .int .i64 0) (y1 := .int .i64 0) (unhide HX_b10) (show w.heap.size ≤ w.heap.size + 1 + 1 by first | omega | (have := unhide HBA; omega)))
      have Kp_b11 := hide ((put2_keep (y0 := .int .i64 0) (y1 := .int .i64 0) (show w.heap.size ≠ w.heap.size + 1 + 1 by omega)).trans (unhide Kp_b10))
      have Kq_b11 := hide ((put2_keep (y0 := .int .i64 0) (y1 := .int .i64 0) (show w.heap.size + 1 ≠ w.heap.size + 1 + 1 by omega)).trans (unhide Kq_b10))
      have Kg_b11 := hide (put2_new (y0 := .int .i64 0) (y1 := .int .i64 0) (unhide Kg_b10))
      have Kf_b11 := hide ((put2_keep (y0 := .int .i64 0) (y1 := .int .i64 0) (show T ≠ w.heap.size + 1 + 1 by omega)).trans (unhide Kf_b10))
      have Kt_b11 := hide ((put2_keep (y0 := .int .i64 0) (y1 := .int .i64 0) (show T2 ≠ w.heap.size + 1 + 1 by omega)).trans (unhide Kt_b10))
      have FA_b11 := hide ((unhide FA_b10).keep kp (fun k hk => put2_keep (y0 := .int .i64 0) (y1 := .int .i64 0) (unhide HNG k hk)))
      obtain ⟨V2, eV2⟩ : ∃ X, put2 V1 (w.heap.size + 1 + 1) (.int .i64 0) (.int .i64 0) = X := ⟨_, rfl⟩
      rw [eV2] at HX_b11 Kp_b11 Kq_b11 Kg_b11 Kf_b11 Kt_b11 FA_b11
      have eV22 : ((V1).setCell ⟨w.heap.size + 1 + 1, 0, none⟩ (.int .i64 0)).setCell ⟨w.heap.size + 1 + 1, 1, none⟩ (.int .i64 0) = V2 := eV2
      rw [eV22]
      clear eV2 eV22 HX_b10 Kp_b10 Kq_b10 Kg_b10 Kf_b10 Kt_b10 FA_b10
      obtain ⟨⟨q0, q1, q2⟩, ⟨qf0, qf1, qf2⟩, ql⟩ := block3 (unhide Kq_b11)
      obtain ⟨g0, g1, gf0, gf1, gl⟩ := block2 (unhide Kg_b11)
      refine bodyPost_ret (v := .tuple #[.agg #[.int .i64 r2, .bool bw2, .slice b3 n2 d3], .bool false, .agg #[.int .i64 0, .int .i64 0]]) (by simp [results, Try.results11, go_sem, q0, q1, q2, g0, g1]) rfl ⟨.agg #[.int .i64 r2, .bool bw2, .slice b3 n2 d3], ?_, ?_, unhide HX_b11⟩
      · rw [unhide HEE]; simp
      · rw [unhide HEE]
        simp
        exact ⟨_, rfl, (unhide FA_b11).new (unhide HNB)⟩
  | false =>
    cases try_ with
    | true =>
      obtain ⟨⟨t0, t1, t2⟩, ⟨tf0, tf1, tf2⟩, tl⟩ := block3 (unhide Kt_9)
      obtain ⟨⟨q0, q1, q2⟩, ⟨qf0, qf1, qf2⟩, ql⟩ := block3 (unhide Kq_9)
      obtain ⟨g0, g1, gf0, gf1, gl⟩ := block2 (unhide Kg_9)
      go_wp2_with fail
      clear t0 t1 t2 tf0 tf1 tf2 tl q0 q1 q2 qf0 qf1 qf2 ql g0 g1 gf0 gf1 gl
      have HX_c10 := hide (putL_below (y0 := .int .i64 r2) (y1 := .bool bw2) (y2 := .slice b3 n2 d3) (unhide HX_9) (show w.heap.size ≤ w.heap.size + 1 by first | omega | (have := unhide HBA; omega)))
      have Kp_c10 := hide ((putL_keep (y0 := .int .i64 r2) (y1 := .bool bw2) (y2 := .slice b3 n2 d3) (show w.heap.size ≠ w.heap.size + 1 by omega)).trans (unhide Kp_9))
      have Kq_c10 := hide (putL_new (y0 := .int .i64 r2) (y1 := .bool bw2) (y2 := .slice b3 n2 d3) (unhide Kq_9))
      have Kg_c10 := hide ((putL_keep (y0 := .int .i64 r2) (y1 := .bool bw2) (y2 := .slice b3 n2 d3) (show w.heap.size + 1 + 1 ≠ w.heap.size + 1 by omega)).trans (unhide Kg_9))
      have Kf_c10 := hide ((putL_keep (y0 := .int .i64 r2) (y1 := .bool bw2) (y2 := .slice b3 n2 d3) (show T ≠ w.heap.size + 1 by omega)).trans (unhide Kf_9))
      have Kt_c10 := hide ((putL_keep (y0 := .int .i64 r2) (y1 := .bool bw2) (y2 := .slice b3 n2 d3) (show T2 ≠ w.heap.size + 1 by omega)).trans (unhide Kt_9))
      have FA_c10 := hide ((unhide FA_9).keep kp (fun k hk => putL_keep (y0 := .int .i64 r2) (y1 := .bool bw2) (y2 := .slice b3 n2 d3) (unhide HNQ k hk)))
      obtain ⟨V1, eV1⟩ : ∃ X, putL w9 (w.heap.size + 1) (.int .i64 r2) (.bool bw2) (.slice b3 n2 d3) = X := ⟨_, rfl⟩
      rw [eV1] at HX_c10 Kp_c10 Kq_c10 Kg_c10 Kf_c10 Kt_c10 FA_c10
      have eV12 : (((w9).setCell ⟨w.heap.size + 1, 0, none⟩ (.int .i64 r2)).setCell ⟨w.heap.size + 1, 1, none⟩ (.bool bw2)).setCell ⟨w.heap.size + 1, 2, none⟩ (.slice b3 n2 d3) = V1 := eV1
      rw [eV12]
      clear eV1 eV12 HX_9 Kp_9 Kq_9 Kg_9 Kf_9 Kt_9 FA_9
      have HX_c11 := hide (put2_below (y0 := .int .i64 0) (y1 := .int .i64 0) (unhide HX_c10) (show w.heap.size ≤ w.heap.size + 1 + 1 by first | omega | (have := unhide HBA; omega)))
      have Kp_c11 := hide ((put2_keep (y0 := .int .i64 0) (y1 := .int .i64 0) (show w.heap.size ≠ w.heap.size + 1 + 1 by omega)).trans (unhide Kp_c10))
      have Kq_c11 := hide ((put2_keep (y0 := .int .i64 0) (y1 := .int .i64 0) (show w.heap.size + 1 ≠ w.heap.size + 1 + 1 by omega)).trans (unhide Kq_c10))
      have Kg_c11 := hide (put2_new (y0 := .int .i64 0) (y1 := .int .i64 0) (unhide Kg_c10))
      have Kf_c11 := hide ((put2_keep (y0 := .int .i64 0) (y1 := .int .i64 0) (show T ≠ w.heap.size + 1 + 1 by omega)).trans (unhide Kf_c10))
      have Kt_c11 := hide ((put2_keep (y0 := .int .i64 0) (y1 := .int .i64 0) (show T2 ≠ w.heap.size + 1 + 1 by omega)).trans (unhide Kt_c10))
      have FA_c11 := hide ((unhide FA_c10).keep kp (fun k hk => put2_keep (y0 := .int .i64 0) (y1 := .int .i64 0) (unhide HNG k hk)))
      obtain ⟨V2, eV2⟩ : ∃ X, put2 V1 (w.heap.size + 1 + 1) (.int .i64 0) (.int .i64 0) = X := ⟨_, rfl⟩
      rw [eV2] at HX_c11 Kp_c11 Kq_c11 Kg_c11 Kf_c11 Kt_c11 FA_c11
      have eV22 : ((V1).setCell ⟨w.heap.size + 1 + 1, 0, none⟩ (.int .i64 0)).setCell ⟨w.heap.size + 1 + 1, 1, none⟩ (.int .i64 0) = V2 := eV2
      rw [eV22]
      clear eV2 eV22 HX_c10 Kp_c10 Kq_c10 Kg_c10 Kf_c10 Kt_c10 FA_c10
      obtain ⟨⟨q0, q1, q2⟩, ⟨qf0, qf1, qf2⟩, ql⟩ := block3 (unhide Kq_c11)
      obtain ⟨g0, g1, gf0, gf1, gl⟩ := block2 (unhide Kg_c11)
      refine bodyPost_ret (v := .tuple #[.agg #[.int .i64 r2, .bool bw2, .slice b3 n2 d3], .bool true, .agg #[.int .i64 0, .int .i64 0]]) (by simp [results, Try.results11, go_sem, q0, q1, q2, g0, g1]) rfl ⟨.agg #[.int .i64 r2, .bool bw2, .slice b3 n2 d3], ?_, ?_, unhide HX_c11⟩
      · rw [unhide HEE]; simp
      · rw [unhide HEE]
        simp
        exact ⟨_, rfl, (unhide FA_c11).new (unhide HNB)⟩
    | false =>
      obtain ⟨⟨t0, t1, t2⟩, ⟨tf0, tf1, tf2⟩, tl⟩ := block3 (unhide Kt_9)
      obtain ⟨⟨q0, q1, q2⟩, ⟨qf0, qf1, qf2⟩, ql⟩ := block3 (unhide Kq_9)
      obtain ⟨g0, g1, gf0, gf1, gl⟩ := block2 (unhide Kg_9)
      go_wp2_with fail
      clear t0 t1 t2 tf0 tf1 tf2 tl q0 q1 q2 qf0 qf1 qf2 ql g0 g1 gf0 gf1 gl
      have HX_d10 := hide (putL_below (y0 := .int .i64 r2) (y1 := .bool bw2) (y2 := .slice b3 n2 d3) (unhide HX_9) (show w.heap.size ≤ w.heap.size + 1 by first | omega | (have := unhide HBA; omega)))
      have Kp_d10 := hide ((putL_keep (y0 := .int .i64 r2) (y1 := .bool bw2) (y2 := .slice b3 n2 d3) (show w.heap.size ≠ w.heap.size + 1 by omega)).trans (unhide Kp_9))
      have Kq_d10 := hide (putL_new (y0 := .int .i64 r2) (y1 := .bool bw2) (y2 := .slice b3 n2 d3) (unhide Kq_9))
      have Kg_d10 := hide ((putL_keep (y0 := .int .i64 r2) (y1 := .bool bw2) (y2 := .slice b3 n2 d3) (show w.heap.size + 1 + 1 ≠ w.heap.size + 1 by omega)).trans (unhide Kg_9))
      have Kf_d10 := hide ((putL_keep (y0 := .int .i64 r2) (y1 := .bool bw2) (y2 := .slice b3 n2 d3) (show T ≠ w.heap.size + 1 by omega)).trans (unhide Kf_9))
      have Kt_d10 := hide ((putL_keep (y0 := .int .i64 r2) (y1 := .bool bw2) (y2 := .slice b3 n2 d3) (show T2 ≠ w.heap.size + 1 by omega)).trans (unhide Kt_9))
      have FA_d10 := hide ((unhide FA_9).keep kp (fun k hk => putL_keep (y0 := .int .i64 r2) (y1 := .bool bw2) (y2 := .slice b3 n2 d3) (unhide HNQ k hk)))
      obtain ⟨V1, eV1⟩ : ∃ X, putL w9 (w.heap.size + 1) (.int .i64 r2) (.bool bw2) (.slice b3 n2 d3) = X := ⟨_, rfl⟩
      rw [eV1] at HX_d10 Kp_d10 Kq_d10 Kg_d10 Kf_d10 Kt_d10 FA_d10
      have eV12 : (((w9).setCell ⟨w.heap.size + 1, 0, none⟩ (.int .i64 r2)).setCell ⟨w.heap.size + 1, 1, none⟩ (.bool bw2)).setCell ⟨w.heap.size + 1, 2, none⟩ (.slice b3 n2 d3) = V1 := eV1
      rw [eV12]
      clear eV1 eV12 HX_9 Kp_9 Kq_9 Kg_9 Kf_9 Kt_9 FA_9
      have HX_d11 := hide (put2_below (y0 := .int .i64 0) (y1 := .int .i64 0) (unhide HX_d10) (show w.heap.size ≤ w.heap.size + 1 + 1 by first | omega | (have := unhide HBA; omega)))
      have Kp_d11 := hide ((put2_keep (y0 := .int .i64 0) (y1 := .int .i64 0) (show w.heap.size ≠ w.heap.size + 1 + 1 by omega)).trans (unhide Kp_d10))
      have Kq_d11 := hide ((put2_keep (y0 := .int .i64 0) (y1 := .int .i64 0) (show w.heap.size + 1 ≠ w.heap.size + 1 + 1 by omega)).trans (unhide Kq_d10))
      have Kg_d11 := hide (put2_new (y0 := .int .i64 0) (y1 := .int .i64 0) (unhide Kg_d10))
      have Kf_d11 := hide ((put2_keep (y0 := .int .i64 0) (y1 := .int .i64 0) (show T ≠ w.heap.size + 1 + 1 by omega)).trans (unhide Kf_d10))
      have Kt_d11 := hide ((put2_keep (y0 := .int .i64 0) (y1 := .int .i64 0) (show T2 ≠ w.heap.size + 1 + 1 by omega)).trans (unhide Kt_d10))
      have FA_d11 := hide ((unhide FA_d10).keep kp (fun k hk => put2_keep (y0 := .int .i64 0) (y1 := .int .i64 0) (unhide HNG k hk)))
      obtain ⟨V2, eV2⟩ : ∃ X, put2 V1 (w.heap.size + 1 + 1) (.int .i64 0) (.int .i64 0) = X := ⟨_, rfl⟩
      rw [eV2] at HX_d11 Kp_d11 Kq_d11 Kg_d11 Kf_d11 Kt_d11 FA_d11
      have eV22 : ((V1).setCell ⟨w.heap.size + 1 + 1, 0, none⟩ (.int .i64 0)).setCell ⟨w.heap.size + 1 + 1, 1, none⟩ (.int .i64 0) = V2 := eV2
      rw [eV22]
      clear eV2 eV22 HX_d10 Kp_d10 Kq_d10 Kg_d10 Kf_d10 Kt_d10 FA_d10
      obtain ⟨⟨q0, q1, q2⟩, ⟨qf0, qf1, qf2⟩, ql⟩ := block3 (unhide Kq_d11)
      obtain ⟨g0, g1, gf0, gf1, gl⟩ := block2 (unhide Kg_d11)
      refine bodyPost_ret (v := .tuple #[.agg #[.int .i64 r2, .bool bw2, .slice b3 n2 d3], .bool true, .agg #[.int .i64 0, .int .i64 0]]) (by simp [results, Try.results11, go_sem, q0, q1, q2, g0, g1]) rfl ⟨.agg #[.int .i64 r2, .bool bw2, .slice b3 n2 d3], ?_, ?_, unhide HX_d11⟩
      · rw [unhide HEE]; simp
      · rw [unhide HEE]
        simp
        exact ⟨_, rfl, (unhide FA_d11).new (unhide HNB)⟩
end Go.Proofs.Ytdpcbmekplcllaa
