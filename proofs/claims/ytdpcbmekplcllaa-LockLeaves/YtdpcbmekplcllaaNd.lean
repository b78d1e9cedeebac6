/-
  lock.Drop.
-/
import Derived.Test.YtdpcbmekplcllaaM
import Derived.Test.YtdpcbmekplcllaaDb
namespace Go.Proofs.Ytdpcbmekplcllaa
open Go.RowKit

theorem deleteOf_any (w : World) (base : Nat) (v : Value) (xs : List Po) (h : Own KP base w v xs) (hn : xs.length ≤ maxLen) (g : Nat) (x : Int) (hg : w.heap[g]? = some (.cells #[.int .i64 x] 3 (0, 0))) :
    Calls Try.prog 33 #[v, .func (.func 39) #[] #[.pointer (some ⟨g, 0, none⟩)]] w fun e w' => ∃ a m c, e = .returned (.slice a m c) ∧ m = (leftL (isOfP x) xs).length ∧ Own KP base w' (.slice a m c) (leftL (isOfP x) xs) ∧ (Value.slice a m c).ownBlock = v.ownBlock ∧ w.grownBy w' v.ownBlock :=
  deleteFunc_any w base v xs h hn 39 enters39 _ (isOfP x) (fun W y hW => isof39_any W g x y.1 y.2.1 y.2.2 (keep_grown hg hW (fun j hj => Own.ne h hg (by decide) j hj)))
/-- What is wrong with a Drop. -/
def dropF (P : Lk) (x : Int) : Int × Int := if (lockF P).1 ≠ 0 then lockF P else if P.line.any (isOfP x) = true then (0, 0) else (6, 0)
theorem left_le (p : Po → Bool) (l : List Po) : (leftL p l).length ≤ l.length := List.length_filter_le _ _

set_option maxRecDepth 100000 in
set_option maxHeartbeats 2000000 in
theorem drop_fault (w : World) (v : Value) (P : Lk) (x : Int) (h : IsLock w v P) (hn : P.line.length ≤ 100000) (hf : (lockF P).1 ≠ 0) :
    Calls Try.prog 21 #[v, .int .i64 x] w fun e w' => e = .returned (.tuple #[.agg #[.int .i64 0, .bool false, .slice none 0 0], .slice none 0 0, .agg #[.int .i64 (lockF P).1, .int .i64 (lockF P).2]]) ∧ Below w.heap.size w w' := by
  have HC : Hid (∀ W, Below w.heap.size w W → Calls Try.prog 10 #[v] W fun e w' => e = .returned (.agg #[.int .i64 (lockF P).1, .int .i64 (lockF P).2]) ∧ Below W.heap.size W w') := fun W hW => check_any W v P (h.below hW) hn
  obtain ⟨⟨F0, F1⟩, eF⟩ : ∃ F, lockF P = F := ⟨_, rfl⟩
  rw [eF] at HC hf ⊢
  obtain ⟨r, bw, line⟩ := P
  obtain ⟨a0, c0, rfl, hL⟩ := h.form
  simp only at hL HC hn hf ⊢
  generalize line.length = n at *
  have x0 : (F0 != 0) = true := by simpa using hf
  clear h hL eF hf
  obtain ⟨W0, e0, hB, k0, k1, k2⟩ := three_new w (.cells #[.int .i64 r, .bool bw, .slice a0 n c0] 24) (.cells #[.int .i64 0, .bool false, .slice none 0 0] 24) (.cells #[.int .i64 0, .int .i64 0] 28)
  have HX := hide hB; have HP := hide k0; have HQ := hide k1; have HG := hide k2; have HE := hide e0
  clear hB k0 k1 k2 e0
  go_enter Try.func21, Try.ntmps21
  go_upto_region 1 with fail
  rw [unhide HE]
  clear HE
  obtain ⟨⟨p0, p1, p2⟩, ⟨pf0, pf1, pf2⟩, pl⟩ := block3 (unhide HP)
  go_upto_region 2 with (go_at_call 10; refine (unhide HC _ (unhide HX)).mono ?_; rintro e w1 ⟨rfl, hb1⟩; have HX_1 := hide (Below.next (unhide HX) hb1 (by first | exact Nat.le_refl _ | (have := unhide HBA; omega))); have Kp_1 := hide (keep_below (unhide HP) hb1); have Kq_1 := hide (keep_below (unhide HQ) hb1); have Kg_1 := hide (keep_below (unhide HG) hb1); clear HX HP HQ HG; clear hb1 p0 p1 p2 pf0 pf1 pf2 pl)
  have HX_2 := hide ((unhide HX_1).alloc (Nat.le_trans (show w.heap.size ≤ w.heap.size from Nat.le_refl _) (unhide HX_1).size) (.cells #[.int .i64 F0, .int .i64 F1] 28))
  have Kp_2 := hide (keep_alloc (unhide Kp_1) (.cells #[.int .i64 F0, .int .i64 F1] 28))
  have Kq_2 := hide (keep_alloc (unhide Kq_1) (.cells #[.int .i64 F0, .int .i64 F1] 28))
  have Kg_2 := hide (keep_alloc (unhide Kg_1) (.cells #[.int .i64 F0, .int .i64 F1] 28))
  have Kf_2 := hide (new_block w1 (.cells #[.int .i64 F0, .int .i64 F1] 28))
  have hlp_f : w.heap.size < w1.heap.size := size_of (unhide Kp_1)
  have hlq_f : w.heap.size + 1 < w1.heap.size := size_of (unhide Kq_1)
  have hlg_f : w.heap.size + 1 + 1 < w1.heap.size := size_of (unhide Kg_1)
  obtain ⟨T, eT⟩ : ∃ X, w1.heap.size = X := ⟨_, rfl⟩
  obtain ⟨W2, eW2⟩ : ∃ X, w1.alloc (.cells #[.int .i64 F0, .int .i64 F1] 28) = X := ⟨_, rfl⟩
  rw [eT, eW2] at Kf_2; rw [eW2] at HX_2 Kp_2 Kq_2 Kg_2; rw [eT] at hlp_f hlq_f hlg_f; rw [eT, eW2]
  clear eT eW2 HX_1 Kp_1 Kq_1 Kg_1
  have hqt : w.heap.size + 1 + 1 < T := by omega
  obtain ⟨⟨q0, q1, q2⟩, ⟨qf0, qf1, qf2⟩, ql⟩ := block3 (unhide Kq_2)
  obtain ⟨g0, g1, gf0, gf1, gl⟩ := block2 (unhide Kg_2)
  obtain ⟨f0, f1, ff0, ff1, fl⟩ := block2 (unhide Kf_2)
  have u1 : w.heap.size + 1 ≠ T := by omega
  have u2 : w.heap.size + 1 + 1 ≠ T := by omega
  have u3 : T ≠ w.heap.size + 1 := by omega
  have u4 : T ≠ w.heap.size + 1 + 1 := by omega
  go_wp2_with fail
  go_region
  clear q0 q1 q2 qf0 qf1 qf2 ql g0 g1 gf0 gf1 gl f0 f1 ff0 ff1 fl
  have HX_3 := hide (putL_below (y0 := .int .i64 0) (y1 := .bool false) (y2 := .slice none 0 0) (unhide HX_2) (show w.heap.size ≤ w.heap.size + 1 by first | omega | (have := unhide HBA; omega)))
  have Kp_3 := hide ((putL_keep (y0 := .int .i64 0) (y1 := .bool false) (y2 := .slice none 0 0) (show w.heap.size ≠ w.heap.size + 1 by omega)).trans (unhide Kp_2))
  have Kq_3 := hide (putL_new (y0 := .int .i64 0) (y1 := .bool false) (y2 := .slice none 0 0) (unhide Kq_2))
  have Kg_3 := hide ((putL_keep (y0 := .int .i64 0) (y1 := .bool false) (y2 := .slice none 0 0) (show w.heap.size + 1 + 1 ≠ w.heap.size + 1 by omega)).trans (unhide Kg_2))
  have Kf_3 := hide ((putL_keep (y0 := .int .i64 0) (y1 := .bool false) (y2 := .slice none 0 0) (show T ≠ w.heap.size + 1 by omega)).trans (unhide Kf_2))
  obtain ⟨V1, eV1⟩ : ∃ X, putL W2 (w.heap.size + 1) (.int .i64 0) (.bool false) (.slice none 0 0) = X := ⟨_, rfl⟩
  rw [eV1] at HX_3 Kp_3 Kq_3 Kg_3 Kf_3
  have eV12 : (((W2).setCell ⟨w.heap.size + 1, 0, none⟩ (.int .i64 0)).setCell ⟨w.heap.size + 1, 1, none⟩ (.bool false)).setCell ⟨w.heap.size + 1, 2, none⟩ (.slice none 0 0) = V1 := eV1
  rw [eV12]
  clear eV1 eV12 HX_2 Kp_2 Kq_2 Kg_2 Kf_2
  have HX_4 := hide (put2_below (y0 := .int .i64 F0) (y1 := .int .i64 F1) (unhide HX_3) (show w.heap.size ≤ w.heap.size + 1 + 1 by first | omega | (have := unhide HBA; omega)))
  have Kp_4 := hide ((put2_keep (y0 := .int .i64 F0) (y1 := .int .i64 F1) (show w.heap.size ≠ w.heap.size + 1 + 1 by omega)).trans (unhide Kp_3))
  have Kq_4 := hide ((put2_keep (y0 := .int .i64 F0) (y1 := .int .i64 F1) (show w.heap.size + 1 ≠ w.heap.size + 1 + 1 by omega)).trans (unhide Kq_3))
  have Kg_4 := hide (put2_new (y0 := .int .i64 F0) (y1 := .int .i64 F1) (unhide Kg_3))
  have Kf_4 := hide ((put2_keep (y0 := .int .i64 F0) (y1 := .int .i64 F1) (show T ≠ w.heap.size + 1 + 1 by omega)).trans (unhide Kf_3))
  obtain ⟨V2, eV2⟩ : ∃ X, put2 V1 (w.heap.size + 1 + 1) (.int .i64 F0) (.int .i64 F1) = X := ⟨_, rfl⟩
  rw [eV2] at HX_4 Kp_4 Kq_4 Kg_4 Kf_4
  have eV22 : ((V1).setCell ⟨w.heap.size + 1 + 1, 0, none⟩ (.int .i64 F0)).setCell ⟨w.heap.size + 1 + 1, 1, none⟩ (.int .i64 F1) = V2 := eV2
  rw [eV22]
  clear eV2 eV22 HX_3 Kp_3 Kq_3 Kg_3 Kf_3
  have hV3 : Below V2.heap.size V2 V2.drew := (Below.refl _ _).drew
  obtain ⟨V3, eV3⟩ : ∃ X, V2.drew = X := ⟨_, rfl⟩
  rw [eV3] at hV3 ⊢
  (have HX_5 := hide (Below.next (unhide HX_4) hV3 (by first | exact Nat.le_refl _ | (have := unhide HBA; omega))); have Kp_5 := hide (keep_below (unhide Kp_4) hV3); have Kq_5 := hide (keep_below (unhide Kq_4) hV3); have Kg_5 := hide (keep_below (unhide Kg_4) hV3); have Kf_5 := hide (keep_below (unhide Kf_4) hV3); clear HX_4 Kp_4 Kq_4 Kg_4 Kf_4)
  clear hV3 eV3
  obtain ⟨⟨q0, q1, q2⟩, ⟨qf0, qf1, qf2⟩, ql⟩ := block3 (unhide Kq_5)
  obtain ⟨g0, g1, gf0, gf1, gl⟩ := block2 (unhide Kg_5)
  go_wp2_with fail
  exact bodyPost_ret (v := .tuple #[.agg #[.int .i64 0, .bool false, .slice none 0 0], .slice none 0 0, .agg #[.int .i64 F0, .int .i64 F1]]) (by simp [results, Try.results21, go_sem, q0, q1, q2, g0, g1]) rfl ⟨rfl, unhide HX_5⟩

set_option maxRecDepth 100000 in
set_option maxHeartbeats 2000000 in
theorem drop_none (w : World) (v : Value) (P : Lk) (x : Int) (h : IsLock w v P) (hf : (lockF P).1 = 0) (hi : P.line.any (isOfP x) = false) :
    Calls Try.prog 21 #[v, .int .i64 x] w fun e w' => e = .returned (.tuple #[.agg #[.int .i64 0, .bool false, .slice none 0 0], .slice none 0 0, .agg #[.int .i64 6, .int .i64 0]]) ∧ Below w.heap.size w w' := by
  have hz := lockF_zero hf
  obtain ⟨hn, hr0, hr1, -, -, -⟩ := lockF_good hf
  have HC : Hid (∀ W, Below w.heap.size w W → Calls Try.prog 10 #[v] W fun e w' => e = .returned (.agg #[.int .i64 0, .int .i64 0]) ∧ Below W.heap.size W w') := fun W hW => by
    have := check_any W v P (h.below hW) (by omega)
    rw [hz] at this
    exact this
  have HWT : Hid (∀ W, Below w.heap.size w W → Calls Try.prog 31 #[v, .int .i64 x] W fun e w' => e = .returned (.bool false) ∧ Below W.heap.size W w') := fun W hW => by
    have := waits_any W v P x (h.below hW) (by unfold maxLen; omega)
    rw [hi] at this
    exact this
  obtain ⟨r, bw, line⟩ := P
  obtain ⟨a0, c0, rfl, hL⟩ := h.form
  simp only at hL HC HWT hn hr0 hr1 ⊢
  generalize line.length = n at *
  clear h hL hf hi hz
  obtain ⟨W0, e0, hB, k0, k1, k2⟩ := three_new w (.cells #[.int .i64 r, .bool bw, .slice a0 n c0] 24) (.cells #[.int .i64 0, .bool false, .slice none 0 0] 24) (.cells #[.int .i64 0, .int .i64 0] 28)
  have HX := hide hB; have HP := hide k0; have HQ := hide k1; have HG := hide k2; have HE := hide e0
  clear hB k0 k1 k2 e0
  go_enter Try.func21, Try.ntmps21
  go_upto_region 1 with fail
  rw [unhide HE]
  clear HE
  obtain ⟨⟨p0, p1, p2⟩, ⟨pf0, pf1, pf2⟩, pl⟩ := block3 (unhide HP)
  go_upto_region 2 with (go_at_call 10; refine (unhide HC _ (unhide HX)).mono ?_; rintro e w1 ⟨rfl, hb1⟩; have HX_1 := hide (Below.next (unhide HX) hb1 (by first | exact Nat.le_refl _ | (have := unhide HBA; omega))); have Kp_1 := hide (keep_below (unhide HP) hb1); have Kq_1 := hide (keep_below (unhide HQ) hb1); have Kg_1 := hide (keep_below (unhide HG) hb1); clear HX HP HQ HG; clear hb1 p0 p1 p2 pf0 pf1 pf2 pl)
  have HX_2 := hide ((unhide HX_1).alloc (Nat.le_trans (show w.heap.size ≤ w.heap.size from Nat.le_refl _) (unhide HX_1).size) (.cells #[.int .i64 0, .int .i64 0] 28))
  have Kp_2 := hide (keep_alloc (unhide Kp_1) (.cells #[.int .i64 0, .int .i64 0] 28))
  have Kq_2 := hide (keep_alloc (unhide Kq_1) (.cells #[.int .i64 0, .int .i64 0] 28))
  have Kg_2 := hide (keep_alloc (unhide Kg_1) (.cells #[.int .i64 0, .int .i64 0] 28))
  have Kf_2 := hide (new_block w1 (.cells #[.int .i64 0, .int .i64 0] 28))
  have hlp_f : w.heap.size < w1.heap.size := size_of (unhide Kp_1)
  have hlq_f : w.heap.size + 1 < w1.heap.size := size_of (unhide Kq_1)
  have hlg_f : w.heap.size + 1 + 1 < w1.heap.size := size_of (unhide Kg_1)
  obtain ⟨T, eT⟩ : ∃ X, w1.heap.size = X := ⟨_, rfl⟩
  obtain ⟨W2, eW2⟩ : ∃ X, w1.alloc (.cells #[.int .i64 0, .int .i64 0] 28) = X := ⟨_, rfl⟩
  rw [eT, eW2] at Kf_2; rw [eW2] at HX_2 Kp_2 Kq_2 Kg_2; rw [eT] at hlp_f hlq_f hlg_f; rw [eT, eW2]
  clear eT eW2 HX_1 Kp_1 Kq_1 Kg_1
  have hqt : w.heap.size + 1 + 1 < T := by omega
  obtain ⟨⟨p0, p1, p2⟩, ⟨pf0, pf1, pf2⟩, pl⟩ := block3 (unhide Kp_2)
  obtain ⟨f0, f1, ff0, ff1, fl⟩ := block2 (unhide Kf_2)
  go_wp2_with (go_at_call 31; refine (unhide HWT _ (unhide HX_2)).mono ?_; rintro e w3 ⟨rfl, hb3⟩; have HX_3 := hide (Below.next (unhide HX_2) hb3 (by first | exact Nat.le_refl _ | (have := unhide HBA; omega))); have Kp_3 := hide (keep_below (unhide Kp_2) hb3); have Kq_3 := hide (keep_below (unhide Kq_2) hb3); have Kg_3 := hide (keep_below (unhide Kg_2) hb3); have Kf_3 := hide (keep_below (unhide Kf_2) hb3); clear HX_2 Kp_2 Kq_2 Kg_2 Kf_2; clear hb3 p0 p1 p2 pf0 pf1 pf2 pl f0 f1 ff0 ff1 fl; obtain ⟨⟨q0, q1, q2⟩, ⟨qf0, qf1, qf2⟩, ql⟩ := block3 (unhide Kq_3); obtain ⟨g0, g1, gf0, gf1, gl⟩ := block2 (unhide Kg_3))
  clear q0 q1 q2 qf0 qf1 qf2 ql g0 g1 gf0 gf1 gl
  have HX_4 := hide (putL_below (y0 := .int .i64 0) (y1 := .bool false) (y2 := .slice none 0 0) (unhide HX_3) (show w.heap.size ≤ w.heap.size + 1 by first | omega | (have := unhide HBA; omega)))
  have Kp_4 := hide ((putL_keep (y0 := .int .i64 0) (y1 := .bool false) (y2 := .slice none 0 0) (show w.heap.size ≠ w.heap.size + 1 by omega)).trans (unhide Kp_3))
  have Kq_4 := hide (putL_new (y0 := .int .i64 0) (y1 := .bool false) (y2 := .slice none 0 0) (unhide Kq_3))
  have Kg_4 := hide ((putL_keep (y0 := .int .i64 0) (y1 := .bool false) (y2 := .slice none 0 0) (show w.heap.size + 1 + 1 ≠ w.heap.size + 1 by omega)).trans (unhide Kg_3))
  have Kf_4 := hide ((putL_keep (y0 := .int .i64 0) (y1 := .bool false) (y2 := .slice none 0 0) (show T ≠ w.heap.size + 1 by omega)).trans (unhide Kf_3))
  obtain ⟨V1, eV1⟩ : ∃ X, putL w3 (w.heap.size + 1) (.int .i64 0) (.bool false) (.slice none 0 0) = X := ⟨_, rfl⟩
  rw [eV1] at HX_4 Kp_4 Kq_4 Kg_4 Kf_4
  have eV12 : (((w3).setCell ⟨w.heap.size + 1, 0, none⟩ (.int .i64 0)).setCell ⟨w.heap.size + 1, 1, none⟩ (.bool false)).setCell ⟨w.heap.size + 1, 2, none⟩ (.slice none 0 0) = V1 := eV1
  rw [eV12]
  clear eV1 eV12 HX_3 Kp_3 Kq_3 Kg_3 Kf_3
  have HX_5 := hide (put2_below (y0 := .int .i64 6) (y1 := .int .i64 0) (unhide HX_4) (show w.heap.size ≤ w.heap.size + 1 + 1 by first | omega | (have := unhide HBA; omega)))
  have Kp_5 := hide ((put2_keep (y0 := .int .i64 6) (y1 := .int .i64 0) (show w.heap.size ≠ w.heap.size + 1 + 1 by omega)).trans (unhide Kp_4))
  have Kq_5 := hide ((put2_keep (y0 := .int .i64 6) (y1 := .int .i64 0) (show w.heap.size + 1 ≠ w.heap.size + 1 + 1 by omega)).trans (unhide Kq_4))
  have Kg_5 := hide (put2_new (y0 := .int .i64 6) (y1 := .int .i64 0) (unhide Kg_4))
  have Kf_5 := hide ((put2_keep (y0 := .int .i64 6) (y1 := .int .i64 0) (show T ≠ w.heap.size + 1 + 1 by omega)).trans (unhide Kf_4))
  obtain ⟨V2, eV2⟩ : ∃ X, put2 V1 (w.heap.size + 1 + 1) (.int .i64 6) (.int .i64 0) = X := ⟨_, rfl⟩
  rw [eV2] at HX_5 Kp_5 Kq_5 Kg_5 Kf_5
  have eV22 : ((V1).setCell ⟨w.heap.size + 1 + 1, 0, none⟩ (.int .i64 6)).setCell ⟨w.heap.size + 1 + 1, 1, none⟩ (.int .i64 0) = V2 := eV2
  rw [eV22]
  clear eV2 eV22 HX_4 Kp_4 Kq_4 Kg_4 Kf_4
  obtain ⟨⟨q0, q1, q2⟩, ⟨qf0, qf1, qf2⟩, ql⟩ := block3 (unhide Kq_5)
  obtain ⟨g0, g1, gf0, gf1, gl⟩ := block2 (unhide Kg_5)
  exact bodyPost_ret (v := .tuple #[.agg #[.int .i64 0, .bool false, .slice none 0 0], .slice none 0 0, .agg #[.int .i64 6, .int .i64 0]]) (by simp [results, Try.results21, go_sem, q0, q1, q2, g0, g1]) rfl ⟨rfl, unhide HX_5⟩

set_option maxRecDepth 100000 in
set_option maxHeartbeats 4000000 in
theorem drop_ok (w : World) (v : Value) (P : Lk) (x : Int) (h : IsLock w v P) (hf : (lockF P).1 = 0) (hi : P.line.any (isOfP x) = true) :
    Calls Try.prog 21 #[v, .int .i64 x] w fun e w' => ∃ v1 v2, e = .returned (.tuple #[v1, v2, .agg #[.int .i64 0, .int .i64 0]]) ∧ NewLock w.heap.size w' v1 (admR P.readers P.writer (leftL (isOfP x) P.line)).1 ∧ New KI w.heap.size w' v2 (admR P.readers P.writer (leftL (isOfP x) P.line)).2 ∧ Below w.heap.size w w' := by
  have hz := lockF_zero hf
  obtain ⟨hn, hr0, hr1, -, -, -⟩ := lockF_good hf
  have HC : Hid (∀ W, Below w.heap.size w W → Calls Try.prog 10 #[v] W fun e w' => e = .returned (.agg #[.int .i64 0, .int .i64 0]) ∧ Below W.heap.size W w') := fun W hW => by
    have := check_any W v P (h.below hW) (by omega)
    rw [hz] at this
    exact this
  have HWT : Hid (∀ W, Below w.heap.size w W → Calls Try.prog 31 #[v, .int .i64 x] W fun e w' => e = .returned (.bool true) ∧ Below W.heap.size W w') := fun W hW => by
    have := waits_any W v P x (h.below hW) (by unfold maxLen; omega)
    rw [hi] at this
    exact this
  have HFR : Hid (∀ W, Below w.heap.size w W → Calls Try.prog 29 #[v] W fun e w' => ∃ a c, e = .returned (.agg #[.int .i64 P.readers, .bool P.writer, .slice a P.line.length c]) ∧ Own KP W.heap.size w' (.slice a P.line.length c) P.line ∧ Below W.heap.size W w') := fun W hW => (fresh_any W v P (h.below hW) (by omega)).mono fun e w' ⟨v', h1, h2, h3⟩ => by
    obtain ⟨a, c, rfl, h4⟩ := h2.form
    exact ⟨a, c, h1, h4, h3⟩
  have hll := left_le (isOfP x) P.line
  obtain ⟨l2, el2⟩ : ∃ l, leftL (isOfP x) P.line = l := ⟨_, rfl⟩
  rw [el2] at hll ⊢
  obtain ⟨m2, em2⟩ : ∃ m, l2.length = m := ⟨_, rfl⟩
  have HDL : Hid (∀ W base v' g, Own KP base W v' P.line → W.heap[g]? = some (.cells #[.int .i64 x] 3 (0, 0)) → Calls Try.prog 33 #[v', .func (.func 39) #[] #[.pointer (some ⟨g, 0, none⟩)]] W fun e w' => ∃ a c, e = .returned (.slice a m2 c) ∧ Own KP base w' (.slice a m2 c) l2 ∧ W.grownBy w' v'.ownBlock) := fun W base v' g ho hg => (deleteOf_any W base v' P.line ho (by unfold maxLen; omega) g x hg).mono fun e w' ⟨a, m, c, h1, h2, h3, h4, h5⟩ => by
    rw [el2] at h2 h3
    subst h2
    rw [em2] at h1 h3
    exact ⟨a, c, h1, h3, h5⟩
  have HAD : Hid (∀ W a c, IsL KP W (.slice a m2 c) l2 → Calls Try.prog 30 #[.agg #[.int .i64 P.readers, .bool P.writer, .slice a m2 c]] W fun e w' => ∃ v1 v2, e = .returned (.tuple #[v1, v2]) ∧ AtLock (Value.slice a m2 c).ownBlock w' v1 (admR P.readers P.writer l2).1 ∧ Own KI W.heap.size w' v2 (admR P.readers P.writer l2).2 ∧ Below W.heap.size W w') := fun W a c hW =>
    admitted_any W _ _ ⟨P.readers, P.writer, l2⟩ ⟨_, rfl, at_own hW⟩ (by simp only; omega) (by simp only; omega) (by simp only; omega)
  obtain ⟨⟨⟨r2, bw2, line2⟩, ws⟩, eQ⟩ : ∃ Q, admR P.readers P.writer l2 = Q := ⟨_, rfl⟩
  rw [eQ] at HAD ⊢
  simp only at HAD ⊢
  clear eQ el2 em2 hll
  obtain ⟨r, bw, line⟩ := P
  obtain ⟨a0, c0, rfl, hL⟩ := h.form
  simp only at hL HC HWT HFR HDL HAD hn hr0 hr1 ⊢
  obtain ⟨n, en⟩ : ∃ n, line.length = n := ⟨_, rfl⟩
  rw [en] at HC HWT HFR hn ⊢
  have HEN := hide en
  clear h hL hf hi hz en
  obtain ⟨W0, e0, hB, k0, k1, k2⟩ := three_new w (.cells #[.int .i64 r, .bool bw, .slice a0 n c0] 24) (.cells #[.int .i64 0, .bool false, .slice none 0 0] 24) (.cells #[.int .i64 0, .int .i64 0] 28)
  have HX := hide hB; have HP := hide k0; have HQ := hide k1; have HG := hide k2; have HE := hide e0
  clear hB k0 k1 k2 e0
  go_enter Try.func21, Try.ntmps21
  go_upto_region 1 with fail
  rw [unhide HE]
  clear HE
  obtain ⟨⟨p0, p1, p2⟩, ⟨pf0, pf1, pf2⟩, pl⟩ := block3 (unhide HP)
  go_upto_region 2 with (go_at_call 10; refine (unhide HC _ (unhide HX)).mono ?_; rintro e w1 ⟨rfl, hb1⟩; have HX_1 := hide (Below.next (unhide HX) hb1 (by first | exact Nat.le_refl _ | (have := unhide HBA; omega))); have Kp_1 := hide (keep_below (unhide HP) hb1); have Kq_1 := hide (keep_below (unhide HQ) hb1); have Kg_1 := hide (keep_below (unhide HG) hb1); clear HX HP HQ HG; clear hb1 p0 p1 p2 pf0 pf1 pf2 pl)
  have HX_2 := hide ((unhide HX_1).alloc (Nat.le_trans (show w.heap.size ≤ w.heap.size from Nat.le_refl _) (unhide HX_1).size) (.cells #[.int .i64 0, .int .i64 0] 28))
  have Kp_2 := hide (keep_alloc (unhide Kp_1) (.cells #[.int .i64 0, .int .i64 0] 28))
  have Kq_2 := hide (keep_alloc (unhide Kq_1) (.cells #[.int .i64 0, .int .i64 0] 28))
  have Kg_2 := hide (keep_alloc (unhide Kg_1) (.cells #[.int .i64 0, .int .i64 0] 28))
  have Kf_2 := hide (new_block w1 (.cells #[.int .i64 0, .int .i64 0] 28))
  have hlp_f : w.heap.size < w1.heap.size := size_of (unhide Kp_1)
  have hlq_f : w.heap.size + 1 < w1.heap.size := size_of (unhide Kq_1)
  have hlg_f : w.heap.size + 1 + 1 < w1.heap.size := size_of (unhide Kg_1)
  obtain ⟨T, eT⟩ : ∃ X, w1.heap.size = X := ⟨_, rfl⟩
  obtain ⟨W2, eW2⟩ : ∃ X, w1.alloc (.cells #[.int .i64 0, .int .i64 0] 28) = X := ⟨_, rfl⟩
  rw [eT, eW2] at Kf_2; rw [eW2] at HX_2 Kp_2 Kq_2 Kg_2; rw [eT] at hlp_f hlq_f hlg_f; rw [eT, eW2]
  clear eT eW2 HX_1 Kp_1 Kq_1 Kg_1
  have hqt : w.heap.size + 1 + 1 < T := by omega
  obtain ⟨⟨p0, p1, p2⟩, ⟨pf0, pf1, pf2⟩, pl⟩ := block3 (unhide Kp_2)
  obtain ⟨f0, f1, ff0, ff1, fl⟩ := block2 (unhide Kf_2)
  go_upto_region 6 with (go_at_call 31; refine (unhide HWT _ (unhide HX_2)).mono ?_; rintro e w3 ⟨rfl, hb3⟩; have HX_3 := hide (Below.next (unhide HX_2) hb3 (by first | exact Nat.le_refl _ | (have := unhide HBA; omega))); have Kp_3 := hide (keep_below (unhide Kp_2) hb3); have Kq_3 := hide (keep_below (unhide Kq_2) hb3); have Kg_3 := hide (keep_below (unhide Kg_2) hb3); have Kf_3 := hide (keep_below (unhide Kf_2) hb3); clear HX_2 Kp_2 Kq_2 Kg_2 Kf_2; clear hb3 p0 p1 p2 pf0 pf1 pf2 pl f0 f1 ff0 ff1 fl)
  obtain ⟨⟨p0, p1, p2⟩, ⟨pf0, pf1, pf2⟩, pl⟩ := block3 (unhide Kp_3)
  obtain ⟨B3, eB3⟩ : ∃ X, w3.heap.size = X := ⟨_, rfl⟩
  have HB3 : Hid (w.heap.size ≤ B3) := by have := (unhide HX_3).size; rw [eB3] at this; exact this
  have HF3 := unhide HFR w3 (unhide HX_3)
  rw [eB3] at HF3
  have HFR3 := hide HF3
  clear HF3
  go_upto_region 7 with (go_at_call 29; refine (unhide HFR3).mono ?_; rintro e w4 ⟨b1, d1, rfl, ho3, hb3⟩; have HO3 := hide ho3; rw [← eB3] at hb3; have HX_4 := hide (Below.next (unhide HX_3) hb3 (by first | exact Nat.le_refl _ | (have := unhide HBA; omega))); have Kp_4 := hide (keep_below (unhide Kp_3) hb3); have Kq_4 := hide (keep_below (unhide Kq_3) hb3); have Kg_4 := hide (keep_below (unhide Kg_3) hb3); have Kf_4 := hide (keep_below (unhide Kf_3) hb3); clear HX_3 Kp_3 Kq_3 Kg_3 Kf_3; clear hb3 ho3 HFR3 p0 p1 p2 pf0 pf1 pf2 pl)
  clear eB3
  have HX_5 := hide ((unhide HX_4).alloc (Nat.le_trans (show w.heap.size ≤ w.heap.size from Nat.le_refl _) (unhide HX_4).size) (.cells #[.int .i64 r, .bool bw, .slice b1 n d1] 24))
  have Kp_5 := hide (keep_alloc (unhide Kp_4) (.cells #[.int .i64 r, .bool bw, .slice b1 n d1] 24))
  have Kq_5 := hide (keep_alloc (unhide Kq_4) (.cells #[.int .i64 r, .bool bw, .slice b1 n d1] 24))
  have Kg_5 := hide (keep_alloc (unhide Kg_4) (.cells #[.int .i64 r, .bool bw, .slice b1 n d1] 24))
  have Kf_5 := hide (keep_alloc (unhide Kf_4) (.cells #[.int .i64 r, .bool bw, .slice b1 n d1] 24))
  have Ol_5 := hide ((unhide HO3).below ((Below.refl _ _).alloc (Nat.le_refl _) (.cells #[.int .i64 r, .bool bw, .slice b1 n d1] 24)))
  have Kt_5 := hide (new_block w4 (.cells #[.int .i64 r, .bool bw, .slice b1 n d1] 24))
  have hlp_t : w.heap.size < w4.heap.size := size_of (unhide Kp_4)
  have hlq_t : w.heap.size + 1 < w4.heap.size := size_of (unhide Kq_4)
  have hlg_t : w.heap.size + 1 + 1 < w4.heap.size := size_of (unhide Kg_4)
  have hlf_t : T < w4.heap.size := size_of (unhide Kf_4)
  obtain ⟨T2, eT2⟩ : ∃ X, w4.heap.size = X := ⟨_, rfl⟩
  obtain ⟨W5, eW5⟩ : ∃ X, w4.alloc (.cells #[.int .i64 r, .bool bw, .slice b1 n d1] 24) = X := ⟨_, rfl⟩
  rw [eT2, eW5] at Kt_5; rw [eW5] at HX_5 Kp_5 Kq_5 Kg_5 Kf_5 Ol_5; rw [eT2] at hlp_t hlq_t hlg_t hlf_t; rw [eT2, eW5]
  clear eT2 eW5 HX_4 Kp_4 Kq_4 Kg_4 Kf_4 HO3
  obtain ⟨⟨t0, t1, t2⟩, ⟨tf0, tf1, tf2⟩, tl⟩ := block3 (unhide Kt_5)
  go_wp2_with fail
  go_region_law (first
      | (go_simp; go_at_call 34; refine (isOf_any _ x).mono ?_; rintro e w6 ⟨rfl, hk6, hb6⟩; have hx6 : Below W5.heap.size W5 w6 := Below.next (by first | exact (Below.refl _ _).drew | exact Below.refl _ _) hb6 (Nat.le_refl _); have HK6 := hide hk6; have HX_6 := hide (Below.next (unhide HX_5) hx6 (by first | exact Nat.le_refl _ | (have := unhide HBA; omega))); have Kp_6 := hide (keep_below (unhide Kp_5) hx6); have Kq_6 := hide (keep_below (unhide Kq_5) hx6); have Kg_6 := hide (keep_below (unhide Kg_5) hx6); have Kf_6 := hide (keep_below (unhide Kf_5) hx6); have Kt_6 := hide (keep_below (unhide Kt_5) hx6); have Ol_6 := hide ((unhide Ol_5).below hx6); clear HX_5 Kp_5 Kq_5 Kg_5 Kf_5 Kt_5 Ol_5; clear hk6 hb6 hx6; obtain ⟨⟨t0', t1', t2'⟩, ⟨tf0', tf1', tf2'⟩, tl'⟩ := block3 (unhide Kt_6))
      | (go_simp; go_at_call 33; refine (unhide HDL _ B3 _ _ (unhide Ol_6) (unhide HK6)).mono ?_; rintro e w7 ⟨b7, d7, rfl, ho7, hg7⟩; have HO7 := hide ho7; have HX_7 := hide ((unhide HX_6).grown hg7 (unhide HX_6).size (fun k hk => by have h1 := ((unhide Ol_6).lt k hk).1; have h2 := unhide HB3; omega)); have Kp_7 := hide (keep_grown (unhide Kp_6) hg7 (fun j hj => Own.ne (unhide Ol_6) (unhide Kp_6) (by decide) j hj)); have Kq_7 := hide (keep_grown (unhide Kq_6) hg7 (fun j hj => Own.ne (unhide Ol_6) (unhide Kq_6) (by decide) j hj)); have Kg_7 := hide (keep_grown (unhide Kg_6) hg7 (fun j hj => Own.ne (unhide Ol_6) (unhide Kg_6) (by decide) j hj)); have Kf_7 := hide (keep_grown (unhide Kf_6) hg7 (fun j hj => Own.ne (unhide Ol_6) (unhide Kf_6) (by decide) j hj)); have Kt_7 := hide (keep_grown (unhide Kt_6) hg7 (fun j hj => Own.ne (unhide Ol_6) (unhide Kt_6) (by decide) j hj)); clear ho7 hg7 HK6 Ol_6 HX_6 Kp_6 Kq_6 Kg_6 Kf_6 Kt_6 t0' t1' t2' tf0' tf1' tf2' tl'; obtain ⟨⟨t0', t1', t2'⟩, ⟨tf0', tf1', tf2'⟩, tl'⟩ := block3 (unhide Kt_7)))
  all_goals (
    clear t0' t1' t2' tf0' tf1' tf2' tl'
    clear t0 t1 t2 tf0 tf1 tf2 tl
    have HX_8 := hide (below_set (i := 2) (unhide HX_7) (show w.heap.size ≤ T2 by first | omega | (have := unhide HBA; omega)) (.slice b7 m2 d7))
    have Kp_8 := hide (keep_set (g := T2) (o := 2) (v := .slice b7 m2 d7) (unhide Kp_7) (by omega))
    have Kq_8 := hide (keep_set (g := T2) (o := 2) (v := .slice b7 m2 d7) (unhide Kq_7) (by omega))
    have Kg_8 := hide (keep_set (g := T2) (o := 2) (v := .slice b7 m2 d7) (unhide Kg_7) (by omega))
    have Kf_8 := hide (keep_set (g := T2) (o := 2) (v := .slice b7 m2 d7) (unhide Kf_7) (by omega))
    have Kt_8 := hide (set_block3 (i := 2) (y := .slice b7 m2 d7) (unhide Kt_7))
    have Ol_8 := hide ((unhide HO7).keep (fun k hk => Below.heap_setCell w7 ⟨T2, 2, none⟩ (.slice b7 m2 d7) k (by have := Own.ne (unhide HO7) (unhide Kt_7) (by decide) k hk; simpa using this)))
    obtain ⟨W8, eW8⟩ : ∃ X, w7.setCell ⟨T2, 2, none⟩ (.slice b7 m2 d7) = X := ⟨_, rfl⟩
    rw [eW8] at HX_8 Kp_8 Kq_8 Kg_8 Kf_8 Kt_8 Ol_8 ⊢
    clear eW8 HX_7 Kp_7 Kq_7 Kg_7 Kf_7 Kt_7 HO7
    simp only [List.setIfInBounds_toArray, List.set_cons_zero, List.set_cons_succ] at Kt_8
    have HNE : Hid (∀ k, (Value.slice b7 m2 d7).ownBlock = some k → k ≠ T2) := fun k hk => Own.ne (unhide Ol_8) (unhide Kt_8) (by decide) k hk
    have HNQ : Hid (∀ k, (Value.slice b7 m2 d7).ownBlock = some k → k ≠ w.heap.size + 1) := fun k hk => Own.ne (unhide Ol_8) (unhide Kq_8) (by decide) k hk
    have HNG : Hid (∀ k, (Value.slice b7 m2 d7).ownBlock = some k → k ≠ w.heap.size + 1 + 1) := fun k hk => Own.ne (unhide Ol_8) (unhide Kg_8) (by decide) k hk
    have HNB : Hid (∀ k, (Value.slice b7 m2 d7).ownBlock = some k → w.heap.size ≤ k) := fun k hk => Nat.le_trans (unhide HB3) ((unhide Ol_8).lt k hk).1
    have HA6 := hide (unhide HAD W8 _ _ (unhide Ol_8).isl)
    clear Ol_8 HAD
    obtain ⟨ob, eob⟩ : ∃ o, (Value.slice b7 m2 d7).ownBlock = o := ⟨_, rfl⟩
    rw [eob] at HNE HNQ HNG HNB HA6
    clear eob
    obtain ⟨B6, eB6⟩ : ∃ X, W8.heap.size = X := ⟨_, rfl⟩
    have HB6 : Hid (w.heap.size ≤ B6) := by have := (unhide HX_8).size; rw [eB6] at this; exact this
    have HB66 := hide eB6
    rw [eB6] at HA6
    clear eB6
    obtain ⟨⟨t0, t1, t2⟩, ⟨tf0, tf1, tf2⟩, tl⟩ := block3 (unhide Kt_8)
    go_upto_region 9 with (go_at_call 30; refine (unhide HA6).mono ?_; rintro e w9 ⟨v1, v2, rfl, ha7, ho9, hb7⟩; obtain ⟨b3, d3, rfl, ha8⟩ := AtLock.form ha7; obtain ⟨b5, d5, rfl⟩ := ho9.form; simp only at ha8; have HA7 := hide ha8; have HO9 := hide ho9; rw [← unhide HB66] at hb7; have HX_9 := hide (Below.next (unhide HX_8) hb7 (by first | exact Nat.le_refl _ | (have := unhide HBA; omega))); have Kp_9 := hide (keep_below (unhide Kp_8) hb7); have Kq_9 := hide (keep_below (unhide Kq_8) hb7); have Kg_9 := hide (keep_below (unhide Kg_8) hb7); have Kf_9 := hide (keep_below (unhide Kf_8) hb7); have Kt_9 := hide (keep_below (unhide Kt_8) hb7); clear HX_8 Kp_8 Kq_8 Kg_8 Kf_8 Kt_8; clear ha7 ha8 ho9 hb7 HA6 t0 t1 t2 tf0 tf1 tf2 tl; obtain ⟨⟨t0, t1, t2⟩, ⟨tf0, tf1, tf2⟩, tl⟩ := block3 (unhide Kt_9))
    clear t0 t1 t2 tf0 tf1 tf2 tl HB66
    have HX_10 := hide (putL_below (y0 := .int .i64 r2) (y1 := .bool bw2) (y2 := .slice b3 line2.length d3) (unhide HX_9) (show w.heap.size ≤ T2 by first | omega | (have := unhide HBA; omega)))
    have Kp_10 := hide ((putL_keep (y0 := .int .i64 r2) (y1 := .bool bw2) (y2 := .slice b3 line2.length d3) (show w.heap.size ≠ T2 by omega)).trans (unhide Kp_9))
    have Kq_10 := hide ((putL_keep (y0 := .int .i64 r2) (y1 := .bool bw2) (y2 := .slice b3 line2.length d3) (show w.heap.size + 1 ≠ T2 by omega)).trans (unhide Kq_9))
    have Kg_10 := hide ((putL_keep (y0 := .int .i64 r2) (y1 := .bool bw2) (y2 := .slice b3 line2.length d3) (show w.heap.size + 1 + 1 ≠ T2 by omega)).trans (unhide Kg_9))
    have Kf_10 := hide ((putL_keep (y0 := .int .i64 r2) (y1 := .bool bw2) (y2 := .slice b3 line2.length d3) (show T ≠ T2 by omega)).trans (unhide Kf_9))
    have Kt_10 := hide (putL_new (y0 := .int .i64 r2) (y1 := .bool bw2) (y2 := .slice b3 line2.length d3) (unhide Kt_9))
    have Ow_10 := hide ((unhide HO9).keep (fun k hk => putL_keep (y0 := .int .i64 r2) (y1 := .bool bw2) (y2 := .slice b3 line2.length d3) (Own.ne (unhide HO9) (unhide Kt_9) (by decide) k hk)))
    have FA_10 := hide ((unhide HA7).keep kp (fun k hk => putL_keep (y0 := .int .i64 r2) (y1 := .bool bw2) (y2 := .slice b3 line2.length d3) (unhide HNE k hk)))
    obtain ⟨W10, eW10⟩ : ∃ X, putL w9 (T2) (.int .i64 r2) (.bool bw2) (.slice b3 line2.length d3) = X := ⟨_, rfl⟩
    rw [eW10] at HX_10 Kp_10 Kq_10 Kg_10 Kf_10 Kt_10 Ow_10 FA_10
    have eW102 : (((w9).setCell ⟨T2, 0, none⟩ (.int .i64 r2)).setCell ⟨T2, 1, none⟩ (.bool bw2)).setCell ⟨T2, 2, none⟩ (.slice b3 line2.length d3) = W10 := eW10
    rw [eW102]
    clear eW10 eW102 HX_9 Kp_9 Kq_9 Kg_9 Kf_9 Kt_9 HO9 HA7
    obtain ⟨⟨t0, t1, t2⟩, ⟨tf0, tf1, tf2⟩, tl⟩ := block3 (unhide Kt_10)
    obtain ⟨⟨q0, q1, q2⟩, ⟨qf0, qf1, qf2⟩, ql⟩ := block3 (unhide Kq_10)
    obtain ⟨g0, g1, gf0, gf1, gl⟩ := block2 (unhide Kg_10)
    go_wp2_with fail
    clear t0 t1 t2 tf0 tf1 tf2 tl q0 q1 q2 qf0 qf1 qf2 ql g0 g1 gf0 gf1 gl
    have HX_11 := hide (putL_below (y0 := .int .i64 r2) (y1 := .bool bw2) (y2 := .slice b3 line2.length d3) (unhide HX_10) (show w.heap.size ≤ w.heap.size + 1 by first | omega | (have := unhide HBA; omega)))
    have Kp_11 := hide ((putL_keep (y0 := .int .i64 r2) (y1 := .bool bw2) (y2 := .slice b3 line2.length d3) (show w.heap.size ≠ w.heap.size + 1 by omega)).trans (unhide Kp_10))
    have Kq_11 := hide (putL_new (y0 := .int .i64 r2) (y1 := .bool bw2) (y2 := .slice b3 line2.length d3) (unhide Kq_10))
    have Kg_11 := hide ((putL_keep (y0 := .int .i64 r2) (y1 := .bool bw2) (y2 := .slice b3 line2.length d3) (show w.heap.size + 1 + 1 ≠ w.heap.size + 1 by omega)).trans (unhide Kg_10))
    have Kf_11 := hide ((putL_keep (y0 := .int .i64 r2) (y1 := .bool bw2) (y2 := .slice b3 line2.length d3) (show T ≠ w.heap.size + 1 by omega)).trans (unhide Kf_10))
    have Kt_11 := hide ((putL_keep (y0 := .int .i64 r2) (y1 := .bool bw2) (y2 := .slice b3 line2.length d3) (show T2 ≠ w.heap.size + 1 by omega)).trans (unhide Kt_10))
    have Ow_11 := hide ((unhide Ow_10).keep (fun k hk => putL_keep (y0 := .int .i64 r2) (y1 := .bool bw2) (y2 := .slice b3 line2.length d3) (Own.ne (unhide Ow_10) (unhide Kq_10) (by decide) k hk)))
    have FA_11 := hide ((unhide FA_10).keep kp (fun k hk => putL_keep (y0 := .int .i64 r2) (y1 := .bool bw2) (y2 := .slice b3 line2.length d3) (unhide HNQ k hk)))
    obtain ⟨V1, eV1⟩ : ∃ X, putL W10 (w.heap.size + 1) (.int .i64 r2) (.bool bw2) (.slice b3 line2.length d3) = X := ⟨_, rfl⟩
    rw [eV1] at HX_11 Kp_11 Kq_11 Kg_11 Kf_11 Kt_11 Ow_11 FA_11
    have eV12 : (((W10).setCell ⟨w.heap.size + 1, 0, none⟩ (.int .i64 r2)).setCell ⟨w.heap.size + 1, 1, none⟩ (.bool bw2)).setCell ⟨w.heap.size + 1, 2, none⟩ (.slice b3 line2.length d3) = V1 := eV1
    rw [eV12]
    clear eV1 eV12 HX_10 Kp_10 Kq_10 Kg_10 Kf_10 Kt_10 Ow_10 FA_10
    have HX_12 := hide (put2_below (y0 := .int .i64 0) (y1 := .int .i64 0) (unhide HX_11) (show w.heap.size ≤ w.heap.size + 1 + 1 by first | omega | (have := unhide HBA; omega)))
    have Kp_12 := hide ((put2_keep (y0 := .int .i64 0) (y1 := .int .i64 0) (show w.heap.size ≠ w.heap.size + 1 + 1 by omega)).trans (unhide Kp_11))
    have Kq_12 := hide ((put2_keep (y0 := .int .i64 0) (y1 := .int .i64 0) (show w.heap.size + 1 ≠ w.heap.size + 1 + 1 by omega)).trans (unhide Kq_11))
    have Kg_12 := hide (put2_new (y0 := .int .i64 0) (y1 := .int .i64 0) (unhide Kg_11))
    have Kf_12 := hide ((put2_keep (y0 := .int .i64 0) (y1 := .int .i64 0) (show T ≠ w.heap.size + 1 + 1 by omega)).trans (unhide Kf_11))
    have Kt_12 := hide ((put2_keep (y0 := .int .i64 0) (y1 := .int .i64 0) (show T2 ≠ w.heap.size + 1 + 1 by omega)).trans (unhide Kt_11))
    have Ow_12 := hide ((unhide Ow_11).keep (fun k hk => put2_keep (y0 := .int .i64 0) (y1 := .int .i64 0) (Own.ne (unhide Ow_11) (unhide Kg_11) (by decide) k hk)))
    have FA_12 := hide ((unhide FA_11).keep kp (fun k hk => put2_keep (y0 := .int .i64 0) (y1 := .int .i64 0) (unhide HNG k hk)))
    obtain ⟨V2, eV2⟩ : ∃ X, put2 V1 (w.heap.size + 1 + 1) (.int .i64 0) (.int .i64 0) = X := ⟨_, rfl⟩
    rw [eV2] at HX_12 Kp_12 Kq_12 Kg_12 Kf_12 Kt_12 Ow_12 FA_12
    have eV22 : ((V1).setCell ⟨w.heap.size + 1 + 1, 0, none⟩ (.int .i64 0)).setCell ⟨w.heap.size + 1 + 1, 1, none⟩ (.int .i64 0) = V2 := eV2
    rw [eV22]
    clear eV2 eV22 HX_11 Kp_11 Kq_11 Kg_11 Kf_11 Kt_11 Ow_11 FA_11
    obtain ⟨⟨q0, q1, q2⟩, ⟨qf0, qf1, qf2⟩, ql⟩ := block3 (unhide Kq_12)
    obtain ⟨g0, g1, gf0, gf1, gl⟩ := block2 (unhide Kg_12)
    exact bodyPost_ret (v := .tuple #[.agg #[.int .i64 r2, .bool bw2, .slice b3 line2.length d3], .slice b5 ws.length d5, .agg #[.int .i64 0, .int .i64 0]]) (by simp [results, Try.results21, go_sem, q0, q1, q2, g0, g1]) rfl ⟨.agg #[.int .i64 r2, .bool bw2, .slice b3 line2.length d3], .slice b5 ws.length d5, rfl, ⟨_, rfl, (unhide FA_12).new (unhide HNB)⟩, ((unhide Ow_12).base (unhide HB6)).new, unhide HX_12⟩)
end Go.Proofs.Ytdpcbmekplcllaa
