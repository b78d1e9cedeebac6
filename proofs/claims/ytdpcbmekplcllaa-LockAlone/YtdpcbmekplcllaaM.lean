/-
  lock.Leave.
-/
import Derived.Test.YtdpcbmekplcllaaL
namespace Go.Proofs.Ytdpcbmekplcllaa
open Go.RowKit

/-- The lock behind a Leave that nothing is wrong with, who is let in, and whether there was none to leave. -/
def leaveR (P : Lk) (wt : Bool) : (Lk × List Int) × Bool := if wt = true ∧ P.writer = true then (admR P.readers false P.line, false) else if wt = false ∧ 0 < P.readers then (admR (P.readers - 1) P.writer P.line, false) else ((P, []), true)

set_option maxRecDepth 100000 in
set_option maxHeartbeats 2000000 in
theorem leave_fault (w : World) (v : Value) (P : Lk) (wt : Bool) (h : IsLock w v P) (hn : P.line.length ≤ 100000) (hf : (lockF P).1 ≠ 0) :
    Calls Try.prog 20 #[v, .bool wt] w fun e w' => e = .returned (.tuple #[.agg #[.int .i64 0, .bool false, .slice none 0 0], .slice none 0 0, .bool false, .agg #[.int .i64 (lockF P).1, .int .i64 (lockF P).2]]) ∧ Below w.heap.size w w' := by
  have HC : Hid (∀ W, Below w.heap.size w W → Calls Try.prog 10 #[v] W fun e w' => e = .returned (.agg #[.int .i64 (lockF P).1, .int .i64 (lockF P).2]) ∧ Below W.heap.size W w') := fun W hW => check_any W v P (h.below hW) hn
  obtain ⟨⟨F0, F1⟩, eF⟩ : ∃ F, lockF P = F := ⟨_, rfl⟩
  rw [eF] at HC hf ⊢
  obtain ⟨r, bw, line⟩ := P
  obtain ⟨a0, c0, rfl, hL⟩ := h.form
  simp only at hL HC hn hf ⊢
  generalize line.length = n at *
  have x0 : (F0 != 0) = true := by simpa using hf
  clear h hL eF hf
  obtain ⟨W0, e0, hB, k0, k1, k2⟩ := three_new w (.cells #[.int .i64 r, .bool bw, .slice a0 n c0] 24) (.cells #[.int .i64 0, .bool false, .slice none 0 0] 24) (.cells #[.int .i64 0, .int .i64 0] 28)
  have HX := hide hB; have HP := hide k0; have HQ := hide k1; have HG := hide k2; have HE := hide e0
  clear hB k0 k1 k2 e0
  go_enter Try.func20, Try.ntmps20
  go_upto_region 1 with fail
  rw [unhide HE]
  clear HE
  obtain ⟨⟨p0, p1, p2⟩, ⟨pf0, pf1, pf2⟩, pl⟩ := block3 (unhide HP)
  go_upto_region 2 with (go_at_call 10; refine (unhide HC _ (unhide HX)).mono ?_; rintro e w1 ⟨rfl, hb1⟩; have HX_1 := hide (Below.next (unhide HX) hb1 (by first | exact Nat.le_refl _ | (have := unhide HBA; omega))); have Kp_1 := hide (keep_below (unhide HP) hb1); have Kq_1 := hide (keep_below (unhide HQ) hb1); have Kg_1 := hide (keep_below (unhide HG) hb1); clear HX HP HQ HG; clear hb1 p0 p1 p2 pf0 pf1 pf2 pl)
  have HX_2 := hide ((unhide HX_1).alloc (Nat.le_trans (show w.heap.size ≤ w.heap.size from Nat.le_refl _) (unhide HX_1).size) (.cells #[.int .i64 F0, .int .i64 F1] 28))
  have Kp_2 := hide (keep_alloc (unhide Kp_1) (.cells #[.int .i64 F0, .int .i64 F1] 28))
  have Kq_2 := hide (keep_alloc (unhide Kq_1) (.cells #[.int .i64 F0, .int .i64 F1] 28))
  have Kg_2 := hide (keep_alloc (unhide Kg_1) (.cells #[.int .i64 F0, .int .i64 F1] 28))
  have Kf_2 := hide (new_block w1 (.cells #[.int .i64 F0, .int .i64 F1] 28))
  have hlp_f : w.heap.size < w1.heap.size := size_of (unhide Kp_1)
  have hlq_f : w.heap.size + 1 < w1.heap.size := size_of (unhide Kq_1)
  have hlg_f : w.heap.size + 1 + 1 < w1.heap.size := size_of (unhide Kg_1)
  obtain ⟨T, eT⟩ : ∃ X, w1.heap.size = X := ⟨_, rfl⟩
  obtain ⟨W2, eW2⟩ : ∃ X, w1.alloc (.cells #[.int .i64 F0, .int .i64 F1] 28) = X := ⟨_, rfl⟩
  rw [eT, eW2] at Kf_2; rw [eW2] at HX_2 Kp_2 Kq_2 Kg_2; rw [eT] at hlp_f hlq_f hlg_f; rw [eT, eW2]
  clear eT eW2 HX_1 Kp_1 Kq_1 Kg_1
  have hqt : w.heap.size + 1 + 1 < T := by omega
  obtain ⟨⟨q0, q1, q2⟩, ⟨qf0, qf1, qf2⟩, ql⟩ := block3 (unhide Kq_2)
  obtain ⟨g0, g1, gf0, gf1, gl⟩ := block2 (unhide Kg_2)
  obtain ⟨f0, f1, ff0, ff1, fl⟩ := block2 (unhide Kf_2)
  have u1 : w.heap.size + 1 ≠ T := by omega
  have u2 : w.heap.size + 1 + 1 ≠ T := by omega
  have u3 : T ≠ w.heap.size + 1 := by omega
  have u4 : T ≠ w.heap.size + 1 + 1 := by omega
  go_wp2_with fail
  go_region
  clear q0 q1 q2 qf0 qf1 qf2 ql g0 g1 gf0 gf1 gl f0 f1 ff0 ff1 fl
  have HX_3 := hide (putL_below (y0 := .int .i64 0) (y1 := .bool false) (y2 := .slice none 0 0) (unhide HX_2) (show w.heap.size ≤ w.heap.size + 1 by first | omega | (have := unhide HBA; omega)))
  have Kp_3 := hide ((putL_keep (y0 := .int .i64 0) (y1 := .bool false) (y2 := .slice none 0 0) (show w.heap.size ≠ w.heap.size + 1 by omega)).trans (unhide Kp_2))
  have Kq_3 := hide (putL_new (y0 := .int .i64 0) (y1 := .bool false) (y2 := .slice none 0 0) (unhide Kq_2))
  have Kg_3 := hide ((putL_keep (y0 := .int .i64 0) (y1 := .bool false) (y2 := .slice none 0 0) (show w.heap.size + 1 + 1 ≠ w.heap.size + 1 by omega)).trans (unhide Kg_2))
  have Kf_3 := hide ((putL_keep (y0 := .int .i64 0) (y1 := .bool false) (y2 := .slice none 0 0) (show T ≠ w.heap.size + 1 by omega)).trans (unhide Kf_2))
  obtain ⟨V1, eV1⟩ : ∃ X, putL W2 (w.heap.size + 1) (.int .i64 0) (.bool false) (.slice none 0 0) = X := ⟨_, rfl⟩
  rw [eV1] at HX_3 Kp_3 Kq_3 Kg_3 Kf_3
  have eV12 : (((W2).setCell ⟨w.heap.size + 1, 0, none⟩ (.int .i64 0)).setCell ⟨w.heap.size + 1, 1, none⟩ (.bool false)).setCell ⟨w.heap.size + 1, 2, none⟩ (.slice none 0 0) = V1 := eV1
  rw [eV12]
  clear eV1 eV12 HX_2 Kp_2 Kq_2 Kg_2 Kf_2
  have HX_4 := hide (put2_below (y0 := .int .i64 F0) (y1 := .int .i64 F1) (unhide HX_3) (show w.heap.size ≤ w.heap.size + 1 + 1 by first | omega | (have := unhide HBA; omega)))
  have Kp_4 := hide ((put2_keep (y0 := .int .i64 F0) (y1 := .int .i64 F1) (show w.heap.size ≠ w.heap.size + 1 + 1 by omega)).trans (unhide Kp_3))
  have Kq_4 := hide ((put2_keep (y0 := .int .i64 F0) (y1 := .int .i64 F1) (show w.heap.size + 1 ≠ w.heap.size + 1 + 1 by omega)).trans (unhide Kq_3))
  have Kg_4 := hide (put2_new (y0 := .int .i64 F0) (y1 := .int .i64 F1) (unhide Kg_3))
  have Kf_4 := hide ((put2_keep (y0 := .int .i64 F0) (y1 := .int .i64 F1) (show T ≠ w.heap.size + 1 + 1 by omega)).trans (unhide Kf_3))
  obtain ⟨V2, eV2⟩ : ∃ X, put2 V1 (w.heap.size + 1 + 1) (.int .i64 F0) (.int .i64 F1) = X := ⟨_, rfl⟩
  rw [eV2] at HX_4 Kp_4 Kq_4 Kg_4 Kf_4
  have eV22 : ((V1).setCell ⟨w.heap.size + 1 + 1, 0, none⟩ (.int .i64 F0)).setCell ⟨w.heap.size + 1 + 1, 1, none⟩ (.int .i64 F1) = V2 := eV2
  rw [eV22]
  clear eV2 eV22 HX_3 Kp_3 Kq_3 Kg_3 Kf_3
  have hV3 : Below V2.heap.size V2 V2.drew := (Below.refl _ _).drew
  obtain ⟨V3, eV3⟩ : ∃ X, V2.drew = X := ⟨_, rfl⟩
  rw [eV3] at hV3 ⊢
  (have HX_5 := hide (Below.next (unhide HX_4) hV3 (by first | exact Nat.le_refl _ | (have := unhide HBA; omega))); have Kp_5 := hide (keep_below (unhide Kp_4) hV3); have Kq_5 := hide (keep_below (unhide Kq_4) hV3); have Kg_5 := hide (keep_below (unhide Kg_4) hV3); have Kf_5 := hide (keep_below (unhide Kf_4) hV3); clear HX_4 Kp_4 Kq_4 Kg_4 Kf_4)
  clear hV3 eV3
  obtain ⟨⟨q0, q1, q2⟩, ⟨qf0, qf1, qf2⟩, ql⟩ := block3 (unhide Kq_5)
  obtain ⟨g0, g1, gf0, gf1, gl⟩ := block2 (unhide Kg_5)
  go_wp2_with fail
  exact bodyPost_ret (v := .tuple #[.agg #[.int .i64 0, .bool false, .slice none 0 0], .slice none 0 0, .bool false, .agg #[.int .i64 F0, .int .i64 F1]]) (by simp [results, Try.results20, go_sem, q0, q1, q2, g0, g1]) rfl ⟨rfl, unhide HX_5⟩

set_option maxRecDepth 100000 in
set_option maxHeartbeats 4000000 in
theorem leave_writer (w : World) (v : Value) (P : Lk) (h : IsLock w v P) (hf : (lockF P).1 = 0) (hb : P.writer = true) :
    Calls Try.prog 20 #[v, .bool true] w fun e w' => ∃ v1 v2, e = .returned (.tuple #[v1, v2, .bool false, .agg #[.int .i64 0, .int .i64 0]]) ∧ NewLock w.heap.size w' v1 (admR P.readers false P.line).1 ∧ New KI w.heap.size w' v2 (admR P.readers false P.line).2 ∧ Below w.heap.size w w' := by
  have hz := lockF_zero hf
  obtain ⟨hn, hr0, hr1, -, -, -⟩ := lockF_good hf
  have HC : Hid (∀ W, Below w.heap.size w W → Calls Try.prog 10 #[v] W fun e w' => e = .returned (.agg #[.int .i64 0, .int .i64 0]) ∧ Below W.heap.size W w') := fun W hW => by
    have := check_any W v P (h.below hW) (by omega)
    rw [hz] at this
    exact this
  have HFR : Hid (∀ W, Below w.heap.size w W → Calls Try.prog 29 #[v] W fun e w' => ∃ a c, e = .returned (.agg #[.int .i64 P.readers, .bool P.writer, .slice a P.line.length c]) ∧ Own KP W.heap.size w' (.slice a P.line.length c) P.line ∧ Below W.heap.size W w') := fun W hW => (fresh_any W v P (h.below hW) (by omega)).mono fun e w' ⟨v', h1, h2, h3⟩ => by
    obtain ⟨a, c, rfl, h4⟩ := h2.form
    exact ⟨a, c, h1, h4, h3⟩
  have HAD : Hid (∀ W a c, IsL KP W (.slice a P.line.length c) P.line → Calls Try.prog 30 #[.agg #[.int .i64 P.readers, .bool false, .slice a P.line.length c]] W fun e w' => ∃ v1 v2, e = .returned (.tuple #[v1, v2]) ∧ AtLock (Value.slice a P.line.length c).ownBlock w' v1 (admR P.readers false P.line).1 ∧ Own KI W.heap.size w' v2 (admR P.readers false P.line).2 ∧ Below W.heap.size W w') := fun W a c hW =>
    admitted_any W _ _ ⟨P.readers, false, P.line⟩ ⟨_, rfl, at_own hW⟩ (by simp only; omega) (by simp only; omega) (by simp only; omega)
  obtain ⟨⟨⟨r2, bw2, line2⟩, ws⟩, eQ⟩ : ∃ Q, admR P.readers false P.line = Q := ⟨_, rfl⟩
  rw [eQ] at HAD ⊢
  simp only at HAD ⊢
  clear eQ
  obtain ⟨r, bw, line⟩ := P
  obtain ⟨a0, c0, rfl, hL⟩ := h.form
  simp only at hL HC HFR HAD hn hr0 hr1 hb ⊢
  obtain ⟨n, en⟩ : ∃ n, line.length = n := ⟨_, rfl⟩
  rw [en] at HC HFR HAD hn ⊢
  have HEN := hide en
  clear h hL hf hz en
  subst hb
  obtain ⟨W0, e0, hB, k0, k1, k2⟩ := three_new w (.cells #[.int .i64 r, .bool true, .slice a0 n c0] 24) (.cells #[.int .i64 0, .bool false, .slice none 0 0] 24) (.cells #[.int .i64 0, .int .i64 0] 28)
  have HX := hide hB; have HP := hide k0; have HQ := hide k1; have HG := hide k2; have HE := hide e0
  clear hB k0 k1 k2 e0
  go_enter Try.func20, Try.ntmps20
  go_upto_region 1 with fail
  rw [unhide HE]
  clear HE
  obtain ⟨⟨p0, p1, p2⟩, ⟨pf0, pf1, pf2⟩, pl⟩ := block3 (unhide HP)
  go_upto_region 2 with (go_at_call 10; refine (unhide HC _ (unhide HX)).mono ?_; rintro e w1 ⟨rfl, hb1⟩; have HX_1 := hide (Below.next (unhide HX) hb1 (by first | exact Nat.le_refl _ | (have := unhide HBA; omega))); have Kp_1 := hide (keep_below (unhide HP) hb1); have Kq_1 := hide (keep_below (unhide HQ) hb1); have Kg_1 := hide (keep_below (unhide HG) hb1); clear HX HP HQ HG; clear hb1 p0 p1 p2 pf0 pf1 pf2 pl)
  have HX_2 := hide ((unhide HX_1).alloc (Nat.le_trans (show w.heap.size ≤ w.heap.size from Nat.le_refl _) (unhide HX_1).size) (.cells #[.int .i64 0, .int .i64 0] 28))
  have Kp_2 := hide (keep_alloc (unhide Kp_1) (.cells #[.int .i64 0, .int .i64 0] 28))
  have Kq_2 := hide (keep_alloc (unhide Kq_1) (.cells #[.int .i64 0, .int .i64 0] 28))
  have Kg_2 := hide (keep_alloc (unhide Kg_1) (.cells #[.int .i64 0, .int .i64 0] 28))
  have Kf_2 := hide (new_block w1 (.cells #[.int .i64 0, .int .i64 0] 28))
  have hlp_f : w.heap.size < w1.heap.size := size_of (unhide Kp_1)
  have hlq_f : w.heap.size + 1 < w1.heap.size := size_of (unhide Kq_1)
  have hlg_f : w.heap.size + 1 + 1 < w1.heap.size := size_of (unhide Kg_1)
  obtain ⟨T, eT⟩ : ∃ X, w1.heap.size = X := ⟨_, rfl⟩
  obtain ⟨W2, eW2⟩ : ∃ X, w1.alloc (.cells #[.int .i64 0, .int .i64 0] 28) = X := ⟨_, rfl⟩
  rw [eT, eW2] at Kf_2; rw [eW2] at HX_2 Kp_2 Kq_2 Kg_2; rw [eT] at hlp_f hlq_f hlg_f; rw [eT, eW2]
  clear eT eW2 HX_1 Kp_1 Kq_1 Kg_1
  have hqt : w.heap.size + 1 + 1 < T := by omega
  obtain ⟨⟨p0, p1, p2⟩, ⟨pf0, pf1, pf2⟩, pl⟩ := block3 (unhide Kp_2)
  obtain ⟨f0, f1, ff0, ff1, fl⟩ := block2 (unhide Kf_2)
  obtain ⟨B3, eB3⟩ : ∃ X, W2.heap.size = X := ⟨_, rfl⟩
  have HB3 : Hid (w.heap.size ≤ B3) := by have := (unhide HX_2).size; rw [eB3] at this; exact this
  have HF3 := unhide HFR W2 (unhide HX_2)
  rw [eB3] at HF3
  have HFR3 := hide HF3
  clear HF3
  go_upto_region 6 with (go_at_call 29; refine (unhide HFR3).mono ?_; rintro e w3 ⟨b1, d1, rfl, ho3, hb3⟩; have HO3 := hide ho3; rw [← eB3] at hb3; have HX_3 := hide (Below.next (unhide HX_2) hb3 (by first | exact Nat.le_refl _ | (have := unhide HBA; omega))); have Kp_3 := hide (keep_below (unhide Kp_2) hb3); have Kq_3 := hide (keep_below (unhide Kq_2) hb3); have Kg_3 := hide (keep_below (unhide Kg_2) hb3); have Kf_3 := hide (keep_below (unhide Kf_2) hb3); clear HX_2 Kp_2 Kq_2 Kg_2 Kf_2; clear hb3 ho3 HFR3 p0 p1 p2 pf0 pf1 pf2 pl f0 f1 ff0 ff1 fl)
  clear eB3
  have HX_4 := hide ((unhide HX_3).alloc (Nat.le_trans (show w.heap.size ≤ w.heap.size from Nat.le_refl _) (unhide HX_3).size) (.cells #[.int .i64 r, .bool true, .slice b1 n d1] 24))
  have Kp_4 := hide (keep_alloc (unhide Kp_3) (.cells #[.int .i64 r, .bool true, .slice b1 n d1] 24))
  have Kq_4 := hide (keep_alloc (unhide Kq_3) (.cells #[.int .i64 r, .bool true, .slice b1 n d1] 24))
  have Kg_4 := hide (keep_alloc (unhide Kg_3) (.cells #[.int .i64 r, .bool true, .slice b1 n d1] 24))
  have Kf_4 := hide (keep_alloc (unhide Kf_3) (.cells #[.int .i64 r, .bool true, .slice b1 n d1] 24))
  have Ol_4 := hide ((unhide HO3).below ((Below.refl _ _).alloc (Nat.le_refl _) (.cells #[.int .i64 r, .bool true, .slice b1 n d1] 24)))
  have Kt_4 := hide (new_block w3 (.cells #[.int .i64 r, .bool true, .slice b1 n d1] 24))
  have hlp_t : w.heap.size < w3.heap.size := size_of (unhide Kp_3)
  have hlq_t : w.heap.size + 1 < w3.heap.size := size_of (unhide Kq_3)
  have hlg_t : w.heap.size + 1 + 1 < w3.heap.size := size_of (unhide Kg_3)
  have hlf_t : T < w3.heap.size := size_of (unhide Kf_3)
  obtain ⟨T2, eT2⟩ : ∃ X, w3.heap.size = X := ⟨_, rfl⟩
  obtain ⟨W4, eW4⟩ : ∃ X, w3.alloc (.cells #[.int .i64 r, .bool true, .slice b1 n d1] 24) = X := ⟨_, rfl⟩
  rw [eT2, eW4] at Kt_4; rw [eW4] at HX_4 Kp_4 Kq_4 Kg_4 Kf_4 Ol_4; rw [eT2] at hlp_t hlq_t hlg_t hlf_t; rw [eT2, eW4]
  clear eT2 eW4 HX_3 Kp_3 Kq_3 Kg_3 Kf_3 HO3
  obtain ⟨⟨t0, t1, t2⟩, ⟨tf0, tf1, tf2⟩, tl⟩ := block3 (unhide Kt_4)
  go_upto_region 10 with fail
  clear t0 t1 t2 tf0 tf1 tf2 tl
  have HX_5 := hide (below_set (i := 1) (unhide HX_4) (show w.heap.size ≤ T2 by first | omega | (have := unhide HBA; omega)) (.bool false))
  have Kp_5 := hide (keep_set (g := T2) (o := 1) (v := .bool false) (unhide Kp_4) (by omega))
  have Kq_5 := hide (keep_set (g := T2) (o := 1) (v := .bool false) (unhide Kq_4) (by omega))
  have Kg_5 := hide (keep_set (g := T2) (o := 1) (v := .bool false) (unhide Kg_4) (by omega))
  have Kf_5 := hide (keep_set (g := T2) (o := 1) (v := .bool false) (unhide Kf_4) (by omega))
  have Kt_5 := hide (set_block3 (i := 1) (y := .bool false) (unhide Kt_4))
  have Ol_5 := hide ((unhide Ol_4).keep (fun k hk => Below.heap_setCell W4 ⟨T2, 1, none⟩ (.bool false) k (by have := Own.ne (unhide Ol_4) (unhide Kt_4) (by decide) k hk; simpa using this)))
  obtain ⟨W6, eW6⟩ : ∃ X, W4.setCell ⟨T2, 1, none⟩ (.bool false) = X := ⟨_, rfl⟩
  rw [eW6] at HX_5 Kp_5 Kq_5 Kg_5 Kf_5 Kt_5 Ol_5 ⊢
  clear eW6 HX_4 Kp_4 Kq_4 Kg_4 Kf_4 Kt_4 Ol_4
  simp only [List.setIfInBounds_toArray, List.set_cons_zero, List.set_cons_succ] at Kt_5
  have HNE : Hid (∀ k, (Value.slice b1 n d1).ownBlock = some k → k ≠ T2) := fun k hk => Own.ne (unhide Ol_5) (unhide Kt_5) (by decide) k hk
  have HNQ : Hid (∀ k, (Value.slice b1 n d1).ownBlock = some k → k ≠ w.heap.size + 1) := fun k hk => Own.ne (unhide Ol_5) (unhide Kq_5) (by decide) k hk
  have HNG : Hid (∀ k, (Value.slice b1 n d1).ownBlock = some k → k ≠ w.heap.size + 1 + 1) := fun k hk => Own.ne (unhide Ol_5) (unhide Kg_5) (by decide) k hk
  have HNB : Hid (∀ k, (Value.slice b1 n d1).ownBlock = some k → w.heap.size ≤ k) := fun k hk => Nat.le_trans (unhide HB3) ((unhide Ol_5).lt k hk).1
  have HA6 := hide (unhide HAD W6 _ _ (unhide Ol_5).isl)
  clear Ol_5 HAD
  obtain ⟨ob, eob⟩ : ∃ o, (Value.slice b1 n d1).ownBlock = o := ⟨_, rfl⟩
  rw [eob] at HNE HNQ HNG HNB HA6
  clear eob
  obtain ⟨B6, eB6⟩ : ∃ X, W6.heap.size = X := ⟨_, rfl⟩
  have HB6 : Hid (w.heap.size ≤ B6) := by have := (unhide HX_5).size; rw [eB6] at this; exact this
  have HB66 := hide eB6
  rw [eB6] at HA6
  clear eB6
  obtain ⟨⟨t0, t1, t2⟩, ⟨tf0, tf1, tf2⟩, tl⟩ := block3 (unhide Kt_5)
  go_upto_region 11 with (go_at_call 30; refine (unhide HA6).mono ?_; rintro e w7 ⟨v1, v2, rfl, ha7, ho7, hb7⟩; obtain ⟨b3, d3, rfl, ha8⟩ := AtLock.form ha7; obtain ⟨b5, d5, rfl⟩ := ho7.form; simp only at ha8; have HA7 := hide ha8; have HO7 := hide ho7; rw [← unhide HB66] at hb7; have HX_6 := hide (Below.next (unhide HX_5) hb7 (by first | exact Nat.le_refl _ | (have := unhide HBA; omega))); have Kp_6 := hide (keep_below (unhide Kp_5) hb7); have Kq_6 := hide (keep_below (unhide Kq_5) hb7); have Kg_6 := hide (keep_below (unhide Kg_5) hb7); have Kf_6 := hide (keep_below (unhide Kf_5) hb7); have Kt_6 := hide (keep_below (unhide Kt_5) hb7); clear HX_5 Kp_5 Kq_5 Kg_5 Kf_5 Kt_5; clear ha7 ha8 ho7 hb7 HA6 t0 t1 t2 tf0 tf1 tf2 tl; obtain ⟨⟨t0, t1, t2⟩, ⟨tf0, tf1, tf2⟩, tl⟩ := block3 (unhide Kt_6))
  clear t0 t1 t2 tf0 tf1 tf2 tl HB66
  have HX_7 := hide (putL_below (y0 := .int .i64 r2) (y1 := .bool bw2) (y2 := .slice b3 line2.length d3) (unhide HX_6) (show w.heap.size ≤ T2 by first | omega | (have := unhide HBA; omega)))
  have Kp_7 := hide ((putL_keep (y0 := .int .i64 r2) (y1 := .bool bw2) (y2 := .slice b3 line2.length d3) (show w.heap.size ≠ T2 by omega)).trans (unhide Kp_6))
  have Kq_7 := hide ((putL_keep (y0 := .int .i64 r2) (y1 := .bool bw2) (y2 := .slice b3 line2.length d3) (show w.heap.size + 1 ≠ T2 by omega)).trans (unhide Kq_6))
  have Kg_7 := hide ((putL_keep (y0 := .int .i64 r2) (y1 := .bool bw2) (y2 := .slice b3 line2.length d3) (show w.heap.size + 1 + 1 ≠ T2 by omega)).trans (unhide Kg_6))
  have Kf_7 := hide ((putL_keep (y0 := .int .i64 r2) (y1 := .bool bw2) (y2 := .slice b3 line2.length d3) (show T ≠ T2 by omega)).trans (unhide Kf_6))
  have Kt_7 := hide (putL_new (y0 := .int .i64 r2) (y1 := .bool bw2) (y2 := .slice b3 line2.length d3) (unhide Kt_6))
  have Ow_7 := hide ((unhide HO7).keep (fun k hk => putL_keep (y0 := .int .i64 r2) (y1 := .bool bw2) (y2 := .slice b3 line2.length d3) (Own.ne (unhide HO7) (unhide Kt_6) (by decide) k hk)))
  have FA_7 := hide ((unhide HA7).keep kp (fun k hk => putL_keep (y0 := .int .i64 r2) (y1 := .bool bw2) (y2 := .slice b3 line2.length d3) (unhide HNE k hk)))
  obtain ⟨W8, eW8⟩ : ∃ X, putL w7 (T2) (.int .i64 r2) (.bool bw2) (.slice b3 line2.length d3) = X := ⟨_, rfl⟩
  rw [eW8] at HX_7 Kp_7 Kq_7 Kg_7 Kf_7 Kt_7 Ow_7 FA_7
  have eW82 : (((w7).setCell ⟨T2, 0, none⟩ (.int .i64 r2)).setCell ⟨T2, 1, none⟩ (.bool bw2)).setCell ⟨T2, 2, none⟩ (.slice b3 line2.length d3) = W8 := eW8
  rw [eW82]
  clear eW8 eW82 HX_6 Kp_6 Kq_6 Kg_6 Kf_6 Kt_6 HO7 HA7
  obtain ⟨⟨t0, t1, t2⟩, ⟨tf0, tf1, tf2⟩, tl⟩ := block3 (unhide Kt_7)
  obtain ⟨⟨q0, q1, q2⟩, ⟨qf0, qf1, qf2⟩, ql⟩ := block3 (unhide Kq_7)
  obtain ⟨g0, g1, gf0, gf1, gl⟩ := block2 (unhide Kg_7)
  go_wp2_with fail
  clear t0 t1 t2 tf0 tf1 tf2 tl q0 q1 q2 qf0 qf1 qf2 ql g0 g1 gf0 gf1 gl
  have HX_8 := hide (putL_below (y0 := .int .i64 r2) (y1 := .bool bw2) (y2 := .slice b3 line2.length d3) (unhide HX_7) (show w.heap.size ≤ w.heap.size + 1 by first | omega | (have := unhide HBA; omega)))
  have Kp_8 := hide ((putL_keep (y0 := .int .i64 r2) (y1 := .bool bw2) (y2 := .slice b3 line2.length d3) (show w.heap.size ≠ w.heap.size + 1 by omega)).trans (unhide Kp_7))
  have Kq_8 := hide (putL_new (y0 := .int .i64 r2) (y1 := .bool bw2) (y2 := .slice b3 line2.length d3) (unhide Kq_7))
  have Kg_8 := hide ((putL_keep (y0 := .int .i64 r2) (y1 := .bool bw2) (y2 := .slice b3 line2.length d3) (show w.heap.size + 1 + 1 ≠ w.heap.size + 1 by omega)).trans (unhide Kg_7))
  have Kf_8 := hide ((putL_keep (y0 := .int .i64 r2) (y1 := .bool bw2) (y2 := .slice b3 line2.length d3) (show T ≠ w.heap.size + 1 by omega)).trans (unhide Kf_7))
  have Kt_8 := hide ((putL_keep (y0 := .int .i64 r2) (y1 := .bool bw2) (y2 := .slice b3 line2.length d3) (show T2 ≠ w.heap.size + 1 by omega)).trans (unhide Kt_7))
  have Ow_8 := hide ((unhide Ow_7).keep (fun k hk => putL_keep (y0 := .int .i64 r2) (y1 := .bool bw2) (y2 := .slice b3 line2.length d3) (Own.ne (unhide Ow_7) (unhide Kq_7) (by decide) k hk)))
  have FA_8 := hide ((unhide FA_7).keep kp (fun k hk => putL_keep (y0 := .int .i64 r2) (y1 := .bool bw2) (y2 := .slice b3 line2.length d3) (unhide HNQ k hk)))
  obtain ⟨V1, eV1⟩ : ∃ X, putL W8 (w.heap.size + 1) (.int .i64 r2) (.bool bw2) (.slice b3 line2.length d3) = X := ⟨_, rfl⟩
  rw [eV1] at HX_8 Kp_8 Kq_8 Kg_8 Kf_8 Kt_8 Ow_8 FA_8
  have eV12 : (((W8).setCell ⟨w.heap.size + 1, 0, none⟩ (.int .i64 r2)).setCell ⟨w.heap.size + 1, 1, none⟩ (.bool bw2)).setCell ⟨w.heap.size + 1, 2, none⟩ (.slice b3 line2.length d3) = V1 := eV1
  rw [eV12]
  clear eV1 eV12 HX_7 Kp_7 Kq_7 Kg_7 Kf_7 Kt_7 Ow_7 FA_7
  have HX_9 := hide (put2_below (y0 := .int .i64 0) (y1 := .int .i64 0) (unhide HX_8) (show w.heap.size ≤ w.heap.size + 1 + 1 by first | omega | (have := unhide HBA; omega)))
  have Kp_9 := hide ((put2_keep (y0 := .int .i64 0) (y1 := .int .i64 0) (show w.heap.size ≠ w.heap.size + 1 + 1 by omega)).trans (unhide Kp_8))
  have Kq_9 := hide ((put2_keep (y0 := .int .i64 0) (y1 := .int .i64 0) (show w.heap.size + 1 ≠ w.heap.size + 1 + 1 by omega)).trans (unhide Kq_8))
  have Kg_9 := hide (put2_new (y0 := .int .i64 0) (y1 := .int .i64 0) (unhide Kg_8))
  have Kf_9 := hide ((put2_keep (y0 := .int .i64 0) (y1 := .int .i64 0) (show T ≠ w.heap.size + 1 + 1 by omega)).trans (unhide Kf_8))
  have Kt_9 := hide ((put2_keep (y0 := .int .i64 0) (y1 := .int .i64 0) (show T2 ≠ w.heap.size + 1 + 1 by omega)).trans (unhide Kt_8))
  have Ow_9 := hide ((unhide Ow_8).keep (fun k hk => put2_keep (y0 := .int .i64 0) (y1 := .int .i64 0) (Own.ne (unhide Ow_8) (unhide Kg_8) (by decide) k hk)))
  have FA_9 := hide ((unhide FA_8).keep kp (fun k hk => put2_keep (y0 := .int .i64 0) (y1 := .int .i64 0) (unhide HNG k hk)))
  obtain ⟨V2, eV2⟩ : ∃ X, put2 V1 (w.heap.size + 1 + 1) (.int .i64 0) (.int .i64 0) = X := ⟨_, rfl⟩
  rw [eV2] at HX_9 Kp_9 Kq_9 Kg_9 Kf_9 Kt_9 Ow_9 FA_9
  have eV22 : ((V1).setCell ⟨w.heap.size + 1 + 1, 0, none⟩ (.int .i64 0)).setCell ⟨w.heap.size + 1 + 1, 1, none⟩ (.int .i64 0) = V2 := eV2
  rw [eV22]
  clear eV2 eV22 HX_8 Kp_8 Kq_8 Kg_8 Kf_8 Kt_8 Ow_8 FA_8
  obtain ⟨⟨q0, q1, q2⟩, ⟨qf0, qf1, qf2⟩, ql⟩ := block3 (unhide Kq_9)
  obtain ⟨g0, g1, gf0, gf1, gl⟩ := block2 (unhide Kg_9)
  exact bodyPost_ret (v := .tuple #[.agg #[.int .i64 r2, .bool bw2, .slice b3 line2.length d3], .slice b5 ws.length d5, .bool false, .agg #[.int .i64 0, .int .i64 0]]) (by simp [results, Try.results20, go_sem, q0, q1, q2, g0, g1]) rfl ⟨.agg #[.int .i64 r2, .bool bw2, .slice b3 line2.length d3], .slice b5 ws.length d5, rfl, ⟨_, rfl, (unhide FA_9).new (unhide HNB)⟩, ((unhide Ow_9).base (unhide HB6)).new, unhide HX_9⟩

set_option maxRecDepth 100000 in
set_option maxHeartbeats 4000000 in
theorem leave_reader (w : World) (v : Value) (P : Lk) (h : IsLock w v P) (hf : (lockF P).1 = 0) (hb : 0 < P.readers) :
    Calls Try.prog 20 #[v, .bool false] w fun e w' => ∃ v1 v2, e = .returned (.tuple #[v1, v2, .bool false, .agg #[.int .i64 0, .int .i64 0]]) ∧ NewLock w.heap.size w' v1 (admR (P.readers - 1) P.writer P.line).1 ∧ New KI w.heap.size w' v2 (admR (P.readers - 1) P.writer P.line).2 ∧ Below w.heap.size w w' := by
  have hz := lockF_zero hf
  obtain ⟨hn, hr0, hr1, -, -, -⟩ := lockF_good hf
  have HC : Hid (∀ W, Below w.heap.size w W → Calls Try.prog 10 #[v] W fun e w' => e = .returned (.agg #[.int .i64 0, .int .i64 0]) ∧ Below W.heap.size W w') := fun W hW => by
    have := check_any W v P (h.below hW) (by omega)
    rw [hz] at this
    exact this
  have HFR : Hid (∀ W, Below w.heap.size w W → Calls Try.prog 29 #[v] W fun e w' => ∃ a c, e = .returned (.agg #[.int .i64 P.readers, .bool P.writer, .slice a P.line.length c]) ∧ Own KP W.heap.size w' (.slice a P.line.length c) P.line ∧ Below W.heap.size W w') := fun W hW => (fresh_any W v P (h.below hW) (by omega)).mono fun e w' ⟨v', h1, h2, h3⟩ => by
    obtain ⟨a, c, rfl, h4⟩ := h2.form
    exact ⟨a, c, h1, h4, h3⟩
  have HAD : Hid (∀ W a c, IsL KP W (.slice a P.line.length c) P.line → Calls Try.prog 30 #[.agg #[.int .i64 (P.readers - 1), .bool P.writer, .slice a P.line.length c]] W fun e w' => ∃ v1 v2, e = .returned (.tuple #[v1, v2]) ∧ AtLock (Value.slice a P.line.length c).ownBlock w' v1 (admR (P.readers - 1) P.writer P.line).1 ∧ Own KI W.heap.size w' v2 (admR (P.readers - 1) P.writer P.line).2 ∧ Below W.heap.size W w') := fun W a c hW =>
    admitted_any W _ _ ⟨(P.readers - 1), P.writer, P.line⟩ ⟨_, rfl, at_own hW⟩ (by simp only; omega) (by simp only; omega) (by simp only; omega)
  obtain ⟨⟨⟨r2, bw2, line2⟩, ws⟩, eQ⟩ : ∃ Q, admR (P.readers - 1) P.writer P.line = Q := ⟨_, rfl⟩
  rw [eQ] at HAD ⊢
  simp only at HAD ⊢
  clear eQ
  obtain ⟨r, bw, line⟩ := P
  obtain ⟨a0, c0, rfl, hL⟩ := h.form
  simp only at hL HC HFR HAD hn hr0 hr1 hb ⊢
  obtain ⟨n, en⟩ : ∃ n, line.length = n := ⟨_, rfl⟩
  rw [en] at HC HFR HAD hn ⊢
  have HEN := hide en
  clear h hL hf hz en
  obtain ⟨W0, e0, hB, k0, k1, k2⟩ := three_new w (.cells #[.int .i64 r, .bool bw, .slice a0 n c0] 24) (.cells #[.int .i64 0, .bool false, .slice none 0 0] 24) (.cells #[.int .i64 0, .int .i64 0] 28)
  have HX := hide hB; have HP := hide k0; have HQ := hide k1; have HG := hide k2; have HE := hide e0
  clear hB k0 k1 k2 e0
  go_enter Try.func20, Try.ntmps20
  go_upto_region 1 with fail
  rw [unhide HE]
  clear HE
  obtain ⟨⟨p0, p1, p2⟩, ⟨pf0, pf1, pf2⟩, pl⟩ := block3 (unhide HP)
  go_upto_region 2 with (go_at_call 10; refine (unhide HC _ (unhide HX)).mono ?_; rintro e w1 ⟨rfl, hb1⟩; have HX_1 := hide (Below.next (unhide HX) hb1 (by first | exact Nat.le_refl _ | (have := unhide HBA; omega))); have Kp_1 := hide (keep_below (unhide HP) hb1); have Kq_1 := hide (keep_below (unhide HQ) hb1); have Kg_1 := hide (keep_below (unhide HG) hb1); clear HX HP HQ HG; clear hb1 p0 p1 p2 pf0 pf1 pf2 pl)
  have HX_2 := hide ((unhide HX_1).alloc (Nat.le_trans (show w.heap.size ≤ w.heap.size from Nat.le_refl _) (unhide HX_1).size) (.cells #[.int .i64 0, .int .i64 0] 28))
  have Kp_2 := hide (keep_alloc (unhide Kp_1) (.cells #[.int .i64 0, .int .i64 0] 28))
  have Kq_2 := hide (keep_alloc (unhide Kq_1) (.cells #[.int .i64 0, .int .i64 0] 28))
  have Kg_2 := hide (keep_alloc (unhide Kg_1) (.cells #[.int .i64 0, .int .i64 0] 28))
  have Kf_2 := hide (new_block w1 (.cells #[.int .i64 0, .int .i64 0] 28))
  have hlp_f : w.heap.size < w1.heap.size := size_of (unhide Kp_1)
  have hlq_f : w.heap.size + 1 < w1.heap.size := size_of (unhide Kq_1)
  have hlg_f : w.heap.size + 1 + 1 < w1.heap.size := size_of (unhide Kg_1)
  obtain ⟨T, eT⟩ : ∃ X, w1.heap.size = X := ⟨_, rfl⟩
  obtain ⟨W2, eW2⟩ : ∃ X, w1.alloc (.cells #[.int .i64 0, .int .i64 0] 28) = X := ⟨_, rfl⟩
  rw [eT, eW2] at Kf_2; rw [eW2] at HX_2 Kp_2 Kq_2 Kg_2; rw [eT] at hlp_f hlq_f hlg_f; rw [eT, eW2]
  clear eT eW2 HX_1 Kp_1 Kq_1 Kg_1
  have hqt : w.heap.size + 1 + 1 < T := by omega
  obtain ⟨⟨p0, p1, p2⟩, ⟨pf0, pf1, pf2⟩, pl⟩ := block3 (unhide Kp_2)
  obtain ⟨f0, f1, ff0, ff1, fl⟩ := block2 (unhide Kf_2)
  obtain ⟨B3, eB3⟩ : ∃ X, W2.heap.size = X := ⟨_, rfl⟩
  have HB3 : Hid (w.heap.size ≤ B3) := by have := (unhide HX_2).size; rw [eB3] at this; exact this
  have HF3 := unhide HFR W2 (unhide HX_2)
  rw [eB3] at HF3
  have HFR3 := hide HF3
  clear HF3
  go_upto_region 6 with (go_at_call 29; refine (unhide HFR3).mono ?_; rintro e w3 ⟨b1, d1, rfl, ho3, hb3⟩; have HO3 := hide ho3; rw [← eB3] at hb3; have HX_3 := hide (Below.next (unhide HX_2) hb3 (by first | exact Nat.le_refl _ | (have := unhide HBA; omega))); have Kp_3 := hide (keep_below (unhide Kp_2) hb3); have Kq_3 := hide (keep_below (unhide Kq_2) hb3); have Kg_3 := hide (keep_below (unhide Kg_2) hb3); have Kf_3 := hide (keep_below (unhide Kf_2) hb3); clear HX_2 Kp_2 Kq_2 Kg_2 Kf_2; clear hb3 ho3 HFR3 p0 p1 p2 pf0 pf1 pf2 pl f0 f1 ff0 ff1 fl)
  clear eB3
  have HX_4 := hide ((unhide HX_3).alloc (Nat.le_trans (show w.heap.size ≤ w.heap.size from Nat.le_refl _) (unhide HX_3).size) (.cells #[.int .i64 r, .bool bw, .slice b1 n d1] 24))
  have Kp_4 := hide (keep_alloc (unhide Kp_3) (.cells #[.int .i64 r, .bool bw, .slice b1 n d1] 24))
  have Kq_4 := hide (keep_alloc (unhide Kq_3) (.cells #[.int .i64 r, .bool bw, .slice b1 n d1] 24))
  have Kg_4 := hide (keep_alloc (unhide Kg_3) (.cells #[.int .i64 r, .bool bw, .slice b1 n d1] 24))
  have Kf_4 := hide (keep_alloc (unhide Kf_3) (.cells #[.int .i64 r, .bool bw, .slice b1 n d1] 24))
  have Ol_4 := hide ((unhide HO3).below ((Below.refl _ _).alloc (Nat.le_refl _) (.cells #[.int .i64 r, .bool bw, .slice b1 n d1] 24)))
  have Kt_4 := hide (new_block w3 (.cells #[.int .i64 r, .bool bw, .slice b1 n d1] 24))
  have hlp_t : w.heap.size < w3.heap.size := size_of (unhide Kp_3)
  have hlq_t : w.heap.size + 1 < w3.heap.size := size_of (unhide Kq_3)
  have hlg_t : w.heap.size + 1 + 1 < w3.heap.size := size_of (unhide Kg_3)
  have hlf_t : T < w3.heap.size := size_of (unhide Kf_3)
  obtain ⟨T2, eT2⟩ : ∃ X, w3.heap.size = X := ⟨_, rfl⟩
  obtain ⟨W4, eW4⟩ : ∃ X, w3.alloc (.cells #[.int .i64 r, .bool bw, .slice b1 n d1] 24) = X := ⟨_, rfl⟩
  rw [eT2, eW4] at Kt_4; rw [eW4] at HX_4 Kp_4 Kq_4 Kg_4 Kf_4 Ol_4; rw [eT2] at hlp_t hlq_t hlg_t hlf_t; rw [eT2, eW4]
  clear eT2 eW4 HX_3 Kp_3 Kq_3 Kg_3 Kf_3 HO3
  obtain ⟨⟨t0, t1, t2⟩, ⟨tf0, tf1, tf2⟩, tl⟩ := block3 (unhide Kt_4)
  go_upto_region 10 with fail
  clear t0 t1 t2 tf0 tf1 tf2 tl
  have hwr : IntKind.i64.wrap (r - 1) = r - 1 := wrapi (by omega) (by omega)
  try rw [hwr]
  have HX_5 := hide (below_set (i := 0) (unhide HX_4) (show w.heap.size ≤ T2 by first | omega | (have := unhide HBA; omega)) (.int .i64 (r - 1)))
  have Kp_5 := hide (keep_set (g := T2) (o := 0) (v := .int .i64 (r - 1)) (unhide Kp_4) (by omega))
  have Kq_5 := hide (keep_set (g := T2) (o := 0) (v := .int .i64 (r - 1)) (unhide Kq_4) (by omega))
  have Kg_5 := hide (keep_set (g := T2) (o := 0) (v := .int .i64 (r - 1)) (unhide Kg_4) (by omega))
  have Kf_5 := hide (keep_set (g := T2) (o := 0) (v := .int .i64 (r - 1)) (unhide Kf_4) (by omega))
  have Kt_5 := hide (set_block3 (i := 0) (y := .int .i64 (r - 1)) (unhide Kt_4))
  have Ol_5 := hide ((unhide Ol_4).keep (fun k hk => Below.heap_setCell W4 ⟨T2, 0, none⟩ (.int .i64 (r - 1)) k (by have := Own.ne (unhide Ol_4) (unhide Kt_4) (by decide) k hk; simpa using this)))
  obtain ⟨W6, eW6⟩ : ∃ X, W4.setCell ⟨T2, 0, none⟩ (.int .i64 (r - 1)) = X := ⟨_, rfl⟩
  rw [eW6] at HX_5 Kp_5 Kq_5 Kg_5 Kf_5 Kt_5 Ol_5 ⊢
  clear eW6 HX_4 Kp_4 Kq_4 Kg_4 Kf_4 Kt_4 Ol_4
  simp only [List.setIfInBounds_toArray, List.set_cons_zero] at Kt_5
  have HNE : Hid (∀ k, (Value.slice b1 n d1).ownBlock = some k → k ≠ T2) := fun k hk => Own.ne (unhide Ol_5) (unhide Kt_5) (by decide) k hk
  have HNQ : Hid (∀ k, (Value.slice b1 n d1).ownBlock = some k → k ≠ w.heap.size + 1) := fun k hk => Own.ne (unhide Ol_5) (unhide Kq_5) (by decide) k hk
  have HNG : Hid (∀ k, (Value.slice b1 n d1).ownBlock = some k → k ≠ w.heap.size + 1 + 1) := fun k hk => Own.ne (unhide Ol_5) (unhide Kg_5) (by decide) k hk
  have HNB : Hid (∀ k, (Value.slice b1 n d1).ownBlock = some k → w.heap.size ≤ k) := fun k hk => Nat.le_trans (unhide HB3) ((unhide Ol_5).lt k hk).1
  have HA6 := hide (unhide HAD W6 _ _ (unhide Ol_5).isl)
  clear Ol_5 HAD
  obtain ⟨ob, eob⟩ : ∃ o, (Value.slice b1 n d1).ownBlock = o := ⟨_, rfl⟩
  rw [eob] at HNE HNQ HNG HNB HA6
  clear eob
  obtain ⟨B6, eB6⟩ : ∃ X, W6.heap.size = X := ⟨_, rfl⟩
  have HB6 : Hid (w.heap.size ≤ B6) := by have := (unhide HX_5).size; rw [eB6] at this; exact this
  have HB66 := hide eB6
  rw [eB6] at HA6
  clear eB6
  obtain ⟨⟨t0, t1, t2⟩, ⟨tf0, tf1, tf2⟩, tl⟩ := block3 (unhide Kt_5)
  go_upto_region 11 with (go_at_call 30; refine (unhide HA6).mono ?_; rintro e w7 ⟨v1, v2, rfl, ha7, ho7, hb7⟩; obtain ⟨b3, d3, rfl, ha8⟩ := AtLock.form ha7; obtain ⟨b5, d5, rfl⟩ := ho7.form; simp only at ha8; have HA7 := hide ha8; have HO7 := hide ho7; rw [← unhide HB66] at hb7; have HX_6 := hide (Below.next (unhide HX_5) hb7 (by first | exact Nat.le_refl _ | (have := unhide HBA; omega))); have Kp_6 := hide (keep_below (unhide Kp_5) hb7); have Kq_6 := hide (keep_below (unhide Kq_5) hb7); have Kg_6 := hide (keep_below (unhide Kg_5) hb7); have Kf_6 := hide (keep_below (unhide Kf_5) hb7); have Kt_6 := hide (keep_below (unhide Kt_5) hb7); clear HX_5 Kp_5 Kq_5 Kg_5 Kf_5 Kt_5; clear ha7 ha8 ho7 hb7 HA6 t0 t1 t2 tf0 tf1 tf2 tl; obtain ⟨⟨t0, t1, t2⟩, ⟨tf0, tf1, tf2⟩, tl⟩ := block3 (unhide Kt_6))
  clear t0 t1 t2 tf0 tf1 tf2 tl HB66
  have HX_7 := hide (putL_below (y0 := .int .i64 r2) (y1 := .bool bw2) (y2 := .slice b3 line2.length d3) (unhide HX_6) (show w.heap.size ≤ T2 by first | omega | (have := unhide HBA; omega)))
  have Kp_7 := hide ((putL_keep (y0 := .int .i64 r2) (y1 := .bool bw2) (y2 := .slice b3 line2.length d3) (show w.heap.size ≠ T2 by omega)).trans (unhide Kp_6))
  have Kq_7 := hide ((putL_keep (y0 := .int .i64 r2) (y1 := .bool bw2) (y2 := .slice b3 line2.length d3) (show w.heap.size + 1 ≠ T2 by omega)).trans (unhide Kq_6))
  have Kg_7 := hide ((putL_keep (y0 := .int .i64 r2) (y1 := .bool bw2) (y2 := .slice b3 line2.length d3) (show w.heap.size + 1 + 1 ≠ T2 by omega)).trans (unhide Kg_6))
  have Kf_7 := hide ((putL_keep (y0 := .int .i64 r2) (y1 := .bool bw2) (y2 := .slice b3 line2.length d3) (show T ≠ T2 by omega)).trans (unhide Kf_6))
  have Kt_7 := hide (putL_new (y0 := .int .i64 r2) (y1 := .bool bw2) (y2 := .slice b3 line2.length d3) (unhide Kt_6))
  have Ow_7 := hide ((unhide HO7).keep (fun k hk => putL_keep (y0 := .int .i64 r2) (y1 := .bool bw2) (y2 := .slice b3 line2.length d3) (Own.ne (unhide HO7) (unhide Kt_6) (by decide) k hk)))
  have FA_7 := hide ((unhide HA7).keep kp (fun k hk => putL_keep (y0 := .int .i64 r2) (y1 := .bool bw2) (y2 := .slice b3 line2.length d3) (unhide HNE k hk)))
  obtain ⟨W8, eW8⟩ : ∃ X, putL w7 (T2) (.int .i64 r2) (.bool bw2) (.slice b3 line2.length d3) = X := ⟨_, rfl⟩
  rw [eW8] at HX_7 Kp_7 Kq_7 Kg_7 Kf_7 Kt_7 Ow_7 FA_7
  have eW82 : (((w7).setCell ⟨T2, 0, none⟩ (.int .i64 r2)).setCell ⟨T2, 1, none⟩ (.bool bw2)).setCell ⟨T2, 2, none⟩ (.slice b3 line2.length d3) = W8 := eW8
  rw [eW82]
  clear eW8 eW82 HX_6 Kp_6 Kq_6 Kg_6 Kf_6 Kt_6 HO7 HA7
  obtain ⟨⟨t0, t1, t2⟩, ⟨tf0, tf1, tf2⟩, tl⟩ := block3 (unhide Kt_7)
  obtain ⟨⟨q0, q1, q2⟩, ⟨qf0, qf1, qf2⟩, ql⟩ := block3 (unhide Kq_7)
  obtain ⟨g0, g1, gf0, gf1, gl⟩ := block2 (unhide Kg_7)
  go_wp2_with fail
  clear t0 t1 t2 tf0 tf1 tf2 tl q0 q1 q2 qf0 qf1 qf2 ql g0 g1 gf0 gf1 gl
  have HX_8 := hide (putL_below (y0 := .int .i64 r2) (y1 := .bool bw2) (y2 := .slice b3 line2.length d3) (unhide HX_7) (show w.heap.size ≤ w.heap.size + 1 by first | omega | (have := unhide HBA; omega)))
  have Kp_8 := hide ((putL_keep (y0 := .int .i64 r2) (y1 := .bool bw2) (y2 := .slice b3 line2.length d3) (show w.heap.size ≠ w.heap.size + 1 by omega)).trans (unhide Kp_7))
  have Kq_8 := hide (putL_new (y0 := .int .i64 r2) (y1 := .bool bw2) (y2 := .slice b3 line2.length d3) (unhide Kq_7))
  have Kg_8 := hide ((putL_keep (y0 := .int .i64 r2) (y1 := .bool bw2) (y2 := .slice b3 line2.length d3) (show w.heap.size + 1 + 1 ≠ w.heap.size + 1 by omega)).trans (unhide Kg_7))
  have Kf_8 := hide ((putL_keep (y0 := .int .i64 r2) (y1 := .bool bw2) (y2 := .slice b3 line2.length d3) (show T ≠ w.heap.size + 1 by omega)).trans (unhide Kf_7))
  have Kt_8 := hide ((putL_keep (y0 := .int .i64 r2) (y1 := .bool bw2) (y2 := .slice b3 line2.length d3) (show T2 ≠ w.heap.size + 1 by omega)).trans (unhide Kt_7))
  have Ow_8 := hide ((unhide Ow_7).keep (fun k hk => putL_keep (y0 := .int .i64 r2) (y1 := .bool bw2) (y2 := .slice b3 line2.length d3) (Own.ne (unhide Ow_7) (unhide Kq_7) (by decide) k hk)))
  have FA_8 := hide ((unhide FA_7).keep kp (fun k hk => putL_keep (y0 := .int .i64 r2) (y1 := .bool bw2) (y2 := .slice b3 line2.length d3) (unhide HNQ k hk)))
  obtain ⟨V1, eV1⟩ : ∃ X, putL W8 (w.heap.size + 1) (.int .i64 r2) (.bool bw2) (.slice b3 line2.length d3) = X := ⟨_, rfl⟩
  rw [eV1] at HX_8 Kp_8 Kq_8 Kg_8 Kf_8 Kt_8 Ow_8 FA_8
  have eV12 : (((W8).setCell ⟨w.heap.size + 1, 0, none⟩ (.int .i64 r2)).setCell ⟨w.heap.size + 1, 1, none⟩ (.bool bw2)).setCell ⟨w.heap.size + 1, 2, none⟩ (.slice b3 line2.length d3) = V1 := eV1
  rw [eV12]
  clear eV1 eV12 HX_7 Kp_7 Kq_7 Kg_7 Kf_7 Kt_7 Ow_7 FA_7
  have HX_9 := hide (put2_below (y0 := .int .i64 0) (y1 := .int .i64 0) (unhide HX_8) (show w.heap.size ≤ w.heap.size + 1 + 1 by first | omega | (have := unhide HBA; omega)))
  have Kp_9 := hide ((put2_keep (y0 := .int .i64 0) (y1 := .int .i64 0) (show w.heap.size ≠ w.heap.size + 1 + 1 by omega)).trans (unhide Kp_8))
  have Kq_9 := hide ((put2_keep (y0 := .int .i64 0) (y1 := .int .i64 0) (show w.heap.size + 1 ≠ w.heap.size + 1 + 1 by omega)).trans (unhide Kq_8))
  have Kg_9 := hide (put2_new (y0 := .int .i64 0) (y1 := .int .i64 0) (unhide Kg_8))
  have Kf_9 := hide ((put2_keep (y0 := .int .i64 0) (y1 := .int .i64 0) (show T ≠ w.heap.size + 1 + 1 by omega)).trans (unhide Kf_8))
  have Kt_9 := hide ((put2_keep (y0 := .int .i64 0) (y1 := .int .i64 0) (show T2 ≠ w.heap.size + 1 + 1 by omega)).trans (unhide Kt_8))
  have Ow_9 := hide ((unhide Ow_8).keep (fun k hk => put2_keep (y0 := .int .i64 0) (y1 := .int .i64 0) (Own.ne (unhide Ow_8) (unhide Kg_8) (by decide) k hk)))
  have FA_9 := hide ((unhide FA_8).keep kp (fun k hk => put2_keep (y0 := .int .i64 0) (y1 := .int .i64 0) (unhide HNG k hk)))
  obtain ⟨V2, eV2⟩ : ∃ X, put2 V1 (w.heap.size + 1 + 1) (.int .i64 0) (.int .i64 0) = X := ⟨_, rfl⟩
  rw [eV2] at HX_9 Kp_9 Kq_9 Kg_9 Kf_9 Kt_9 Ow_9 FA_9
  have eV22 : ((V1).setCell ⟨w.heap.size + 1 + 1, 0, none⟩ (.int .i64 0)).setCell ⟨w.heap.size + 1 + 1, 1, none⟩ (.int .i64 0) = V2 := eV2
  rw [eV22]
  clear eV2 eV22 HX_8 Kp_8 Kq_8 Kg_8 Kf_8 Kt_8 Ow_8 FA_8
  obtain ⟨⟨q0, q1, q2⟩, ⟨qf0, qf1, qf2⟩, ql⟩ := block3 (unhide Kq_9)
  obtain ⟨g0, g1, gf0, gf1, gl⟩ := block2 (unhide Kg_9)
  exact bodyPost_ret (v := .tuple #[.agg #[.int .i64 r2, .bool bw2, .slice b3 line2.length d3], .slice b5 ws.length d5, .bool false, .agg #[.int .i64 0, .int .i64 0]]) (by simp [results, Try.results20, go_sem, q0, q1, q2, g0, g1]) rfl ⟨.agg #[.int .i64 r2, .bool bw2, .slice b3 line2.length d3], .slice b5 ws.length d5, rfl, ⟨_, rfl, (unhide FA_9).new (unhide HNB)⟩, ((unhide Ow_9).base (unhide HB6)).new, unhide HX_9⟩

set_option maxRecDepth 100000 in
set_option maxHeartbeats 4000000 in
theorem leave_none0 (w : World) (v : Value) (P : Lk) (h : IsLock w v P) (hf : (lockF P).1 = 0) (hb : P.writer = false) :
    Calls Try.prog 20 #[v, .bool true] w fun e w' => ∃ v1 v2, e = .returned (.tuple #[v1, v2, .bool true, .agg #[.int .i64 0, .int .i64 0]]) ∧ NewLock w.heap.size w' v1 (((P, []) : Lk × List Int)).1 ∧ New KI w.heap.size w' v2 (((P, []) : Lk × List Int)).2 ∧ Below w.heap.size w w' := by
  have hz := lockF_zero hf
  obtain ⟨hn, hr0, hr1, -, -, -⟩ := lockF_good hf
  have HC : Hid (∀ W, Below w.heap.size w W → Calls Try.prog 10 #[v] W fun e w' => e = .returned (.agg #[.int .i64 0, .int .i64 0]) ∧ Below W.heap.size W w') := fun W hW => by
    have := check_any W v P (h.below hW) (by omega)
    rw [hz] at this
    exact this
  have HFR : Hid (∀ W, Below w.heap.size w W → Calls Try.prog 29 #[v] W fun e w' => ∃ a c, e = .returned (.agg #[.int .i64 P.readers, .bool P.writer, .slice a P.line.length c]) ∧ Own KP W.heap.size w' (.slice a P.line.length c) P.line ∧ Below W.heap.size W w') := fun W hW => (fresh_any W v P (h.below hW) (by omega)).mono fun e w' ⟨v', h1, h2, h3⟩ => by
    obtain ⟨a, c, rfl, h4⟩ := h2.form
    exact ⟨a, c, h1, h4, h3⟩
  obtain ⟨r, bw, line⟩ := P
  obtain ⟨a0, c0, rfl, hL⟩ := h.form
  simp only at hL HC HFR hn hr0 hr1 hb ⊢
  obtain ⟨n, en⟩ : ∃ n, line.length = n := ⟨_, rfl⟩
  rw [en] at HC HFR hn ⊢
  have HEN := hide en
  clear h hL hf hz en
  subst hb
  obtain ⟨W0, e0, hB, k0, k1, k2⟩ := three_new w (.cells #[.int .i64 r, .bool false, .slice a0 n c0] 24) (.cells #[.int .i64 0, .bool false, .slice none 0 0] 24) (.cells #[.int .i64 0, .int .i64 0] 28)
  have HX := hide hB; have HP := hide k0; have HQ := hide k1; have HG := hide k2; have HE := hide e0
  clear hB k0 k1 k2 e0
  go_enter Try.func20, Try.ntmps20
  go_upto_region 1 with fail
  rw [unhide HE]
  clear HE
  obtain ⟨⟨p0, p1, p2⟩, ⟨pf0, pf1, pf2⟩, pl⟩ := block3 (unhide HP)
  go_upto_region 2 with (go_at_call 10; refine (unhide HC _ (unhide HX)).mono ?_; rintro e w1 ⟨rfl, hb1⟩; have HX_1 := hide (Below.next (unhide HX) hb1 (by first | exact Nat.le_refl _ | (have := unhide HBA; omega))); have Kp_1 := hide (keep_below (unhide HP) hb1); have Kq_1 := hide (keep_below (unhide HQ) hb1); have Kg_1 := hide (keep_below (unhide HG) hb1); clear HX HP HQ HG; clear hb1 p0 p1 p2 pf0 pf1 pf2 pl)
  have HX_2 := hide ((unhide HX_1).alloc (Nat.le_trans (show w.heap.size ≤ w.heap.size from Nat.le_refl _) (unhide HX_1).size) (.cells #[.int .i64 0, .int .i64 0] 28))
  have Kp_2 := hide (keep_alloc (unhide Kp_1) (.cells #[.int .i64 0, .int .i64 0] 28))
  have Kq_2 := hide (keep_alloc (unhide Kq_1) (.cells #[.int .i64 0, .int .i64 0] 28))
  have Kg_2 := hide (keep_alloc (unhide Kg_1) (.cells #[.int .i64 0, .int .i64 0] 28))
  have Kf_2 := hide (new_block w1 (.cells #[.int .i64 0, .int .i64 0] 28))
  have hlp_f : w.heap.size < w1.heap.size := size_of (unhide Kp_1)
  have hlq_f : w.heap.size + 1 < w1.heap.size := size_of (unhide Kq_1)
  have hlg_f : w.heap.size + 1 + 1 < w1.heap.size := size_of (unhide Kg_1)
  obtain ⟨T, eT⟩ : ∃ X, w1.heap.size = X := ⟨_, rfl⟩
  obtain ⟨W2, eW2⟩ : ∃ X, w1.alloc (.cells #[.int .i64 0, .int .i64 0] 28) = X := ⟨_, rfl⟩
  rw [eT, eW2] at Kf_2; rw [eW2] at HX_2 Kp_2 Kq_2 Kg_2; rw [eT] at hlp_f hlq_f hlg_f; rw [eT, eW2]
  clear eT eW2 HX_1 Kp_1 Kq_1 Kg_1
  have hqt : w.heap.size + 1 + 1 < T := by omega
  obtain ⟨⟨p0, p1, p2⟩, ⟨pf0, pf1, pf2⟩, pl⟩ := block3 (unhide Kp_2)
  obtain ⟨f0, f1, ff0, ff1, fl⟩ := block2 (unhide Kf_2)
  obtain ⟨B3, eB3⟩ : ∃ X, W2.heap.size = X := ⟨_, rfl⟩
  have HB3 : Hid (w.heap.size ≤ B3) := by have := (unhide HX_2).size; rw [eB3] at this; exact this
  have HF3 := unhide HFR W2 (unhide HX_2)
  rw [eB3] at HF3
  have HFR3 := hide HF3
  clear HF3
  go_upto_region 6 with (go_at_call 29; refine (unhide HFR3).mono ?_; rintro e w3 ⟨b1, d1, rfl, ho3, hb3⟩; have HO3 := hide ho3; rw [← eB3] at hb3; have HX_3 := hide (Below.next (unhide HX_2) hb3 (by first | exact Nat.le_refl _ | (have := unhide HBA; omega))); have Kp_3 := hide (keep_below (unhide Kp_2) hb3); have Kq_3 := hide (keep_below (unhide Kq_2) hb3); have Kg_3 := hide (keep_below (unhide Kg_2) hb3); have Kf_3 := hide (keep_below (unhide Kf_2) hb3); clear HX_2 Kp_2 Kq_2 Kg_2 Kf_2; clear hb3 ho3 HFR3 p0 p1 p2 pf0 pf1 pf2 pl f0 f1 ff0 ff1 fl)
  clear eB3
  have HX_4 := hide ((unhide HX_3).alloc (Nat.le_trans (show w.heap.size ≤ w.heap.size from Nat.le_refl _) (unhide HX_3).size) (.cells #[.int .i64 r, .bool false, .slice b1 n d1] 24))
  have Kp_4 := hide (keep_alloc (unhide Kp_3) (.cells #[.int .i64 r, .bool false, .slice b1 n d1] 24))
  have Kq_4 := hide (keep_alloc (unhide Kq_3) (.cells #[.int .i64 r, .bool false, .slice b1 n d1] 24))
  have Kg_4 := hide (keep_alloc (unhide Kg_3) (.cells #[.int .i64 r, .bool false, .slice b1 n d1] 24))
  have Kf_4 := hide (keep_alloc (unhide Kf_3) (.cells #[.int .i64 r, .bool false, .slice b1 n d1] 24))
  have Ol_4 := hide ((unhide HO3).below ((Below.refl _ _).alloc (Nat.le_refl _) (.cells #[.int .i64 r, .bool false, .slice b1 n d1] 24)))
  have Kt_4 := hide (new_block w3 (.cells #[.int .i64 r, .bool false, .slice b1 n d1] 24))
  have hlp_t : w.heap.size < w3.heap.size := size_of (unhide Kp_3)
  have hlq_t : w.heap.size + 1 < w3.heap.size := size_of (unhide Kq_3)
  have hlg_t : w.heap.size + 1 + 1 < w3.heap.size := size_of (unhide Kg_3)
  have hlf_t : T < w3.heap.size := size_of (unhide Kf_3)
  obtain ⟨T2, eT2⟩ : ∃ X, w3.heap.size = X := ⟨_, rfl⟩
  obtain ⟨W4, eW4⟩ : ∃ X, w3.alloc (.cells #[.int .i64 r, .bool false, .slice b1 n d1] 24) = X := ⟨_, rfl⟩
  rw [eT2, eW4] at Kt_4; rw [eW4] at HX_4 Kp_4 Kq_4 Kg_4 Kf_4 Ol_4; rw [eT2] at hlp_t hlq_t hlg_t hlf_t; rw [eT2, eW4]
  clear eT2 eW4 HX_3 Kp_3 Kq_3 Kg_3 Kf_3 HO3
  obtain ⟨⟨t0, t1, t2⟩, ⟨tf0, tf1, tf2⟩, tl⟩ := block3 (unhide Kt_4)
  go_upto_region 5 with fail
  clear t0 t1 t2 tf0 tf1 tf2 tl
  obtain ⟨⟨t0, t1, t2⟩, ⟨tf0, tf1, tf2⟩, tl⟩ := block3 (unhide Kt_4)
  obtain ⟨⟨q0, q1, q2⟩, ⟨qf0, qf1, qf2⟩, ql⟩ := block3 (unhide Kq_4)
  obtain ⟨g0, g1, gf0, gf1, gl⟩ := block2 (unhide Kg_4)
  go_wp2_with fail
  clear t0 t1 t2 tf0 tf1 tf2 tl q0 q1 q2 qf0 qf1 qf2 ql g0 g1 gf0 gf1 gl
  have HX_5 := hide (putL_below (y0 := .int .i64 r) (y1 := .bool false) (y2 := .slice b1 n d1) (unhide HX_4) (show w.heap.size ≤ w.heap.size + 1 by first | omega | (have := unhide HBA; omega)))
  have Kp_5 := hide ((putL_keep (y0 := .int .i64 r) (y1 := .bool false) (y2 := .slice b1 n d1) (show w.heap.size ≠ w.heap.size + 1 by omega)).trans (unhide Kp_4))
  have Kq_5 := hide (putL_new (y0 := .int .i64 r) (y1 := .bool false) (y2 := .slice b1 n d1) (unhide Kq_4))
  have Kg_5 := hide ((putL_keep (y0 := .int .i64 r) (y1 := .bool false) (y2 := .slice b1 n d1) (show w.heap.size + 1 + 1 ≠ w.heap.size + 1 by omega)).trans (unhide Kg_4))
  have Kf_5 := hide ((putL_keep (y0 := .int .i64 r) (y1 := .bool false) (y2 := .slice b1 n d1) (show T ≠ w.heap.size + 1 by omega)).trans (unhide Kf_4))
  have Kt_5 := hide ((putL_keep (y0 := .int .i64 r) (y1 := .bool false) (y2 := .slice b1 n d1) (show T2 ≠ w.heap.size + 1 by omega)).trans (unhide Kt_4))
  have Ol_5 := hide ((unhide Ol_4).keep (fun k hk => putL_keep (y0 := .int .i64 r) (y1 := .bool false) (y2 := .slice b1 n d1) (Own.ne (unhide Ol_4) (unhide Kq_4) (by decide) k hk)))
  obtain ⟨V1, eV1⟩ : ∃ X, putL W4 (w.heap.size + 1) (.int .i64 r) (.bool false) (.slice b1 n d1) = X := ⟨_, rfl⟩
  rw [eV1] at HX_5 Kp_5 Kq_5 Kg_5 Kf_5 Kt_5 Ol_5
  have eV12 : (((W4).setCell ⟨w.heap.size + 1, 0, none⟩ (.int .i64 r)).setCell ⟨w.heap.size + 1, 1, none⟩ (.bool false)).setCell ⟨w.heap.size + 1, 2, none⟩ (.slice b1 n d1) = V1 := eV1
  rw [eV12]
  clear eV1 eV12 HX_4 Kp_4 Kq_4 Kg_4 Kf_4 Kt_4 Ol_4
  have HX_6 := hide (put2_below (y0 := .int .i64 0) (y1 := .int .i64 0) (unhide HX_5) (show w.heap.size ≤ w.heap.size + 1 + 1 by first | omega | (have := unhide HBA; omega)))
  have Kp_6 := hide ((put2_keep (y0 := .int .i64 0) (y1 := .int .i64 0) (show w.heap.size ≠ w.heap.size + 1 + 1 by omega)).trans (unhide Kp_5))
  have Kq_6 := hide ((put2_keep (y0 := .int .i64 0) (y1 := .int .i64 0) (show w.heap.size + 1 ≠ w.heap.size + 1 + 1 by omega)).trans (unhide Kq_5))
  have Kg_6 := hide (put2_new (y0 := .int .i64 0) (y1 := .int .i64 0) (unhide Kg_5))
  have Kf_6 := hide ((put2_keep (y0 := .int .i64 0) (y1 := .int .i64 0) (show T ≠ w.heap.size + 1 + 1 by omega)).trans (unhide Kf_5))
  have Kt_6 := hide ((put2_keep (y0 := .int .i64 0) (y1 := .int .i64 0) (show T2 ≠ w.heap.size + 1 + 1 by omega)).trans (unhide Kt_5))
  have Ol_6 := hide ((unhide Ol_5).keep (fun k hk => put2_keep (y0 := .int .i64 0) (y1 := .int .i64 0) (Own.ne (unhide Ol_5) (unhide Kg_5) (by decide) k hk)))
  obtain ⟨V2, eV2⟩ : ∃ X, put2 V1 (w.heap.size + 1 + 1) (.int .i64 0) (.int .i64 0) = X := ⟨_, rfl⟩
  rw [eV2] at HX_6 Kp_6 Kq_6 Kg_6 Kf_6 Kt_6 Ol_6
  have eV22 : ((V1).setCell ⟨w.heap.size + 1 + 1, 0, none⟩ (.int .i64 0)).setCell ⟨w.heap.size + 1 + 1, 1, none⟩ (.int .i64 0) = V2 := eV2
  rw [eV22]
  clear eV2 eV22 HX_5 Kp_5 Kq_5 Kg_5 Kf_5 Kt_5 Ol_5
  obtain ⟨⟨q0, q1, q2⟩, ⟨qf0, qf1, qf2⟩, ql⟩ := block3 (unhide Kq_6)
  obtain ⟨g0, g1, gf0, gf1, gl⟩ := block2 (unhide Kg_6)
  exact bodyPost_ret (v := .tuple #[.agg #[.int .i64 r, .bool false, .slice b1 n d1], .slice none 0 0, .bool true, .agg #[.int .i64 0, .int .i64 0]]) (by simp [results, Try.results20, go_sem, q0, q1, q2, g0, g1]) rfl ⟨.agg #[.int .i64 r, .bool false, .slice b1 n d1], .slice none 0 0, rfl, ⟨_, rfl, ((unhide Ol_6).base (unhide HB3)).new⟩, new_nil _ _, unhide HX_6⟩

set_option maxRecDepth 100000 in
set_option maxHeartbeats 4000000 in
theorem leave_none1 (w : World) (v : Value) (P : Lk) (h : IsLock w v P) (hf : (lockF P).1 = 0) (hb : ¬ 0 < P.readers) :
    Calls Try.prog 20 #[v, .bool false] w fun e w' => ∃ v1 v2, e = .returned (.tuple #[v1, v2, .bool true, .agg #[.int .i64 0, .int .i64 0]]) ∧ NewLock w.heap.size w' v1 (((P, []) : Lk × List Int)).1 ∧ New KI w.heap.size w' v2 (((P, []) : Lk × List Int)).2 ∧ Below w.heap.size w w' := by
  have hz := lockF_zero hf
  obtain ⟨hn, hr0, hr1, -, -, -⟩ := lockF_good hf
  have HC : Hid (∀ W, Below w.heap.size w W → Calls Try.prog 10 #[v] W fun e w' => e = .returned (.agg #[.int .i64 0, .int .i64 0]) ∧ Below W.heap.size W w') := fun W hW => by
    have := check_any W v P (h.below hW) (by omega)
    rw [hz] at this
    exact this
  have HFR : Hid (∀ W, Below w.heap.size w W → Calls Try.prog 29 #[v] W fun e w' => ∃ a c, e = .returned (.agg #[.int .i64 P.readers, .bool P.writer, .slice a P.line.length c]) ∧ Own KP W.heap.size w' (.slice a P.line.length c) P.line ∧ Below W.heap.size W w') := fun W hW => (fresh_any W v P (h.below hW) (by omega)).mono fun e w' ⟨v', h1, h2, h3⟩ => by
    obtain ⟨a, c, rfl, h4⟩ := h2.form
    exact ⟨a, c, h1, h4, h3⟩
  obtain ⟨r, bw, line⟩ := P
  obtain ⟨a0, c0, rfl, hL⟩ := h.form
  simp only at hL HC HFR hn hr0 hr1 hb ⊢
  obtain ⟨n, en⟩ : ∃ n, line.length = n := ⟨_, rfl⟩
  rw [en] at HC HFR hn ⊢
  have HEN := hide en
  clear h hL hf hz en
  obtain ⟨W0, e0, hB, k0, k1, k2⟩ := three_new w (.cells #[.int .i64 r, .bool bw, .slice a0 n c0] 24) (.cells #[.int .i64 0, .bool false, .slice none 0 0] 24) (.cells #[.int .i64 0, .int .i64 0] 28)
  have HX := hide hB; have HP := hide k0; have HQ := hide k1; have HG := hide k2; have HE := hide e0
  clear hB k0 k1 k2 e0
  go_enter Try.func20, Try.ntmps20
  go_upto_region 1 with fail
  rw [unhide HE]
  clear HE
  obtain ⟨⟨p0, p1, p2⟩, ⟨pf0, pf1, pf2⟩, pl⟩ := block3 (unhide HP)
  go_upto_region 2 with (go_at_call 10; refine (unhide HC _ (unhide HX)).mono ?_; rintro e w1 ⟨rfl, hb1⟩; have HX_1 := hide (Below.next (unhide HX) hb1 (by first | exact Nat.le_refl _ | (have := unhide HBA; omega))); have Kp_1 := hide (keep_below (unhide HP) hb1); have Kq_1 := hide (keep_below (unhide HQ) hb1); have Kg_1 := hide (keep_below (unhide HG) hb1); clear HX HP HQ HG; clear hb1 p0 p1 p2 pf0 pf1 pf2 pl)
  have HX_2 := hide ((unhide HX_1).alloc (Nat.le_trans (show w.heap.size ≤ w.heap.size from Nat.le_refl _) (unhide HX_1).size) (.cells #[.int .i64 0, .int .i64 0] 28))
  have Kp_2 := hide (keep_alloc (unhide Kp_1) (.cells #[.int .i64 0, .int .i64 0] 28))
  have Kq_2 := hide (keep_alloc (unhide Kq_1) (.cells #[.int .i64 0, .int .i64 0] 28))
  have Kg_2 := hide (keep_alloc (unhide Kg_1) (.cells #[.int .i64 0, .int .i64 0] 28))
  have Kf_2 := hide (new_block w1 (.cells #[.int .i64 0, .int .i64 0] 28))
  have hlp_f : w.heap.size < w1.heap.size := size_of (unhide Kp_1)
  have hlq_f : w.heap.size + 1 < w1.heap.size := size_of (unhide Kq_1)
  have hlg_f : w.heap.size + 1 + 1 < w1.heap.size := size_of (unhide Kg_1)
  obtain ⟨T, eT⟩ : ∃ X, w1.heap.size = X := ⟨_, rfl⟩
  obtain ⟨W2, eW2⟩ : ∃ X, w1.alloc (.cells #[.int .i64 0, .int .i64 0] 28) = X := ⟨_, rfl⟩
  rw [eT, eW2] at Kf_2; rw [eW2] at HX_2 Kp_2 Kq_2 Kg_2; rw [eT] at hlp_f hlq_f hlg_f; rw [eT, eW2]
  clear eT eW2 HX_1 Kp_1 Kq_1 Kg_1
  have hqt : w.heap.size + 1 + 1 < T := by omega
  obtain ⟨⟨p0, p1, p2⟩, ⟨pf0, pf1, pf2⟩, pl⟩ := block3 (unhide Kp_2)
  obtain ⟨f0, f1, ff0, ff1, fl⟩ := block2 (unhide Kf_2)
  obtain ⟨B3, eB3⟩ : ∃ X, W2.heap.size = X := ⟨_, rfl⟩
  have HB3 : Hid (w.heap.size ≤ B3) := by have := (unhide HX_2).size; rw [eB3] at this; exact this
  have HF3 := unhide HFR W2 (unhide HX_2)
  rw [eB3] at HF3
  have HFR3 := hide HF3
  clear HF3
  go_upto_region 6 with (go_at_call 29; refine (unhide HFR3).mono ?_; rintro e w3 ⟨b1, d1, rfl, ho3, hb3⟩; have HO3 := hide ho3; rw [← eB3] at hb3; have HX_3 := hide (Below.next (unhide HX_2) hb3 (by first | exact Nat.le_refl _ | (have := unhide HBA; omega))); have Kp_3 := hide (keep_below (unhide Kp_2) hb3); have Kq_3 := hide (keep_below (unhide Kq_2) hb3); have Kg_3 := hide (keep_below (unhide Kg_2) hb3); have Kf_3 := hide (keep_below (unhide Kf_2) hb3); clear HX_2 Kp_2 Kq_2 Kg_2 Kf_2; clear hb3 ho3 HFR3 p0 p1 p2 pf0 pf1 pf2 pl f0 f1 ff0 ff1 fl)
  clear eB3
  have HX_4 := hide ((unhide HX_3).alloc (Nat.le_trans (show w.heap.size ≤ w.heap.size from Nat.le_refl _) (unhide HX_3).size) (.cells #[.int .i64 r, .bool bw, .slice b1 n d1] 24))
  have Kp_4 := hide (keep_alloc (unhide Kp_3) (.cells #[.int .i64 r, .bool bw, .slice b1 n d1] 24))
  have Kq_4 := hide (keep_alloc (unhide Kq_3) (.cells #[.int .i64 r, .bool bw, .slice b1 n d1] 24))
  have Kg_4 := hide (keep_alloc (unhide Kg_3) (.cells #[.int .i64 r, .bool bw, .slice b1 n d1] 24))
  have Kf_4 := hide (keep_alloc (unhide Kf_3) (.cells #[.int .i64 r, .bool bw, .slice b1 n d1] 24))
  have Ol_4 := hide ((unhide HO3).below ((Below.refl _ _).alloc (Nat.le_refl _) (.cells #[.int .i64 r, .bool bw, .slice b1 n d1] 24)))
  have Kt_4 := hide (new_block w3 (.cells #[.int .i64 r, .bool bw, .slice b1 n d1] 24))
  have hlp_t : w.heap.size < w3.heap.size := size_of (unhide Kp_3)
  have hlq_t : w.heap.size + 1 < w3.heap.size := size_of (unhide Kq_3)
  have hlg_t : w.heap.size + 1 + 1 < w3.heap.size := size_of (unhide Kg_3)
  have hlf_t : T < w3.heap.size := size_of (unhide Kf_3)
  obtain ⟨T2, eT2⟩ : ∃ X, w3.heap.size = X := ⟨_, rfl⟩
  obtain ⟨W4, eW4⟩ : ∃ X, w3.alloc (.cells #[.int .i64 r, .bool bw, .slice b1 n d1] 24) = X := ⟨_, rfl⟩
  rw [eT2, eW4] at Kt_4; rw [eW4] at HX_4 Kp_4 Kq_4 Kg_4 Kf_4 Ol_4; rw [eT2] at hlp_t hlq_t hlg_t hlf_t; rw [eT2, eW4]
  clear eT2 eW4 HX_3 Kp_3 Kq_3 Kg_3 Kf_3 HO3
  obtain ⟨⟨t0, t1, t2⟩, ⟨tf0, tf1, tf2⟩, tl⟩ := block3 (unhide Kt_4)
  have hb9 : ¬ (0 : Int) < r := by omega
  go_upto_region 5 with fail
  clear t0 t1 t2 tf0 tf1 tf2 tl
  obtain ⟨⟨t0, t1, t2⟩, ⟨tf0, tf1, tf2⟩, tl⟩ := block3 (unhide Kt_4)
  obtain ⟨⟨q0, q1, q2⟩, ⟨qf0, qf1, qf2⟩, ql⟩ := block3 (unhide Kq_4)
  obtain ⟨g0, g1, gf0, gf1, gl⟩ := block2 (unhide Kg_4)
  go_wp2_with fail
  clear t0 t1 t2 tf0 tf1 tf2 tl q0 q1 q2 qf0 qf1 qf2 ql g0 g1 gf0 gf1 gl
  have HX_5 := hide (putL_below (y0 := .int .i64 r) (y1 := .bool bw) (y2 := .slice b1 n d1) (unhide HX_4) (show w.heap.size ≤ w.heap.size + 1 by first | omega | (have := unhide HBA; omega)))
  have Kp_5 := hide ((putL_keep (y0 := .int .i64 r) (y1 := .bool bw) (y2 := .slice b1 n d1) (show w.heap.size ≠ w.heap.size + 1 by omega)).trans (unhide Kp_4))
  have Kq_5 := hide (putL_new (y0 := .int .i64 r) (y1 := .bool bw) (y2 := .slice b1 n d1) (unhide Kq_4))
  have Kg_5 := hide ((putL_keep (y0 := .int .i64 r) (y1 := .bool bw) (y2 := .slice b1 n d1) (show w.heap.size + 1 + 1 ≠ w.heap.size + 1 by omega)).trans (unhide Kg_4))
  have Kf_5 := hide ((putL_keep (y0 := .int .i64 r) (y1 := .bool bw) (y2 := .slice b1 n d1) (show T ≠ w.heap.size + 1 by omega)).trans (unhide Kf_4))
  have Kt_5 := hide ((putL_keep (y0 := .int .i64 r) (y1 := .bool bw) (y2 := .slice b1 n d1) (show T2 ≠ w.heap.size + 1 by omega)).trans (unhide Kt_4))
  have Ol_5 := hide ((unhide Ol_4).keep (fun k hk => putL_keep (y0 := .int .i64 r) (y1 := .bool bw) (y2 := .slice b1 n d1) (Own.ne (unhide Ol_4) (unhide Kq_4) (by decide) k hk)))
  obtain ⟨V1, eV1⟩ : ∃ X, putL W4 (w.heap.size + 1) (.int .i64 r) (.bool bw) (.slice b1 n d1) = X := ⟨_, rfl⟩
  rw [eV1] at HX_5 Kp_5 Kq_5 Kg_5 Kf_5 Kt_5 Ol_5
  have eV12 : (((W4).setCell ⟨w.heap.size + 1, 0, none⟩ (.int .i64 r)).setCell ⟨w.heap.size + 1, 1, none⟩ (.bool bw)).setCell ⟨w.heap.size + 1, 2, none⟩ (.slice b1 n d1) = V1 := eV1
  rw [eV12]
  clear eV1 eV12 HX_4 Kp_4 Kq_4 Kg_4 Kf_4 Kt_4 Ol_4
  have HX_6 := hide (put2_below (y0 := .int .i64 0) (y1 := .int .i64 0) (unhide HX_5) (show w.heap.size ≤ w.heap.size + 1 + 1 by first | omega | (have := unhide HBA; omega)))
  have Kp_6 := hide ((put2_keep (y0 := .int .i64 0) (y1 := .int .i64 0) (show w.heap.size ≠ w.heap.size + 1 + 1 by omega)).trans (unhide Kp_5))
  have Kq_6 := hide ((put2_keep (y0 := .int .i64 0) (y1 := .int .i64 0) (show w.heap.size + 1 ≠ w.heap.size + 1 + 1 by omega)).trans (unhide Kq_5))
  have Kg_6 := hide (put2_new (y0 := .int .i64 0) (y1 := .int .i64 0) (unhide Kg_5))
  have Kf_6 := hide ((put2_keep (y0 := .int .i64 0) (y1 := .int .i64 0) (show T ≠ w.heap.size + 1 + 1 by omega)).trans (unhide Kf_5))
  have Kt_6 := hide ((put2_keep (y0 := .int .i64 0) (y1 := .int .i64 0) (show T2 ≠ w.heap.size + 1 + 1 by omega)).trans (unhide Kt_5))
  have Ol_6 := hide ((unhide Ol_5).keep (fun k hk => put2_keep (y0 := .int .i64 0) (y1 := .int .i64 0) (Own.ne (unhide Ol_5) (unhide Kg_5) (by decide) k hk)))
  obtain ⟨V2, eV2⟩ : ∃ X, put2 V1 (w.heap.size + 1 + 1) (.int .i64 0) (.int .i64 0) = X := ⟨_, rfl⟩
  rw [eV2] at HX_6 Kp_6 Kq_6 Kg_6 Kf_6 Kt_6 Ol_6
  have eV22 : ((V1).setCell ⟨w.heap.size + 1 + 1, 0, none⟩ (.int .i64 0)).setCell ⟨w.heap.size + 1 + 1, 1, none⟩ (.int .i64 0) = V2 := eV2
  rw [eV22]
  clear eV2 eV22 HX_5 Kp_5 Kq_5 Kg_5 Kf_5 Kt_5 Ol_5
  obtain ⟨⟨q0, q1, q2⟩, ⟨qf0, qf1, qf2⟩, ql⟩ := block3 (unhide Kq_6)
  obtain ⟨g0, g1, gf0, gf1, gl⟩ := block2 (unhide Kg_6)
  exact bodyPost_ret (v := .tuple #[.agg #[.int .i64 r, .bool bw, .slice b1 n d1], .slice none 0 0, .bool true, .agg #[.int .i64 0, .int .i64 0]]) (by simp [results, Try.results20, go_sem, q0, q1, q2, g0, g1]) rfl ⟨.agg #[.int .i64 r, .bool bw, .slice b1 n d1], .slice none 0 0, rfl, ⟨_, rfl, ((unhide Ol_6).base (unhide HB3)).new⟩, new_nil _ _, unhide HX_6⟩

theorem leave_ok (w : World) (v : Value) (P : Lk) (wt : Bool) (h : IsLock w v P) (hf : (lockF P).1 = 0) :
    Calls Try.prog 20 #[v, .bool wt] w fun e w' => ∃ v1 v2, e = .returned (.tuple #[v1, v2, .bool (leaveR P wt).2, .agg #[.int .i64 0, .int .i64 0]]) ∧ NewLock w.heap.size w' v1 (leaveR P wt).1.1 ∧ New KI w.heap.size w' v2 (leaveR P wt).1.2 ∧ Below w.heap.size w w' := by
  unfold leaveR
  cases wt with
  | true =>
    by_cases hb : P.writer = true
    · rw [if_pos ⟨rfl, hb⟩]
      exact leave_writer w v P h hf hb
    · rw [if_neg (fun h => hb h.2), if_neg (fun h => by cases h.1)]
      exact leave_none0 w v P h hf (by simpa using hb)
  | false =>
    rw [if_neg (fun h => by cases h.1)]
    by_cases hb : 0 < P.readers
    · rw [if_pos ⟨rfl, hb⟩]
      exact leave_reader w v P h hf hb
    · rw [if_neg (fun h => hb h.2)]
      exact leave_none1 w v P h hf hb
end Go.Proofs.Ytdpcbmekplcllaa
