/-
  taskmillref.SemaFault.
-/
import Derived.Test.YtpogcfdmkeebmaaIl
import Derived.Test.YtpogcfdmkeebmaaK
namespace Go.Proofs.Ytpogcfdmkeebmaa
open Go.RowKit

theorem wantP_low {pre : List Po} {t : Int} {c : Bool} {u : Int} (h : t < 1 ∨ u < 1 ∨ 1000000000 < u) : wantP pre (t, c, u) = 3 := by
  unfold wantP
  rw [if_pos h]
theorem wantP_twice {pre : List Po} {t : Int} {c : Bool} {u : Int} (h : ¬ (t < 1 ∨ u < 1 ∨ 1000000000 < u)) (h2 : pre.any (isOfP t) = true) : wantP pre (t, c, u) = 10 := by
  unfold wantP
  rw [if_neg h, if_pos (List.contains_iff_mem.2 ((any_isOf pre t).1 h2))]
theorem wantP_form {pre : List Po} {t : Int} {c : Bool} {u : Int} (h : ¬ (t < 1 ∨ u < 1 ∨ 1000000000 < u)) (h2 : pre.any (isOfP t) = false) : wantP pre (t, c, u) = if c = true then 5 else 0 := by
  unfold wantP
  rw [if_neg h, if_neg (fun hc => by rw [(any_isOf pre t).2 (List.contains_iff_mem.1 hc)] at h2; cases h2)]

set_option maxRecDepth 100000 in
set_option maxHeartbeats 2000000 in
theorem semaFault_many (w : World) (v : Value) (f : Int) (line : List Po) (h : IsG KP w v f line) (h1 : 5000 < line.length) :
    Calls Try.prog 26 #[v] w fun e w' => e = .returned (faultV (2, 0)) ∧ Below w.heap.size w w' := by
  obtain ⟨a0, c0, rfl, hL⟩ := h.form
  generalize line.length = n at *
  have j1 : (5000 : Int) < (n : Int) := by omega
  clear h hL
  obtain ⟨W0, e0, hB, k0, k1⟩ := two_new w (.cells #[.int .i64 f, .slice a0 n c0] 51) (.cells #[.int .i64 0, .int .i64 0] 29)
  have HX := hide hB; have HP := hide k0; have HQ := hide k1; have HE := hide e0
  clear hB k0 k1 e0
  go_enter Try.func26, Try.ntmps26
  go_upto_region 1 with fail
  rw [unhide HE]
  clear HE
  obtain ⟨p0, p1, pf0, pf1, pl⟩ := block2 (unhide HP)
  go_wp2_with (go_at_call 16; refine (refF_any _ _ _).mono ?_; rintro e w9 ⟨rfl, hb9⟩; have HX9 := hide (Below.next (unhide HX) hb9 (Nat.le_refl _)); have HQ9 := hide (keep_below (unhide HQ) hb9); clear hb9; obtain ⟨q0, q1, f0, f1, ql⟩ := block2 (unhide HQ9))
  exact bodyPost_ret (v := .agg #[.int .i64 2, .int .i64 0]) (by simp [results, Try.results26, go_sem, q0, q1]) rfl ⟨rfl, below_set2 (unhide HX9) (Nat.le_succ _) _ _⟩

set_option maxRecDepth 100000 in
set_option maxHeartbeats 2000000 in
theorem semaFault_low (w : World) (v : Value) (f : Int) (line : List Po) (h : IsG KP w v f line) (h1 : ¬ 5000 < line.length) (h2 : f < 0) :
    Calls Try.prog 26 #[v] w fun e w' => e = .returned (faultV (3, 0)) ∧ Below w.heap.size w w' := by
  obtain ⟨a0, c0, rfl, hL⟩ := h.form
  generalize line.length = n at *
  have j1 : ¬ (5000 : Int) < (n : Int) := by omega
  clear h hL
  obtain ⟨W0, e0, hB, k0, k1⟩ := two_new w (.cells #[.int .i64 f, .slice a0 n c0] 51) (.cells #[.int .i64 0, .int .i64 0] 29)
  have HX := hide hB; have HP := hide k0; have HQ := hide k1; have HE := hide e0
  clear hB k0 k1 e0
  go_enter Try.func26, Try.ntmps26
  go_upto_region 1 with fail
  rw [unhide HE]
  clear HE
  obtain ⟨p0, p1, pf0, pf1, pl⟩ := block2 (unhide HP)
  go_wp2_with (go_at_call 16; refine (refF_any _ _ _).mono ?_; rintro e w9 ⟨rfl, hb9⟩; have HX9 := hide (Below.next (unhide HX) hb9 (Nat.le_refl _)); have HQ9 := hide (keep_below (unhide HQ) hb9); clear hb9; obtain ⟨q0, q1, f0, f1, ql⟩ := block2 (unhide HQ9))
  exact bodyPost_ret (v := .agg #[.int .i64 3, .int .i64 0]) (by simp [results, Try.results26, go_sem, q0, q1]) rfl ⟨rfl, below_set2 (unhide HX9) (Nat.le_succ _) _ _⟩

set_option maxRecDepth 100000 in
set_option maxHeartbeats 2000000 in
theorem semaFault_high (w : World) (v : Value) (f : Int) (line : List Po) (h : IsG KP w v f line) (h1 : ¬ 5000 < line.length) (h2 : ¬ f < 0) (h3 : 1000000000 < f) :
    Calls Try.prog 26 #[v] w fun e w' => e = .returned (faultV (3, 0)) ∧ Below w.heap.size w w' := by
  obtain ⟨a0, c0, rfl, hL⟩ := h.form
  generalize line.length = n at *
  have j1 : ¬ (5000 : Int) < (n : Int) := by omega
  clear h hL
  obtain ⟨W0, e0, hB, k0, k1⟩ := two_new w (.cells #[.int .i64 f, .slice a0 n c0] 51) (.cells #[.int .i64 0, .int .i64 0] 29)
  have HX := hide hB; have HP := hide k0; have HQ := hide k1; have HE := hide e0
  clear hB k0 k1 e0
  go_enter Try.func26, Try.ntmps26
  go_upto_region 1 with fail
  rw [unhide HE]
  clear HE
  obtain ⟨p0, p1, pf0, pf1, pl⟩ := block2 (unhide HP)
  go_wp2_with (go_at_call 16; refine (refF_any _ _ _).mono ?_; rintro e w9 ⟨rfl, hb9⟩; have HX9 := hide (Below.next (unhide HX) hb9 (Nat.le_refl _)); have HQ9 := hide (keep_below (unhide HQ) hb9); clear hb9; obtain ⟨q0, q1, f0, f1, ql⟩ := block2 (unhide HQ9))
  exact bodyPost_ret (v := .agg #[.int .i64 3, .int .i64 0]) (by simp [results, Try.results26, go_sem, q0, q1]) rfl ⟨rfl, below_set2 (unhide HX9) (Nat.le_succ _) _ _⟩

set_option maxRecDepth 100000 in
set_option maxHeartbeats 2000000 in
theorem semaFault_lets (w : World) (v : Value) (f : Int) (line : List Po) (h : IsG KP w v f line) (h1 : ¬ 5000 < line.length) (h2 : ¬ f < 0) (h3 : ¬ 1000000000 < f) (h4 : 0 < line.length) (h5 : lets f line = true) :
    Calls Try.prog 26 #[v] w fun e w' => e = .returned (faultV (5, 0)) ∧ Below w.heap.size w w' := by
  obtain ⟨a0, c0, rfl, hL⟩ := h.form
  obtain ⟨x, l, rfl⟩ : ∃ x l, line = x :: l := by
    cases line with
    | nil => simp at h4
    | cons x l => exact ⟨x, l, rfl⟩
  obtain ⟨t0, c9, u0⟩ := x
  have huf : u0 ≤ f := by simpa [lets] using h5
  obtain ⟨b, off, rfl, hbl, hli⟩ := hL.opens kp rfl (by simp)
  have HPF := hide (post_first hli (by simp) rfl)
  obtain ⟨n, en⟩ : ∃ n, ((t0, c9, u0) :: l).length = n := ⟨_, rfl⟩
  rw [en] at h1 h4 ⊢
  have HN := hide en
  have j1 : ¬ (5000 : Int) < (n : Int) := by omega
  have j2 : (0 : Int) < (n : Int) := by omega
  clear h hL hli en h5
  obtain ⟨W0, e0, hB, k0, k1⟩ := two_new w (.cells #[.int .i64 f, .slice (some ⟨b, off, none⟩) n c0] 51) (.cells #[.int .i64 0, .int .i64 0] 29)
  have HX := hide hB; have HP := hide k0; have HQ := hide k1; have HE := hide e0
  clear hB k0 k1 e0
  go_enter Try.func26, Try.ntmps26
  go_upto_region 1 with fail
  rw [unhide HE]
  clear HE
  obtain ⟨p0, p1, pf0, pf1, pl⟩ := block2 (unhide HP)
  have k2 : W0.cell? ⟨b, off + 2, none⟩ = some (.int .i64 u0) := ((unhide HX).cell (p := ⟨b, off + 2, none⟩) hbl).trans (unhide HPF).2.2
  go_upto_region 5 with fail
  go_wp2
  go_quiet (fail)
  obtain ⟨Wq, eWq⟩ : ∃ V, W0.drewN nq = V := ⟨_, rfl⟩
  have hbq : Below W0.heap.size W0 Wq := by rw [← eWq]; exact below_drewN (Below.refl _ _) nq
  rw [eWq]
  clear eWq k2 p0 p1 pf0 pf1 pl
  have HX1 := hide (Below.next (unhide HX) hbq (Nat.le_refl _)); have HP1 := hide (keep_below (unhide HP) hbq); have HQ1 := hide (keep_below (unhide HQ) hbq)
  clear hbq HX HP HQ
  go_wp2_with (go_at_call 16; refine (refF_any _ _ _).mono ?_; rintro e w9 ⟨rfl, hb9⟩; have HX9 := hide (Below.next (unhide HX1) hb9 (Nat.le_refl _)); have HQ9 := hide (keep_below (unhide HQ1) hb9); clear hb9; obtain ⟨q0, q1, f0, f1, ql⟩ := block2 (unhide HQ9))
  exact bodyPost_ret (v := .agg #[.int .i64 5, .int .i64 0]) (by simp [results, Try.results26, go_sem, q0, q1]) rfl ⟨rfl, below_set2 (unhide HX9) (Nat.le_succ _) _ _⟩

set_option maxRecDepth 100000 in
set_option maxHeartbeats 2000000 in
theorem semaFault_empty (w : World) (v : Value) (f : Int) (line : List Po) (h : IsG KP w v f line) (_h1 : ¬ 5000 < line.length) (h2 : ¬ f < 0) (h3 : ¬ 1000000000 < f) (h4 : line.length = 0) :
    Calls Try.prog 26 #[v] w fun e w' => e = .returned (faultV (0, 0)) ∧ Below w.heap.size w w' := by
  obtain ⟨a0, c0, rfl, hL⟩ := h.form
  rw [h4]
  clear h hL h4 _h1
  obtain ⟨W0, e0, hB, k0, k1⟩ := two_new w (.cells #[.int .i64 f, .slice a0 0 c0] 51) (.cells #[.int .i64 0, .int .i64 0] 29)
  have HX := hide hB; have HP := hide k0; have HQ := hide k1; have HE := hide e0
  clear hB k0 k1 e0
  go_enter Try.func26, Try.ntmps26
  go_upto_region 1 with fail
  rw [unhide HE]
  clear HE
  obtain ⟨p0, p1, pf0, pf1, pl⟩ := block2 (unhide HP)
  obtain ⟨q0, q1, f0, f1, ql⟩ := block2 (unhide HQ)
  go_wp2
  go_quiet (fail)
  go_wp2_with fail
  go_loopw [3] (fun i W => i = .int .i64 0 ∧ W = W0.drewN nq) (fun _ _ => 0)
  case atStart => exact ⟨rfl, rfl⟩
  case round =>
    obtain ⟨rfl, rfl⟩ := hrel
    go_wp2_with fail
    exact bodyPost_ret (v := .agg #[.int .i64 0, .int .i64 0]) (by simp [results, Try.results26, go_sem, q0, q1]) rfl ⟨rfl, below_set2 (below_drewN (unhide HX) nq) (Nat.le_succ _) _ _⟩

set_option maxRecDepth 100000 in
set_option maxHeartbeats 2000000 in
theorem semaFault_line (w : World) (v : Value) (f : Int) (line : List Po) (h : IsG KP w v f line) (h1 : ¬ 5000 < line.length) (h2 : ¬ f < 0) (h3 : ¬ 1000000000 < f) (h4 : 0 < line.length) (h5 : lets f line = false) :
    Calls Try.prog 26 #[v] w fun e w' => e = .returned (faultV (firstC wantP [] line 0)) ∧ Below w.heap.size w w' := by
  obtain ⟨a0, c0, rfl, hL⟩ := h.form
  obtain ⟨x, l, rfl⟩ : ∃ x l, line = x :: l := by
    cases line with
    | nil => simp at h4
    | cons x l => exact ⟨x, l, rfl⟩
  obtain ⟨t0, c9, u0⟩ := x
  have huf : ¬ u0 ≤ f := by simpa [lets] using h5
  obtain ⟨b, off, rfl, hbl, hli⟩ := hL.opens kp rfl (by simp)
  have HPF := hide (post_first hli (by simp) rfl)
  obtain ⟨R, eR⟩ : ∃ R, firstC wantP [] ((t0, c9, u0) :: l) 0 = R := ⟨_, rfl⟩
  rw [eR]
  obtain ⟨L, eL⟩ : ∃ L, (t0, c9, u0) :: l = L := ⟨_, rfl⟩
  rw [eL] at eR hli hL h1 h4 ⊢
  have HR : Hid (firstC wantP (L.take 0) (L.drop 0) ((0 : Nat) : Int) = R) := eR
  have HFT := hide hL.fits
  obtain ⟨n, en⟩ : ∃ n, L.length = n := ⟨_, rfl⟩
  rw [en] at h1 h4 HFT ⊢
  have HN := hide en
  have j1 : ¬ (5000 : Int) < (n : Int) := by omega
  have j2 : (0 : Int) < (n : Int) := by omega
  have HLI := hide hli
  clear h hL hli en h5 eR eL
  obtain ⟨W0, e0, hB, k0, k1⟩ := two_new w (.cells #[.int .i64 f, .slice (some ⟨b, off, none⟩) n c0] 51) (.cells #[.int .i64 0, .int .i64 0] 29)
  have HX := hide hB; have HP := hide k0; have HQ := hide k1; have HE := hide e0
  clear hB k0 k1 e0
  go_enter Try.func26, Try.ntmps26
  go_upto_region 1 with fail
  rw [unhide HE]
  clear HE
  obtain ⟨p0, p1, pf0, pf1, pl⟩ := block2 (unhide HP)
  have k2 : W0.cell? ⟨b, off + 2, none⟩ = some (.int .i64 u0) := ((unhide HX).cell (p := ⟨b, off + 2, none⟩) hbl).trans (unhide HPF).2.2
  go_upto_region 5 with fail
  go_wp2
  go_quiet (fail)
  obtain ⟨Wq, eWq⟩ : ∃ V, W0.drewN nq = V := ⟨_, rfl⟩
  have hbq : Below W0.heap.size W0 Wq := by rw [← eWq]; exact below_drewN (Below.refl _ _) nq
  rw [eWq]
  clear eWq k2 p0 p1 pf0 pf1 pl
  have HX1 := hide (Below.next (unhide HX) hbq (Nat.le_refl _)); have HP1 := hide (keep_below (unhide HP) hbq); have HQ1 := hide (keep_below (unhide HQ) hbq)
  clear hbq HX HP HQ
  have HCL : Hid (∀ W m t c u, Below w.heap.size w W → m < n → pAt L m = (t, c, u) → W.cell? ⟨b, off + m * 3, none⟩ = some (.int .i64 t) ∧ W.cell? ⟨b, off + m * 3 + 1, none⟩ = some (.bool c) ∧ W.cell? ⟨b, off + m * 3 + 2, none⟩ = some (.int .i64 u)) := fun W m t c u hW hm hx => ((unhide HLI).below hW hbl).post (j := m) (by rw [unhide HN]; exact hm) hx
  have HIN : Hid (∀ W j x, Below w.heap.size w W → j ≤ n → Calls Try.prog 28 #[.slice (some ⟨b, off, none⟩) j c0, .int .i64 x] W fun e w' => ∃ i : Int, e = .returned (.int .i64 i) ∧ (0 ≤ i ↔ (L.take j).any (isOfP x) = true) ∧ w' = W) := fun W j x hW hj => inLine_any W _ (L.take j) x (isl_take ((unhide HLI).below hW hbl) (unhide HN) (unhide HFT) hj) (by rw [List.length_take]; unfold maxLen; omega)
  go_upto_region 7 with fail
  go_wp2_with fail
  go_loopw [3] (fun i W => ∃ j : Nat, j ≤ n ∧ i = .int .i64 j ∧ Hid (firstC wantP (L.take j) (L.drop j) (j : Int) = R) ∧ Hid (Below w.heap.size w W) ∧ Hid (W.heap[w.heap.size]? = some (.cells #[.int .i64 f, .slice (some ⟨b, off, none⟩) n c0] 51)) ∧ Hid (W.heap[w.heap.size + 1]? = some (.cells #[.int .i64 0, .int .i64 0] 29))) (fun i _ => n - (intOf i).toNat)
  case atStart => exact ⟨0, Nat.zero_le _, rfl, HR, HX1, HP1, HQ1⟩
  case round =>
    clear HP1 HQ1 HX1
    obtain ⟨j, hj, rfl, HRj, HXw, HPw, HQw⟩ := hrel
    clear HR
    obtain ⟨p0, p1, pf0, pf1, pl⟩ := block2 (unhide HPw)
    by_cases hlt : j < n
    · have hlt2 : j < L.length := by rw [unhide HN]; exact hlt
      obtain ⟨⟨t, c, u⟩, hx⟩ : ∃ y, pAt L j = y := ⟨_, rfl⟩
      obtain ⟨k0, k1, k2⟩ := unhide HCL _ j t c u (unhide HXw) hlt hx
      have HRn := unhide HRj
      rw [drop_get (0, false, 0) hlt2, show L.getD j (0, false, 0) = (t, c, u) from hx] at HRn
      have ht := take_get (0, false, 0) hlt2
      rw [show L.getD j (0, false, 0) = (t, c, u) from hx] at ht
      have HTT := hide ht
      have HRN := hide HRn
      have i0 : (0 : Int) ≤ (j : Int) := by omega
      have i1 : (j : Int) < (n : Int) := by omega
      have hcj : (j : Int) ≤ (c0 : Int) := by have := unhide HFT; omega
      have hw1 : IntKind.i64.wrap ((j : Int) + 1) = (j : Int) + 1 := wrapi (by omega) (by omega)
      clear HRj HRn hx hlt2 ht
      go_upto_region 11 with fail
      clear k0 k1 k2
      clear p0 p1 pf0 pf1 pl
      have HX_l1 := hide ((unhide HXw).alloc (Nat.le_trans (show w.heap.size ≤ w.heap.size from Nat.le_refl _) (unhide HXw).size) (.cells #[.int .i64 t, .bool c, .int .i64 u] 63))
      have Kp_l1 := hide (keep_alloc (unhide HPw) (.cells #[.int .i64 t, .bool c, .int .i64 u] 63))
      have Kq_l1 := hide (keep_alloc (unhide HQw) (.cells #[.int .i64 t, .bool c, .int .i64 u] 63))
      have Kz_l1 := hide (new_block wr (.cells #[.int .i64 t, .bool c, .int .i64 u] 63))
      have hlp_z : w.heap.size < wr.heap.size := size_of (unhide HPw)
      have hlq_z : w.heap.size + 1 < wr.heap.size := size_of (unhide HQw)
      obtain ⟨Z, eZ⟩ : ∃ X, wr.heap.size = X := ⟨_, rfl⟩
      obtain ⟨W2, eW2⟩ : ∃ X, wr.alloc (.cells #[.int .i64 t, .bool c, .int .i64 u] 63) = X := ⟨_, rfl⟩
      rw [eZ, eW2] at Kz_l1; rw [eW2] at HX_l1 Kp_l1 Kq_l1; rw [eZ] at hlp_z hlq_z; rw [eZ, eW2]
      clear eZ eW2 HXw HPw HQw
      obtain ⟨⟨z0, z1, z2⟩, ⟨zf0, zf1, zf2⟩, zl⟩ := block3 (unhide Kz_l1)
      by_cases c1 : t < 1
      · have HE2 : Hid (R = (3, (j : Int) + 1)) := hide (by have := unhide HRN; rw [firstC_stop (wantP_low (Or.inl c1)) (by decide)] at this; exact this.symm)
        clear HRN
        go_wp2_with (go_at_call 16; refine (refF_any _ _ _).mono ?_; rintro e w9 ⟨rfl, hb9⟩; have HX9 := hide (Below.next (unhide HX_l1) hb9 (Nat.le_refl _)); have HQ9 := hide (keep_below (unhide Kq_l1) hb9); clear hb9; obtain ⟨q0, q1, f0, f1, ql⟩ := block2 (unhide HQ9))
        refine bodyPost_ret (v := .agg #[.int .i64 3, .int .i64 ((j : Int) + 1)]) (by simp [results, Try.results26, go_sem, q0, q1]) rfl ⟨?_, below_set2 (unhide HX9) (Nat.le_succ _) _ _⟩
        rw [unhide HE2]
        rfl
      by_cases c2 : u < 1
      · have HE2 : Hid (R = (3, (j : Int) + 1)) := hide (by have := unhide HRN; rw [firstC_stop (wantP_low (Or.inr (Or.inl c2))) (by decide)] at this; exact this.symm)
        clear HRN
        go_wp2_with (go_at_call 16; refine (refF_any _ _ _).mono ?_; rintro e w9 ⟨rfl, hb9⟩; have HX9 := hide (Below.next (unhide HX_l1) hb9 (Nat.le_refl _)); have HQ9 := hide (keep_below (unhide Kq_l1) hb9); clear hb9; obtain ⟨q0, q1, f0, f1, ql⟩ := block2 (unhide HQ9))
        refine bodyPost_ret (v := .agg #[.int .i64 3, .int .i64 ((j : Int) + 1)]) (by simp [results, Try.results26, go_sem, q0, q1]) rfl ⟨?_, below_set2 (unhide HX9) (Nat.le_succ _) _ _⟩
        rw [unhide HE2]
        rfl
      by_cases c3 : 1000000000 < u
      · have HE2 : Hid (R = (3, (j : Int) + 1)) := hide (by have := unhide HRN; rw [firstC_stop (wantP_low (Or.inr (Or.inr c3))) (by decide)] at this; exact this.symm)
        clear HRN
        go_wp2_with (go_at_call 16; refine (refF_any _ _ _).mono ?_; rintro e w9 ⟨rfl, hb9⟩; have HX9 := hide (Below.next (unhide HX_l1) hb9 (Nat.le_refl _)); have HQ9 := hide (keep_below (unhide Kq_l1) hb9); clear hb9; obtain ⟨q0, q1, f0, f1, ql⟩ := block2 (unhide HQ9))
        refine bodyPost_ret (v := .agg #[.int .i64 3, .int .i64 ((j : Int) + 1)]) (by simp [results, Try.results26, go_sem, q0, q1]) rfl ⟨?_, below_set2 (unhide HX9) (Nat.le_succ _) _ _⟩
        rw [unhide HE2]
        rfl
      have HLW : Hid (¬ (t < 1 ∨ u < 1 ∨ 1000000000 < u)) := hide (by omega)
      go_upto_region 13 with fail
      clear z0 z1 z2 zf0 zf1 zf2 zl
      have HSS : Hid (∀ W, Below W2.heap.size W2 W → (W.cell? ⟨w.heap.size, 0, none⟩ = some (.int .i64 f) ∧ W.cell? ⟨w.heap.size, 1, none⟩ = some (.slice (some ⟨b, off, none⟩) n c0)) ∧ W.cell? ⟨Z, 0, none⟩ = some (.int .i64 t) ∧ Below W2.heap.size W2 W) := fun W hW => by
        obtain ⟨k0, k1, -⟩ := block2 (keep_below (unhide Kp_l1) hW)
        obtain ⟨⟨z0, -, -⟩, -, -⟩ := block3 (keep_below (unhide Kz_l1) hW)
        exact ⟨⟨k0, k1⟩, z0, hW⟩
      have HIN2 : Hid (∀ W, Below W2.heap.size W2 W → Calls Try.prog 28 #[.slice (some ⟨b, off, none⟩) j c0, .int .i64 t] W fun e w' => ∃ i : Int, e = .returned (.int .i64 i) ∧ (0 ≤ i ↔ (L.take j).any (isOfP t) = true) ∧ Below W.heap.size W w') := fun W hW => (unhide HIN W j t (Below.next (unhide HX_l1) hW (Nat.le_refl _)) (Nat.le_of_lt hlt)).mono fun e w' ⟨i, h1, h2, h3⟩ => ⟨i, h1, h2, h3 ▸ Below.refl _ _⟩
      cases hany : (L.take j).any (isOfP t) with
      | true =>
        have HANY := hide hany
        have HE2 : Hid (R = (10, (j : Int) + 1)) := hide (by have := unhide HRN; rw [firstC_stop (wantP_twice (unhide HLW) hany) (by decide)] at this; exact this.symm)
        clear hany HRN HTT
        obtain ⟨⟨k0, k1⟩, z0, -⟩ := unhide HSS _ (Below.refl _ _)
        go_wp2_with fail
        go_region_held3 (fun W => (W.cell? ⟨w.heap.size, 0, none⟩ = some (.int .i64 f) ∧ W.cell? ⟨w.heap.size, 1, none⟩ = some (.slice (some ⟨b, off, none⟩) n c0)) ∧ W.cell? ⟨Z, 0, none⟩ = some (.int .i64 t) ∧ Below W2.heap.size W2 W)
          (first | with_reducible exact unhide HSS _ (Below.refl _ _).drew | with_reducible exact unhide HSS _ (unhide HX5))
          (first | (go_at_call 28; refine (unhide HIN2 _ (by go_split_ands; assumption)).mono ?_; rintro e w5 ⟨i, rfl, hi, hb5⟩; have HX5 : Hid (Below W2.heap.size W2 w5) := Below.next (by go_split_ands; assumption) hb5 (Nat.le_refl _); have hge : 0 ≤ i := hi.2 (unhide HANY); clear hi hb5))
        all_goals
          have HB5 := hide (unhide HX5)
          skip
          have HXb := hide (Below.next (unhide HX_l1) (unhide HX5) (Nat.le_refl _)); have HPb := hide (keep_below (unhide Kp_l1) (unhide HX5)); have HQb := hide (keep_below (unhide Kq_l1) (unhide HX5)); have HZb := hide (keep_below (unhide Kz_l1) (unhide HX5))
          go_wp2_with (go_at_call 16; refine (refF_any _ _ _).mono ?_; rintro e w9 ⟨rfl, hb9⟩; have HX9 := hide (Below.next (unhide HXb) hb9 (Nat.le_refl _)); have HQ9 := hide (keep_below (unhide HQb) hb9); clear hb9; obtain ⟨q0, q1, f0, f1, ql⟩ := block2 (unhide HQ9))
          refine bodyPost_ret (v := .agg #[.int .i64 10, .int .i64 ((j : Int) + 1)]) (by simp [results, Try.results26, go_sem, q0, q1]) rfl ⟨?_, below_set2 (unhide HX9) (Nat.le_succ _) _ _⟩
          rw [unhide HE2]
          rfl
      | false =>
        have HANY := hide hany
        clear hany
        obtain ⟨⟨k0, k1⟩, z0, -⟩ := unhide HSS _ (Below.refl _ _)
        go_wp2_with fail
        go_region_held3 (fun W => (W.cell? ⟨w.heap.size, 0, none⟩ = some (.int .i64 f) ∧ W.cell? ⟨w.heap.size, 1, none⟩ = some (.slice (some ⟨b, off, none⟩) n c0)) ∧ W.cell? ⟨Z, 0, none⟩ = some (.int .i64 t) ∧ Below W2.heap.size W2 W)
          (first | with_reducible exact unhide HSS _ (Below.refl _ _).drew | with_reducible exact unhide HSS _ (unhide HX5))
          (first | (go_at_call 28; refine (unhide HIN2 _ (by go_split_ands; assumption)).mono ?_; rintro e w5 ⟨i, rfl, hi, hb5⟩; have HX5 : Hid (Below W2.heap.size W2 w5) := Below.next (by go_split_ands; assumption) hb5 (Nat.le_refl _); have hge : ¬ 0 ≤ i := (fun h => absurd (hi.1 h) (by rw [unhide HANY]; decide)); clear hi hb5))
        all_goals
          have HB5 := hide (unhide HX5)
          skip
          have HXb := hide (Below.next (unhide HX_l1) (unhide HX5) (Nat.le_refl _)); have HPb := hide (keep_below (unhide Kp_l1) (unhide HX5)); have HQb := hide (keep_below (unhide Kq_l1) (unhide HX5)); have HZb := hide (keep_below (unhide Kz_l1) (unhide HX5))
          obtain ⟨⟨z0, z1, z2⟩, -, -⟩ := block3 (unhide HZb)
          cases c with
          | true =>
            have HE2 : Hid (R = (5, (j : Int) + 1)) := hide (by have := unhide HRN; rw [firstC_stop (by rw [wantP_form (unhide HLW) (unhide HANY), if_pos rfl]) (by decide)] at this; exact this.symm)
            clear HRN
            go_wp2_with (go_at_call 16; refine (refF_any _ _ _).mono ?_; rintro e w9 ⟨rfl, hb9⟩; have HX9 := hide (Below.next (unhide HXb) hb9 (Nat.le_refl _)); have HQ9 := hide (keep_below (unhide HQb) hb9); clear hb9; obtain ⟨q0, q1, f0, f1, ql⟩ := block2 (unhide HQ9))
            refine bodyPost_ret (v := .agg #[.int .i64 5, .int .i64 ((j : Int) + 1)]) (by simp [results, Try.results26, go_sem, q0, q1]) rfl ⟨?_, below_set2 (unhide HX9) (Nat.le_succ _) _ _⟩
            rw [unhide HE2]
            rfl
          | false =>
            have HE3 : Hid (firstC wantP (L.take (j + 1)) (L.drop (j + 1)) ((j : Int) + 1) = R) := hide (by have := unhide HRN; rw [firstC_go (by rw [wantP_form (unhide HLW) (unhide HANY), if_neg (by simp)])] at this; rw [unhide HTT]; exact this)
            clear HRN HTT
            go_wp2_with fail
            go_roundw
            case rel => exact ⟨j + 1, by omega, by go_num, HE3, HXb, HPb, HQb⟩
            case measure => simp [intOf]; omega
    · have hjn : j = n := by omega
      subst hjn
      have hcx : ¬ (j : Int) < (j : Int) := by omega
      have HE2 : Hid (R = (0, 0)) := hide (by have := unhide HRj; rw [List.drop_eq_nil_of_le (by rw [unhide HN]; exact Nat.le_refl _)] at this; exact this.symm)
      obtain ⟨q0, q1, f0, f1, ql⟩ := block2 (unhide HQw)
      go_wp2_with fail
      refine bodyPost_ret (v := .agg #[.int .i64 0, .int .i64 0]) (by simp [results, Try.results26, go_sem, q0, q1]) rfl ⟨?_, below_set2 (unhide HXw) (Nat.le_succ _) _ _⟩
      rw [unhide HE2]
      rfl

theorem semaFault_any (w : World) (v : Value) (f : Int) (line : List Po) (h : IsG KP w v f line) (hn : line.length ≤ maxLen) :
    Calls Try.prog 26 #[v] w fun e w' => e = .returned (faultV (semaF f line)) ∧ Below w.heap.size w w' := by
  unfold semaF
  by_cases h1 : 5000 < line.length
  · rw [if_pos h1]; exact semaFault_many w v f line h h1
  rw [if_neg h1]
  by_cases h2 : f < 0
  · rw [if_pos (Or.inl h2)]; exact semaFault_low w v f line h h1 h2
  by_cases h3 : 1000000000 < f
  · rw [if_pos (Or.inr h3)]; exact semaFault_high w v f line h h1 h2 h3
  rw [if_neg (fun h => h.elim h2 h3)]
  by_cases h4 : line.length = 0
  · have e : line = [] := List.eq_nil_of_length_eq_zero h4
    have e2 : (if lets f line = true then (5, 0) else firstC wantP [] line 0 : Int × Int) = (0, 0) := by subst e; rfl
    rw [e2]
    exact semaFault_empty w v f line h h1 h2 h3 h4
  cases h5 : lets f line with
  | true => rw [if_pos rfl]; exact semaFault_lets w v f line h h1 h2 h3 (by omega) h5
  | false => rw [if_neg (by simp)]; exact semaFault_line w v f line h h1 h2 h3 (by omega) h5
end Go.Proofs.Ytpogcfdmkeebmaa
