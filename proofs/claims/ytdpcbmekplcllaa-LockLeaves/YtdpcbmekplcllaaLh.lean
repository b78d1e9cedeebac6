/-
  taskmilllaw.LockLeaves, where a reader leaves, and the task waits.
-/
import Derived.Test.YtdpcbmekplcllaaLa
namespace Go.Proofs.Ytdpcbmekplcllaa
open Go.RowKit

set_option maxRecDepth 100000 in
set_option maxHeartbeats 4000000 in
theorem leaves_r_in (w : World) (v : Value) (P : Lk) (x : Int) (h : IsLock w v P) (hn : P.line.length ≤ 700) (hf : (lockF P).1 = 0) (hb : 0 < P.readers) (hi : P.line.any (isOfP x) = true) :
    Calls Try.prog 4 #[v, .int .i64 x, .bool false] w fun e w' => e = .returned (.bool true) ∧ Below w.heap.size w w' := by
  have hnot : ∀ (x : Bool) (w : World), (Op.unary .not (.bool x)).run Try.prog w = .ok (.bool (!x)) w := fun _ _ => rfl
  have eF := lockF_zero hf
  obtain ⟨-, hr0, hr1, -, -, -⟩ := lockF_good hf
  have hgood := good_of hf
  have HIN : Hid (∀ W vl, IsL KP W vl P.line → Calls Try.prog 15 #[vl, .int .i64 x] W fun e w' => ∃ j : Nat, e = .returned (.int .i64 (j : Int)) ∧ j < P.line.length ∧ leftL (isOfP x) P.line = P.line.take j ++ P.line.drop (j + 1) ∧ Below W.heap.size W w') := fun W vl hW => (inLine_any W vl P.line x hW (by unfold maxLen; omega)).mono fun e w' ⟨h1, h2⟩ => by
    rcases h1 with ⟨rfl, h3⟩ | ⟨j, rfl, h3, h4, -⟩
    · rw [hi] at h3; cases h3
    · exact ⟨j, rfl, h3, left_at h3 h4 hgood.once, h2⟩
  have HOW : Hid (∀ W, Below w.heap.size w W → Calls Try.prog 9 #[v] W fun e w' => ∃ a c, e = .returned (.agg #[.int .i64 P.readers, .bool P.writer, .slice a P.line.length c]) ∧ IsL KP w' (.slice a P.line.length c) P.line ∧ Below W.heap.size W w') := fun W hW => (ownLock_any W v P (h.below hW) (by omega)).mono fun e w' ⟨v', h1, h2, h3⟩ => by
    obtain ⟨a, c, rfl, h4⟩ := h2.form
    exact ⟨a, c, h1, h4.1, h3⟩
  have HPF : Hid (∀ W, Below w.heap.size w W → Calls Try.prog 12 #[v] W fun e w' => e = .returned (.agg #[.int .i64 0, .int .i64 0]) ∧ Below W.heap.size W w') := fun W hW => by
    have := lockFault_any W v P (h.below hW)
    rw [eF] at this
    exact this
  obtain ⟨Q1, eQ1⟩ : ∃ Q, admR (P.readers - 1) P.writer P.line = Q := ⟨_, rfl⟩
  have HLV : Hid (∀ W v', IsLock W v' P → Calls Try.prog 20 #[v', .bool false] W fun e w' => ∃ a1 c1 a5 c5, e = .returned (.tuple #[.agg #[.int .i64 Q1.1.readers, .bool Q1.1.writer, .slice a1 Q1.1.line.length c1], .slice a5 Q1.2.length c5, .bool false, .agg #[.int .i64 0, .int .i64 0]]) ∧ IsL KP w' (.slice a1 Q1.1.line.length c1) Q1.1.line ∧ IsL KI w' (.slice a5 Q1.2.length c5) Q1.2 ∧ Below W.heap.size W w') := fun W v' hW => by
    have := leave_reader W v' P hW hf hb
    rw [eQ1] at this
    refine this.mono fun e w' ⟨v1, v2, h1, h2, h3, h4⟩ => ?_
    obtain ⟨a1, c1, rfl, h5⟩ := h2.form
    obtain ⟨a5, c5, rfl⟩ := h3.1.form
    exact ⟨a1, c1, a5, c5, h1, h5.1, h3.1, h4⟩
  have HAD1 : Hid (∀ W vl, IsL KP W vl P.line → Calls Try.prog 17 #[.agg #[.int .i64 (P.readers - 1), .bool P.writer, vl]] W fun e w' => ∃ a1 c1 a5 c5, e = .returned (.tuple #[.agg #[.int .i64 Q1.1.readers, .bool Q1.1.writer, .slice a1 Q1.1.line.length c1], .slice a5 Q1.2.length c5]) ∧ IsL KP w' (.slice a1 Q1.1.line.length c1) Q1.1.line ∧ (∀ k, (Value.slice a1 Q1.1.line.length c1).ownBlock = some k → vl.ownBlock = some k) ∧ Own KI W.heap.size w' (.slice a5 Q1.2.length c5) Q1.2 ∧ Below W.heap.size W w') := fun W vl hW => by
    have := refAdm_any W _ _ ⟨(P.readers - 1), P.writer, P.line⟩ ⟨_, rfl, at_own hW⟩ (by simp only; omega) (by simp only; omega) (by simp only; omega) (by simp only; omega)
    simp only at this
    rw [eQ1] at this
    refine this.mono fun e w' ⟨v1, v2, h1, h2, h3, h4⟩ => ?_
    obtain ⟨a1, c1, rfl, h5⟩ := h2.form
    obtain ⟨a5, c5, rfl⟩ := h3.form
    exact ⟨a1, c1, a5, c5, h1, h5.1, h5.2, h3, h4⟩
  have hq5 : Q1.1.line.length ≤ P.line.length := by rw [← eQ1]; exact admR_len _ _ _
  have hq1 : Q1.1.line.length ≤ 700 := by rw [← eQ1]; exact Nat.le_trans (admR_len _ _ _) hn
  have hq2 : Q1.2.length ≤ 700 := by rw [← eQ1]; exact Nat.le_trans (admR_most _ _ _) hn
  clear eQ1
  obtain ⟨Q2, eQ2⟩ : ∃ Q, admR P.readers P.writer (leftL (isOfP x) P.line) = Q := ⟨_, rfl⟩
  have HDR : Hid (∀ W v', IsLock W v' P → Calls Try.prog 21 #[v', .int .i64 x] W fun e w' => ∃ a1 c1 a5 c5, e = .returned (.tuple #[.agg #[.int .i64 Q2.1.readers, .bool Q2.1.writer, .slice a1 Q2.1.line.length c1], .slice a5 Q2.2.length c5, .agg #[.int .i64 0, .int .i64 0]]) ∧ IsL KP w' (.slice a1 Q2.1.line.length c1) Q2.1.line ∧ IsL KI w' (.slice a5 Q2.2.length c5) Q2.2 ∧ Below W.heap.size W w') := fun W v' hW => by
    have := drop_ok W v' P x hW hf hi
    rw [eQ2] at this
    refine this.mono fun e w' ⟨v1, v2, h1, h2, h3, h4⟩ => ?_
    obtain ⟨a1, c1, rfl, h5⟩ := h2.form
    obtain ⟨a5, c5, rfl⟩ := h3.1.form
    exact ⟨a1, c1, a5, c5, h1, h5.1, h3.1, h4⟩
  have HAD2 : Hid (∀ W a m c, IsL KP W (.slice a m c) (leftL (isOfP x) P.line) → Calls Try.prog 17 #[.agg #[.int .i64 P.readers, .bool P.writer, .slice a m c]] W fun e w' => ∃ v1 v2, e = .returned (.tuple #[v1, v2]) ∧ AtLock (Value.slice a m c).ownBlock w' v1 Q2.1 ∧ Own KI W.heap.size w' v2 Q2.2 ∧ Below W.heap.size W w') := fun W a m c hW => by
    have hll := left_le (isOfP x) P.line
    rw [← eQ2]
    exact refAdm_any W _ _ ⟨P.readers, P.writer, leftL (isOfP x) P.line⟩ ⟨_, rfl, at_own hW⟩ (by simp only; omega) (by simp only; omega) (by simp only; omega) (by simp only; omega)
  have HOWN : Hid (∀ W vl (l : List Po), IsL KP W vl l → l.length ≤ 700 → Calls Try.prog 18 #[vl] W fun e w' => ∃ a' c', e = .returned (.slice a' l.length c') ∧ Own KP W.heap.size w' (.slice a' l.length c') l ∧ Below W.heap.size W w') := fun W vl l hW hl => ownPosts_any W vl l hW (by omega)
  have hq3 : Q2.1.line.length ≤ 700 := by rw [← eQ2]; exact Nat.le_trans (admR_len _ _ _) (Nat.le_trans (left_le _ _) hn)
  have hq4 : Q2.2.length ≤ 700 := by rw [← eQ2]; exact Nat.le_trans (admR_most _ _ _) (Nat.le_trans (left_le _ _) hn)
  clear eQ2
  obtain ⟨r, bw, line⟩ := P
  obtain ⟨a0, c0, rfl, hL⟩ := h.form
  simp only at hL hn HOW HPF HLV HDR HIN HAD1 HAD2 hr0 hr1 hb hq5 ⊢
  have HLL := hide hL
  obtain ⟨n, en⟩ : ∃ n, line.length = n := ⟨_, rfl⟩
  rw [en] at hn HOW HPF HLL HIN ⊢
  have HN := hide en
  clear h hL en eF hf hgood hi
  have xr : (r == 0) = false := beq_false_of_ne (by omega)
  have hwr : IntKind.i64.wrap (r - 1) = r - 1 := wrapi (by omega) (by omega)
  have g1 : ¬ (700 : Int) < (n : Int) := by omega
  obtain ⟨W0, e0⟩ : ∃ W, w.alloc (.cells #[.int .i64 r, .bool bw, .slice a0 n c0] 24) = W := ⟨_, rfl⟩
  have HX := hide ((Below.refl w.heap.size w).alloc (Nat.le_refl _) (.cells #[.int .i64 r, .bool bw, .slice a0 n c0] 24))
  have HP := hide (new_block w (.cells #[.int .i64 r, .bool bw, .slice a0 n c0] 24))
  rw [e0] at HX HP
  have HE := hide e0
  clear e0
  go_enter Try.func4, Try.ntmps4
  go_upto_region 1 with fail
  rw [unhide HE]
  clear HE
  obtain ⟨⟨p0, p1, p2⟩, ⟨pf0, pf1, pf2⟩, pl⟩ := block3 (unhide HP)
  go_upto_region 6 with (first
      | (go_at_call 8; refine (begun_any _).mono ?_; rintro e w1 ⟨rfl, hb1⟩; have HX_1 := hide (Below.next (unhide HX) hb1 (by first | exact Nat.le_refl _ | (have := unhide HBA; omega))); have Kp_1 := hide (keep_below (unhide HP) hb1); clear HX HP; clear hb1 p0 p1 p2 pf0 pf1 pf2 pl; obtain ⟨⟨p0, p1, p2⟩, ⟨pf0, pf1, pf2⟩, pl⟩ := block3 (unhide Kp_1))
      | (go_at_call 9; refine (unhide HOW _ (unhide HX_1)).mono ?_; rintro e w2 ⟨a2, c2, rfl, hi2, hb2⟩; have HI2 := hide hi2; have HX_2 := hide (Below.next (unhide HX_1) hb2 (by first | exact Nat.le_refl _ | (have := unhide HBA; omega))); have Kp_2 := hide (keep_below (unhide Kp_1) hb2); clear HX_1 Kp_1; clear hb2 hi2)
      | (go_at_call 20; refine (unhide HLV _ _ ⟨_, rfl, unhide HI2⟩).mono ?_; rintro e w3 ⟨a3, c3, a5, c5, rfl, hm3, hw3, hb3⟩; have HM3 := hide hm3; have HW3 := hide hw3; have HX_3 := hide (Below.next (unhide HX_2) hb3 (by first | exact Nat.le_refl _ | (have := unhide HBA; omega))); have Kp_3 := hide (keep_below (unhide Kp_2) hb3); clear HX_2 Kp_2; clear hb3 hm3 hw3 HI2 p0 p1 p2 pf0 pf1 pf2 pl))
  obtain ⟨W4, eW4, hBW4, k0_4, k1_4⟩ := two_new w3 (.cells #[.int .i64 Q1.1.readers, .bool Q1.1.writer, .slice a3 Q1.1.line.length c3] 24) (.cells #[.int .i64 0, .int .i64 0] 28)
  rw [eW4]
  clear eW4
  have hlp_m : w.heap.size < w3.heap.size := size_of (unhide Kp_3)
  (have HX_4 := hide (Below.next (unhide HX_3) hBW4 (by first | exact Nat.le_refl _ | (have := unhide HBA; omega))); have Kp_4 := hide (keep_below (unhide Kp_3) hBW4); have FM_4 := hide ((unhide HM3).below hBW4); have FI_4 := hide ((unhide HW3).below hBW4); clear HX_3 Kp_3 HM3 HW3)
  obtain ⟨M, eM⟩ : ∃ X, w3.heap.size = X := ⟨_, rfl⟩
  rw [eM] at k0_4 k1_4 hlp_m ⊢
  have Km_4 := hide k0_4
  have Ke_4 := hide k1_4
  clear eM hBW4 k0_4 k1_4
  obtain ⟨⟨p0, p1, p2⟩, ⟨pf0, pf1, pf2⟩, pl⟩ := block3 (unhide Kp_4)
  go_upto_region 7 with (first
      | (go_at_call 9; refine (unhide HOW _ (unhide HX_4)).mono ?_; rintro e w5 ⟨a6, c6, rfl, hi2, hb2⟩; have HI6 := hide hi2; have HX_5 := hide (Below.next (unhide HX_4) hb2 (by first | exact Nat.le_refl _ | (have := unhide HBA; omega))); have Kp_5 := hide (keep_below (unhide Kp_4) hb2); have Km_5 := hide (keep_below (unhide Km_4) hb2); have Ke_5 := hide (keep_below (unhide Ke_4) hb2); have FM_5 := hide ((unhide FM_4).below hb2); have FI_5 := hide ((unhide FI_4).below hb2); clear HX_4 Kp_4 Km_4 Ke_4 FM_4 FI_4; clear hb2 hi2)
      | (go_at_call 21; refine (unhide HDR _ _ ⟨_, rfl, unhide HI6⟩).mono ?_; rintro e w6 ⟨a7, c7, a8, c8, rfl, hm3, hw3, hb3⟩; have HD6 := hide hm3; have HU6 := hide hw3; have HX_6 := hide (Below.next (unhide HX_5) hb3 (by first | exact Nat.le_refl _ | (have := unhide HBA; omega))); have Kp_6 := hide (keep_below (unhide Kp_5) hb3); have Km_6 := hide (keep_below (unhide Km_5) hb3); have Ke_6 := hide (keep_below (unhide Ke_5) hb3); have FM_6 := hide ((unhide FM_5).below hb3); have FI_6 := hide ((unhide FI_5).below hb3); clear HX_5 Kp_5 Km_5 Ke_5 FM_5 FI_5; clear hb3 hm3 hw3 HI6 p0 p1 p2 pf0 pf1 pf2 pl))
  obtain ⟨W7, eW7, hBW7, k0_7, k1_7⟩ := two_new w6 (.cells #[.int .i64 Q2.1.readers, .bool Q2.1.writer, .slice a7 Q2.1.line.length c7] 24) (.cells #[.int .i64 0, .int .i64 0] 28)
  rw [eW7]
  clear eW7
  have hlp_d : w.heap.size < w6.heap.size := size_of (unhide Kp_6)
  have hlm_d : M < w6.heap.size := size_of (unhide Km_6)
  have hle_d : M + 1 < w6.heap.size := size_of (unhide Ke_6)
  (have HX_7 := hide (Below.next (unhide HX_6) hBW7 (by first | exact Nat.le_refl _ | (have := unhide HBA; omega))); have Kp_7 := hide (keep_below (unhide Kp_6) hBW7); have Km_7 := hide (keep_below (unhide Km_6) hBW7); have Ke_7 := hide (keep_below (unhide Ke_6) hBW7); have FM_7 := hide ((unhide FM_6).below hBW7); have FI_7 := hide ((unhide FI_6).below hBW7); have FD_7 := hide ((unhide HD6).below hBW7); have FU_7 := hide ((unhide HU6).below hBW7); clear HX_6 Kp_6 Km_6 Ke_6 FM_6 FI_6 HD6 HU6)
  obtain ⟨D, eD⟩ : ∃ X, w6.heap.size = X := ⟨_, rfl⟩
  rw [eD] at k0_7 k1_7 hlp_d hlm_d hle_d ⊢
  have Kd_7 := hide k0_7
  have Kg_7 := hide k1_7
  clear eD hBW7 k0_7 k1_7
  obtain ⟨⟨p0, p1, p2⟩, ⟨pf0, pf1, pf2⟩, pl⟩ := block3 (unhide Kp_7)
  go_upto_region 8 with (go_at_call 12; refine (unhide HPF _ (unhide HX_7)).mono ?_; rintro e w8 ⟨rfl, hb8⟩; have HX_8 := hide (Below.next (unhide HX_7) hb8 (by first | exact Nat.le_refl _ | (have := unhide HBA; omega))); have Kp_8 := hide (keep_below (unhide Kp_7) hb8); have Km_8 := hide (keep_below (unhide Km_7) hb8); have Ke_8 := hide (keep_below (unhide Ke_7) hb8); have Kd_8 := hide (keep_below (unhide Kd_7) hb8); have Kg_8 := hide (keep_below (unhide Kg_7) hb8); have FM_8 := hide ((unhide FM_7).below hb8); have FI_8 := hide ((unhide FI_7).below hb8); have FD_8 := hide ((unhide FD_7).below hb8); have FU_8 := hide ((unhide FU_7).below hb8); clear HX_7 Kp_7 Km_7 Ke_7 Kd_7 Kg_7 FM_7 FI_7 FD_7 FU_7; clear hb8 p0 p1 p2 pf0 pf1 pf2 pl)
  have HX_9 := hide ((unhide HX_8).alloc (Nat.le_trans (show w.heap.size ≤ w.heap.size from Nat.le_refl _) (unhide HX_8).size) (.cells #[.int .i64 0, .int .i64 0] 28))
  have Kp_9 := hide (keep_alloc (unhide Kp_8) (.cells #[.int .i64 0, .int .i64 0] 28))
  have Km_9 := hide (keep_alloc (unhide Km_8) (.cells #[.int .i64 0, .int .i64 0] 28))
  have Ke_9 := hide (keep_alloc (unhide Ke_8) (.cells #[.int .i64 0, .int .i64 0] 28))
  have Kd_9 := hide (keep_alloc (unhide Kd_8) (.cells #[.int .i64 0, .int .i64 0] 28))
  have Kg_9 := hide (keep_alloc (unhide Kg_8) (.cells #[.int .i64 0, .int .i64 0] 28))
  have FM_9 := hide ((unhide FM_8).below ((Below.refl _ _).alloc (Nat.le_refl _) (.cells #[.int .i64 0, .int .i64 0] 28)))
  have FI_9 := hide ((unhide FI_8).below ((Below.refl _ _).alloc (Nat.le_refl _) (.cells #[.int .i64 0, .int .i64 0] 28)))
  have FD_9 := hide ((unhide FD_8).below ((Below.refl _ _).alloc (Nat.le_refl _) (.cells #[.int .i64 0, .int .i64 0] 28)))
  have FU_9 := hide ((unhide FU_8).below ((Below.refl _ _).alloc (Nat.le_refl _) (.cells #[.int .i64 0, .int .i64 0] 28)))
  have Kw_9 := hide (new_block w8 (.cells #[.int .i64 0, .int .i64 0] 28))
  have hlp_w : w.heap.size < w8.heap.size := size_of (unhide Kp_8)
  have hlm_w : M < w8.heap.size := size_of (unhide Km_8)
  have hle_w : M + 1 < w8.heap.size := size_of (unhide Ke_8)
  have hld_w : D < w8.heap.size := size_of (unhide Kd_8)
  have hlg_w : D + 1 < w8.heap.size := size_of (unhide Kg_8)
  obtain ⟨Z, eZ⟩ : ∃ X, w8.heap.size = X := ⟨_, rfl⟩
  obtain ⟨W9, eW9⟩ : ∃ X, w8.alloc (.cells #[.int .i64 0, .int .i64 0] 28) = X := ⟨_, rfl⟩
  rw [eZ, eW9] at Kw_9; rw [eW9] at HX_9 Kp_9 Km_9 Ke_9 Kd_9 Kg_9 FM_9 FI_9 FD_9 FU_9; rw [eZ] at hlp_w hlm_w hle_w hld_w hlg_w; rw [eZ, eW9]
  clear eZ eW9 HX_8 Kp_8 Km_8 Ke_8 Kd_8 Kg_8 FM_8 FI_8 FD_8 FU_8
  have HB9 := hide (Below.refl W9.heap.size W9)
  have hsp : w.heap.size < W9.heap.size := size_of (unhide Kp_9)
  have hsm : M < W9.heap.size := size_of (unhide Km_9)
  have hse : M + 1 < W9.heap.size := size_of (unhide Ke_9)
  have hsd : D < W9.heap.size := size_of (unhide Kd_9)
  have hsg : D + 1 < W9.heap.size := size_of (unhide Kg_9)
  have hsw : Z < W9.heap.size := size_of (unhide Kw_9)
  obtain ⟨⟨p0, p1, p2⟩, ⟨pf0, pf1, pf2⟩, pl⟩ := block3 (unhide Kp_9)
  obtain ⟨e0, e1, ef0, ef1, el⟩ := block2 (unhide Ke_9)
  obtain ⟨z0, z1, zf0, zf1, zl⟩ := block2 (unhide Kw_9)
  go_upto_region 12 with fail
  clear p0 p1 p2 pf0 pf1 pf2 pl e0 e1 ef0 ef1 el z0 z1 zf0 zf1 zl
  obtain ⟨q9, eq9⟩ : ∃ q, q = W9.heap.size := ⟨_, rfl⟩
  have hge : q9 ≤ W9.heap.size := by omega
  have HX_10 := hide ((unhide HB9).alloc (Nat.le_trans (show W9.heap.size ≤ W9.heap.size from Nat.le_refl _) (unhide HB9).size) (.cells #[.int .i64 r, .bool bw, .slice a0 n c0] 24))
  have Kp_10 := hide (keep_alloc (unhide Kp_9) (.cells #[.int .i64 r, .bool bw, .slice a0 n c0] 24))
  have Km_10 := hide (keep_alloc (unhide Km_9) (.cells #[.int .i64 r, .bool bw, .slice a0 n c0] 24))
  have Ke_10 := hide (keep_alloc (unhide Ke_9) (.cells #[.int .i64 r, .bool bw, .slice a0 n c0] 24))
  have Kd_10 := hide (keep_alloc (unhide Kd_9) (.cells #[.int .i64 r, .bool bw, .slice a0 n c0] 24))
  have Kg_10 := hide (keep_alloc (unhide Kg_9) (.cells #[.int .i64 r, .bool bw, .slice a0 n c0] 24))
  have Kw_10 := hide (keep_alloc (unhide Kw_9) (.cells #[.int .i64 r, .bool bw, .slice a0 n c0] 24))
  have Kt_10 := hide (new_block W9 (.cells #[.int .i64 r, .bool bw, .slice a0 n c0] 24))
  have hlp_t : w.heap.size < W9.heap.size := size_of (unhide Kp_9)
  have hlm_t : M < W9.heap.size := size_of (unhide Km_9)
  have hle_t : M + 1 < W9.heap.size := size_of (unhide Ke_9)
  have hld_t : D < W9.heap.size := size_of (unhide Kd_9)
  have hlg_t : D + 1 < W9.heap.size := size_of (unhide Kg_9)
  have hlw_t : Z < W9.heap.size := size_of (unhide Kw_9)
  obtain ⟨T, eT⟩ : ∃ X, W9.heap.size = X := ⟨_, rfl⟩
  obtain ⟨V1, eV1⟩ : ∃ X, W9.alloc (.cells #[.int .i64 r, .bool bw, .slice a0 n c0] 24) = X := ⟨_, rfl⟩
  rw [eT, eV1] at Kt_10; rw [eV1] at HX_10 Kp_10 Km_10 Ke_10 Kd_10 Kg_10 Kw_10; rw [eT] at hlp_t hlm_t hle_t hld_t hlg_t hlw_t hge; rw [eT, eV1]
  clear eT eV1 HB9 Kp_9 Km_9 Ke_9 Kd_9 Kg_9 Kw_9
  have HBA : Hid (W9.heap.size ≤ T) := hide (by omega)
  clear hge eq9 q9
  obtain ⟨⟨p0, p1, p2⟩, ⟨pf0, pf1, pf2⟩, pl⟩ := block3 (unhide Kp_10)
  go_upto_region 16 with fail
  clear p0 p1 p2 pf0 pf1 pf2 pl
  have hge2 : W9.heap.size ≤ V1.heap.size := (unhide HX_10).size
  have HX_11 := hide ((unhide HX_10).alloc (Nat.le_trans (show W9.heap.size ≤ W9.heap.size from Nat.le_refl _) (unhide HX_10).size) (.cells #[.int .i64 r, .bool bw, .slice a0 n c0] 24))
  have Kp_11 := hide (keep_alloc (unhide Kp_10) (.cells #[.int .i64 r, .bool bw, .slice a0 n c0] 24))
  have Km_11 := hide (keep_alloc (unhide Km_10) (.cells #[.int .i64 r, .bool bw, .slice a0 n c0] 24))
  have Ke_11 := hide (keep_alloc (unhide Ke_10) (.cells #[.int .i64 r, .bool bw, .slice a0 n c0] 24))
  have Kd_11 := hide (keep_alloc (unhide Kd_10) (.cells #[.int .i64 r, .bool bw, .slice a0 n c0] 24))
  have Kg_11 := hide (keep_alloc (unhide Kg_10) (.cells #[.int .i64 r, .bool bw, .slice a0 n c0] 24))
  have Kw_11 := hide (keep_alloc (unhide Kw_10) (.cells #[.int .i64 r, .bool bw, .slice a0 n c0] 24))
  have Kt_11 := hide (keep_alloc (unhide Kt_10) (.cells #[.int .i64 r, .bool bw, .slice a0 n c0] 24))
  have Kk_11 := hide (new_block V1 (.cells #[.int .i64 r, .bool bw, .slice a0 n c0] 24))
  have hlp_k : w.heap.size < V1.heap.size := size_of (unhide Kp_10)
  have hlm_k : M < V1.heap.size := size_of (unhide Km_10)
  have hle_k : M + 1 < V1.heap.size := size_of (unhide Ke_10)
  have hld_k : D < V1.heap.size := size_of (unhide Kd_10)
  have hlg_k : D + 1 < V1.heap.size := size_of (unhide Kg_10)
  have hlw_k : Z < V1.heap.size := size_of (unhide Kw_10)
  have hlt_k : T < V1.heap.size := size_of (unhide Kt_10)
  obtain ⟨K, eK⟩ : ∃ X, V1.heap.size = X := ⟨_, rfl⟩
  obtain ⟨V2, eV2⟩ : ∃ X, V1.alloc (.cells #[.int .i64 r, .bool bw, .slice a0 n c0] 24) = X := ⟨_, rfl⟩
  rw [eK, eV2] at Kk_11; rw [eV2] at HX_11 Kp_11 Km_11 Ke_11 Kd_11 Kg_11 Kw_11 Kt_11; rw [eK] at hlp_k hlm_k hle_k hld_k hlg_k hlw_k hlt_k hge2; rw [eK, eV2]
  clear eK eV2 HX_10 Kp_10 Km_10 Ke_10 Kd_10 Kg_10 Kw_10 Kt_10
  obtain ⟨⟨k0, k1, k2⟩, ⟨kf0, kf1, kf2⟩, kl⟩ := block3 (unhide Kk_11)
  go_upto_region 19 with fail
  clear k0 k1 k2 kf0 kf1 kf2 kl
  try rw [hwr]
  have HX_12 := hide (below_set (i := 0) (unhide HX_11) (show W9.heap.size ≤ K by first | omega | (have := unhide HBA; omega)) (.int .i64 (r - 1)))
  have Kp_12 := hide (keep_set (g := K) (o := 0) (v := .int .i64 (r - 1)) (unhide Kp_11) (by omega))
  have Km_12 := hide (keep_set (g := K) (o := 0) (v := .int .i64 (r - 1)) (unhide Km_11) (by omega))
  have Ke_12 := hide (keep_set (g := K) (o := 0) (v := .int .i64 (r - 1)) (unhide Ke_11) (by omega))
  have Kd_12 := hide (keep_set (g := K) (o := 0) (v := .int .i64 (r - 1)) (unhide Kd_11) (by omega))
  have Kg_12 := hide (keep_set (g := K) (o := 0) (v := .int .i64 (r - 1)) (unhide Kg_11) (by omega))
  have Kw_12 := hide (keep_set (g := K) (o := 0) (v := .int .i64 (r - 1)) (unhide Kw_11) (by omega))
  have Kt_12 := hide (keep_set (g := K) (o := 0) (v := .int .i64 (r - 1)) (unhide Kt_11) (by omega))
  have Kk_12 := hide (set_block3 (i := 0) (y := .int .i64 (r - 1)) (unhide Kk_11))
  obtain ⟨V3, eV3⟩ : ∃ X, V2.setCell ⟨K, 0, none⟩ (.int .i64 (r - 1)) = X := ⟨_, rfl⟩
  rw [eV3] at HX_12 Kp_12 Km_12 Ke_12 Kd_12 Kg_12 Kw_12 Kt_12 Kk_12 ⊢
  clear eV3 HX_11 Kp_11 Km_11 Ke_11 Kd_11 Kg_11 Kw_11 Kt_11 Kk_11
  simp only [List.setIfInBounds_toArray, List.set_cons_zero] at Kk_12
  have HK3 := hide (unhide HAD1 V3 _ (IsL.below (unhide HLL) (Below.next (unhide HX_9) (unhide HX_12) (Nat.le_refl _))))
  have hwW : w.heap.size ≤ W9.heap.size := (unhide HX_9).size
  obtain ⟨⟨k0, k1, k2⟩, ⟨kf0, kf1, kf2⟩, kl⟩ := block3 (unhide Kk_12)
  go_upto_region 20 with (go_at_call 17; refine (unhide HK3).mono ?_; rintro e x0 ⟨a9, c9, b9, d9, rfl, hq9, ho9, hw9, hb8⟩; have HQ9 := hide hq9; have HQO := hide ho9; have HW9 := hide hw9; have HX_13 := hide (Below.next (unhide HX_12) hb8 (by first | exact Nat.le_refl _ | (have := unhide HBA; omega))); have Kp_13 := hide (keep_below (unhide Kp_12) hb8); have Km_13 := hide (keep_below (unhide Km_12) hb8); have Ke_13 := hide (keep_below (unhide Ke_12) hb8); have Kd_13 := hide (keep_below (unhide Kd_12) hb8); have Kg_13 := hide (keep_below (unhide Kg_12) hb8); have Kw_13 := hide (keep_below (unhide Kw_12) hb8); have Kt_13 := hide (keep_below (unhide Kt_12) hb8); have Kk_13 := hide (keep_below (unhide Kk_12) hb8); clear HX_12 Kp_12 Km_12 Ke_12 Kd_12 Kg_12 Kw_12 Kt_12 Kk_12; clear hb8 hq9 ho9 hw9 HK3 k0 k1 k2 kf0 kf1 kf2 kl; obtain ⟨⟨t0, t1, t2⟩, ⟨tf0, tf1, tf2⟩, tl⟩ := block3 (unhide Kt_13))
  clear t0 t1 t2 tf0 tf1 tf2 tl
  have HQ10 := hide (IsL.keep2 kp (w' := putL x0 T (.int .i64 Q1.1.readers) (.bool Q1.1.writer) (.slice a9 Q1.1.line.length c9)) (unhide HQ9) (fun h0 k hk => putL_keep (y0 := .int .i64 Q1.1.readers) (y1 := .bool Q1.1.writer) (y2 := .slice a9 Q1.1.line.length c9) (by
    have h1 := unhide HQO k hk
    have h2 := IsL.old kp (unhide HLL) (by have h9 := unhide HN; omega) k h1
    omega)))
  have HX_14 := hide (putL_below (y0 := .int .i64 Q1.1.readers) (y1 := .bool Q1.1.writer) (y2 := .slice a9 Q1.1.line.length c9) (unhide HX_13) (show W9.heap.size ≤ T by first | omega | (have := unhide HBA; omega)))
  have Kp_14 := hide ((putL_keep (y0 := .int .i64 Q1.1.readers) (y1 := .bool Q1.1.writer) (y2 := .slice a9 Q1.1.line.length c9) (show w.heap.size ≠ T by omega)).trans (unhide Kp_13))
  have Km_14 := hide ((putL_keep (y0 := .int .i64 Q1.1.readers) (y1 := .bool Q1.1.writer) (y2 := .slice a9 Q1.1.line.length c9) (show M ≠ T by omega)).trans (unhide Km_13))
  have Ke_14 := hide ((putL_keep (y0 := .int .i64 Q1.1.readers) (y1 := .bool Q1.1.writer) (y2 := .slice a9 Q1.1.line.length c9) (show M + 1 ≠ T by omega)).trans (unhide Ke_13))
  have Kd_14 := hide ((putL_keep (y0 := .int .i64 Q1.1.readers) (y1 := .bool Q1.1.writer) (y2 := .slice a9 Q1.1.line.length c9) (show D ≠ T by omega)).trans (unhide Kd_13))
  have Kg_14 := hide ((putL_keep (y0 := .int .i64 Q1.1.readers) (y1 := .bool Q1.1.writer) (y2 := .slice a9 Q1.1.line.length c9) (show D + 1 ≠ T by omega)).trans (unhide Kg_13))
  have Kw_14 := hide ((putL_keep (y0 := .int .i64 Q1.1.readers) (y1 := .bool Q1.1.writer) (y2 := .slice a9 Q1.1.line.length c9) (show Z ≠ T by omega)).trans (unhide Kw_13))
  have Kt_14 := hide (putL_new (y0 := .int .i64 Q1.1.readers) (y1 := .bool Q1.1.writer) (y2 := .slice a9 Q1.1.line.length c9) (unhide Kt_13))
  have Kk_14 := hide ((putL_keep (y0 := .int .i64 Q1.1.readers) (y1 := .bool Q1.1.writer) (y2 := .slice a9 Q1.1.line.length c9) (show K ≠ T by omega)).trans (unhide Kk_13))
  have Ov_14 := hide ((unhide HW9).keep (fun k hk => putL_keep (y0 := .int .i64 Q1.1.readers) (y1 := .bool Q1.1.writer) (y2 := .slice a9 Q1.1.line.length c9) (Own.ne (unhide HW9) (unhide Kt_13) (by decide) k hk)))
  obtain ⟨x1, ex1⟩ : ∃ X, putL x0 (T) (.int .i64 Q1.1.readers) (.bool Q1.1.writer) (.slice a9 Q1.1.line.length c9) = X := ⟨_, rfl⟩
  rw [ex1] at HX_14 Kp_14 Km_14 Ke_14 Kd_14 Kg_14 Kw_14 Kt_14 Kk_14 Ov_14 HQ10
  have ex12 : (((x0).setCell ⟨T, 0, none⟩ (.int .i64 Q1.1.readers)).setCell ⟨T, 1, none⟩ (.bool Q1.1.writer)).setCell ⟨T, 2, none⟩ (.slice a9 Q1.1.line.length c9) = x1 := ex1
  rw [ex12]
  clear ex1 ex12 HX_13 Kp_13 Km_13 Ke_13 Kd_13 Kg_13 Kw_13 Kt_13 Kk_13 HW9
  have HM9 := hide (IsL.below (unhide FM_9) (unhide HX_14))
  have HI9 := hide (IsL.below (unhide FI_9) (unhide HX_14))
  obtain ⟨⟨m0, m1, m2⟩, ⟨mf0, mf1, mf2⟩, ml⟩ := block3 (unhide Km_14)
  obtain ⟨⟨t0, t1, t2⟩, ⟨tf0, tf1, tf2⟩, tl⟩ := block3 (unhide Kt_14)
  go_upto_region 22 with (first
      | (go_at_call 13; refine (sameLock_any _ _ _ Q1.1 ⟨_, rfl, unhide HM9⟩ ⟨_, rfl, unhide HQ10⟩ (by unfold maxLen; omega)).mono ?_; rintro e x2 ⟨rfl, hb8⟩; have HX_15 := hide (Below.next (unhide HX_14) hb8 (by first | exact Nat.le_refl _ | (have := unhide HBA; omega))); have Kp_15 := hide (keep_below (unhide Kp_14) hb8); have Km_15 := hide (keep_below (unhide Km_14) hb8); have Ke_15 := hide (keep_below (unhide Ke_14) hb8); have Kd_15 := hide (keep_below (unhide Kd_14) hb8); have Kg_15 := hide (keep_below (unhide Kg_14) hb8); have Kw_15 := hide (keep_below (unhide Kw_14) hb8); have Kt_15 := hide (keep_below (unhide Kt_14) hb8); have Kk_15 := hide (keep_below (unhide Kk_14) hb8); have Ov_15 := hide ((unhide Ov_14).below hb8); have FI9_15 := hide ((unhide HI9).below hb8); clear HX_14 Kp_14 Km_14 Ke_14 Kd_14 Kg_14 Kw_14 Kt_14 Kk_14 Ov_14 HI9; clear hb8 m0 m1 m2 mf0 mf1 mf2 ml t0 t1 t2 tf0 tf1 tf2 tl)
      | (go_at_call 22; refine (ints_same _ _ _ Q1.2 (unhide FI9_15) (unhide Ov_15).isl (by unfold maxLen; omega)).mono ?_; rintro e x3 ⟨rfl, hb8⟩; have HX_16 := hide (Below.next (unhide HX_15) hb8 (by first | exact Nat.le_refl _ | (have := unhide HBA; omega))); have Kp_16 := hide (keep_below (unhide Kp_15) hb8); have Km_16 := hide (keep_below (unhide Km_15) hb8); have Ke_16 := hide (keep_below (unhide Ke_15) hb8); have Kd_16 := hide (keep_below (unhide Kd_15) hb8); have Kg_16 := hide (keep_below (unhide Kg_15) hb8); have Kw_16 := hide (keep_below (unhide Kw_15) hb8); have Kt_16 := hide (keep_below (unhide Kt_15) hb8); have Kk_16 := hide (keep_below (unhide Kk_15) hb8); clear HX_15 Kp_15 Km_15 Ke_15 Kd_15 Kg_15 Kw_15 Kt_15 Kk_15; clear hb8))
  have HL9 := hide (IsL.below (unhide HLL) (Below.next (unhide HX_9) (unhide HX_16) (Nat.le_refl _)))
  obtain ⟨⟨p0, p1, p2⟩, ⟨pf0, pf1, pf2⟩, pl⟩ := block3 (unhide Kp_16)
  obtain ⟨z0, z1, zf0, zf1, zl⟩ := block2 (unhide Kw_16)
  go_upto_region 29 with (go_at_call 15; refine (unhide HIN _ _ (unhide HL9)).mono ?_; rintro e y1 ⟨j, rfl, hj, hl2, hb8⟩; have HL2 := hide hl2; have hj0 : ¬ (j : Int) < 0 := (by omega); have hjn := hj; have HX_17 := hide (Below.next (unhide HX_16) hb8 (by first | exact Nat.le_refl _ | (have := unhide HBA; omega))); have Kp_17 := hide (keep_below (unhide Kp_16) hb8); have Km_17 := hide (keep_below (unhide Km_16) hb8); have Ke_17 := hide (keep_below (unhide Ke_16) hb8); have Kd_17 := hide (keep_below (unhide Kd_16) hb8); have Kg_17 := hide (keep_below (unhide Kg_16) hb8); have Kw_17 := hide (keep_below (unhide Kw_16) hb8); have Kt_17 := hide (keep_below (unhide Kt_16) hb8); have Kk_17 := hide (keep_below (unhide Kk_16) hb8); clear HX_16 Kp_16 Km_16 Ke_16 Kd_16 Kg_16 Kw_16 Kt_16 Kk_16; clear hb8 hj hl2 p0 p1 p2 pf0 pf1 pf2 pl z0 z1 zf0 zf1 zl; obtain ⟨z0, z1, zf0, zf1, zl⟩ := block2 (unhide Kw_17); obtain ⟨g0, g1, gf0, gf1, gl⟩ := block2 (unhide Kg_17))
  clear z0 z1 zf0 zf1 zl g0 g1 gf0 gf1 gl
  have HXE := hide (Below.next (unhide HX_9) (unhide HX_17) (Nat.le_refl _))
  obtain ⟨b, off, rfl, -, -⟩ := (unhide HLL).opens kp (unhide HN) (by omega)
  have HTK := hide ((unhide HLL).take_to kp (j := j) (by omega))
  have HDP : Hid (∀ A, A = (if c0 = j + 1 then some ⟨b, off, none⟩ else some ⟨b, off + (j + 1) * 3, none⟩ : Option Addr) → IsL KP w (.slice A (n - (j + 1)) (c0 - (j + 1))) (line.drop (j + 1))) := fun A hA => IsL.drop_if kp (unhide HLL) (by omega) hA
  have hcf : n ≤ c0 := (unhide HLL).fits
  have i0 : (0 : Int) ≤ (j : Int) := by omega
  have i1 : (j : Int) ≤ (n : Int) := by omega
  have i2 : (n : Int) ≤ (c0 : Int) := by omega
  have i5 : (j : Int) ≤ (c0 : Int) := by omega
  have wj : IntKind.i64.wrap ((j : Int) + 1) = (j : Int) + 1 := wrapi (by omega) (by omega)
  have i3 : (0 : Int) ≤ (j : Int) + 1 := by omega
  have i4 : (j : Int) + 1 ≤ (n : Int) := by omega
  have ej : ((j : Int) + 1).toNat = j + 1 := by omega
  have HTL : Hid ((line.take j).length = j) := (by have h9 := unhide HN; show (line.take j).length = j; rw [List.length_take]; omega)
  have HDN : Hid ((line.drop (j + 1)).length = n - (j + 1)) := (by have h9 := unhide HN; show (line.drop (j + 1)).length = _; rw [List.length_drop]; omega)
  obtain ⟨M1, eM1⟩ : ∃ M, M = n - 1 := ⟨_, rfl⟩
  have HM1 := hide eM1
  clear eM1
  have HSS : Hid (∀ W, Below y1.heap.size y1 W → W.cell? ⟨w.heap.size, 0, none⟩ = some (.int .i64 r) ∧ W.cell? ⟨w.heap.size, 1, none⟩ = some (.bool bw) ∧ W.cell? ⟨w.heap.size, 2, none⟩ = some (.slice (some ⟨b, off, none⟩) n c0) ∧ Below y1.heap.size y1 W) := fun W hW => by
    obtain ⟨⟨q0, q1, q2⟩, -, -⟩ := block3 (keep_below (unhide Kp_17) hW)
    exact ⟨q0, q1, q2, hW⟩
  have HOW9 : Hid (∀ W, Below y1.heap.size y1 W → Calls Try.prog 18 #[.slice (some ⟨b, off, none⟩) j c0] W fun e w' => ∃ a' c', e = .returned (.slice a' j c') ∧ Own KP W.heap.size w' (.slice a' j c') (line.take j) ∧ Below W.heap.size W w') := fun W hW => by
    have := unhide HOWN W _ (line.take j) (IsL.below (unhide HTK) (Below.next (unhide HXE) hW (Nat.le_refl _))) (by rw [unhide HTL]; omega)
    rw [unhide HTL] at this
    exact this
  have HDW : Hid (∀ W, Below y1.heap.size y1 W → ∀ A, A = (if c0 = j + 1 then some ⟨b, off, none⟩ else some ⟨b, off + (j + 1) * 3, none⟩ : Option Addr) → IsL KP W (.slice A (n - (j + 1)) (c0 - (j + 1))) (line.drop (j + 1))) := fun W hW A hA => IsL.below (unhide HDP A hA) (Below.next (unhide HXE) hW (Nat.le_refl _))
  have htd : D < y1.heap.size := size_of (unhide Kd_17)
  go_cut [20, 21] (fun s u W => ∃ (Y : Nat) (a17 : Option Addr) (c17 : Nat) (a18 : Option Addr) (c18 : Nat), s = .pointer (some ⟨Y, 0, none⟩) ∧ u = .slice a18 Q2.2.length c18 ∧ Hid (W.heap[Y]? = some (.cells #[.int .i64 Q2.1.readers, .bool Q2.1.writer, .slice a17 Q2.1.line.length c17] 24)) ∧ Hid (IsL KP W (.slice a17 Q2.1.line.length c17) Q2.1.line) ∧ Hid (IsL KI W (.slice a18 Q2.2.length c18) Q2.2) ∧ Hid (y1.heap.size ≤ Y) ∧ Hid (Below y1.heap.size y1 W))
  case first =>
    by_cases hc : c0 = j + 1
    · have HDW2 : Hid (∀ W, Below y1.heap.size y1 W → IsL KP W (.slice (some ⟨b, off, none⟩) (n - (j + 1)) (c0 - (j + 1))) (line.drop (j + 1))) := fun W hW => unhide HDW W hW _ (by rw [if_pos hc])
      clear HDW HDP
      have hc2 : (c0 = j + 1) = True := eq_true hc
      clear hc
      go_wp2_with fail
      go_region_held3 (fun W => W.cell? ⟨w.heap.size, 0, none⟩ = some (.int .i64 r) ∧ W.cell? ⟨w.heap.size, 1, none⟩ = some (.bool bw) ∧ W.cell? ⟨w.heap.size, 2, none⟩ = some (.slice (some ⟨b, off, none⟩) n c0) ∧ Below y1.heap.size y1 W)
        (first | with_reducible exact unhide HSS _ (Below.refl _ _).drew | with_reducible exact unhide HSS _ ((Below.refl y1.heap.size y1).alloc (Nat.le_refl _) _).drew | with_reducible exact unhide HSS _ (unhide HX3) | with_reducible exact unhide HSS _ ((unhide HX3).alloc (unhide HX3).size _) | with_reducible exact unhide HSS _ (unhide HX4) | with_reducible exact unhide HSS _ ((unhide HX4).alloc (unhide HX4).size _) | with_reducible exact unhide HSS _ (unhide HX5) | with_reducible exact unhide HSS _ ((unhide HX5).alloc (unhide HX5).size _) | (exact unhide HSS _ (putL_below (by first | exact unhide HX5 | exact (unhide HX5).alloc (unhide HX5).size _) (by first | exact Nat.le_refl _ | exact (unhide HX3).size | exact (unhide HX4).size | exact (unhide HX5).size))))
        (first
          | (go_at_call 18; refine (unhide HOW9 _ (by go_split_ands; assumption)).mono ?_; rintro e w13 ⟨a13, c13, rfl, ho3, hb3⟩; have HX3 : Hid (Below y1.heap.size y1 w13) := Below.next (by go_split_ands; assumption) hb3 (Nat.le_refl _); have HO3 := hide (ho3.base (show y1.heap.size ≤ _ from (show Below y1.heap.size y1 _ by go_split_ands; assumption).size)); (try (have HZ3 : Hid (w13.heap[y1.heap.size]? = some (.cells #[.int .i64 0, .bool false, .slice none 0 0] 24)) := (keep_below (w := (y1.alloc (.cells #[.int .i64 0, .bool false, .slice none 0 0] 24)).drew) (new_block y1 (.cells #[.int .i64 0, .bool false, .slice none 0 0] 24)) hb3))); clear ho3 hb3)
          | (go_at_call 17; first | (refine (unhide HAD2 _ _ _ _ (unhide HI4)).mono ?_; rintro e w15 ⟨v1, v2, rfl, hq5, hw5, hb5⟩; obtain ⟨a17, c17, rfl, hq7⟩ := hq5.form; obtain ⟨a18, c18, rfl⟩ := hw5.form; have HQ5 := hide hq7; have HW5 := hide hw5; have HX5 : Hid (Below y1.heap.size y1 w15) := Below.next (unhide HX4) hb5 (Nat.le_refl _); (try (have HZ5 : Hid (w15.heap[y1.heap.size]? = some (.cells #[.int .i64 0, .bool false, .slice none 0 0] 24)) := (keep_below (unhide HZ4) hb5); have HNX : Hid (∀ k, (Value.slice a14 M1 c14).ownBlock = some k → k ≠ y1.heap.size) := (fun k hk => Own.ne (unhide HO4) (unhide HZ4) (by decide) k hk); have HGE : Hid (y1.heap.size ≤ y1.heap.size) := (Nat.le_refl _); have HPK : Hid (∃ Wz, (((w15).setCell ⟨y1.heap.size, 0, none⟩ (.int .i64 Q2.1.readers)).setCell ⟨y1.heap.size, 1, none⟩ (.bool Q2.1.writer)).setCell ⟨y1.heap.size, 2, none⟩ (.slice a17 Q2.1.line.length c17) = Wz ∧ Wz.heap[y1.heap.size]? = some (.cells #[.int .i64 Q2.1.readers, .bool Q2.1.writer, .slice a17 Q2.1.line.length c17] 24) ∧ IsL KP Wz (.slice a17 Q2.1.line.length c17) Q2.1.line ∧ IsL KI Wz (.slice a18 Q2.2.length c18) Q2.2 ∧ y1.heap.size ≤ y1.heap.size ∧ Below y1.heap.size y1 Wz) := ⟨_, rfl, putL_new (y0 := .int .i64 Q2.1.readers) (y1 := .bool Q2.1.writer) (y2 := .slice a17 Q2.1.line.length c17) (unhide HZ5), (unhide HQ5).1.keep kp (fun k hk => putL_keep (y0 := .int .i64 Q2.1.readers) (y1 := .bool Q2.1.writer) (y2 := .slice a17 Q2.1.line.length c17) (unhide HNX k ((unhide HQ5).2 k hk))), ((unhide HW5).keep (fun k hk => putL_keep (y0 := .int .i64 Q2.1.readers) (y1 := .bool Q2.1.writer) (y2 := .slice a17 Q2.1.line.length c17) (Own.ne (unhide HW5) (unhide HZ5) (by decide) k hk))).isl, unhide HGE, putL_below (y0 := .int .i64 Q2.1.readers) (y1 := .bool Q2.1.writer) (y2 := .slice a17 Q2.1.line.length c17) (unhide HX5) (unhide HGE)⟩)); (try (have HZ5 : Hid (w15.heap[w13.heap.size]? = some (.cells #[.int .i64 0, .bool false, .slice none 0 0] 24)) := (keep_below (unhide HZ4) hb5); have HNX : Hid (∀ k, (Value.slice a14 M1 c14).ownBlock = some k → k ≠ w13.heap.size) := (fun k hk => Own.ne (unhide HO4) (unhide HZ4) (by decide) k hk); have HGE : Hid (y1.heap.size ≤ w13.heap.size) := ((unhide HX3).size); have HPK : Hid (∃ Wz, (((w15).setCell ⟨w13.heap.size, 0, none⟩ (.int .i64 Q2.1.readers)).setCell ⟨w13.heap.size, 1, none⟩ (.bool Q2.1.writer)).setCell ⟨w13.heap.size, 2, none⟩ (.slice a17 Q2.1.line.length c17) = Wz ∧ Wz.heap[w13.heap.size]? = some (.cells #[.int .i64 Q2.1.readers, .bool Q2.1.writer, .slice a17 Q2.1.line.length c17] 24) ∧ IsL KP Wz (.slice a17 Q2.1.line.length c17) Q2.1.line ∧ IsL KI Wz (.slice a18 Q2.2.length c18) Q2.2 ∧ y1.heap.size ≤ w13.heap.size ∧ Below y1.heap.size y1 Wz) := ⟨_, rfl, putL_new (y0 := .int .i64 Q2.1.readers) (y1 := .bool Q2.1.writer) (y2 := .slice a17 Q2.1.line.length c17) (unhide HZ5), (unhide HQ5).1.keep kp (fun k hk => putL_keep (y0 := .int .i64 Q2.1.readers) (y1 := .bool Q2.1.writer) (y2 := .slice a17 Q2.1.line.length c17) (unhide HNX k ((unhide HQ5).2 k hk))), ((unhide HW5).keep (fun k hk => putL_keep (y0 := .int .i64 Q2.1.readers) (y1 := .bool Q2.1.writer) (y2 := .slice a17 Q2.1.line.length c17) (Own.ne (unhide HW5) (unhide HZ5) (by decide) k hk))).isl, unhide HGE, putL_below (y0 := .int .i64 Q2.1.readers) (y1 := .bool Q2.1.writer) (y2 := .slice a17 Q2.1.line.length c17) (unhide HX5) (unhide HGE)⟩)); (try (have HZ5 : Hid (w15.heap[w14.heap.size]? = some (.cells #[.int .i64 0, .bool false, .slice none 0 0] 24)) := (keep_below (new_block w14 (.cells #[.int .i64 0, .bool false, .slice none 0 0] 24)) hb5); have HNX : Hid (∀ k, (Value.slice a14 M1 c14).ownBlock = some k → k ≠ w14.heap.size) := (fun k hk => Nat.ne_of_lt ((unhide HO4).lt k hk).2); have HGE : Hid (y1.heap.size ≤ w14.heap.size) := ((unhide HX4).size); have HPK : Hid (∃ Wz, (((w15).setCell ⟨w14.heap.size, 0, none⟩ (.int .i64 Q2.1.readers)).setCell ⟨w14.heap.size, 1, none⟩ (.bool Q2.1.writer)).setCell ⟨w14.heap.size, 2, none⟩ (.slice a17 Q2.1.line.length c17) = Wz ∧ Wz.heap[w14.heap.size]? = some (.cells #[.int .i64 Q2.1.readers, .bool Q2.1.writer, .slice a17 Q2.1.line.length c17] 24) ∧ IsL KP Wz (.slice a17 Q2.1.line.length c17) Q2.1.line ∧ IsL KI Wz (.slice a18 Q2.2.length c18) Q2.2 ∧ y1.heap.size ≤ w14.heap.size ∧ Below y1.heap.size y1 Wz) := ⟨_, rfl, putL_new (y0 := .int .i64 Q2.1.readers) (y1 := .bool Q2.1.writer) (y2 := .slice a17 Q2.1.line.length c17) (unhide HZ5), (unhide HQ5).1.keep kp (fun k hk => putL_keep (y0 := .int .i64 Q2.1.readers) (y1 := .bool Q2.1.writer) (y2 := .slice a17 Q2.1.line.length c17) (unhide HNX k ((unhide HQ5).2 k hk))), ((unhide HW5).keep (fun k hk => putL_keep (y0 := .int .i64 Q2.1.readers) (y1 := .bool Q2.1.writer) (y2 := .slice a17 Q2.1.line.length c17) (Own.ne (unhide HW5) (unhide HZ5) (by decide) k hk))).isl, unhide HGE, putL_below (y0 := .int .i64 Q2.1.readers) (y1 := .bool Q2.1.writer) (y2 := .slice a17 Q2.1.line.length c17) (unhide HX5) (unhide HGE)⟩)); obtain ⟨⟨v0, v1', v2'⟩, ⟨vf0, vf1, vf2⟩, vl⟩ := block3 (new_block w15 (.cells #[.int .i64 0, .bool false, .slice none 0 0] 24)); (try (have hy9 := block3 (unhide HZ5); obtain ⟨⟨y0', y1', y2'⟩, ⟨yf0', yf1', yf2'⟩, yl'⟩ := hy9)); have HPL : Hid (∃ Wz, w15.alloc (.cells #[.int .i64 Q2.1.readers, .bool Q2.1.writer, .slice a17 Q2.1.line.length c17] 24) = Wz ∧ Wz.heap[w15.heap.size]? = some (.cells #[.int .i64 Q2.1.readers, .bool Q2.1.writer, .slice a17 Q2.1.line.length c17] 24) ∧ IsL KP Wz (.slice a17 Q2.1.line.length c17) Q2.1.line ∧ IsL KI Wz (.slice a18 Q2.2.length c18) Q2.2 ∧ y1.heap.size ≤ w15.heap.size ∧ Below y1.heap.size y1 Wz) := ⟨_, rfl, new_block w15 (.cells #[.int .i64 Q2.1.readers, .bool Q2.1.writer, .slice a17 Q2.1.line.length c17] 24), (unhide HQ5).1.below ((Below.refl _ _).alloc (Nat.le_refl _) _), (unhide HW5).isl.below ((Below.refl _ _).alloc (Nat.le_refl _) _), (unhide HX5).size, (unhide HX5).alloc (unhide HX5).size _⟩; clear hq5 hq7 hw5 hb5) | (refine (unhide HAD2 _ _ _ _ ((unhide HI4).below ((Below.refl _ _).alloc (Nat.le_refl _) _))).mono ?_; rintro e w15 ⟨v1, v2, rfl, hq5, hw5, hb5⟩; obtain ⟨a17, c17, rfl, hq7⟩ := hq5.form; obtain ⟨a18, c18, rfl⟩ := hw5.form; have HQ5 := hide hq7; have HW5 := hide hw5; have HX5 : Hid (Below y1.heap.size y1 w15) := Below.next ((unhide HX4).alloc (unhide HX4).size _) hb5 (Nat.le_refl _); (try (have HZ5 : Hid (w15.heap[y1.heap.size]? = some (.cells #[.int .i64 0, .bool false, .slice none 0 0] 24)) := (keep_below (unhide HZ4) hb5); have HNX : Hid (∀ k, (Value.slice a14 M1 c14).ownBlock = some k → k ≠ y1.heap.size) := (fun k hk => Own.ne (unhide HO4) (unhide HZ4) (by decide) k hk); have HGE : Hid (y1.heap.size ≤ y1.heap.size) := (Nat.le_refl _); have HPK : Hid (∃ Wz, (((w15).setCell ⟨y1.heap.size, 0, none⟩ (.int .i64 Q2.1.readers)).setCell ⟨y1.heap.size, 1, none⟩ (.bool Q2.1.writer)).setCell ⟨y1.heap.size, 2, none⟩ (.slice a17 Q2.1.line.length c17) = Wz ∧ Wz.heap[y1.heap.size]? = some (.cells #[.int .i64 Q2.1.readers, .bool Q2.1.writer, .slice a17 Q2.1.line.length c17] 24) ∧ IsL KP Wz (.slice a17 Q2.1.line.length c17) Q2.1.line ∧ IsL KI Wz (.slice a18 Q2.2.length c18) Q2.2 ∧ y1.heap.size ≤ y1.heap.size ∧ Below y1.heap.size y1 Wz) := ⟨_, rfl, putL_new (y0 := .int .i64 Q2.1.readers) (y1 := .bool Q2.1.writer) (y2 := .slice a17 Q2.1.line.length c17) (unhide HZ5), (unhide HQ5).1.keep kp (fun k hk => putL_keep (y0 := .int .i64 Q2.1.readers) (y1 := .bool Q2.1.writer) (y2 := .slice a17 Q2.1.line.length c17) (unhide HNX k ((unhide HQ5).2 k hk))), ((unhide HW5).keep (fun k hk => putL_keep (y0 := .int .i64 Q2.1.readers) (y1 := .bool Q2.1.writer) (y2 := .slice a17 Q2.1.line.length c17) (Own.ne (unhide HW5) (unhide HZ5) (by decide) k hk))).isl, unhide HGE, putL_below (y0 := .int .i64 Q2.1.readers) (y1 := .bool Q2.1.writer) (y2 := .slice a17 Q2.1.line.length c17) (unhide HX5) (unhide HGE)⟩)); (try (have HZ5 : Hid (w15.heap[w13.heap.size]? = some (.cells #[.int .i64 0, .bool false, .slice none 0 0] 24)) := (keep_below (unhide HZ4) hb5); have HNX : Hid (∀ k, (Value.slice a14 M1 c14).ownBlock = some k → k ≠ w13.heap.size) := (fun k hk => Own.ne (unhide HO4) (unhide HZ4) (by decide) k hk); have HGE : Hid (y1.heap.size ≤ w13.heap.size) := ((unhide HX3).size); have HPK : Hid (∃ Wz, (((w15).setCell ⟨w13.heap.size, 0, none⟩ (.int .i64 Q2.1.readers)).setCell ⟨w13.heap.size, 1, none⟩ (.bool Q2.1.writer)).setCell ⟨w13.heap.size, 2, none⟩ (.slice a17 Q2.1.line.length c17) = Wz ∧ Wz.heap[w13.heap.size]? = some (.cells #[.int .i64 Q2.1.readers, .bool Q2.1.writer, .slice a17 Q2.1.line.length c17] 24) ∧ IsL KP Wz (.slice a17 Q2.1.line.length c17) Q2.1.line ∧ IsL KI Wz (.slice a18 Q2.2.length c18) Q2.2 ∧ y1.heap.size ≤ w13.heap.size ∧ Below y1.heap.size y1 Wz) := ⟨_, rfl, putL_new (y0 := .int .i64 Q2.1.readers) (y1 := .bool Q2.1.writer) (y2 := .slice a17 Q2.1.line.length c17) (unhide HZ5), (unhide HQ5).1.keep kp (fun k hk => putL_keep (y0 := .int .i64 Q2.1.readers) (y1 := .bool Q2.1.writer) (y2 := .slice a17 Q2.1.line.length c17) (unhide HNX k ((unhide HQ5).2 k hk))), ((unhide HW5).keep (fun k hk => putL_keep (y0 := .int .i64 Q2.1.readers) (y1 := .bool Q2.1.writer) (y2 := .slice a17 Q2.1.line.length c17) (Own.ne (unhide HW5) (unhide HZ5) (by decide) k hk))).isl, unhide HGE, putL_below (y0 := .int .i64 Q2.1.readers) (y1 := .bool Q2.1.writer) (y2 := .slice a17 Q2.1.line.length c17) (unhide HX5) (unhide HGE)⟩)); (try (have HZ5 : Hid (w15.heap[w14.heap.size]? = some (.cells #[.int .i64 0, .bool false, .slice none 0 0] 24)) := (keep_below (new_block w14 (.cells #[.int .i64 0, .bool false, .slice none 0 0] 24)) hb5); have HNX : Hid (∀ k, (Value.slice a14 M1 c14).ownBlock = some k → k ≠ w14.heap.size) := (fun k hk => Nat.ne_of_lt ((unhide HO4).lt k hk).2); have HGE : Hid (y1.heap.size ≤ w14.heap.size) := ((unhide HX4).size); have HPK : Hid (∃ Wz, (((w15).setCell ⟨w14.heap.size, 0, none⟩ (.int .i64 Q2.1.readers)).setCell ⟨w14.heap.size, 1, none⟩ (.bool Q2.1.writer)).setCell ⟨w14.heap.size, 2, none⟩ (.slice a17 Q2.1.line.length c17) = Wz ∧ Wz.heap[w14.heap.size]? = some (.cells #[.int .i64 Q2.1.readers, .bool Q2.1.writer, .slice a17 Q2.1.line.length c17] 24) ∧ IsL KP Wz (.slice a17 Q2.1.line.length c17) Q2.1.line ∧ IsL KI Wz (.slice a18 Q2.2.length c18) Q2.2 ∧ y1.heap.size ≤ w14.heap.size ∧ Below y1.heap.size y1 Wz) := ⟨_, rfl, putL_new (y0 := .int .i64 Q2.1.readers) (y1 := .bool Q2.1.writer) (y2 := .slice a17 Q2.1.line.length c17) (unhide HZ5), (unhide HQ5).1.keep kp (fun k hk => putL_keep (y0 := .int .i64 Q2.1.readers) (y1 := .bool Q2.1.writer) (y2 := .slice a17 Q2.1.line.length c17) (unhide HNX k ((unhide HQ5).2 k hk))), ((unhide HW5).keep (fun k hk => putL_keep (y0 := .int .i64 Q2.1.readers) (y1 := .bool Q2.1.writer) (y2 := .slice a17 Q2.1.line.length c17) (Own.ne (unhide HW5) (unhide HZ5) (by decide) k hk))).isl, unhide HGE, putL_below (y0 := .int .i64 Q2.1.readers) (y1 := .bool Q2.1.writer) (y2 := .slice a17 Q2.1.line.length c17) (unhide HX5) (unhide HGE)⟩)); obtain ⟨⟨v0, v1', v2'⟩, ⟨vf0, vf1, vf2⟩, vl⟩ := block3 (new_block w15 (.cells #[.int .i64 0, .bool false, .slice none 0 0] 24)); (try (have hy9 := block3 (unhide HZ5); obtain ⟨⟨y0', y1', y2'⟩, ⟨yf0', yf1', yf2'⟩, yl'⟩ := hy9)); have HPL : Hid (∃ Wz, w15.alloc (.cells #[.int .i64 Q2.1.readers, .bool Q2.1.writer, .slice a17 Q2.1.line.length c17] 24) = Wz ∧ Wz.heap[w15.heap.size]? = some (.cells #[.int .i64 Q2.1.readers, .bool Q2.1.writer, .slice a17 Q2.1.line.length c17] 24) ∧ IsL KP Wz (.slice a17 Q2.1.line.length c17) Q2.1.line ∧ IsL KI Wz (.slice a18 Q2.2.length c18) Q2.2 ∧ y1.heap.size ≤ w15.heap.size ∧ Below y1.heap.size y1 Wz) := ⟨_, rfl, new_block w15 (.cells #[.int .i64 Q2.1.readers, .bool Q2.1.writer, .slice a17 Q2.1.line.length c17] 24), (unhide HQ5).1.below ((Below.refl _ _).alloc (Nat.le_refl _) _), (unhide HW5).isl.below ((Below.refl _ _).alloc (Nat.le_refl _) _), (unhide HX5).size, (unhide HX5).alloc (unhide HX5).size _⟩; clear hq5 hq7 hw5 hb5))
          | (refine step_append kp (by rfl) (.tmp 150) (.tmp 155) rfl y1.heap.size (.slice a13 j c13) (line.take j) rfl (by first | exact unhide HO3 | exact (unhide HO3).below ((Below.refl _ _).alloc (Nat.le_refl _) _)) (.slice (some ⟨b, off, none⟩) (n - (j + 1)) (c0 - (j + 1))) (line.drop (j + 1)) rfl (by first | with_reducible exact unhide HDW2 _ (unhide HX3) | with_reducible exact unhide HDW2 _ ((unhide HX3).alloc (unhide HX3).size _)) M1 (by rw [unhide HTL, unhide HDN, unhide HM1]; omega) (by have h9 := unhide HM1; simp [KP]; omega) (by first | exact (unhide HX3).size | exact ((unhide HX3).alloc (unhide HX3).size _).size) ?_; intro a14 c14 w14 ho4 hg4; rw [← unhide HL2] at ho4; have HI4 := hide ho4.isl; have HO4 := hide ho4; have HX4 : Hid (Below y1.heap.size y1 w14) := (by first | exact (unhide HX3).grown hg4 (unhide HX3).size (fun k hk => ((unhide HO3).lt k hk).1) | exact ((unhide HX3).alloc (unhide HX3).size _).grown hg4 ((unhide HX3).alloc (unhide HX3).size _).size (fun k hk => ((unhide HO3).lt k hk).1)); (try (have HZ4 : Hid (w14.heap[y1.heap.size]? = some (.cells #[.int .i64 0, .bool false, .slice none 0 0] 24)) := (keep_grown (unhide HZ3) hg4 (fun jj hj => Own.ne (unhide HO3) (unhide HZ3) (by decide) jj hj)))); (try (have HZ4 : Hid (w14.heap[w13.heap.size]? = some (.cells #[.int .i64 0, .bool false, .slice none 0 0] 24)) := (keep_grown (new_block w13 (.cells #[.int .i64 0, .bool false, .slice none 0 0] 24)) hg4 (fun jj hj => Own.ne ((unhide HO3).below ((Below.refl _ _).alloc (Nat.le_refl _) _)) (new_block w13 (.cells #[.int .i64 0, .bool false, .slice none 0 0] 24)) (by decide) jj hj)))); clear ho4 hg4))
      all_goals
        go_wp2_with fail
        go_meet
        case rel =>
          first
            | (have hpk := unhide HPK; obtain ⟨Wz, eWz, h1, h2, h3, h4, h5⟩ := hpk; rw [eWz]; exact ⟨_, a17, c17, a18, c18, rfl, rfl, h1, h2, h3, h4, h5⟩)
            | (have hpk := unhide HPL; obtain ⟨Wz, eWz, h1, h2, h3, h4, h5⟩ := hpk; rw [eWz]; exact ⟨_, a17, c17, a18, c18, rfl, rfl, h1, h2, h3, h4, h5⟩)
    · have HDW2 : Hid (∀ W, Below y1.heap.size y1 W → IsL KP W (.slice (some ⟨b, off + (j + 1) * 3, none⟩) (n - (j + 1)) (c0 - (j + 1))) (line.drop (j + 1))) := fun W hW => unhide HDW W hW _ (by rw [if_neg hc])
      clear HDW HDP
      go_wp2_with fail
      go_region_held3 (fun W => W.cell? ⟨w.heap.size, 0, none⟩ = some (.int .i64 r) ∧ W.cell? ⟨w.heap.size, 1, none⟩ = some (.bool bw) ∧ W.cell? ⟨w.heap.size, 2, none⟩ = some (.slice (some ⟨b, off, none⟩) n c0) ∧ Below y1.heap.size y1 W)
        (first | with_reducible exact unhide HSS _ (Below.refl _ _).drew | with_reducible exact unhide HSS _ ((Below.refl y1.heap.size y1).alloc (Nat.le_refl _) _).drew | with_reducible exact unhide HSS _ (unhide HX3) | with_reducible exact unhide HSS _ ((unhide HX3).alloc (unhide HX3).size _) | with_reducible exact unhide HSS _ (unhide HX4) | with_reducible exact unhide HSS _ ((unhide HX4).alloc (unhide HX4).size _) | with_reducible exact unhide HSS _ (unhide HX5) | with_reducible exact unhide HSS _ ((unhide HX5).alloc (unhide HX5).size _) | (exact unhide HSS _ (putL_below (by first | exact unhide HX5 | exact (unhide HX5).alloc (unhide HX5).size _) (by first | exact Nat.le_refl _ | exact (unhide HX3).size | exact (unhide HX4).size | exact (unhide HX5).size))))
        (first
          | (go_at_call 18; refine (unhide HOW9 _ (by go_split_ands; assumption)).mono ?_; rintro e w13 ⟨a13, c13, rfl, ho3, hb3⟩; have HX3 : Hid (Below y1.heap.size y1 w13) := Below.next (by go_split_ands; assumption) hb3 (Nat.le_refl _); have HO3 := hide (ho3.base (show y1.heap.size ≤ _ from (show Below y1.heap.size y1 _ by go_split_ands; assumption).size)); (try (have HZ3 : Hid (w13.heap[y1.heap.size]? = some (.cells #[.int .i64 0, .bool false, .slice none 0 0] 24)) := (keep_below (w := (y1.alloc (.cells #[.int .i64 0, .bool false, .slice none 0 0] 24)).drew) (new_block y1 (.cells #[.int .i64 0, .bool false, .slice none 0 0] 24)) hb3))); clear ho3 hb3)
          | (go_at_call 17; first | (refine (unhide HAD2 _ _ _ _ (unhide HI4)).mono ?_; rintro e w15 ⟨v1, v2, rfl, hq5, hw5, hb5⟩; obtain ⟨a17, c17, rfl, hq7⟩ := hq5.form; obtain ⟨a18, c18, rfl⟩ := hw5.form; have HQ5 := hide hq7; have HW5 := hide hw5; have HX5 : Hid (Below y1.heap.size y1 w15) := Below.next (unhide HX4) hb5 (Nat.le_refl _); (try (have HZ5 : Hid (w15.heap[y1.heap.size]? = some (.cells #[.int .i64 0, .bool false, .slice none 0 0] 24)) := (keep_below (unhide HZ4) hb5); have HNX : Hid (∀ k, (Value.slice a14 M1 c14).ownBlock = some k → k ≠ y1.heap.size) := (fun k hk => Own.ne (unhide HO4) (unhide HZ4) (by decide) k hk); have HGE : Hid (y1.heap.size ≤ y1.heap.size) := (Nat.le_refl _); have HPK : Hid (∃ Wz, (((w15).setCell ⟨y1.heap.size, 0, none⟩ (.int .i64 Q2.1.readers)).setCell ⟨y1.heap.size, 1, none⟩ (.bool Q2.1.writer)).setCell ⟨y1.heap.size, 2, none⟩ (.slice a17 Q2.1.line.length c17) = Wz ∧ Wz.heap[y1.heap.size]? = some (.cells #[.int .i64 Q2.1.readers, .bool Q2.1.writer, .slice a17 Q2.1.line.length c17] 24) ∧ IsL KP Wz (.slice a17 Q2.1.line.length c17) Q2.1.line ∧ IsL KI Wz (.slice a18 Q2.2.length c18) Q2.2 ∧ y1.heap.size ≤ y1.heap.size ∧ Below y1.heap.size y1 Wz) := ⟨_, rfl, putL_new (y0 := .int .i64 Q2.1.readers) (y1 := .bool Q2.1.writer) (y2 := .slice a17 Q2.1.line.length c17) (unhide HZ5), (unhide HQ5).1.keep kp (fun k hk => putL_keep (y0 := .int .i64 Q2.1.readers) (y1 := .bool Q2.1.writer) (y2 := .slice a17 Q2.1.line.length c17) (unhide HNX k ((unhide HQ5).2 k hk))), ((unhide HW5).keep (fun k hk => putL_keep (y0 := .int .i64 Q2.1.readers) (y1 := .bool Q2.1.writer) (y2 := .slice a17 Q2.1.line.length c17) (Own.ne (unhide HW5) (unhide HZ5) (by decide) k hk))).isl, unhide HGE, putL_below (y0 := .int .i64 Q2.1.readers) (y1 := .bool Q2.1.writer) (y2 := .slice a17 Q2.1.line.length c17) (unhide HX5) (unhide HGE)⟩)); (try (have HZ5 : Hid (w15.heap[w13.heap.size]? = some (.cells #[.int .i64 0, .bool false, .slice none 0 0] 24)) := (keep_below (unhide HZ4) hb5); have HNX : Hid (∀ k, (Value.slice a14 M1 c14).ownBlock = some k → k ≠ w13.heap.size) := (fun k hk => Own.ne (unhide HO4) (unhide HZ4) (by decide) k hk); have HGE : Hid (y1.heap.size ≤ w13.heap.size) := ((unhide HX3).size); have HPK : Hid (∃ Wz, (((w15).setCell ⟨w13.heap.size, 0, none⟩ (.int .i64 Q2.1.readers)).setCell ⟨w13.heap.size, 1, none⟩ (.bool Q2.1.writer)).setCell ⟨w13.heap.size, 2, none⟩ (.slice a17 Q2.1.line.length c17) = Wz ∧ Wz.heap[w13.heap.size]? = some (.cells #[.int .i64 Q2.1.readers, .bool Q2.1.writer, .slice a17 Q2.1.line.length c17] 24) ∧ IsL KP Wz (.slice a17 Q2.1.line.length c17) Q2.1.line ∧ IsL KI Wz (.slice a18 Q2.2.length c18) Q2.2 ∧ y1.heap.size ≤ w13.heap.size ∧ Below y1.heap.size y1 Wz) := ⟨_, rfl, putL_new (y0 := .int .i64 Q2.1.readers) (y1 := .bool Q2.1.writer) (y2 := .slice a17 Q2.1.line.length c17) (unhide HZ5), (unhide HQ5).1.keep kp (fun k hk => putL_keep (y0 := .int .i64 Q2.1.readers) (y1 := .bool Q2.1.writer) (y2 := .slice a17 Q2.1.line.length c17) (unhide HNX k ((unhide HQ5).2 k hk))), ((unhide HW5).keep (fun k hk => putL_keep (y0 := .int .i64 Q2.1.readers) (y1 := .bool Q2.1.writer) (y2 := .slice a17 Q2.1.line.length c17) (Own.ne (unhide HW5) (unhide HZ5) (by decide) k hk))).isl, unhide HGE, putL_below (y0 := .int .i64 Q2.1.readers) (y1 := .bool Q2.1.writer) (y2 := .slice a17 Q2.1.line.length c17) (unhide HX5) (unhide HGE)⟩)); (try (have HZ5 : Hid (w15.heap[w14.heap.size]? = some (.cells #[.int .i64 0, .bool false, .slice none 0 0] 24)) := (keep_below (new_block w14 (.cells #[.int .i64 0, .bool false, .slice none 0 0] 24)) hb5); have HNX : Hid (∀ k, (Value.slice a14 M1 c14).ownBlock = some k → k ≠ w14.heap.size) := (fun k hk => Nat.ne_of_lt ((unhide HO4).lt k hk).2); have HGE : Hid (y1.heap.size ≤ w14.heap.size) := ((unhide HX4).size); have HPK : Hid (∃ Wz, (((w15).setCell ⟨w14.heap.size, 0, none⟩ (.int .i64 Q2.1.readers)).setCell ⟨w14.heap.size, 1, none⟩ (.bool Q2.1.writer)).setCell ⟨w14.heap.size, 2, none⟩ (.slice a17 Q2.1.line.length c17) = Wz ∧ Wz.heap[w14.heap.size]? = some (.cells #[.int .i64 Q2.1.readers, .bool Q2.1.writer, .slice a17 Q2.1.line.length c17] 24) ∧ IsL KP Wz (.slice a17 Q2.1.line.length c17) Q2.1.line ∧ IsL KI Wz (.slice a18 Q2.2.length c18) Q2.2 ∧ y1.heap.size ≤ w14.heap.size ∧ Below y1.heap.size y1 Wz) := ⟨_, rfl, putL_new (y0 := .int .i64 Q2.1.readers) (y1 := .bool Q2.1.writer) (y2 := .slice a17 Q2.1.line.length c17) (unhide HZ5), (unhide HQ5).1.keep kp (fun k hk => putL_keep (y0 := .int .i64 Q2.1.readers) (y1 := .bool Q2.1.writer) (y2 := .slice a17 Q2.1.line.length c17) (unhide HNX k ((unhide HQ5).2 k hk))), ((unhide HW5).keep (fun k hk => putL_keep (y0 := .int .i64 Q2.1.readers) (y1 := .bool Q2.1.writer) (y2 := .slice a17 Q2.1.line.length c17) (Own.ne (unhide HW5) (unhide HZ5) (by decide) k hk))).isl, unhide HGE, putL_below (y0 := .int .i64 Q2.1.readers) (y1 := .bool Q2.1.writer) (y2 := .slice a17 Q2.1.line.length c17) (unhide HX5) (unhide HGE)⟩)); obtain ⟨⟨v0, v1', v2'⟩, ⟨vf0, vf1, vf2⟩, vl⟩ := block3 (new_block w15 (.cells #[.int .i64 0, .bool false, .slice none 0 0] 24)); (try (have hy9 := block3 (unhide HZ5); obtain ⟨⟨y0', y1', y2'⟩, ⟨yf0', yf1', yf2'⟩, yl'⟩ := hy9)); have HPL : Hid (∃ Wz, w15.alloc (.cells #[.int .i64 Q2.1.readers, .bool Q2.1.writer, .slice a17 Q2.1.line.length c17] 24) = Wz ∧ Wz.heap[w15.heap.size]? = some (.cells #[.int .i64 Q2.1.readers, .bool Q2.1.writer, .slice a17 Q2.1.line.length c17] 24) ∧ IsL KP Wz (.slice a17 Q2.1.line.length c17) Q2.1.line ∧ IsL KI Wz (.slice a18 Q2.2.length c18) Q2.2 ∧ y1.heap.size ≤ w15.heap.size ∧ Below y1.heap.size y1 Wz) := ⟨_, rfl, new_block w15 (.cells #[.int .i64 Q2.1.readers, .bool Q2.1.writer, .slice a17 Q2.1.line.length c17] 24), (unhide HQ5).1.below ((Below.refl _ _).alloc (Nat.le_refl _) _), (unhide HW5).isl.below ((Below.refl _ _).alloc (Nat.le_refl _) _), (unhide HX5).size, (unhide HX5).alloc (unhide HX5).size _⟩; clear hq5 hq7 hw5 hb5) | (refine (unhide HAD2 _ _ _ _ ((unhide HI4).below ((Below.refl _ _).alloc (Nat.le_refl _) _))).mono ?_; rintro e w15 ⟨v1, v2, rfl, hq5, hw5, hb5⟩; obtain ⟨a17, c17, rfl, hq7⟩ := hq5.form; obtain ⟨a18, c18, rfl⟩ := hw5.form; have HQ5 := hide hq7; have HW5 := hide hw5; have HX5 : Hid (Below y1.heap.size y1 w15) := Below.next ((unhide HX4).alloc (unhide HX4).size _) hb5 (Nat.le_refl _); (try (have HZ5 : Hid (w15.heap[y1.heap.size]? = some (.cells #[.int .i64 0, .bool false, .slice none 0 0] 24)) := (keep_below (unhide HZ4) hb5); have HNX : Hid (∀ k, (Value.slice a14 M1 c14).ownBlock = some k → k ≠ y1.heap.size) := (fun k hk => Own.ne (unhide HO4) (unhide HZ4) (by decide) k hk); have HGE : Hid (y1.heap.size ≤ y1.heap.size) := (Nat.le_refl _); have HPK : Hid (∃ Wz, (((w15).setCell ⟨y1.heap.size, 0, none⟩ (.int .i64 Q2.1.readers)).setCell ⟨y1.heap.size, 1, none⟩ (.bool Q2.1.writer)).setCell ⟨y1.heap.size, 2, none⟩ (.slice a17 Q2.1.line.length c17) = Wz ∧ Wz.heap[y1.heap.size]? = some (.cells #[.int .i64 Q2.1.readers, .bool Q2.1.writer, .slice a17 Q2.1.line.length c17] 24) ∧ IsL KP Wz (.slice a17 Q2.1.line.length c17) Q2.1.line ∧ IsL KI Wz (.slice a18 Q2.2.length c18) Q2.2 ∧ y1.heap.size ≤ y1.heap.size ∧ Below y1.heap.size y1 Wz) := ⟨_, rfl, putL_new (y0 := .int .i64 Q2.1.readers) (y1 := .bool Q2.1.writer) (y2 := .slice a17 Q2.1.line.length c17) (unhide HZ5), (unhide HQ5).1.keep kp (fun k hk => putL_keep (y0 := .int .i64 Q2.1.readers) (y1 := .bool Q2.1.writer) (y2 := .slice a17 Q2.1.line.length c17) (unhide HNX k ((unhide HQ5).2 k hk))), ((unhide HW5).keep (fun k hk => putL_keep (y0 := .int .i64 Q2.1.readers) (y1 := .bool Q2.1.writer) (y2 := .slice a17 Q2.1.line.length c17) (Own.ne (unhide HW5) (unhide HZ5) (by decide) k hk))).isl, unhide HGE, putL_below (y0 := .int .i64 Q2.1.readers) (y1 := .bool Q2.1.writer) (y2 := .slice a17 Q2.1.line.length c17) (unhide HX5) (unhide HGE)⟩)); (try (have HZ5 : Hid (w15.heap[w13.heap.size]? = some (.cells #[.int .i64 0, .bool false, .slice none 0 0] 24)) := (keep_below (unhide HZ4) hb5); have HNX : Hid (∀ k, (Value.slice a14 M1 c14).ownBlock = some k → k ≠ w13.heap.size) := (fun k hk => Own.ne (unhide HO4) (unhide HZ4) (by decide) k hk); have HGE : Hid (y1.heap.size ≤ w13.heap.size) := ((unhide HX3).size); have HPK : Hid (∃ Wz, (((w15).setCell ⟨w13.heap.size, 0, none⟩ (.int .i64 Q2.1.readers)).setCell ⟨w13.heap.size, 1, none⟩ (.bool Q2.1.writer)).setCell ⟨w13.heap.size, 2, none⟩ (.slice a17 Q2.1.line.length c17) = Wz ∧ Wz.heap[w13.heap.size]? = some (.cells #[.int .i64 Q2.1.readers, .bool Q2.1.writer, .slice a17 Q2.1.line.length c17] 24) ∧ IsL KP Wz (.slice a17 Q2.1.line.length c17) Q2.1.line ∧ IsL KI Wz (.slice a18 Q2.2.length c18) Q2.2 ∧ y1.heap.size ≤ w13.heap.size ∧ Below y1.heap.size y1 Wz) := ⟨_, rfl, putL_new (y0 := .int .i64 Q2.1.readers) (y1 := .bool Q2.1.writer) (y2 := .slice a17 Q2.1.line.length c17) (unhide HZ5), (unhide HQ5).1.keep kp (fun k hk => putL_keep (y0 := .int .i64 Q2.1.readers) (y1 := .bool Q2.1.writer) (y2 := .slice a17 Q2.1.line.length c17) (unhide HNX k ((unhide HQ5).2 k hk))), ((unhide HW5).keep (fun k hk => putL_keep (y0 := .int .i64 Q2.1.readers) (y1 := .bool Q2.1.writer) (y2 := .slice a17 Q2.1.line.length c17) (Own.ne (unhide HW5) (unhide HZ5) (by decide) k hk))).isl, unhide HGE, putL_below (y0 := .int .i64 Q2.1.readers) (y1 := .bool Q2.1.writer) (y2 := .slice a17 Q2.1.line.length c17) (unhide HX5) (unhide HGE)⟩)); (try (have HZ5 : Hid (w15.heap[w14.heap.size]? = some (.cells #[.int .i64 0, .bool false, .slice none 0 0] 24)) := (keep_below (new_block w14 (.cells #[.int .i64 0, .bool false, .slice none 0 0] 24)) hb5); have HNX : Hid (∀ k, (Value.slice a14 M1 c14).ownBlock = some k → k ≠ w14.heap.size) := (fun k hk => Nat.ne_of_lt ((unhide HO4).lt k hk).2); have HGE : Hid (y1.heap.size ≤ w14.heap.size) := ((unhide HX4).size); have HPK : Hid (∃ Wz, (((w15).setCell ⟨w14.heap.size, 0, none⟩ (.int .i64 Q2.1.readers)).setCell ⟨w14.heap.size, 1, none⟩ (.bool Q2.1.writer)).setCell ⟨w14.heap.size, 2, none⟩ (.slice a17 Q2.1.line.length c17) = Wz ∧ Wz.heap[w14.heap.size]? = some (.cells #[.int .i64 Q2.1.readers, .bool Q2.1.writer, .slice a17 Q2.1.line.length c17] 24) ∧ IsL KP Wz (.slice a17 Q2.1.line.length c17) Q2.1.line ∧ IsL KI Wz (.slice a18 Q2.2.length c18) Q2.2 ∧ y1.heap.size ≤ w14.heap.size ∧ Below y1.heap.size y1 Wz) := ⟨_, rfl, putL_new (y0 := .int .i64 Q2.1.readers) (y1 := .bool Q2.1.writer) (y2 := .slice a17 Q2.1.line.length c17) (unhide HZ5), (unhide HQ5).1.keep kp (fun k hk => putL_keep (y0 := .int .i64 Q2.1.readers) (y1 := .bool Q2.1.writer) (y2 := .slice a17 Q2.1.line.length c17) (unhide HNX k ((unhide HQ5).2 k hk))), ((unhide HW5).keep (fun k hk => putL_keep (y0 := .int .i64 Q2.1.readers) (y1 := .bool Q2.1.writer) (y2 := .slice a17 Q2.1.line.length c17) (Own.ne (unhide HW5) (unhide HZ5) (by decide) k hk))).isl, unhide HGE, putL_below (y0 := .int .i64 Q2.1.readers) (y1 := .bool Q2.1.writer) (y2 := .slice a17 Q2.1.line.length c17) (unhide HX5) (unhide HGE)⟩)); obtain ⟨⟨v0, v1', v2'⟩, ⟨vf0, vf1, vf2⟩, vl⟩ := block3 (new_block w15 (.cells #[.int .i64 0, .bool false, .slice none 0 0] 24)); (try (have hy9 := block3 (unhide HZ5); obtain ⟨⟨y0', y1', y2'⟩, ⟨yf0', yf1', yf2'⟩, yl'⟩ := hy9)); have HPL : Hid (∃ Wz, w15.alloc (.cells #[.int .i64 Q2.1.readers, .bool Q2.1.writer, .slice a17 Q2.1.line.length c17] 24) = Wz ∧ Wz.heap[w15.heap.size]? = some (.cells #[.int .i64 Q2.1.readers, .bool Q2.1.writer, .slice a17 Q2.1.line.length c17] 24) ∧ IsL KP Wz (.slice a17 Q2.1.line.length c17) Q2.1.line ∧ IsL KI Wz (.slice a18 Q2.2.length c18) Q2.2 ∧ y1.heap.size ≤ w15.heap.size ∧ Below y1.heap.size y1 Wz) := ⟨_, rfl, new_block w15 (.cells #[.int .i64 Q2.1.readers, .bool Q2.1.writer, .slice a17 Q2.1.line.length c17] 24), (unhide HQ5).1.below ((Below.refl _ _).alloc (Nat.le_refl _) _), (unhide HW5).isl.below ((Below.refl _ _).alloc (Nat.le_refl _) _), (unhide HX5).size, (unhide HX5).alloc (unhide HX5).size _⟩; clear hq5 hq7 hw5 hb5))
          | (refine step_append kp (by rfl) (.tmp 150) (.tmp 155) rfl y1.heap.size (.slice a13 j c13) (line.take j) rfl (by first | exact unhide HO3 | exact (unhide HO3).below ((Below.refl _ _).alloc (Nat.le_refl _) _)) (.slice (some ⟨b, off + (j + 1) * 3, none⟩) (n - (j + 1)) (c0 - (j + 1))) (line.drop (j + 1)) rfl (by first | with_reducible exact unhide HDW2 _ (unhide HX3) | with_reducible exact unhide HDW2 _ ((unhide HX3).alloc (unhide HX3).size _)) M1 (by rw [unhide HTL, unhide HDN, unhide HM1]; omega) (by have h9 := unhide HM1; simp [KP]; omega) (by first | exact (unhide HX3).size | exact ((unhide HX3).alloc (unhide HX3).size _).size) ?_; intro a14 c14 w14 ho4 hg4; rw [← unhide HL2] at ho4; have HI4 := hide ho4.isl; have HO4 := hide ho4; have HX4 : Hid (Below y1.heap.size y1 w14) := (by first | exact (unhide HX3).grown hg4 (unhide HX3).size (fun k hk => ((unhide HO3).lt k hk).1) | exact ((unhide HX3).alloc (unhide HX3).size _).grown hg4 ((unhide HX3).alloc (unhide HX3).size _).size (fun k hk => ((unhide HO3).lt k hk).1)); (try (have HZ4 : Hid (w14.heap[y1.heap.size]? = some (.cells #[.int .i64 0, .bool false, .slice none 0 0] 24)) := (keep_grown (unhide HZ3) hg4 (fun jj hj => Own.ne (unhide HO3) (unhide HZ3) (by decide) jj hj)))); (try (have HZ4 : Hid (w14.heap[w13.heap.size]? = some (.cells #[.int .i64 0, .bool false, .slice none 0 0] 24)) := (keep_grown (new_block w13 (.cells #[.int .i64 0, .bool false, .slice none 0 0] 24)) hg4 (fun jj hj => Own.ne ((unhide HO3).below ((Below.refl _ _).alloc (Nat.le_refl _) _)) (new_block w13 (.cells #[.int .i64 0, .bool false, .slice none 0 0] 24)) (by decide) jj hj)))); clear ho4 hg4))
      all_goals
        go_wp2_with fail
        go_meet
        case rel =>
          first
            | (have hpk := unhide HPK; obtain ⟨Wz, eWz, h1, h2, h3, h4, h5⟩ := hpk; rw [eWz]; exact ⟨_, a17, c17, a18, c18, rfl, rfl, h1, h2, h3, h4, h5⟩)
            | (have hpk := unhide HPL; obtain ⟨Wz, eWz, h1, h2, h3, h4, h5⟩ := hpk; rw [eWz]; exact ⟨_, a17, c17, a18, c18, rfl, rfl, h1, h2, h3, h4, h5⟩)
  case rest =>
    obtain ⟨Y, a17, c17, a18, c18, rfl, rfl, HT, HQ5, HW5, HYY, HX5⟩ := hcut
    clear HSS HOW9 HDW HDP HTK
    (have HX_18 := hide (Below.next (unhide HX_17) (unhide HX5) (by first | exact Nat.le_refl _ | (have := unhide HBA; omega))); have Kp_18 := hide (keep_below (unhide Kp_17) (unhide HX5)); have Km_18 := hide (keep_below (unhide Km_17) (unhide HX5)); have Ke_18 := hide (keep_below (unhide Ke_17) (unhide HX5)); have Kd_18 := hide (keep_below (unhide Kd_17) (unhide HX5)); have Kg_18 := hide (keep_below (unhide Kg_17) (unhide HX5)); have Kw_18 := hide (keep_below (unhide Kw_17) (unhide HX5)); have Kt_18 := hide (keep_below (unhide Kt_17) (unhide HX5)); have Kk_18 := hide (keep_below (unhide Kk_17) (unhide HX5)); clear HX_17 Kp_17 Km_17 Ke_17 Kd_17 Kg_17 Kw_17 Kt_17 Kk_17)
    have HD9 := hide (IsL.below (unhide FD_9) (unhide HX_18))
    have HU9 := hide (IsL.below (unhide FU_9) (unhide HX_18))
    obtain ⟨⟨d0, d1, d2⟩, ⟨df0, df1, df2⟩, dl⟩ := block3 (unhide Kd_18)
    obtain ⟨⟨u0, u1, u2⟩, ⟨uf0, uf1, uf2⟩, ul⟩ := block3 (unhide HT)
    go_wp2_with (first
      | (go_at_call 13; refine (sameLock_any _ _ _ Q2.1 ⟨_, rfl, unhide HD9⟩ ⟨_, rfl, unhide HQ5⟩ (by unfold maxLen; omega)).mono ?_; rintro e x8 ⟨rfl, hb8⟩; have HX_19 := hide (Below.next (unhide HX_18) hb8 (by first | exact Nat.le_refl _ | (have := unhide HBA; omega))); have Kp_19 := hide (keep_below (unhide Kp_18) hb8); have Km_19 := hide (keep_below (unhide Km_18) hb8); have Ke_19 := hide (keep_below (unhide Ke_18) hb8); have Kd_19 := hide (keep_below (unhide Kd_18) hb8); have Kg_19 := hide (keep_below (unhide Kg_18) hb8); have Kw_19 := hide (keep_below (unhide Kw_18) hb8); have Kt_19 := hide (keep_below (unhide Kt_18) hb8); have Kk_19 := hide (keep_below (unhide Kk_18) hb8); have Ku_19 := hide (keep_below (unhide HT) hb8); have FU_19 := hide ((unhide HU9).below hb8); have FW_19 := hide ((unhide HW5).below hb8); clear HX_18 Kp_18 Km_18 Ke_18 Kd_18 Kg_18 Kw_18 Kt_18 Kk_18 HT HU9 HW5; clear hb8 d0 d1 d2 df0 df1 df2 dl u0 u1 u2 uf0 uf1 uf2 ul)
      | (go_at_call 22; refine (ints_same _ _ _ Q2.2 (unhide FU_19) (unhide FW_19) (by unfold maxLen; omega)).mono ?_; rintro e x9 ⟨rfl, hb8⟩; have HX_20 := hide (Below.next (unhide HX_19) hb8 (by first | exact Nat.le_refl _ | (have := unhide HBA; omega))); have Kp_20 := hide (keep_below (unhide Kp_19) hb8); have Km_20 := hide (keep_below (unhide Km_19) hb8); have Ke_20 := hide (keep_below (unhide Ke_19) hb8); have Kd_20 := hide (keep_below (unhide Kd_19) hb8); have Kg_20 := hide (keep_below (unhide Kg_19) hb8); have Kw_20 := hide (keep_below (unhide Kw_19) hb8); have Kt_20 := hide (keep_below (unhide Kt_19) hb8); have Kk_20 := hide (keep_below (unhide Kk_19) hb8); have Ku_20 := hide (keep_below (unhide Ku_19) hb8); have FU_20 := hide ((unhide FU_19).below hb8); have FW_20 := hide ((unhide FW_19).below hb8); clear HX_19 Kp_19 Km_19 Ke_19 Kd_19 Kg_19 Kw_19 Kt_19 Kk_19 Ku_19 FU_19 FW_19; clear hb8))
    go_ret
    exact ⟨rfl, Below.next (unhide HX_9) (unhide HX_20) (Nat.le_refl _)⟩
end Go.Proofs.Ytdpcbmekplcllaa
