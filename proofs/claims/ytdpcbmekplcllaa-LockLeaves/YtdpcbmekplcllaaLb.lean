/-
  taskmilllaw.LockLeaves, where the lock is wrong, or the task does not wait.
-/
import Derived.Test.YtdpcbmekplcllaaLa
namespace Go.Proofs.Ytdpcbmekplcllaa
open Go.RowKit

set_option maxRecDepth 100000 in
set_option maxHeartbeats 4000000 in
theorem leaves_A (w : World) (v : Value) (P : Lk) (x : Int) (wt : Bool) (h : IsLock w v P) (hn : P.line.length ≤ 700) (hf : (lockF P).1 ≠ 0) :
    Calls Try.prog 4 #[v, .int .i64 x, .bool wt] w fun e w' => e = .returned (.bool true) ∧ Below w.heap.size w w' := by
  have hnot : ∀ (x : Bool) (w : World), (Op.unary .not (.bool x)).run Try.prog w = .ok (.bool (!x)) w := fun _ _ => rfl
  obtain ⟨⟨F0, F1⟩, eF⟩ : ∃ F, lockF P = F := ⟨_, rfl⟩
  have HIN : Hid (∀ W vl, IsL KP W vl P.line → Calls Try.prog 15 #[vl, .int .i64 x] W fun e w' => ∃ i : Int, e = .returned (.int .i64 i) ∧ Below W.heap.size W w') := fun W vl hW => (inLine_any W vl P.line x hW (by unfold maxLen; omega)).mono fun e w' ⟨h1, h2⟩ => by
    rcases h1 with ⟨rfl, -⟩ | ⟨j, rfl, -⟩
    · exact ⟨_, rfl, h2⟩
    · exact ⟨_, rfl, h2⟩
  have HOW : Hid (∀ W, Below w.heap.size w W → Calls Try.prog 9 #[v] W fun e w' => ∃ a c, e = .returned (.agg #[.int .i64 P.readers, .bool P.writer, .slice a P.line.length c]) ∧ IsL KP w' (.slice a P.line.length c) P.line ∧ Below W.heap.size W w') := fun W hW => (ownLock_any W v P (h.below hW) (by omega)).mono fun e w' ⟨v', h1, h2, h3⟩ => by
    obtain ⟨a, c, rfl, h4⟩ := h2.form
    exact ⟨a, c, h1, h4.1, h3⟩
  have HPF : Hid (∀ W, Below w.heap.size w W → Calls Try.prog 12 #[v] W fun e w' => e = .returned (.agg #[.int .i64 F0, .int .i64 F1]) ∧ Below W.heap.size W w') := fun W hW => by
    have := lockFault_any W v P (h.below hW)
    rw [eF] at this
    exact this
  have HLV : Hid (∀ W v', IsLock W v' P → Calls Try.prog 20 #[v', .bool wt] W fun e w' => e = .returned (.tuple #[.agg #[.int .i64 0, .bool false, .slice none 0 0], .slice none 0 0, .bool false, .agg #[.int .i64 F0, .int .i64 F1]]) ∧ Below W.heap.size W w') := fun W v' hW => by
    have := leave_fault W v' P wt hW (by omega) hf
    rw [eF] at this
    exact this
  have HDR : Hid (∀ W v', IsLock W v' P → Calls Try.prog 21 #[v', .int .i64 x] W fun e w' => e = .returned (.tuple #[.agg #[.int .i64 0, .bool false, .slice none 0 0], .slice none 0 0, .agg #[.int .i64 F0, .int .i64 F1]]) ∧ Below W.heap.size W w') := fun W v' hW => by
    have := drop_fault W v' P x hW (by omega) hf
    rw [eF] at this
    exact this
  have hf2 : F0 ≠ 0 := by rw [eF] at hf; exact hf
  clear hf
  obtain ⟨r, bw, line⟩ := P
  obtain ⟨a0, c0, rfl, hL⟩ := h.form
  simp only at hL hn HOW HPF HLV HDR HIN ⊢
  have HLL := hide hL
  obtain ⟨n, en⟩ : ∃ n, line.length = n := ⟨_, rfl⟩
  rw [en] at hn HOW HPF HLL ⊢
  have HN := hide en
  clear h hL en eF
  have xf : (F0 == 0) = false := by simpa using hf2
  have xg : (F0 != 0) = true := by simpa using hf2
  have xh : (F0 == F0) = true := by simp
  have xi : (F1 == F1) = true := by simp
  clear hf2
  have g1 : ¬ (700 : Int) < (n : Int) := by omega
  obtain ⟨W0, e0⟩ : ∃ W, w.alloc (.cells #[.int .i64 r, .bool bw, .slice a0 n c0] 24) = W := ⟨_, rfl⟩
  have HX := hide ((Below.refl w.heap.size w).alloc (Nat.le_refl _) (.cells #[.int .i64 r, .bool bw, .slice a0 n c0] 24))
  have HP := hide (new_block w (.cells #[.int .i64 r, .bool bw, .slice a0 n c0] 24))
  rw [e0] at HX HP
  have HE := hide e0
  clear e0
  go_enter Try.func4, Try.ntmps4
  go_upto_region 1 with fail
  rw [unhide HE]
  clear HE
  obtain ⟨⟨p0, p1, p2⟩, ⟨pf0, pf1, pf2⟩, pl⟩ := block3 (unhide HP)
  go_upto_region 6 with (first
      | (go_at_call 8; refine (begun_any _).mono ?_; rintro e w1 ⟨rfl, hb1⟩; have HX_1 := hide (Below.next (unhide HX) hb1 (by first | exact Nat.le_refl _ | (have := unhide HBA; omega))); have Kp_1 := hide (keep_below (unhide HP) hb1); clear HX HP; clear hb1 p0 p1 p2 pf0 pf1 pf2 pl; obtain ⟨⟨p0, p1, p2⟩, ⟨pf0, pf1, pf2⟩, pl⟩ := block3 (unhide Kp_1))
      | (go_at_call 9; refine (unhide HOW _ (unhide HX_1)).mono ?_; rintro e w2 ⟨a2, c2, rfl, hi2, hb2⟩; have HI2 := hide hi2; have HX_2 := hide (Below.next (unhide HX_1) hb2 (by first | exact Nat.le_refl _ | (have := unhide HBA; omega))); have Kp_2 := hide (keep_below (unhide Kp_1) hb2); clear HX_1 Kp_1; clear hb2 hi2)
      | (go_at_call 20; refine (unhide HLV _ _ ⟨_, rfl, unhide HI2⟩).mono ?_; rintro e w3 ⟨rfl, hb3⟩; have HX_3 := hide (Below.next (unhide HX_2) hb3 (by first | exact Nat.le_refl _ | (have := unhide HBA; omega))); have Kp_3 := hide (keep_below (unhide Kp_2) hb3); clear HX_2 Kp_2; clear hb3 HI2 p0 p1 p2 pf0 pf1 pf2 pl))
  obtain ⟨W4, eW4, hBW4, k0_4, k1_4⟩ := two_new w3 (.cells #[.int .i64 0, .bool false, .slice none 0 0] 24) (.cells #[.int .i64 F0, .int .i64 F1] 28)
  rw [eW4]
  clear eW4
  have hlp_m : w.heap.size < w3.heap.size := size_of (unhide Kp_3)
  (have HX_4 := hide (Below.next (unhide HX_3) hBW4 (by first | exact Nat.le_refl _ | (have := unhide HBA; omega))); have Kp_4 := hide (keep_below (unhide Kp_3) hBW4); clear HX_3 Kp_3)
  obtain ⟨M, eM⟩ : ∃ X, w3.heap.size = X := ⟨_, rfl⟩
  rw [eM] at k0_4 k1_4 hlp_m ⊢
  have Km_4 := hide k0_4
  have Ke_4 := hide k1_4
  clear eM hBW4 k0_4 k1_4
  obtain ⟨⟨p0, p1, p2⟩, ⟨pf0, pf1, pf2⟩, pl⟩ := block3 (unhide Kp_4)
  go_upto_region 7 with (first
      | (go_at_call 9; refine (unhide HOW _ (unhide HX_4)).mono ?_; rintro e w5 ⟨a6, c6, rfl, hi2, hb2⟩; have HI6 := hide hi2; have HX_5 := hide (Below.next (unhide HX_4) hb2 (by first | exact Nat.le_refl _ | (have := unhide HBA; omega))); have Kp_5 := hide (keep_below (unhide Kp_4) hb2); have Km_5 := hide (keep_below (unhide Km_4) hb2); have Ke_5 := hide (keep_below (unhide Ke_4) hb2); clear HX_4 Kp_4 Km_4 Ke_4; clear hb2 hi2)
      | (go_at_call 21; refine (unhide HDR _ _ ⟨_, rfl, unhide HI6⟩).mono ?_; rintro e w6 ⟨rfl, hb3⟩; have HX_6 := hide (Below.next (unhide HX_5) hb3 (by first | exact Nat.le_refl _ | (have := unhide HBA; omega))); have Kp_6 := hide (keep_below (unhide Kp_5) hb3); have Km_6 := hide (keep_below (unhide Km_5) hb3); have Ke_6 := hide (keep_below (unhide Ke_5) hb3); clear HX_5 Kp_5 Km_5 Ke_5; clear hb3 HI6 p0 p1 p2 pf0 pf1 pf2 pl))
  obtain ⟨W7, eW7, hBW7, k0_7, k1_7⟩ := two_new w6 (.cells #[.int .i64 0, .bool false, .slice none 0 0] 24) (.cells #[.int .i64 F0, .int .i64 F1] 28)
  rw [eW7]
  clear eW7
  have hlp_d : w.heap.size < w6.heap.size := size_of (unhide Kp_6)
  have hlm_d : M < w6.heap.size := size_of (unhide Km_6)
  have hle_d : M + 1 < w6.heap.size := size_of (unhide Ke_6)
  (have HX_7 := hide (Below.next (unhide HX_6) hBW7 (by first | exact Nat.le_refl _ | (have := unhide HBA; omega))); have Kp_7 := hide (keep_below (unhide Kp_6) hBW7); have Km_7 := hide (keep_below (unhide Km_6) hBW7); have Ke_7 := hide (keep_below (unhide Ke_6) hBW7); clear HX_6 Kp_6 Km_6 Ke_6)
  obtain ⟨D, eD⟩ : ∃ X, w6.heap.size = X := ⟨_, rfl⟩
  rw [eD] at k0_7 k1_7 hlp_d hlm_d hle_d ⊢
  have Kd_7 := hide k0_7
  have Kg_7 := hide k1_7
  clear eD hBW7 k0_7 k1_7
  obtain ⟨⟨p0, p1, p2⟩, ⟨pf0, pf1, pf2⟩, pl⟩ := block3 (unhide Kp_7)
  go_upto_region 8 with (go_at_call 12; refine (unhide HPF _ (unhide HX_7)).mono ?_; rintro e w8 ⟨rfl, hb8⟩; have HX_8 := hide (Below.next (unhide HX_7) hb8 (by first | exact Nat.le_refl _ | (have := unhide HBA; omega))); have Kp_8 := hide (keep_below (unhide Kp_7) hb8); have Km_8 := hide (keep_below (unhide Km_7) hb8); have Ke_8 := hide (keep_below (unhide Ke_7) hb8); have Kd_8 := hide (keep_below (unhide Kd_7) hb8); have Kg_8 := hide (keep_below (unhide Kg_7) hb8); clear HX_7 Kp_7 Km_7 Ke_7 Kd_7 Kg_7; clear hb8 p0 p1 p2 pf0 pf1 pf2 pl)
  have HX_9 := hide ((unhide HX_8).alloc (Nat.le_trans (show w.heap.size ≤ w.heap.size from Nat.le_refl _) (unhide HX_8).size) (.cells #[.int .i64 F0, .int .i64 F1] 28))
  have Kp_9 := hide (keep_alloc (unhide Kp_8) (.cells #[.int .i64 F0, .int .i64 F1] 28))
  have Km_9 := hide (keep_alloc (unhide Km_8) (.cells #[.int .i64 F0, .int .i64 F1] 28))
  have Ke_9 := hide (keep_alloc (unhide Ke_8) (.cells #[.int .i64 F0, .int .i64 F1] 28))
  have Kd_9 := hide (keep_alloc (unhide Kd_8) (.cells #[.int .i64 F0, .int .i64 F1] 28))
  have Kg_9 := hide (keep_alloc (unhide Kg_8) (.cells #[.int .i64 F0, .int .i64 F1] 28))
  have Kw_9 := hide (new_block w8 (.cells #[.int .i64 F0, .int .i64 F1] 28))
  have hlp_w : w.heap.size < w8.heap.size := size_of (unhide Kp_8)
  have hlm_w : M < w8.heap.size := size_of (unhide Km_8)
  have hle_w : M + 1 < w8.heap.size := size_of (unhide Ke_8)
  have hld_w : D < w8.heap.size := size_of (unhide Kd_8)
  have hlg_w : D + 1 < w8.heap.size := size_of (unhide Kg_8)
  obtain ⟨Z, eZ⟩ : ∃ X, w8.heap.size = X := ⟨_, rfl⟩
  obtain ⟨W9, eW9⟩ : ∃ X, w8.alloc (.cells #[.int .i64 F0, .int .i64 F1] 28) = X := ⟨_, rfl⟩
  rw [eZ, eW9] at Kw_9; rw [eW9] at HX_9 Kp_9 Km_9 Ke_9 Kd_9 Kg_9; rw [eZ] at hlp_w hlm_w hle_w hld_w hlg_w; rw [eZ, eW9]
  clear eZ eW9 HX_8 Kp_8 Km_8 Ke_8 Kd_8 Kg_8
  obtain ⟨⟨m0, m1, m2⟩, ⟨mf0, mf1, mf2⟩, ml⟩ := block3 (unhide Km_9)
  obtain ⟨e0, e1, ef0, ef1, el⟩ := block2 (unhide Ke_9)
  obtain ⟨z0, z1, zf0, zf1, zl⟩ := block2 (unhide Kw_9)
  go_upto_region 10 with (go_at_call 16; refine (noLock_zero _).mono ?_; rintro e w10 ⟨rfl, hb8⟩; have HX_10 := hide (Below.next (unhide HX_9) hb8 (by first | exact Nat.le_refl _ | (have := unhide HBA; omega))); have Kp_10 := hide (keep_below (unhide Kp_9) hb8); have Km_10 := hide (keep_below (unhide Km_9) hb8); have Ke_10 := hide (keep_below (unhide Ke_9) hb8); have Kd_10 := hide (keep_below (unhide Kd_9) hb8); have Kg_10 := hide (keep_below (unhide Kg_9) hb8); have Kw_10 := hide (keep_below (unhide Kw_9) hb8); clear HX_9 Kp_9 Km_9 Ke_9 Kd_9 Kg_9 Kw_9; clear hb8 m0 m1 m2 mf0 mf1 mf2 ml e0 e1 ef0 ef1 el z0 z1 zf0 zf1 zl)
  have HL9 := hide (IsL.below (unhide HLL) (unhide HX_10))
  obtain ⟨⟨p0, p1, p2⟩, ⟨pf0, pf1, pf2⟩, pl⟩ := block3 (unhide Kp_10)
  obtain ⟨z0, z1, zf0, zf1, zl⟩ := block2 (unhide Kw_10)
  go_wp2_with (first
      | (go_at_call 15; refine (unhide HIN _ _ (unhide HL9)).mono ?_; rintro e w11 ⟨i, rfl, hb8⟩; have HX_11 := hide (Below.next (unhide HX_10) hb8 (by first | exact Nat.le_refl _ | (have := unhide HBA; omega))); have Kp_11 := hide (keep_below (unhide Kp_10) hb8); have Km_11 := hide (keep_below (unhide Km_10) hb8); have Ke_11 := hide (keep_below (unhide Ke_10) hb8); have Kd_11 := hide (keep_below (unhide Kd_10) hb8); have Kg_11 := hide (keep_below (unhide Kg_10) hb8); have Kw_11 := hide (keep_below (unhide Kw_10) hb8); clear HX_10 Kp_10 Km_10 Ke_10 Kd_10 Kg_10 Kw_10; clear hb8 p0 p1 p2 pf0 pf1 pf2 pl z0 z1 zf0 zf1 zl; obtain ⟨z0, z1, zf0, zf1, zl⟩ := block2 (unhide Kw_11); obtain ⟨g0, g1, gf0, gf1, gl⟩ := block2 (unhide Kg_11); obtain ⟨⟨d0, d1, d2⟩, ⟨df0, df1, df2⟩, dl⟩ := block3 (unhide Kd_11))
      | (go_at_call 16; refine (noLock_zero _).mono ?_; rintro e w12 ⟨rfl, hb8⟩; have HX_12 := hide (Below.next (unhide HX_11) hb8 (by first | exact Nat.le_refl _ | (have := unhide HBA; omega))); have Kp_12 := hide (keep_below (unhide Kp_11) hb8); have Km_12 := hide (keep_below (unhide Km_11) hb8); have Ke_12 := hide (keep_below (unhide Ke_11) hb8); have Kd_12 := hide (keep_below (unhide Kd_11) hb8); have Kg_12 := hide (keep_below (unhide Kg_11) hb8); have Kw_12 := hide (keep_below (unhide Kw_11) hb8); clear HX_11 Kp_11 Km_11 Ke_11 Kd_11 Kg_11 Kw_11; clear hb8 z0 z1 zf0 zf1 zl g0 g1 gf0 gf1 gl d0 d1 d2 df0 df1 df2 dl))
  go_ret
  exact ⟨rfl, unhide HX_12⟩

set_option maxRecDepth 100000 in
set_option maxHeartbeats 4000000 in
theorem leaves_n0_out (w : World) (v : Value) (P : Lk) (x : Int) (h : IsLock w v P) (hn : P.line.length ≤ 700) (hf : (lockF P).1 = 0) (hb : P.writer = false) (hi : P.line.any (isOfP x) = false) :
    Calls Try.prog 4 #[v, .int .i64 x, .bool true] w fun e w' => e = .returned (.bool true) ∧ Below w.heap.size w w' := by
  have hnot : ∀ (x : Bool) (w : World), (Op.unary .not (.bool x)).run Try.prog w = .ok (.bool (!x)) w := fun _ _ => rfl
  have eF := lockF_zero hf
  obtain ⟨-, hr0, hr1, -, -, -⟩ := lockF_good hf
  have hgood := good_of hf
  have HIN : Hid (∀ W vl, IsL KP W vl P.line → Calls Try.prog 15 #[vl, .int .i64 x] W fun e w' => e = .returned (.int .i64 (-1)) ∧ Below W.heap.size W w') := fun W vl hW => (inLine_any W vl P.line x hW (by unfold maxLen; omega)).mono fun e w' ⟨h1, h2⟩ => by
    rcases h1 with ⟨rfl, -⟩ | ⟨j, rfl, h3, h4, -⟩
    · exact ⟨rfl, h2⟩
    · rw [(any_pAt _ _).2 ⟨j, h3, by simp [isOfP, h4]⟩] at hi; cases hi
  have HOW : Hid (∀ W, Below w.heap.size w W → Calls Try.prog 9 #[v] W fun e w' => ∃ a c, e = .returned (.agg #[.int .i64 P.readers, .bool P.writer, .slice a P.line.length c]) ∧ IsL KP w' (.slice a P.line.length c) P.line ∧ Below W.heap.size W w') := fun W hW => (ownLock_any W v P (h.below hW) (by omega)).mono fun e w' ⟨v', h1, h2, h3⟩ => by
    obtain ⟨a, c, rfl, h4⟩ := h2.form
    exact ⟨a, c, h1, h4.1, h3⟩
  have HPF : Hid (∀ W, Below w.heap.size w W → Calls Try.prog 12 #[v] W fun e w' => e = .returned (.agg #[.int .i64 0, .int .i64 0]) ∧ Below W.heap.size W w') := fun W hW => by
    have := lockFault_any W v P (h.below hW)
    rw [eF] at this
    exact this
  have HLV : Hid (∀ W v', IsLock W v' P → Calls Try.prog 20 #[v', .bool true] W fun e w' => ∃ a1 c1 a5 c5, e = .returned (.tuple #[.agg #[.int .i64 P.readers, .bool P.writer, .slice a1 P.line.length c1], .slice a5 0 c5, .bool true, .agg #[.int .i64 0, .int .i64 0]]) ∧ IsL KP w' (.slice a1 P.line.length c1) P.line ∧ IsL KI w' (.slice a5 0 c5) [] ∧ Below W.heap.size W w') := fun W v' hW => (leave_none0 W v' P hW hf hb).mono fun e w' ⟨v1, v2, h1, h2, h3, h4⟩ => by
    obtain ⟨a1, c1, rfl, h5⟩ := h2.form
    obtain ⟨a5, c5, rfl⟩ := h3.1.form
    exact ⟨a1, c1, a5, c5, h1, h5.1, h3.1, h4⟩
  have HDR : Hid (∀ W v', IsLock W v' P → Calls Try.prog 21 #[v', .int .i64 x] W fun e w' => e = .returned (.tuple #[.agg #[.int .i64 0, .bool false, .slice none 0 0], .slice none 0 0, .agg #[.int .i64 6, .int .i64 0]]) ∧ Below W.heap.size W w') := fun W v' hW => drop_none W v' P x hW hf hi
  obtain ⟨r, bw, line⟩ := P
  obtain ⟨a0, c0, rfl, hL⟩ := h.form
  simp only at hL hn HOW HPF HLV HDR HIN hr0 hr1 hb ⊢
  have HLL := hide hL
  obtain ⟨n, en⟩ : ∃ n, line.length = n := ⟨_, rfl⟩
  rw [en] at hn HOW HPF HLL HLV ⊢
  have HN := hide en
  clear h hL en eF hf hgood hi
  subst hb
  have g1 : ¬ (700 : Int) < (n : Int) := by omega
  obtain ⟨W0, e0⟩ : ∃ W, w.alloc (.cells #[.int .i64 r, .bool false, .slice a0 n c0] 24) = W := ⟨_, rfl⟩
  have HX := hide ((Below.refl w.heap.size w).alloc (Nat.le_refl _) (.cells #[.int .i64 r, .bool false, .slice a0 n c0] 24))
  have HP := hide (new_block w (.cells #[.int .i64 r, .bool false, .slice a0 n c0] 24))
  rw [e0] at HX HP
  have HE := hide e0
  clear e0
  go_enter Try.func4, Try.ntmps4
  go_upto_region 1 with fail
  rw [unhide HE]
  clear HE
  obtain ⟨⟨p0, p1, p2⟩, ⟨pf0, pf1, pf2⟩, pl⟩ := block3 (unhide HP)
  go_upto_region 6 with (first
      | (go_at_call 8; refine (begun_any _).mono ?_; rintro e w1 ⟨rfl, hb1⟩; have HX_1 := hide (Below.next (unhide HX) hb1 (by first | exact Nat.le_refl _ | (have := unhide HBA; omega))); have Kp_1 := hide (keep_below (unhide HP) hb1); clear HX HP; clear hb1 p0 p1 p2 pf0 pf1 pf2 pl; obtain ⟨⟨p0, p1, p2⟩, ⟨pf0, pf1, pf2⟩, pl⟩ := block3 (unhide Kp_1))
      | (go_at_call 9; refine (unhide HOW _ (unhide HX_1)).mono ?_; rintro e w2 ⟨a2, c2, rfl, hi2, hb2⟩; have HI2 := hide hi2; have HX_2 := hide (Below.next (unhide HX_1) hb2 (by first | exact Nat.le_refl _ | (have := unhide HBA; omega))); have Kp_2 := hide (keep_below (unhide Kp_1) hb2); clear HX_1 Kp_1; clear hb2 hi2)
      | (go_at_call 20; refine (unhide HLV _ _ ⟨_, rfl, unhide HI2⟩).mono ?_; rintro e w3 ⟨a3, c3, a5, c5, rfl, hm3, hw3, hb3⟩; have HM3 := hide hm3; have HW3 := hide hw3; have HX_3 := hide (Below.next (unhide HX_2) hb3 (by first | exact Nat.le_refl _ | (have := unhide HBA; omega))); have Kp_3 := hide (keep_below (unhide Kp_2) hb3); clear HX_2 Kp_2; clear hb3 hm3 hw3 HI2 p0 p1 p2 pf0 pf1 pf2 pl))
  obtain ⟨W4, eW4, hBW4, k0_4, k1_4⟩ := two_new w3 (.cells #[.int .i64 r, .bool false, .slice a3 n c3] 24) (.cells #[.int .i64 0, .int .i64 0] 28)
  rw [eW4]
  clear eW4
  have hlp_m : w.heap.size < w3.heap.size := size_of (unhide Kp_3)
  (have HX_4 := hide (Below.next (unhide HX_3) hBW4 (by first | exact Nat.le_refl _ | (have := unhide HBA; omega))); have Kp_4 := hide (keep_below (unhide Kp_3) hBW4); have FM_4 := hide ((unhide HM3).below hBW4); have FI_4 := hide ((unhide HW3).below hBW4); clear HX_3 Kp_3 HM3 HW3)
  obtain ⟨M, eM⟩ : ∃ X, w3.heap.size = X := ⟨_, rfl⟩
  rw [eM] at k0_4 k1_4 hlp_m ⊢
  have Km_4 := hide k0_4
  have Ke_4 := hide k1_4
  clear eM hBW4 k0_4 k1_4
  obtain ⟨⟨p0, p1, p2⟩, ⟨pf0, pf1, pf2⟩, pl⟩ := block3 (unhide Kp_4)
  go_upto_region 7 with (first
      | (go_at_call 9; refine (unhide HOW _ (unhide HX_4)).mono ?_; rintro e w5 ⟨a6, c6, rfl, hi2, hb2⟩; have HI6 := hide hi2; have HX_5 := hide (Below.next (unhide HX_4) hb2 (by first | exact Nat.le_refl _ | (have := unhide HBA; omega))); have Kp_5 := hide (keep_below (unhide Kp_4) hb2); have Km_5 := hide (keep_below (unhide Km_4) hb2); have Ke_5 := hide (keep_below (unhide Ke_4) hb2); have FM_5 := hide ((unhide FM_4).below hb2); have FI_5 := hide ((unhide FI_4).below hb2); clear HX_4 Kp_4 Km_4 Ke_4 FM_4 FI_4; clear hb2 hi2)
      | (go_at_call 21; refine (unhide HDR _ _ ⟨_, rfl, unhide HI6⟩).mono ?_; rintro e w6 ⟨rfl, hb3⟩; have HX_6 := hide (Below.next (unhide HX_5) hb3 (by first | exact Nat.le_refl _ | (have := unhide HBA; omega))); have Kp_6 := hide (keep_below (unhide Kp_5) hb3); have Km_6 := hide (keep_below (unhide Km_5) hb3); have Ke_6 := hide (keep_below (unhide Ke_5) hb3); have FM_6 := hide ((unhide FM_5).below hb3); have FI_6 := hide ((unhide FI_5).below hb3); clear HX_5 Kp_5 Km_5 Ke_5 FM_5 FI_5; clear hb3 HI6 p0 p1 p2 pf0 pf1 pf2 pl))
  obtain ⟨W7, eW7, hBW7, k0_7, k1_7⟩ := two_new w6 (.cells #[.int .i64 0, .bool false, .slice none 0 0] 24) (.cells #[.int .i64 6, .int .i64 0] 28)
  rw [eW7]
  clear eW7
  have hlp_d : w.heap.size < w6.heap.size := size_of (unhide Kp_6)
  have hlm_d : M < w6.heap.size := size_of (unhide Km_6)
  have hle_d : M + 1 < w6.heap.size := size_of (unhide Ke_6)
  (have HX_7 := hide (Below.next (unhide HX_6) hBW7 (by first | exact Nat.le_refl _ | (have := unhide HBA; omega))); have Kp_7 := hide (keep_below (unhide Kp_6) hBW7); have Km_7 := hide (keep_below (unhide Km_6) hBW7); have Ke_7 := hide (keep_below (unhide Ke_6) hBW7); have FM_7 := hide ((unhide FM_6).below hBW7); have FI_7 := hide ((unhide FI_6).below hBW7); clear HX_6 Kp_6 Km_6 Ke_6 FM_6 FI_6)
  obtain ⟨D, eD⟩ : ∃ X, w6.heap.size = X := ⟨_, rfl⟩
  rw [eD] at k0_7 k1_7 hlp_d hlm_d hle_d ⊢
  have Kd_7 := hide k0_7
  have Kg_7 := hide k1_7
  clear eD hBW7 k0_7 k1_7
  obtain ⟨⟨p0, p1, p2⟩, ⟨pf0, pf1, pf2⟩, pl⟩ := block3 (unhide Kp_7)
  go_upto_region 8 with (go_at_call 12; refine (unhide HPF _ (unhide HX_7)).mono ?_; rintro e w8 ⟨rfl, hb8⟩; have HX_8 := hide (Below.next (unhide HX_7) hb8 (by first | exact Nat.le_refl _ | (have := unhide HBA; omega))); have Kp_8 := hide (keep_below (unhide Kp_7) hb8); have Km_8 := hide (keep_below (unhide Km_7) hb8); have Ke_8 := hide (keep_below (unhide Ke_7) hb8); have Kd_8 := hide (keep_below (unhide Kd_7) hb8); have Kg_8 := hide (keep_below (unhide Kg_7) hb8); have FM_8 := hide ((unhide FM_7).below hb8); have FI_8 := hide ((unhide FI_7).below hb8); clear HX_7 Kp_7 Km_7 Ke_7 Kd_7 Kg_7 FM_7 FI_7; clear hb8 p0 p1 p2 pf0 pf1 pf2 pl)
  have HX_9 := hide ((unhide HX_8).alloc (Nat.le_trans (show w.heap.size ≤ w.heap.size from Nat.le_refl _) (unhide HX_8).size) (.cells #[.int .i64 0, .int .i64 0] 28))
  have Kp_9 := hide (keep_alloc (unhide Kp_8) (.cells #[.int .i64 0, .int .i64 0] 28))
  have Km_9 := hide (keep_alloc (unhide Km_8) (.cells #[.int .i64 0, .int .i64 0] 28))
  have Ke_9 := hide (keep_alloc (unhide Ke_8) (.cells #[.int .i64 0, .int .i64 0] 28))
  have Kd_9 := hide (keep_alloc (unhide Kd_8) (.cells #[.int .i64 0, .int .i64 0] 28))
  have Kg_9 := hide (keep_alloc (unhide Kg_8) (.cells #[.int .i64 0, .int .i64 0] 28))
  have FM_9 := hide ((unhide FM_8).below ((Below.refl _ _).alloc (Nat.le_refl _) (.cells #[.int .i64 0, .int .i64 0] 28)))
  have FI_9 := hide ((unhide FI_8).below ((Below.refl _ _).alloc (Nat.le_refl _) (.cells #[.int .i64 0, .int .i64 0] 28)))
  have Kw_9 := hide (new_block w8 (.cells #[.int .i64 0, .int .i64 0] 28))
  have hlp_w : w.heap.size < w8.heap.size := size_of (unhide Kp_8)
  have hlm_w : M < w8.heap.size := size_of (unhide Km_8)
  have hle_w : M + 1 < w8.heap.size := size_of (unhide Ke_8)
  have hld_w : D < w8.heap.size := size_of (unhide Kd_8)
  have hlg_w : D + 1 < w8.heap.size := size_of (unhide Kg_8)
  obtain ⟨Z, eZ⟩ : ∃ X, w8.heap.size = X := ⟨_, rfl⟩
  obtain ⟨W9, eW9⟩ : ∃ X, w8.alloc (.cells #[.int .i64 0, .int .i64 0] 28) = X := ⟨_, rfl⟩
  rw [eZ, eW9] at Kw_9; rw [eW9] at HX_9 Kp_9 Km_9 Ke_9 Kd_9 Kg_9 FM_9 FI_9; rw [eZ] at hlp_w hlm_w hle_w hld_w hlg_w; rw [eZ, eW9]
  clear eZ eW9 HX_8 Kp_8 Km_8 Ke_8 Kd_8 Kg_8 FM_8 FI_8
  have HB9 := hide (Below.refl W9.heap.size W9)
  have hsp : w.heap.size < W9.heap.size := size_of (unhide Kp_9)
  have hsm : M < W9.heap.size := size_of (unhide Km_9)
  have hse : M + 1 < W9.heap.size := size_of (unhide Ke_9)
  have hsd : D < W9.heap.size := size_of (unhide Kd_9)
  have hsg : D + 1 < W9.heap.size := size_of (unhide Kg_9)
  have hsw : Z < W9.heap.size := size_of (unhide Kw_9)
  obtain ⟨⟨p0, p1, p2⟩, ⟨pf0, pf1, pf2⟩, pl⟩ := block3 (unhide Kp_9)
  obtain ⟨e0, e1, ef0, ef1, el⟩ := block2 (unhide Ke_9)
  obtain ⟨z0, z1, zf0, zf1, zl⟩ := block2 (unhide Kw_9)
  go_upto_region 12 with fail
  clear p0 p1 p2 pf0 pf1 pf2 pl e0 e1 ef0 ef1 el z0 z1 zf0 zf1 zl
  obtain ⟨q9, eq9⟩ : ∃ q, q = W9.heap.size := ⟨_, rfl⟩
  have hge : q9 ≤ W9.heap.size := by omega
  have HX_10 := hide ((unhide HB9).alloc (Nat.le_trans (show W9.heap.size ≤ W9.heap.size from Nat.le_refl _) (unhide HB9).size) (.cells #[.int .i64 r, .bool false, .slice a0 n c0] 24))
  have Kp_10 := hide (keep_alloc (unhide Kp_9) (.cells #[.int .i64 r, .bool false, .slice a0 n c0] 24))
  have Km_10 := hide (keep_alloc (unhide Km_9) (.cells #[.int .i64 r, .bool false, .slice a0 n c0] 24))
  have Ke_10 := hide (keep_alloc (unhide Ke_9) (.cells #[.int .i64 r, .bool false, .slice a0 n c0] 24))
  have Kd_10 := hide (keep_alloc (unhide Kd_9) (.cells #[.int .i64 r, .bool false, .slice a0 n c0] 24))
  have Kg_10 := hide (keep_alloc (unhide Kg_9) (.cells #[.int .i64 r, .bool false, .slice a0 n c0] 24))
  have Kw_10 := hide (keep_alloc (unhide Kw_9) (.cells #[.int .i64 r, .bool false, .slice a0 n c0] 24))
  have Kt_10 := hide (new_block W9 (.cells #[.int .i64 r, .bool false, .slice a0 n c0] 24))
  have hlp_t : w.heap.size < W9.heap.size := size_of (unhide Kp_9)
  have hlm_t : M < W9.heap.size := size_of (unhide Km_9)
  have hle_t : M + 1 < W9.heap.size := size_of (unhide Ke_9)
  have hld_t : D < W9.heap.size := size_of (unhide Kd_9)
  have hlg_t : D + 1 < W9.heap.size := size_of (unhide Kg_9)
  have hlw_t : Z < W9.heap.size := size_of (unhide Kw_9)
  obtain ⟨T, eT⟩ : ∃ X, W9.heap.size = X := ⟨_, rfl⟩
  obtain ⟨V1, eV1⟩ : ∃ X, W9.alloc (.cells #[.int .i64 r, .bool false, .slice a0 n c0] 24) = X := ⟨_, rfl⟩
  rw [eT, eV1] at Kt_10; rw [eV1] at HX_10 Kp_10 Km_10 Ke_10 Kd_10 Kg_10 Kw_10; rw [eT] at hlp_t hlm_t hle_t hld_t hlg_t hlw_t hge; rw [eT, eV1]
  clear eT eV1 HB9 Kp_9 Km_9 Ke_9 Kd_9 Kg_9 Kw_9
  have HBA : Hid (W9.heap.size ≤ T) := hide (by omega)
  clear hge eq9 q9
  obtain ⟨⟨p0, p1, p2⟩, ⟨pf0, pf1, pf2⟩, pl⟩ := block3 (unhide Kp_10)
  go_upto_region 20 with fail
  clear p0 p1 p2 pf0 pf1 pf2 pl
  have HT9 := hide (IsL.below (unhide HLL) (Below.next (unhide HX_9) (unhide HX_10) (Nat.le_refl _)))
  have HM9 := hide (IsL.below (unhide FM_9) (unhide HX_10))
  have HI9 := hide (IsL.below (unhide FI_9) (unhide HX_10))
  obtain ⟨⟨m0, m1, m2⟩, ⟨mf0, mf1, mf2⟩, ml⟩ := block3 (unhide Km_10)
  obtain ⟨⟨t0, t1, t2⟩, ⟨tf0, tf1, tf2⟩, tl⟩ := block3 (unhide Kt_10)
  go_upto_region 22 with (first
      | (go_at_call 13; refine (sameLock_any _ _ _ ⟨r, false, line⟩ ⟨_, rfl, (by have h9 := unhide HM9; exact h9)⟩ ⟨_, rfl, unhide HT9⟩ (by have h9 := unhide HN; show line.length ≤ maxLen; unfold maxLen; omega)).mono ?_; rintro e x1 ⟨rfl, hb8⟩; have HX_11 := hide (Below.next (unhide HX_10) hb8 (by first | exact Nat.le_refl _ | (have := unhide HBA; omega))); have Kp_11 := hide (keep_below (unhide Kp_10) hb8); have Km_11 := hide (keep_below (unhide Km_10) hb8); have Ke_11 := hide (keep_below (unhide Ke_10) hb8); have Kd_11 := hide (keep_below (unhide Kd_10) hb8); have Kg_11 := hide (keep_below (unhide Kg_10) hb8); have Kw_11 := hide (keep_below (unhide Kw_10) hb8); have Kt_11 := hide (keep_below (unhide Kt_10) hb8); have FI9_11 := hide ((unhide HI9).below hb8); clear HX_10 Kp_10 Km_10 Ke_10 Kd_10 Kg_10 Kw_10 Kt_10 HI9; clear hb8 m0 m1 m2 mf0 mf1 mf2 ml t0 t1 t2 tf0 tf1 tf2 tl)
      | (go_at_call 22; refine (ints_same _ _ _ [] (unhide FI9_11) (isl_nil _) (by decide)).mono ?_; rintro e x2 ⟨rfl, hb8⟩; have HX_12 := hide (Below.next (unhide HX_11) hb8 (by first | exact Nat.le_refl _ | (have := unhide HBA; omega))); have Kp_12 := hide (keep_below (unhide Kp_11) hb8); have Km_12 := hide (keep_below (unhide Km_11) hb8); have Ke_12 := hide (keep_below (unhide Ke_11) hb8); have Kd_12 := hide (keep_below (unhide Kd_11) hb8); have Kg_12 := hide (keep_below (unhide Kg_11) hb8); have Kw_12 := hide (keep_below (unhide Kw_11) hb8); have Kt_12 := hide (keep_below (unhide Kt_11) hb8); clear HX_11 Kp_11 Km_11 Ke_11 Kd_11 Kg_11 Kw_11 Kt_11; clear hb8))
  have HL9 := hide (IsL.below (unhide HLL) (Below.next (unhide HX_9) (unhide HX_12) (Nat.le_refl _)))
  obtain ⟨⟨p0, p1, p2⟩, ⟨pf0, pf1, pf2⟩, pl⟩ := block3 (unhide Kp_12)
  obtain ⟨z0, z1, zf0, zf1, zl⟩ := block2 (unhide Kw_12)
  go_upto_region 25 with (first
      | (go_at_call 15; refine (unhide HIN _ _ (unhide HL9)).mono ?_; rintro e y1 ⟨rfl, hb8⟩; have HX_13 := hide (Below.next (unhide HX_12) hb8 (by first | exact Nat.le_refl _ | (have := unhide HBA; omega))); have Kp_13 := hide (keep_below (unhide Kp_12) hb8); have Km_13 := hide (keep_below (unhide Km_12) hb8); have Ke_13 := hide (keep_below (unhide Ke_12) hb8); have Kd_13 := hide (keep_below (unhide Kd_12) hb8); have Kg_13 := hide (keep_below (unhide Kg_12) hb8); have Kw_13 := hide (keep_below (unhide Kw_12) hb8); have Kt_13 := hide (keep_below (unhide Kt_12) hb8); clear HX_12 Kp_12 Km_12 Ke_12 Kd_12 Kg_12 Kw_12 Kt_12; clear hb8 p0 p1 p2 pf0 pf1 pf2 pl z0 z1 zf0 zf1 zl; obtain ⟨z0, z1, zf0, zf1, zl⟩ := block2 (unhide Kw_13))
      | (go_at_call 14; refine (refF_any _ _ _).mono ?_; rintro e y2 ⟨rfl, hb8⟩; have HX_14 := hide (Below.next (unhide HX_13) hb8 (by first | exact Nat.le_refl _ | (have := unhide HBA; omega))); have Kp_14 := hide (keep_below (unhide Kp_13) hb8); have Km_14 := hide (keep_below (unhide Km_13) hb8); have Ke_14 := hide (keep_below (unhide Ke_13) hb8); have Kd_14 := hide (keep_below (unhide Kd_13) hb8); have Kg_14 := hide (keep_below (unhide Kg_13) hb8); have Kw_14 := hide (keep_below (unhide Kw_13) hb8); have Kt_14 := hide (keep_below (unhide Kt_13) hb8); clear HX_13 Kp_13 Km_13 Ke_13 Kd_13 Kg_13 Kw_13 Kt_13; clear hb8 z0 z1 zf0 zf1 zl; obtain ⟨z0, z1, zf0, zf1, zl⟩ := block2 (unhide Kw_14)))
  clear z0 z1 zf0 zf1 zl
  have HXB := hide (Below.next (unhide HX_9) (unhide HX_14) (Nat.le_refl _))
  clear HX_14
  have hwz : w.heap.size < Z := by omega
  have HX_15 := hide (put2_below (y0 := .int .i64 6) (y1 := .int .i64 0) (unhide HXB) (show w.heap.size ≤ Z by first | omega | (have := unhide HBA; omega)))
  have Kp_15 := hide ((put2_keep (y0 := .int .i64 6) (y1 := .int .i64 0) (show w.heap.size ≠ Z by omega)).trans (unhide Kp_14))
  have Km_15 := hide ((put2_keep (y0 := .int .i64 6) (y1 := .int .i64 0) (show M ≠ Z by omega)).trans (unhide Km_14))
  have Ke_15 := hide ((put2_keep (y0 := .int .i64 6) (y1 := .int .i64 0) (show M + 1 ≠ Z by omega)).trans (unhide Ke_14))
  have Kd_15 := hide ((put2_keep (y0 := .int .i64 6) (y1 := .int .i64 0) (show D ≠ Z by omega)).trans (unhide Kd_14))
  have Kg_15 := hide ((put2_keep (y0 := .int .i64 6) (y1 := .int .i64 0) (show D + 1 ≠ Z by omega)).trans (unhide Kg_14))
  have Kw_15 := hide (put2_new (y0 := .int .i64 6) (y1 := .int .i64 0) (unhide Kw_14))
  have Kt_15 := hide ((put2_keep (y0 := .int .i64 6) (y1 := .int .i64 0) (show T ≠ Z by omega)).trans (unhide Kt_14))
  obtain ⟨y3, ey3⟩ : ∃ X, put2 y2 (Z) (.int .i64 6) (.int .i64 0) = X := ⟨_, rfl⟩
  rw [ey3] at HX_15 Kp_15 Km_15 Ke_15 Kd_15 Kg_15 Kw_15 Kt_15
  have ey32 : ((y2).setCell ⟨Z, 0, none⟩ (.int .i64 6)).setCell ⟨Z, 1, none⟩ (.int .i64 0) = y3 := ey3
  rw [ey32]
  clear ey3 ey32 HXB Kp_14 Km_14 Ke_14 Kd_14 Kg_14 Kw_14 Kt_14
  obtain ⟨g0, g1, gf0, gf1, gl⟩ := block2 (unhide Kg_15)
  obtain ⟨z0, z1, zf0, zf1, zl⟩ := block2 (unhide Kw_15)
  obtain ⟨⟨d0, d1, d2⟩, ⟨df0, df1, df2⟩, dl⟩ := block3 (unhide Kd_15)
  go_wp2_with (go_at_call 16; refine (noLock_zero _).mono ?_; rintro e y4 ⟨rfl, hb8⟩; have HX_16 := hide (Below.next (unhide HX_15) hb8 (by first | exact Nat.le_refl _ | (have := unhide HBA; omega))); have Kp_16 := hide (keep_below (unhide Kp_15) hb8); have Km_16 := hide (keep_below (unhide Km_15) hb8); have Ke_16 := hide (keep_below (unhide Ke_15) hb8); have Kd_16 := hide (keep_below (unhide Kd_15) hb8); have Kg_16 := hide (keep_below (unhide Kg_15) hb8); have Kw_16 := hide (keep_below (unhide Kw_15) hb8); have Kt_16 := hide (keep_below (unhide Kt_15) hb8); clear HX_15 Kp_15 Km_15 Ke_15 Kd_15 Kg_15 Kw_15 Kt_15; clear hb8 g0 g1 gf0 gf1 gl z0 z1 zf0 zf1 zl d0 d1 d2 df0 df1 df2 dl)
  go_ret
  exact ⟨rfl, unhide HX_16⟩

set_option maxRecDepth 100000 in
set_option maxHeartbeats 4000000 in
theorem leaves_n1_out (w : World) (v : Value) (P : Lk) (x : Int) (h : IsLock w v P) (hn : P.line.length ≤ 700) (hf : (lockF P).1 = 0) (hb : ¬ 0 < P.readers) (hi : P.line.any (isOfP x) = false) :
    Calls Try.prog 4 #[v, .int .i64 x, .bool false] w fun e w' => e = .returned (.bool true) ∧ Below w.heap.size w w' := by
  have hnot : ∀ (x : Bool) (w : World), (Op.unary .not (.bool x)).run Try.prog w = .ok (.bool (!x)) w := fun _ _ => rfl
  have eF := lockF_zero hf
  obtain ⟨-, hr0, hr1, -, -, -⟩ := lockF_good hf
  have hgood := good_of hf
  have HIN : Hid (∀ W vl, IsL KP W vl P.line → Calls Try.prog 15 #[vl, .int .i64 x] W fun e w' => e = .returned (.int .i64 (-1)) ∧ Below W.heap.size W w') := fun W vl hW => (inLine_any W vl P.line x hW (by unfold maxLen; omega)).mono fun e w' ⟨h1, h2⟩ => by
    rcases h1 with ⟨rfl, -⟩ | ⟨j, rfl, h3, h4, -⟩
    · exact ⟨rfl, h2⟩
    · rw [(any_pAt _ _).2 ⟨j, h3, by simp [isOfP, h4]⟩] at hi; cases hi
  have HOW : Hid (∀ W, Below w.heap.size w W → Calls Try.prog 9 #[v] W fun e w' => ∃ a c, e = .returned (.agg #[.int .i64 P.readers, .bool P.writer, .slice a P.line.length c]) ∧ IsL KP w' (.slice a P.line.length c) P.line ∧ Below W.heap.size W w') := fun W hW => (ownLock_any W v P (h.below hW) (by omega)).mono fun e w' ⟨v', h1, h2, h3⟩ => by
    obtain ⟨a, c, rfl, h4⟩ := h2.form
    exact ⟨a, c, h1, h4.1, h3⟩
  have HPF : Hid (∀ W, Below w.heap.size w W → Calls Try.prog 12 #[v] W fun e w' => e = .returned (.agg #[.int .i64 0, .int .i64 0]) ∧ Below W.heap.size W w') := fun W hW => by
    have := lockFault_any W v P (h.below hW)
    rw [eF] at this
    exact this
  have HLV : Hid (∀ W v', IsLock W v' P → Calls Try.prog 20 #[v', .bool false] W fun e w' => ∃ a1 c1 a5 c5, e = .returned (.tuple #[.agg #[.int .i64 P.readers, .bool P.writer, .slice a1 P.line.length c1], .slice a5 0 c5, .bool true, .agg #[.int .i64 0, .int .i64 0]]) ∧ IsL KP w' (.slice a1 P.line.length c1) P.line ∧ IsL KI w' (.slice a5 0 c5) [] ∧ Below W.heap.size W w') := fun W v' hW => (leave_none1 W v' P hW hf hb).mono fun e w' ⟨v1, v2, h1, h2, h3, h4⟩ => by
    obtain ⟨a1, c1, rfl, h5⟩ := h2.form
    obtain ⟨a5, c5, rfl⟩ := h3.1.form
    exact ⟨a1, c1, a5, c5, h1, h5.1, h3.1, h4⟩
  have HDR : Hid (∀ W v', IsLock W v' P → Calls Try.prog 21 #[v', .int .i64 x] W fun e w' => e = .returned (.tuple #[.agg #[.int .i64 0, .bool false, .slice none 0 0], .slice none 0 0, .agg #[.int .i64 6, .int .i64 0]]) ∧ Below W.heap.size W w') := fun W v' hW => drop_none W v' P x hW hf hi
  obtain ⟨r, bw, line⟩ := P
  obtain ⟨a0, c0, rfl, hL⟩ := h.form
  simp only at hL hn HOW HPF HLV HDR HIN hr0 hr1 hb ⊢
  have HLL := hide hL
  obtain ⟨n, en⟩ : ∃ n, line.length = n := ⟨_, rfl⟩
  rw [en] at hn HOW HPF HLL HLV ⊢
  have HN := hide en
  clear h hL en eF hf hgood hi
  have xr : (r == 0) = true := by have h0 : r = 0 := (by omega); rw [h0]; rfl
  clear hb
  have g1 : ¬ (700 : Int) < (n : Int) := by omega
  obtain ⟨W0, e0⟩ : ∃ W, w.alloc (.cells #[.int .i64 r, .bool bw, .slice a0 n c0] 24) = W := ⟨_, rfl⟩
  have HX := hide ((Below.refl w.heap.size w).alloc (Nat.le_refl _) (.cells #[.int .i64 r, .bool bw, .slice a0 n c0] 24))
  have HP := hide (new_block w (.cells #[.int .i64 r, .bool bw, .slice a0 n c0] 24))
  rw [e0] at HX HP
  have HE := hide e0
  clear e0
  go_enter Try.func4, Try.ntmps4
  go_upto_region 1 with fail
  rw [unhide HE]
  clear HE
  obtain ⟨⟨p0, p1, p2⟩, ⟨pf0, pf1, pf2⟩, pl⟩ := block3 (unhide HP)
  go_upto_region 6 with (first
      | (go_at_call 8; refine (begun_any _).mono ?_; rintro e w1 ⟨rfl, hb1⟩; have HX_1 := hide (Below.next (unhide HX) hb1 (by first | exact Nat.le_refl _ | (have := unhide HBA; omega))); have Kp_1 := hide (keep_below (unhide HP) hb1); clear HX HP; clear hb1 p0 p1 p2 pf0 pf1 pf2 pl; obtain ⟨⟨p0, p1, p2⟩, ⟨pf0, pf1, pf2⟩, pl⟩ := block3 (unhide Kp_1))
      | (go_at_call 9; refine (unhide HOW _ (unhide HX_1)).mono ?_; rintro e w2 ⟨a2, c2, rfl, hi2, hb2⟩; have HI2 := hide hi2; have HX_2 := hide (Below.next (unhide HX_1) hb2 (by first | exact Nat.le_refl _ | (have := unhide HBA; omega))); have Kp_2 := hide (keep_below (unhide Kp_1) hb2); clear HX_1 Kp_1; clear hb2 hi2)
      | (go_at_call 20; refine (unhide HLV _ _ ⟨_, rfl, unhide HI2⟩).mono ?_; rintro e w3 ⟨a3, c3, a5, c5, rfl, hm3, hw3, hb3⟩; have HM3 := hide hm3; have HW3 := hide hw3; have HX_3 := hide (Below.next (unhide HX_2) hb3 (by first | exact Nat.le_refl _ | (have := unhide HBA; omega))); have Kp_3 := hide (keep_below (unhide Kp_2) hb3); clear HX_2 Kp_2; clear hb3 hm3 hw3 HI2 p0 p1 p2 pf0 pf1 pf2 pl))
  obtain ⟨W4, eW4, hBW4, k0_4, k1_4⟩ := two_new w3 (.cells #[.int .i64 r, .bool bw, .slice a3 n c3] 24) (.cells #[.int .i64 0, .int .i64 0] 28)
  rw [eW4]
  clear eW4
  have hlp_m : w.heap.size < w3.heap.size := size_of (unhide Kp_3)
  (have HX_4 := hide (Below.next (unhide HX_3) hBW4 (by first | exact Nat.le_refl _ | (have := unhide HBA; omega))); have Kp_4 := hide (keep_below (unhide Kp_3) hBW4); have FM_4 := hide ((unhide HM3).below hBW4); have FI_4 := hide ((unhide HW3).below hBW4); clear HX_3 Kp_3 HM3 HW3)
  obtain ⟨M, eM⟩ : ∃ X, w3.heap.size = X := ⟨_, rfl⟩
  rw [eM] at k0_4 k1_4 hlp_m ⊢
  have Km_4 := hide k0_4
  have Ke_4 := hide k1_4
  clear eM hBW4 k0_4 k1_4
  obtain ⟨⟨p0, p1, p2⟩, ⟨pf0, pf1, pf2⟩, pl⟩ := block3 (unhide Kp_4)
  go_upto_region 7 with (first
      | (go_at_call 9; refine (unhide HOW _ (unhide HX_4)).mono ?_; rintro e w5 ⟨a6, c6, rfl, hi2, hb2⟩; have HI6 := hide hi2; have HX_5 := hide (Below.next (unhide HX_4) hb2 (by first | exact Nat.le_refl _ | (have := unhide HBA; omega))); have Kp_5 := hide (keep_below (unhide Kp_4) hb2); have Km_5 := hide (keep_below (unhide Km_4) hb2); have Ke_5 := hide (keep_below (unhide Ke_4) hb2); have FM_5 := hide ((unhide FM_4).below hb2); have FI_5 := hide ((unhide FI_4).below hb2); clear HX_4 Kp_4 Km_4 Ke_4 FM_4 FI_4; clear hb2 hi2)
      | (go_at_call 21; refine (unhide HDR _ _ ⟨_, rfl, unhide HI6⟩).mono ?_; rintro e w6 ⟨rfl, hb3⟩; have HX_6 := hide (Below.next (unhide HX_5) hb3 (by first | exact Nat.le_refl _ | (have := unhide HBA; omega))); have Kp_6 := hide (keep_below (unhide Kp_5) hb3); have Km_6 := hide (keep_below (unhide Km_5) hb3); have Ke_6 := hide (keep_below (unhide Ke_5) hb3); have FM_6 := hide ((unhide FM_5).below hb3); have FI_6 := hide ((unhide FI_5).below hb3); clear HX_5 Kp_5 Km_5 Ke_5 FM_5 FI_5; clear hb3 HI6 p0 p1 p2 pf0 pf1 pf2 pl))
  obtain ⟨W7, eW7, hBW7, k0_7, k1_7⟩ := two_new w6 (.cells #[.int .i64 0, .bool false, .slice none 0 0] 24) (.cells #[.int .i64 6, .int .i64 0] 28)
  rw [eW7]
  clear eW7
  have hlp_d : w.heap.size < w6.heap.size := size_of (unhide Kp_6)
  have hlm_d : M < w6.heap.size := size_of (unhide Km_6)
  have hle_d : M + 1 < w6.heap.size := size_of (unhide Ke_6)
  (have HX_7 := hide (Below.next (unhide HX_6) hBW7 (by first | exact Nat.le_refl _ | (have := unhide HBA; omega))); have Kp_7 := hide (keep_below (unhide Kp_6) hBW7); have Km_7 := hide (keep_below (unhide Km_6) hBW7); have Ke_7 := hide (keep_below (unhide Ke_6) hBW7); have FM_7 := hide ((unhide FM_6).below hBW7); have FI_7 := hide ((unhide FI_6).below hBW7); clear HX_6 Kp_6 Km_6 Ke_6 FM_6 FI_6)
  obtain ⟨D, eD⟩ : ∃ X, w6.heap.size = X := ⟨_, rfl⟩
  rw [eD] at k0_7 k1_7 hlp_d hlm_d hle_d ⊢
  have Kd_7 := hide k0_7
  have Kg_7 := hide k1_7
  clear eD hBW7 k0_7 k1_7
  obtain ⟨⟨p0, p1, p2⟩, ⟨pf0, pf1, pf2⟩, pl⟩ := block3 (unhide Kp_7)
  go_upto_region 8 with (go_at_call 12; refine (unhide HPF _ (unhide HX_7)).mono ?_; rintro e w8 ⟨rfl, hb8⟩; have HX_8 := hide (Below.next (unhide HX_7) hb8 (by first | exact Nat.le_refl _ | (have := unhide HBA; omega))); have Kp_8 := hide (keep_below (unhide Kp_7) hb8); have Km_8 := hide (keep_below (unhide Km_7) hb8); have Ke_8 := hide (keep_below (unhide Ke_7) hb8); have Kd_8 := hide (keep_below (unhide Kd_7) hb8); have Kg_8 := hide (keep_below (unhide Kg_7) hb8); have FM_8 := hide ((unhide FM_7).below hb8); have FI_8 := hide ((unhide FI_7).below hb8); clear HX_7 Kp_7 Km_7 Ke_7 Kd_7 Kg_7 FM_7 FI_7; clear hb8 p0 p1 p2 pf0 pf1 pf2 pl)
  have HX_9 := hide ((unhide HX_8).alloc (Nat.le_trans (show w.heap.size ≤ w.heap.size from Nat.le_refl _) (unhide HX_8).size) (.cells #[.int .i64 0, .int .i64 0] 28))
  have Kp_9 := hide (keep_alloc (unhide Kp_8) (.cells #[.int .i64 0, .int .i64 0] 28))
  have Km_9 := hide (keep_alloc (unhide Km_8) (.cells #[.int .i64 0, .int .i64 0] 28))
  have Ke_9 := hide (keep_alloc (unhide Ke_8) (.cells #[.int .i64 0, .int .i64 0] 28))
  have Kd_9 := hide (keep_alloc (unhide Kd_8) (.cells #[.int .i64 0, .int .i64 0] 28))
  have Kg_9 := hide (keep_alloc (unhide Kg_8) (.cells #[.int .i64 0, .int .i64 0] 28))
  have FM_9 := hide ((unhide FM_8).below ((Below.refl _ _).alloc (Nat.le_refl _) (.cells #[.int .i64 0, .int .i64 0] 28)))
  have FI_9 := hide ((unhide FI_8).below ((Below.refl _ _).alloc (Nat.le_refl _) (.cells #[.int .i64 0, .int .i64 0] 28)))
  have Kw_9 := hide (new_block w8 (.cells #[.int .i64 0, .int .i64 0] 28))
  have hlp_w : w.heap.size < w8.heap.size := size_of (unhide Kp_8)
  have hlm_w : M < w8.heap.size := size_of (unhide Km_8)
  have hle_w : M + 1 < w8.heap.size := size_of (unhide Ke_8)
  have hld_w : D < w8.heap.size := size_of (unhide Kd_8)
  have hlg_w : D + 1 < w8.heap.size := size_of (unhide Kg_8)
  obtain ⟨Z, eZ⟩ : ∃ X, w8.heap.size = X := ⟨_, rfl⟩
  obtain ⟨W9, eW9⟩ : ∃ X, w8.alloc (.cells #[.int .i64 0, .int .i64 0] 28) = X := ⟨_, rfl⟩
  rw [eZ, eW9] at Kw_9; rw [eW9] at HX_9 Kp_9 Km_9 Ke_9 Kd_9 Kg_9 FM_9 FI_9; rw [eZ] at hlp_w hlm_w hle_w hld_w hlg_w; rw [eZ, eW9]
  clear eZ eW9 HX_8 Kp_8 Km_8 Ke_8 Kd_8 Kg_8 FM_8 FI_8
  have HB9 := hide (Below.refl W9.heap.size W9)
  have hsp : w.heap.size < W9.heap.size := size_of (unhide Kp_9)
  have hsm : M < W9.heap.size := size_of (unhide Km_9)
  have hse : M + 1 < W9.heap.size := size_of (unhide Ke_9)
  have hsd : D < W9.heap.size := size_of (unhide Kd_9)
  have hsg : D + 1 < W9.heap.size := size_of (unhide Kg_9)
  have hsw : Z < W9.heap.size := size_of (unhide Kw_9)
  obtain ⟨⟨p0, p1, p2⟩, ⟨pf0, pf1, pf2⟩, pl⟩ := block3 (unhide Kp_9)
  obtain ⟨e0, e1, ef0, ef1, el⟩ := block2 (unhide Ke_9)
  obtain ⟨z0, z1, zf0, zf1, zl⟩ := block2 (unhide Kw_9)
  go_upto_region 12 with fail
  clear p0 p1 p2 pf0 pf1 pf2 pl e0 e1 ef0 ef1 el z0 z1 zf0 zf1 zl
  obtain ⟨q9, eq9⟩ : ∃ q, q = W9.heap.size := ⟨_, rfl⟩
  have hge : q9 ≤ W9.heap.size := by omega
  have HX_10 := hide ((unhide HB9).alloc (Nat.le_trans (show W9.heap.size ≤ W9.heap.size from Nat.le_refl _) (unhide HB9).size) (.cells #[.int .i64 r, .bool bw, .slice a0 n c0] 24))
  have Kp_10 := hide (keep_alloc (unhide Kp_9) (.cells #[.int .i64 r, .bool bw, .slice a0 n c0] 24))
  have Km_10 := hide (keep_alloc (unhide Km_9) (.cells #[.int .i64 r, .bool bw, .slice a0 n c0] 24))
  have Ke_10 := hide (keep_alloc (unhide Ke_9) (.cells #[.int .i64 r, .bool bw, .slice a0 n c0] 24))
  have Kd_10 := hide (keep_alloc (unhide Kd_9) (.cells #[.int .i64 r, .bool bw, .slice a0 n c0] 24))
  have Kg_10 := hide (keep_alloc (unhide Kg_9) (.cells #[.int .i64 r, .bool bw, .slice a0 n c0] 24))
  have Kw_10 := hide (keep_alloc (unhide Kw_9) (.cells #[.int .i64 r, .bool bw, .slice a0 n c0] 24))
  have Kt_10 := hide (new_block W9 (.cells #[.int .i64 r, .bool bw, .slice a0 n c0] 24))
  have hlp_t : w.heap.size < W9.heap.size := size_of (unhide Kp_9)
  have hlm_t : M < W9.heap.size := size_of (unhide Km_9)
  have hle_t : M + 1 < W9.heap.size := size_of (unhide Ke_9)
  have hld_t : D < W9.heap.size := size_of (unhide Kd_9)
  have hlg_t : D + 1 < W9.heap.size := size_of (unhide Kg_9)
  have hlw_t : Z < W9.heap.size := size_of (unhide Kw_9)
  obtain ⟨T, eT⟩ : ∃ X, W9.heap.size = X := ⟨_, rfl⟩
  obtain ⟨V1, eV1⟩ : ∃ X, W9.alloc (.cells #[.int .i64 r, .bool bw, .slice a0 n c0] 24) = X := ⟨_, rfl⟩
  rw [eT, eV1] at Kt_10; rw [eV1] at HX_10 Kp_10 Km_10 Ke_10 Kd_10 Kg_10 Kw_10; rw [eT] at hlp_t hlm_t hle_t hld_t hlg_t hlw_t hge; rw [eT, eV1]
  clear eT eV1 HB9 Kp_9 Km_9 Ke_9 Kd_9 Kg_9 Kw_9
  have HBA : Hid (W9.heap.size ≤ T) := hide (by omega)
  clear hge eq9 q9
  obtain ⟨⟨p0, p1, p2⟩, ⟨pf0, pf1, pf2⟩, pl⟩ := block3 (unhide Kp_10)
  go_upto_region 20 with fail
  clear p0 p1 p2 pf0 pf1 pf2 pl
  have HT9 := hide (IsL.below (unhide HLL) (Below.next (unhide HX_9) (unhide HX_10) (Nat.le_refl _)))
  have HM9 := hide (IsL.below (unhide FM_9) (unhide HX_10))
  have HI9 := hide (IsL.below (unhide FI_9) (unhide HX_10))
  obtain ⟨⟨m0, m1, m2⟩, ⟨mf0, mf1, mf2⟩, ml⟩ := block3 (unhide Km_10)
  obtain ⟨⟨t0, t1, t2⟩, ⟨tf0, tf1, tf2⟩, tl⟩ := block3 (unhide Kt_10)
  go_upto_region 22 with (first
      | (go_at_call 13; refine (sameLock_any _ _ _ ⟨r, bw, line⟩ ⟨_, rfl, (by have h9 := unhide HM9; exact h9)⟩ ⟨_, rfl, unhide HT9⟩ (by have h9 := unhide HN; show line.length ≤ maxLen; unfold maxLen; omega)).mono ?_; rintro e x1 ⟨rfl, hb8⟩; have HX_11 := hide (Below.next (unhide HX_10) hb8 (by first | exact Nat.le_refl _ | (have := unhide HBA; omega))); have Kp_11 := hide (keep_below (unhide Kp_10) hb8); have Km_11 := hide (keep_below (unhide Km_10) hb8); have Ke_11 := hide (keep_below (unhide Ke_10) hb8); have Kd_11 := hide (keep_below (unhide Kd_10) hb8); have Kg_11 := hide (keep_below (unhide Kg_10) hb8); have Kw_11 := hide (keep_below (unhide Kw_10) hb8); have Kt_11 := hide (keep_below (unhide Kt_10) hb8); have FI9_11 := hide ((unhide HI9).below hb8); clear HX_10 Kp_10 Km_10 Ke_10 Kd_10 Kg_10 Kw_10 Kt_10 HI9; clear hb8 m0 m1 m2 mf0 mf1 mf2 ml t0 t1 t2 tf0 tf1 tf2 tl)
      | (go_at_call 22; refine (ints_same _ _ _ [] (unhide FI9_11) (isl_nil _) (by decide)).mono ?_; rintro e x2 ⟨rfl, hb8⟩; have HX_12 := hide (Below.next (unhide HX_11) hb8 (by first | exact Nat.le_refl _ | (have := unhide HBA; omega))); have Kp_12 := hide (keep_below (unhide Kp_11) hb8); have Km_12 := hide (keep_below (unhide Km_11) hb8); have Ke_12 := hide (keep_below (unhide Ke_11) hb8); have Kd_12 := hide (keep_below (unhide Kd_11) hb8); have Kg_12 := hide (keep_below (unhide Kg_11) hb8); have Kw_12 := hide (keep_below (unhide Kw_11) hb8); have Kt_12 := hide (keep_below (unhide Kt_11) hb8); clear HX_11 Kp_11 Km_11 Ke_11 Kd_11 Kg_11 Kw_11 Kt_11; clear hb8))
  have HL9 := hide (IsL.below (unhide HLL) (Below.next (unhide HX_9) (unhide HX_12) (Nat.le_refl _)))
  obtain ⟨⟨p0, p1, p2⟩, ⟨pf0, pf1, pf2⟩, pl⟩ := block3 (unhide Kp_12)
  obtain ⟨z0, z1, zf0, zf1, zl⟩ := block2 (unhide Kw_12)
  go_upto_region 25 with (first
      | (go_at_call 15; refine (unhide HIN _ _ (unhide HL9)).mono ?_; rintro e y1 ⟨rfl, hb8⟩; have HX_13 := hide (Below.next (unhide HX_12) hb8 (by first | exact Nat.le_refl _ | (have := unhide HBA; omega))); have Kp_13 := hide (keep_below (unhide Kp_12) hb8); have Km_13 := hide (keep_below (unhide Km_12) hb8); have Ke_13 := hide (keep_below (unhide Ke_12) hb8); have Kd_13 := hide (keep_below (unhide Kd_12) hb8); have Kg_13 := hide (keep_below (unhide Kg_12) hb8); have Kw_13 := hide (keep_below (unhide Kw_12) hb8); have Kt_13 := hide (keep_below (unhide Kt_12) hb8); clear HX_12 Kp_12 Km_12 Ke_12 Kd_12 Kg_12 Kw_12 Kt_12; clear hb8 p0 p1 p2 pf0 pf1 pf2 pl z0 z1 zf0 zf1 zl; obtain ⟨z0, z1, zf0, zf1, zl⟩ := block2 (unhide Kw_13))
      | (go_at_call 14; refine (refF_any _ _ _).mono ?_; rintro e y2 ⟨rfl, hb8⟩; have HX_14 := hide (Below.next (unhide HX_13) hb8 (by first | exact Nat.le_refl _ | (have := unhide HBA; omega))); have Kp_14 := hide (keep_below (unhide Kp_13) hb8); have Km_14 := hide (keep_below (unhide Km_13) hb8); have Ke_14 := hide (keep_below (unhide Ke_13) hb8); have Kd_14 := hide (keep_below (unhide Kd_13) hb8); have Kg_14 := hide (keep_below (unhide Kg_13) hb8); have Kw_14 := hide (keep_below (unhide Kw_13) hb8); have Kt_14 := hide (keep_below (unhide Kt_13) hb8); clear HX_13 Kp_13 Km_13 Ke_13 Kd_13 Kg_13 Kw_13 Kt_13; clear hb8 z0 z1 zf0 zf1 zl; obtain ⟨z0, z1, zf0, zf1, zl⟩ := block2 (unhide Kw_14)))
  clear z0 z1 zf0 zf1 zl
  have HXB := hide (Below.next (unhide HX_9) (unhide HX_14) (Nat.le_refl _))
  clear HX_14
  have hwz : w.heap.size < Z := by omega
  have HX_15 := hide (put2_below (y0 := .int .i64 6) (y1 := .int .i64 0) (unhide HXB) (show w.heap.size ≤ Z by first | omega | (have := unhide HBA; omega)))
  have Kp_15 := hide ((put2_keep (y0 := .int .i64 6) (y1 := .int .i64 0) (show w.heap.size ≠ Z by omega)).trans (unhide Kp_14))
  have Km_15 := hide ((put2_keep (y0 := .int .i64 6) (y1 := .int .i64 0) (show M ≠ Z by omega)).trans (unhide Km_14))
  have Ke_15 := hide ((put2_keep (y0 := .int .i64 6) (y1 := .int .i64 0) (show M + 1 ≠ Z by omega)).trans (unhide Ke_14))
  have Kd_15 := hide ((put2_keep (y0 := .int .i64 6) (y1 := .int .i64 0) (show D ≠ Z by omega)).trans (unhide Kd_14))
  have Kg_15 := hide ((put2_keep (y0 := .int .i64 6) (y1 := .int .i64 0) (show D + 1 ≠ Z by omega)).trans (unhide Kg_14))
  have Kw_15 := hide (put2_new (y0 := .int .i64 6) (y1 := .int .i64 0) (unhide Kw_14))
  have Kt_15 := hide ((put2_keep (y0 := .int .i64 6) (y1 := .int .i64 0) (show T ≠ Z by omega)).trans (unhide Kt_14))
  obtain ⟨y3, ey3⟩ : ∃ X, put2 y2 (Z) (.int .i64 6) (.int .i64 0) = X := ⟨_, rfl⟩
  rw [ey3] at HX_15 Kp_15 Km_15 Ke_15 Kd_15 Kg_15 Kw_15 Kt_15
  have ey32 : ((y2).setCell ⟨Z, 0, none⟩ (.int .i64 6)).setCell ⟨Z, 1, none⟩ (.int .i64 0) = y3 := ey3
  rw [ey32]
  clear ey3 ey32 HXB Kp_14 Km_14 Ke_14 Kd_14 Kg_14 Kw_14 Kt_14
  obtain ⟨g0, g1, gf0, gf1, gl⟩ := block2 (unhide Kg_15)
  obtain ⟨z0, z1, zf0, zf1, zl⟩ := block2 (unhide Kw_15)
  obtain ⟨⟨d0, d1, d2⟩, ⟨df0, df1, df2⟩, dl⟩ := block3 (unhide Kd_15)
  go_wp2_with (go_at_call 16; refine (noLock_zero _).mono ?_; rintro e y4 ⟨rfl, hb8⟩; have HX_16 := hide (Below.next (unhide HX_15) hb8 (by first | exact Nat.le_refl _ | (have := unhide HBA; omega))); have Kp_16 := hide (keep_below (unhide Kp_15) hb8); have Km_16 := hide (keep_below (unhide Km_15) hb8); have Ke_16 := hide (keep_below (unhide Ke_15) hb8); have Kd_16 := hide (keep_below (unhide Kd_15) hb8); have Kg_16 := hide (keep_below (unhide Kg_15) hb8); have Kw_16 := hide (keep_below (unhide Kw_15) hb8); have Kt_16 := hide (keep_below (unhide Kt_15) hb8); clear HX_15 Kp_15 Km_15 Ke_15 Kd_15 Kg_15 Kw_15 Kt_15; clear hb8 g0 g1 gf0 gf1 gl z0 z1 zf0 zf1 zl d0 d1 d2 df0 df1 df2 dl)
  go_ret
  exact ⟨rfl, unhide HX_16⟩
end Go.Proofs.Ytdpcbmekplcllaa
