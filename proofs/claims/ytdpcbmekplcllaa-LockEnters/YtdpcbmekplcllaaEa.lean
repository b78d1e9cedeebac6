/-
  taskmilllaw.LockEnters, where something is wrong.
-/
import Derived.Test.YtdpcbmekplcllaaRb
import Derived.Test.YtdpcbmekplcllaaQ
import Derived.Test.YtdpcbmekplcllaaBe
namespace Go.Proofs.Ytdpcbmekplcllaa
open Go.RowKit

set_option maxRecDepth 100000 in
set_option maxHeartbeats 4000000 in
theorem enters_A (w : World) (v : Value) (P : Lk) (x : Int) (wt try_ : Bool) (h : IsLock w v P) (hn : P.line.length ≤ 6000) (hn2 : P.line.length ≤ 700 ∨ 4999 ≤ P.line.length) (hf : (lockF P).1 ≠ 0) :
    Calls Try.prog 3 #[v, .int .i64 x, .bool wt, .bool try_] w fun e w' => e = .returned (.bool true) ∧ Below w.heap.size w w' := by
  have hnot : ∀ (x : Bool) (w : World), (Op.unary .not (.bool x)).run Try.prog w = .ok (.bool (!x)) w := fun _ _ => rfl
  obtain ⟨⟨F0, F1⟩, eF⟩ : ∃ F, lockF P = F := ⟨_, rfl⟩
  have eG : enterF P x = (F0, F1) := by unfold enterF; rw [if_pos hf, eF]
  rw [eF] at hf
  simp only at hf
  have HOW : Hid (∀ W, Below w.heap.size w W → Calls Try.prog 9 #[v] W fun e w' => ∃ a c, e = .returned (.agg #[.int .i64 P.readers, .bool P.writer, .slice a P.line.length c]) ∧ IsL KP w' (.slice a P.line.length c) P.line ∧ Below W.heap.size W w') := fun W hW => (ownLock_any W v P (h.below hW) (by omega)).mono fun e w' ⟨v', h1, h2, h3⟩ => by
    obtain ⟨a, c, rfl, h4⟩ := h2.form
    exact ⟨a, c, h1, h4.1, h3⟩
  have HCK : Hid (∀ W v', IsLock W v' P → Calls Try.prog 10 #[v'] W fun e w' => e = .returned (.agg #[.int .i64 F0, .int .i64 F1]) ∧ Below W.heap.size W w') := fun W v' hW => by
    have := check_any W v' P hW (by omega)
    rw [eF] at this
    exact this
  have HPF : Hid (∀ W, Below w.heap.size w W → Calls Try.prog 12 #[v] W fun e w' => e = .returned (.agg #[.int .i64 F0, .int .i64 F1]) ∧ Below W.heap.size W w') := fun W hW => by
    have := lockFault_any W v P (h.below hW)
    rw [eF] at this
    exact this
  have HSP : Hid (∀ W v', Below w.heap.size w W → IsLock W v' P → Calls Try.prog 13 #[v', v] W fun e w' => e = .returned (.bool true) ∧ Below W.heap.size W w') := fun W v' hW hv' => sameLock_any W v' v P hv' (h.below hW) (by unfold maxLen; omega)
  have HEN : Hid (∀ W v', IsLock W v' P → Calls Try.prog 11 #[v', .int .i64 x, .bool wt, .bool try_] W fun e w' => e = .returned (.tuple #[.agg #[.int .i64 0, .bool false, .slice none 0 0], .bool false, .agg #[.int .i64 F0, .int .i64 F1]]) ∧ Below W.heap.size W w') := fun W v' hW => by
    have := enter_fault W v' P x wt try_ hW (by omega) (by rw [eG]; exact hf)
    rw [eG] at this
    exact this
  obtain ⟨r, bw, line⟩ := P
  obtain ⟨a0, c0, rfl, hL⟩ := h.form
  simp only at hL hn hn2 HOW HCK HPF HSP HEN ⊢
  obtain ⟨n, en⟩ : ∃ n, line.length = n := ⟨_, rfl⟩
  rw [en] at hn hn2 HOW HPF HSP ⊢
  clear h hL en eF eG
  have xf : (F0 == 0) = false := by simpa using hf
  have xg : (F0 != 0) = true := by simpa using hf
  have xh : (F0 == F0) = true := by simp
  have xi : (F1 == F1) = true := by simp
  clear hf
  have g1 : ¬ (6000 : Int) < (n : Int) := by omega
  have hq : (¬ (700 : Int) < (n : Int) ∧ True) ∨ ((700 : Int) < (n : Int) ∧ ¬ (n : Int) < 4999) := by
    rcases hn2 with h | h
    · exact Or.inl ⟨by omega, trivial⟩
    · exact Or.inr ⟨by omega, by omega⟩
  clear hn2
  obtain ⟨W0, e0⟩ : ∃ W, w.alloc (.cells #[.int .i64 r, .bool bw, .slice a0 n c0] 24) = W := ⟨_, rfl⟩
  have HX := hide ((Below.refl w.heap.size w).alloc (Nat.le_refl _) (.cells #[.int .i64 r, .bool bw, .slice a0 n c0] 24))
  have HP := hide (new_block w (.cells #[.int .i64 r, .bool bw, .slice a0 n c0] 24))
  rw [e0] at HX HP
  have HE := hide e0
  clear e0
  rcases hq with ⟨g2, g3⟩ | ⟨g2, g3⟩
  all_goals
    go_enter Try.func3, Try.ntmps3
    go_upto_region 1 with fail
    rw [unhide HE]
    clear HE
    obtain ⟨⟨p0, p1, p2⟩, ⟨pf0, pf1, pf2⟩, pl⟩ := block3 (unhide HP)
    go_upto_region 6 with (first
        | (go_at_call 8; refine (begun_any _).mono ?_; rintro e w1 ⟨rfl, hb1⟩; have HX_1 := hide (Below.next (unhide HX) hb1 (by first | exact Nat.le_refl _ | (have := unhide HBA; omega))); have Kp_1 := hide (keep_below (unhide HP) hb1); clear HX HP; clear hb1 p0 p1 p2 pf0 pf1 pf2 pl; obtain ⟨⟨p0, p1, p2⟩, ⟨pf0, pf1, pf2⟩, pl⟩ := block3 (unhide Kp_1))
        | (go_at_call 9; refine (unhide HOW _ (unhide HX_1)).mono ?_; rintro e w2 ⟨a2, c2, rfl, hi2, hb2⟩; have HI2 := hide hi2; have HX_2 := hide (Below.next (unhide HX_1) hb2 (by first | exact Nat.le_refl _ | (have := unhide HBA; omega))); have Kp_2 := hide (keep_below (unhide Kp_1) hb2); clear HX_1 Kp_1; clear hb2 hi2 p0 p1 p2 pf0 pf1 pf2 pl))
    have HX_3 := hide ((unhide HX_2).alloc (Nat.le_trans (show w.heap.size ≤ w.heap.size from Nat.le_refl _) (unhide HX_2).size) (.cells #[.int .i64 r, .bool bw, .slice a2 n c2] 24))
    have Kp_3 := hide (keep_alloc (unhide Kp_2) (.cells #[.int .i64 r, .bool bw, .slice a2 n c2] 24))
    have FX_3 := hide ((unhide HI2).below ((Below.refl _ _).alloc (Nat.le_refl _) (.cells #[.int .i64 r, .bool bw, .slice a2 n c2] 24)))
    have Kx_3 := hide (new_block w2 (.cells #[.int .i64 r, .bool bw, .slice a2 n c2] 24))
    have hlp_x : w.heap.size < w2.heap.size := size_of (unhide Kp_2)
    obtain ⟨X, eX⟩ : ∃ X, w2.heap.size = X := ⟨_, rfl⟩
    obtain ⟨W3, eW3⟩ : ∃ X, w2.alloc (.cells #[.int .i64 r, .bool bw, .slice a2 n c2] 24) = X := ⟨_, rfl⟩
    rw [eX, eW3] at Kx_3; rw [eW3] at HX_3 Kp_3 FX_3; rw [eX] at hlp_x; rw [eX, eW3]
    clear eX eW3 HX_2 Kp_2 HI2
    obtain ⟨⟨x0, x1, x2⟩, ⟨xf0, xf1, xf2⟩, xl⟩ := block3 (unhide Kx_3)
    go_upto_region 7 with (go_at_call 10; refine (unhide HCK _ _ ⟨_, rfl, unhide FX_3⟩).mono ?_; rintro e w4 ⟨rfl, hb4⟩; have HX_4 := hide (Below.next (unhide HX_3) hb4 (by first | exact Nat.le_refl _ | (have := unhide HBA; omega))); have Kp_4 := hide (keep_below (unhide Kp_3) hb4); have Kx_4 := hide (keep_below (unhide Kx_3) hb4); have FX_4 := hide ((unhide FX_3).below hb4); clear HX_3 Kp_3 Kx_3 FX_3; clear hb4 x0 x1 x2 xf0 xf1 xf2 xl)
    have HX_5 := hide ((unhide HX_4).alloc (Nat.le_trans (show w.heap.size ≤ w.heap.size from Nat.le_refl _) (unhide HX_4).size) (.cells #[.int .i64 F0, .int .i64 F1] 28))
    have Kp_5 := hide (keep_alloc (unhide Kp_4) (.cells #[.int .i64 F0, .int .i64 F1] 28))
    have Kx_5 := hide (keep_alloc (unhide Kx_4) (.cells #[.int .i64 F0, .int .i64 F1] 28))
    have FX_5 := hide ((unhide FX_4).below ((Below.refl _ _).alloc (Nat.le_refl _) (.cells #[.int .i64 F0, .int .i64 F1] 28)))
    have Kc_5 := hide (new_block w4 (.cells #[.int .i64 F0, .int .i64 F1] 28))
    have hlp_c : w.heap.size < w4.heap.size := size_of (unhide Kp_4)
    have hlx_c : X < w4.heap.size := size_of (unhide Kx_4)
    obtain ⟨C, eC⟩ : ∃ X, w4.heap.size = X := ⟨_, rfl⟩
    obtain ⟨W5, eW5⟩ : ∃ X, w4.alloc (.cells #[.int .i64 F0, .int .i64 F1] 28) = X := ⟨_, rfl⟩
    rw [eC, eW5] at Kc_5; rw [eW5] at HX_5 Kp_5 Kx_5 FX_5; rw [eC] at hlp_c hlx_c; rw [eC, eW5]
    clear eC eW5 HX_4 Kp_4 Kx_4 FX_4
    obtain ⟨⟨x0, x1, x2⟩, ⟨xf0, xf1, xf2⟩, xl⟩ := block3 (unhide Kx_5)
    go_upto_region 8 with (go_at_call 11; refine (unhide HEN _ _ ⟨_, rfl, unhide FX_5⟩).mono ?_; rintro e w6 ⟨rfl, hb6⟩; have HX_6 := hide (Below.next (unhide HX_5) hb6 (by first | exact Nat.le_refl _ | (have := unhide HBA; omega))); have Kp_6 := hide (keep_below (unhide Kp_5) hb6); have Kx_6 := hide (keep_below (unhide Kx_5) hb6); have Kc_6 := hide (keep_below (unhide Kc_5) hb6); have FX_6 := hide ((unhide FX_5).below hb6); clear HX_5 Kp_5 Kx_5 Kc_5 FX_5; clear hb6 x0 x1 x2 xf0 xf1 xf2 xl)
    obtain ⟨W7, eW7, hBW7, k0_7, k1_7⟩ := two_new w6 (.cells #[.int .i64 0, .bool false, .slice none 0 0] 24) (.cells #[.int .i64 F0, .int .i64 F1] 28)
    rw [eW7]
    clear eW7
    have hlp_m : w.heap.size < w6.heap.size := size_of (unhide Kp_6)
    have hlx_m : X < w6.heap.size := size_of (unhide Kx_6)
    have hlc_m : C < w6.heap.size := size_of (unhide Kc_6)
    (have HX_7 := hide (Below.next (unhide HX_6) hBW7 (by first | exact Nat.le_refl _ | (have := unhide HBA; omega))); have Kp_7 := hide (keep_below (unhide Kp_6) hBW7); have Kx_7 := hide (keep_below (unhide Kx_6) hBW7); have Kc_7 := hide (keep_below (unhide Kc_6) hBW7); have FX_7 := hide ((unhide FX_6).below hBW7); clear HX_6 Kp_6 Kx_6 Kc_6 FX_6)
    obtain ⟨M, eM⟩ : ∃ X, w6.heap.size = X := ⟨_, rfl⟩
    rw [eM] at k0_7 k1_7 hlp_m hlx_m hlc_m ⊢
    have Km_7 := hide k0_7
    have Kf_7 := hide k1_7
    clear eM hBW7 k0_7 k1_7
    obtain ⟨⟨p0, p1, p2⟩, ⟨pf0, pf1, pf2⟩, pl⟩ := block3 (unhide Kp_7)
    go_upto_region 9 with (go_at_call 12; refine (unhide HPF _ (unhide HX_7)).mono ?_; rintro e w8 ⟨rfl, hb8⟩; have HX_8 := hide (Below.next (unhide HX_7) hb8 (by first | exact Nat.le_refl _ | (have := unhide HBA; omega))); have Kp_8 := hide (keep_below (unhide Kp_7) hb8); have Kx_8 := hide (keep_below (unhide Kx_7) hb8); have Kc_8 := hide (keep_below (unhide Kc_7) hb8); have Km_8 := hide (keep_below (unhide Km_7) hb8); have Kf_8 := hide (keep_below (unhide Kf_7) hb8); have FX_8 := hide ((unhide FX_7).below hb8); clear HX_7 Kp_7 Kx_7 Kc_7 Km_7 Kf_7 FX_7; clear hb8 p0 p1 p2 pf0 pf1 pf2 pl)
    have HX_9 := hide ((unhide HX_8).alloc (Nat.le_trans (show w.heap.size ≤ w.heap.size from Nat.le_refl _) (unhide HX_8).size) (.cells #[.int .i64 F0, .int .i64 F1] 28))
    have Kp_9 := hide (keep_alloc (unhide Kp_8) (.cells #[.int .i64 F0, .int .i64 F1] 28))
    have Kx_9 := hide (keep_alloc (unhide Kx_8) (.cells #[.int .i64 F0, .int .i64 F1] 28))
    have Kc_9 := hide (keep_alloc (unhide Kc_8) (.cells #[.int .i64 F0, .int .i64 F1] 28))
    have Km_9 := hide (keep_alloc (unhide Km_8) (.cells #[.int .i64 F0, .int .i64 F1] 28))
    have Kf_9 := hide (keep_alloc (unhide Kf_8) (.cells #[.int .i64 F0, .int .i64 F1] 28))
    have FX_9 := hide ((unhide FX_8).below ((Below.refl _ _).alloc (Nat.le_refl _) (.cells #[.int .i64 F0, .int .i64 F1] 28)))
    have Kw_9 := hide (new_block w8 (.cells #[.int .i64 F0, .int .i64 F1] 28))
    have hlp_w : w.heap.size < w8.heap.size := size_of (unhide Kp_8)
    have hlx_w : X < w8.heap.size := size_of (unhide Kx_8)
    have hlc_w : C < w8.heap.size := size_of (unhide Kc_8)
    have hlm_w : M < w8.heap.size := size_of (unhide Km_8)
    have hlf_w : M + 1 < w8.heap.size := size_of (unhide Kf_8)
    obtain ⟨Z, eZ⟩ : ∃ X, w8.heap.size = X := ⟨_, rfl⟩
    obtain ⟨W9, eW9⟩ : ∃ X, w8.alloc (.cells #[.int .i64 F0, .int .i64 F1] 28) = X := ⟨_, rfl⟩
    rw [eZ, eW9] at Kw_9; rw [eW9] at HX_9 Kp_9 Kx_9 Kc_9 Km_9 Kf_9 FX_9; rw [eZ] at hlp_w hlx_w hlc_w hlm_w hlf_w; rw [eZ, eW9]
    clear eZ eW9 HX_8 Kp_8 Kx_8 Kc_8 Km_8 Kf_8 FX_8
    obtain ⟨⟨p0, p1, p2⟩, ⟨pf0, pf1, pf2⟩, pl⟩ := block3 (unhide Kp_9)
    obtain ⟨⟨x0, x1, x2⟩, ⟨xf0, xf1, xf2⟩, xl⟩ := block3 (unhide Kx_9)
    obtain ⟨k0, k1, kf0, kf1, kl⟩ := block2 (unhide Kc_9)
    obtain ⟨z0, z1, zf0, zf1, zl⟩ := block2 (unhide Kw_9)
    go_upto_region 11 with (go_at_call 13; refine (unhide HSP _ _ (unhide HX_9) ⟨_, rfl, unhide FX_9⟩).mono ?_; rintro e w10 ⟨rfl, hb10⟩; have HX_10 := hide (Below.next (unhide HX_9) hb10 (by first | exact Nat.le_refl _ | (have := unhide HBA; omega))); have Kp_10 := hide (keep_below (unhide Kp_9) hb10); have Kx_10 := hide (keep_below (unhide Kx_9) hb10); have Kc_10 := hide (keep_below (unhide Kc_9) hb10); have Km_10 := hide (keep_below (unhide Km_9) hb10); have Kf_10 := hide (keep_below (unhide Kf_9) hb10); have Kw_10 := hide (keep_below (unhide Kw_9) hb10); have FX_10 := hide ((unhide FX_9).below hb10); clear HX_9 Kp_9 Kx_9 Kc_9 Km_9 Kf_9 Kw_9 FX_9; clear hb10 p0 p1 p2 pf0 pf1 pf2 pl x0 x1 x2 xf0 xf1 xf2 xl k0 k1 kf0 kf1 kl z0 z1 zf0 zf1 zl)
    clear FX_10
    obtain ⟨⟨m0, m1, m2⟩, ⟨mf0, mf1, mf2⟩, ml⟩ := block3 (unhide Km_10)
    obtain ⟨f0, f1, ff0, ff1, fl⟩ := block2 (unhide Kf_10)
    obtain ⟨z0, z1, zf0, zf1, zl⟩ := block2 (unhide Kw_10)
    go_wp2_with (go_at_call 16; refine (noLock_zero _).mono ?_; rintro e w20 ⟨rfl, hb20⟩; have HX_11 := hide (Below.next (unhide HX_10) hb20 (by first | exact Nat.le_refl _ | (have := unhide HBA; omega))); have Kp_11 := hide (keep_below (unhide Kp_10) hb20); have Kx_11 := hide (keep_below (unhide Kx_10) hb20); have Kc_11 := hide (keep_below (unhide Kc_10) hb20); have Km_11 := hide (keep_below (unhide Km_10) hb20); have Kf_11 := hide (keep_below (unhide Kf_10) hb20); have Kw_11 := hide (keep_below (unhide Kw_10) hb20); clear HX_10 Kp_10 Kx_10 Kc_10 Km_10 Kf_10 Kw_10; clear hb20 m0 m1 m2 mf0 mf1 mf2 ml f0 f1 ff0 ff1 fl z0 z1 zf0 zf1 zl)
    go_ret
    exact ⟨rfl, unhide HX_11⟩

set_option maxRecDepth 100000 in
set_option maxHeartbeats 4000000 in
theorem enters_B (w : World) (v : Value) (P : Lk) (x : Int) (wt try_ : Bool) (h : IsLock w v P) (hn : P.line.length ≤ 6000) (hn2 : P.line.length ≤ 700 ∨ 4999 ≤ P.line.length) (hf : (lockF P).1 = 0) (hx : x < 1) :
    Calls Try.prog 3 #[v, .int .i64 x, .bool wt, .bool try_] w fun e w' => e = .returned (.bool true) ∧ Below w.heap.size w w' := by
  have hnot : ∀ (x : Bool) (w : World), (Op.unary .not (.bool x)).run Try.prog w = .ok (.bool (!x)) w := fun _ _ => rfl
  have eF := lockF_zero hf
  have eG : enterF P x = (3, -1) := by unfold enterF; rw [if_neg (by simpa using hf), if_pos hx]
  have HOW : Hid (∀ W, Below w.heap.size w W → Calls Try.prog 9 #[v] W fun e w' => ∃ a c, e = .returned (.agg #[.int .i64 P.readers, .bool P.writer, .slice a P.line.length c]) ∧ IsL KP w' (.slice a P.line.length c) P.line ∧ Below W.heap.size W w') := fun W hW => (ownLock_any W v P (h.below hW) (by omega)).mono fun e w' ⟨v', h1, h2, h3⟩ => by
    obtain ⟨a, c, rfl, h4⟩ := h2.form
    exact ⟨a, c, h1, h4.1, h3⟩
  have HCK : Hid (∀ W v', IsLock W v' P → Calls Try.prog 10 #[v'] W fun e w' => e = .returned (.agg #[.int .i64 0, .int .i64 0]) ∧ Below W.heap.size W w') := fun W v' hW => by
    have := check_any W v' P hW (by omega)
    rw [eF] at this
    exact this
  have HPF : Hid (∀ W, Below w.heap.size w W → Calls Try.prog 12 #[v] W fun e w' => e = .returned (.agg #[.int .i64 0, .int .i64 0]) ∧ Below W.heap.size W w') := fun W hW => by
    have := lockFault_any W v P (h.below hW)
    rw [eF] at this
    exact this
  have HSP : Hid (∀ W v', Below w.heap.size w W → IsLock W v' P → Calls Try.prog 13 #[v', v] W fun e w' => e = .returned (.bool true) ∧ Below W.heap.size W w') := fun W v' hW hv' => sameLock_any W v' v P hv' (h.below hW) (by unfold maxLen; omega)
  have HEN : Hid (∀ W v', IsLock W v' P → Calls Try.prog 11 #[v', .int .i64 x, .bool wt, .bool try_] W fun e w' => e = .returned (.tuple #[.agg #[.int .i64 0, .bool false, .slice none 0 0], .bool false, .agg #[.int .i64 3, .int .i64 (-1)]]) ∧ Below W.heap.size W w') := fun W v' hW => by
    have := enter_fault W v' P x wt try_ hW (by omega) (by rw [eG]; decide)
    rw [eG] at this
    exact this
  obtain ⟨r, bw, line⟩ := P
  obtain ⟨a0, c0, rfl, hL⟩ := h.form
  simp only at hL hn hn2 HOW HCK HPF HSP HEN ⊢
  obtain ⟨n, en⟩ : ∃ n, line.length = n := ⟨_, rfl⟩
  rw [en] at hn hn2 HOW HPF HSP ⊢
  clear h hL en hf eF eG
  have g1 : ¬ (6000 : Int) < (n : Int) := by omega
  have hq : (¬ (700 : Int) < (n : Int) ∧ True) ∨ ((700 : Int) < (n : Int) ∧ ¬ (n : Int) < 4999) := by
    rcases hn2 with h | h
    · exact Or.inl ⟨by omega, trivial⟩
    · exact Or.inr ⟨by omega, by omega⟩
  clear hn2
  obtain ⟨W0, e0⟩ : ∃ W, w.alloc (.cells #[.int .i64 r, .bool bw, .slice a0 n c0] 24) = W := ⟨_, rfl⟩
  have HX := hide ((Below.refl w.heap.size w).alloc (Nat.le_refl _) (.cells #[.int .i64 r, .bool bw, .slice a0 n c0] 24))
  have HP := hide (new_block w (.cells #[.int .i64 r, .bool bw, .slice a0 n c0] 24))
  rw [e0] at HX HP
  have HE := hide e0
  clear e0
  rcases hq with ⟨g2, g3⟩ | ⟨g2, g3⟩
  all_goals
    go_enter Try.func3, Try.ntmps3
    go_upto_region 1 with fail
    rw [unhide HE]
    clear HE
    obtain ⟨⟨p0, p1, p2⟩, ⟨pf0, pf1, pf2⟩, pl⟩ := block3 (unhide HP)
    go_upto_region 6 with (first
        | (go_at_call 8; refine (begun_any _).mono ?_; rintro e w1 ⟨rfl, hb1⟩; have HX_1 := hide (Below.next (unhide HX) hb1 (by first | exact Nat.le_refl _ | (have := unhide HBA; omega))); have Kp_1 := hide (keep_below (unhide HP) hb1); clear HX HP; clear hb1 p0 p1 p2 pf0 pf1 pf2 pl; obtain ⟨⟨p0, p1, p2⟩, ⟨pf0, pf1, pf2⟩, pl⟩ := block3 (unhide Kp_1))
        | (go_at_call 9; refine (unhide HOW _ (unhide HX_1)).mono ?_; rintro e w2 ⟨a2, c2, rfl, hi2, hb2⟩; have HI2 := hide hi2; have HX_2 := hide (Below.next (unhide HX_1) hb2 (by first | exact Nat.le_refl _ | (have := unhide HBA; omega))); have Kp_2 := hide (keep_below (unhide Kp_1) hb2); clear HX_1 Kp_1; clear hb2 hi2 p0 p1 p2 pf0 pf1 pf2 pl))
    have HX_3 := hide ((unhide HX_2).alloc (Nat.le_trans (show w.heap.size ≤ w.heap.size from Nat.le_refl _) (unhide HX_2).size) (.cells #[.int .i64 r, .bool bw, .slice a2 n c2] 24))
    have Kp_3 := hide (keep_alloc (unhide Kp_2) (.cells #[.int .i64 r, .bool bw, .slice a2 n c2] 24))
    have FX_3 := hide ((unhide HI2).below ((Below.refl _ _).alloc (Nat.le_refl _) (.cells #[.int .i64 r, .bool bw, .slice a2 n c2] 24)))
    have Kx_3 := hide (new_block w2 (.cells #[.int .i64 r, .bool bw, .slice a2 n c2] 24))
    have hlp_x : w.heap.size < w2.heap.size := size_of (unhide Kp_2)
    obtain ⟨X, eX⟩ : ∃ X, w2.heap.size = X := ⟨_, rfl⟩
    obtain ⟨W3, eW3⟩ : ∃ X, w2.alloc (.cells #[.int .i64 r, .bool bw, .slice a2 n c2] 24) = X := ⟨_, rfl⟩
    rw [eX, eW3] at Kx_3; rw [eW3] at HX_3 Kp_3 FX_3; rw [eX] at hlp_x; rw [eX, eW3]
    clear eX eW3 HX_2 Kp_2 HI2
    obtain ⟨⟨x0, x1, x2⟩, ⟨xf0, xf1, xf2⟩, xl⟩ := block3 (unhide Kx_3)
    go_upto_region 7 with (go_at_call 10; refine (unhide HCK _ _ ⟨_, rfl, unhide FX_3⟩).mono ?_; rintro e w4 ⟨rfl, hb4⟩; have HX_4 := hide (Below.next (unhide HX_3) hb4 (by first | exact Nat.le_refl _ | (have := unhide HBA; omega))); have Kp_4 := hide (keep_below (unhide Kp_3) hb4); have Kx_4 := hide (keep_below (unhide Kx_3) hb4); have FX_4 := hide ((unhide FX_3).below hb4); clear HX_3 Kp_3 Kx_3 FX_3; clear hb4 x0 x1 x2 xf0 xf1 xf2 xl)
    have HX_5 := hide ((unhide HX_4).alloc (Nat.le_trans (show w.heap.size ≤ w.heap.size from Nat.le_refl _) (unhide HX_4).size) (.cells #[.int .i64 0, .int .i64 0] 28))
    have Kp_5 := hide (keep_alloc (unhide Kp_4) (.cells #[.int .i64 0, .int .i64 0] 28))
    have Kx_5 := hide (keep_alloc (unhide Kx_4) (.cells #[.int .i64 0, .int .i64 0] 28))
    have FX_5 := hide ((unhide FX_4).below ((Below.refl _ _).alloc (Nat.le_refl _) (.cells #[.int .i64 0, .int .i64 0] 28)))
    have Kc_5 := hide (new_block w4 (.cells #[.int .i64 0, .int .i64 0] 28))
    have hlp_c : w.heap.size < w4.heap.size := size_of (unhide Kp_4)
    have hlx_c : X < w4.heap.size := size_of (unhide Kx_4)
    obtain ⟨C, eC⟩ : ∃ X, w4.heap.size = X := ⟨_, rfl⟩
    obtain ⟨W5, eW5⟩ : ∃ X, w4.alloc (.cells #[.int .i64 0, .int .i64 0] 28) = X := ⟨_, rfl⟩
    rw [eC, eW5] at Kc_5; rw [eW5] at HX_5 Kp_5 Kx_5 FX_5; rw [eC] at hlp_c hlx_c; rw [eC, eW5]
    clear eC eW5 HX_4 Kp_4 Kx_4 FX_4
    obtain ⟨⟨x0, x1, x2⟩, ⟨xf0, xf1, xf2⟩, xl⟩ := block3 (unhide Kx_5)
    go_upto_region 8 with (go_at_call 11; refine (unhide HEN _ _ ⟨_, rfl, unhide FX_5⟩).mono ?_; rintro e w6 ⟨rfl, hb6⟩; have HX_6 := hide (Below.next (unhide HX_5) hb6 (by first | exact Nat.le_refl _ | (have := unhide HBA; omega))); have Kp_6 := hide (keep_below (unhide Kp_5) hb6); have Kx_6 := hide (keep_below (unhide Kx_5) hb6); have Kc_6 := hide (keep_below (unhide Kc_5) hb6); have FX_6 := hide ((unhide FX_5).below hb6); clear HX_5 Kp_5 Kx_5 Kc_5 FX_5; clear hb6 x0 x1 x2 xf0 xf1 xf2 xl)
    obtain ⟨W7, eW7, hBW7, k0_7, k1_7⟩ := two_new w6 (.cells #[.int .i64 0, .bool false, .slice none 0 0] 24) (.cells #[.int .i64 3, .int .i64 (-1)] 28)
    rw [eW7]
    clear eW7
    have hlp_m : w.heap.size < w6.heap.size := size_of (unhide Kp_6)
    have hlx_m : X < w6.heap.size := size_of (unhide Kx_6)
    have hlc_m : C < w6.heap.size := size_of (unhide Kc_6)
    (have HX_7 := hide (Below.next (unhide HX_6) hBW7 (by first | exact Nat.le_refl _ | (have := unhide HBA; omega))); have Kp_7 := hide (keep_below (unhide Kp_6) hBW7); have Kx_7 := hide (keep_below (unhide Kx_6) hBW7); have Kc_7 := hide (keep_below (unhide Kc_6) hBW7); have FX_7 := hide ((unhide FX_6).below hBW7); clear HX_6 Kp_6 Kx_6 Kc_6 FX_6)
    obtain ⟨M, eM⟩ : ∃ X, w6.heap.size = X := ⟨_, rfl⟩
    rw [eM] at k0_7 k1_7 hlp_m hlx_m hlc_m ⊢
    have Km_7 := hide k0_7
    have Kf_7 := hide k1_7
    clear eM hBW7 k0_7 k1_7
    obtain ⟨⟨p0, p1, p2⟩, ⟨pf0, pf1, pf2⟩, pl⟩ := block3 (unhide Kp_7)
    go_upto_region 9 with (go_at_call 12; refine (unhide HPF _ (unhide HX_7)).mono ?_; rintro e w8 ⟨rfl, hb8⟩; have HX_8 := hide (Below.next (unhide HX_7) hb8 (by first | exact Nat.le_refl _ | (have := unhide HBA; omega))); have Kp_8 := hide (keep_below (unhide Kp_7) hb8); have Kx_8 := hide (keep_below (unhide Kx_7) hb8); have Kc_8 := hide (keep_below (unhide Kc_7) hb8); have Km_8 := hide (keep_below (unhide Km_7) hb8); have Kf_8 := hide (keep_below (unhide Kf_7) hb8); have FX_8 := hide ((unhide FX_7).below hb8); clear HX_7 Kp_7 Kx_7 Kc_7 Km_7 Kf_7 FX_7; clear hb8 p0 p1 p2 pf0 pf1 pf2 pl)
    have HX_9 := hide ((unhide HX_8).alloc (Nat.le_trans (show w.heap.size ≤ w.heap.size from Nat.le_refl _) (unhide HX_8).size) (.cells #[.int .i64 0, .int .i64 0] 28))
    have Kp_9 := hide (keep_alloc (unhide Kp_8) (.cells #[.int .i64 0, .int .i64 0] 28))
    have Kx_9 := hide (keep_alloc (unhide Kx_8) (.cells #[.int .i64 0, .int .i64 0] 28))
    have Kc_9 := hide (keep_alloc (unhide Kc_8) (.cells #[.int .i64 0, .int .i64 0] 28))
    have Km_9 := hide (keep_alloc (unhide Km_8) (.cells #[.int .i64 0, .int .i64 0] 28))
    have Kf_9 := hide (keep_alloc (unhide Kf_8) (.cells #[.int .i64 0, .int .i64 0] 28))
    have FX_9 := hide ((unhide FX_8).below ((Below.refl _ _).alloc (Nat.le_refl _) (.cells #[.int .i64 0, .int .i64 0] 28)))
    have Kw_9 := hide (new_block w8 (.cells #[.int .i64 0, .int .i64 0] 28))
    have hlp_w : w.heap.size < w8.heap.size := size_of (unhide Kp_8)
    have hlx_w : X < w8.heap.size := size_of (unhide Kx_8)
    have hlc_w : C < w8.heap.size := size_of (unhide Kc_8)
    have hlm_w : M < w8.heap.size := size_of (unhide Km_8)
    have hlf_w : M + 1 < w8.heap.size := size_of (unhide Kf_8)
    obtain ⟨Z, eZ⟩ : ∃ X, w8.heap.size = X := ⟨_, rfl⟩
    obtain ⟨W9, eW9⟩ : ∃ X, w8.alloc (.cells #[.int .i64 0, .int .i64 0] 28) = X := ⟨_, rfl⟩
    rw [eZ, eW9] at Kw_9; rw [eW9] at HX_9 Kp_9 Kx_9 Kc_9 Km_9 Kf_9 FX_9; rw [eZ] at hlp_w hlx_w hlc_w hlm_w hlf_w; rw [eZ, eW9]
    clear eZ eW9 HX_8 Kp_8 Kx_8 Kc_8 Km_8 Kf_8 FX_8
    obtain ⟨⟨p0, p1, p2⟩, ⟨pf0, pf1, pf2⟩, pl⟩ := block3 (unhide Kp_9)
    obtain ⟨⟨x0, x1, x2⟩, ⟨xf0, xf1, xf2⟩, xl⟩ := block3 (unhide Kx_9)
    obtain ⟨k0, k1, kf0, kf1, kl⟩ := block2 (unhide Kc_9)
    obtain ⟨z0, z1, zf0, zf1, zl⟩ := block2 (unhide Kw_9)
    go_upto_region 11 with (go_at_call 13; refine (unhide HSP _ _ (unhide HX_9) ⟨_, rfl, unhide FX_9⟩).mono ?_; rintro e w10 ⟨rfl, hb10⟩; have HX_10 := hide (Below.next (unhide HX_9) hb10 (by first | exact Nat.le_refl _ | (have := unhide HBA; omega))); have Kp_10 := hide (keep_below (unhide Kp_9) hb10); have Kx_10 := hide (keep_below (unhide Kx_9) hb10); have Kc_10 := hide (keep_below (unhide Kc_9) hb10); have Km_10 := hide (keep_below (unhide Km_9) hb10); have Kf_10 := hide (keep_below (unhide Kf_9) hb10); have Kw_10 := hide (keep_below (unhide Kw_9) hb10); have FX_10 := hide ((unhide FX_9).below hb10); clear HX_9 Kp_9 Kx_9 Kc_9 Km_9 Kf_9 Kw_9 FX_9; clear hb10 p0 p1 p2 pf0 pf1 pf2 pl x0 x1 x2 xf0 xf1 xf2 xl k0 k1 kf0 kf1 kl z0 z1 zf0 zf1 zl)
    clear FX_10
    obtain ⟨z0, z1, zf0, zf1, zl⟩ := block2 (unhide Kw_10)
    go_upto_region 13 with (go_at_call 14; refine (refF_any _ _ _).mono ?_; rintro e w11 ⟨rfl, hb11⟩; have HX_11 := hide (Below.next (unhide HX_10) hb11 (by first | exact Nat.le_refl _ | (have := unhide HBA; omega))); have Kp_11 := hide (keep_below (unhide Kp_10) hb11); have Kx_11 := hide (keep_below (unhide Kx_10) hb11); have Kc_11 := hide (keep_below (unhide Kc_10) hb11); have Km_11 := hide (keep_below (unhide Km_10) hb11); have Kf_11 := hide (keep_below (unhide Kf_10) hb11); have Kw_11 := hide (keep_below (unhide Kw_10) hb11); clear HX_10 Kp_10 Kx_10 Kc_10 Km_10 Kf_10 Kw_10; clear hb11 z0 z1 zf0 zf1 zl; obtain ⟨z0, z1, zf0, zf1, zl⟩ := block2 (unhide Kw_11))
    clear z0 z1 zf0 zf1 zl
    have HX_12 := hide (put2_below (y0 := .int .i64 3) (y1 := .int .i64 (-1)) (unhide HX_11) (show w.heap.size ≤ Z by first | omega | (have := unhide HBA; omega)))
    have Kp_12 := hide ((put2_keep (y0 := .int .i64 3) (y1 := .int .i64 (-1)) (show w.heap.size ≠ Z by omega)).trans (unhide Kp_11))
    have Kx_12 := hide ((put2_keep (y0 := .int .i64 3) (y1 := .int .i64 (-1)) (show X ≠ Z by omega)).trans (unhide Kx_11))
    have Kc_12 := hide ((put2_keep (y0 := .int .i64 3) (y1 := .int .i64 (-1)) (show C ≠ Z by omega)).trans (unhide Kc_11))
    have Km_12 := hide ((put2_keep (y0 := .int .i64 3) (y1 := .int .i64 (-1)) (show M ≠ Z by omega)).trans (unhide Km_11))
    have Kf_12 := hide ((put2_keep (y0 := .int .i64 3) (y1 := .int .i64 (-1)) (show M + 1 ≠ Z by omega)).trans (unhide Kf_11))
    have Kw_12 := hide (put2_new (y0 := .int .i64 3) (y1 := .int .i64 (-1)) (unhide Kw_11))
    obtain ⟨W12, eW12⟩ : ∃ X, put2 w11 (Z) (.int .i64 3) (.int .i64 (-1)) = X := ⟨_, rfl⟩
    rw [eW12] at HX_12 Kp_12 Kx_12 Kc_12 Km_12 Kf_12 Kw_12
    have eW122 : ((w11).setCell ⟨Z, 0, none⟩ (.int .i64 3)).setCell ⟨Z, 1, none⟩ (.int .i64 (-1)) = W12 := eW12
    rw [eW122]
    clear eW12 eW122 HX_11 Kp_11 Kx_11 Kc_11 Km_11 Kf_11 Kw_11
    obtain ⟨⟨m0, m1, m2⟩, ⟨mf0, mf1, mf2⟩, ml⟩ := block3 (unhide Km_12)
    obtain ⟨f0, f1, ff0, ff1, fl⟩ := block2 (unhide Kf_12)
    obtain ⟨z0, z1, zf0, zf1, zl⟩ := block2 (unhide Kw_12)
    go_wp2_with (go_at_call 16; refine (noLock_zero _).mono ?_; rintro e w20 ⟨rfl, hb20⟩; have HX_13 := hide (Below.next (unhide HX_12) hb20 (by first | exact Nat.le_refl _ | (have := unhide HBA; omega))); have Kp_13 := hide (keep_below (unhide Kp_12) hb20); have Kx_13 := hide (keep_below (unhide Kx_12) hb20); have Kc_13 := hide (keep_below (unhide Kc_12) hb20); have Km_13 := hide (keep_below (unhide Km_12) hb20); have Kf_13 := hide (keep_below (unhide Kf_12) hb20); have Kw_13 := hide (keep_below (unhide Kw_12) hb20); clear HX_12 Kp_12 Kx_12 Kc_12 Km_12 Kf_12 Kw_12; clear hb20 m0 m1 m2 mf0 mf1 mf2 ml f0 f1 ff0 ff1 fl z0 z1 zf0 zf1 zl)
    go_ret
    exact ⟨rfl, unhide HX_13⟩

set_option maxRecDepth 100000 in
set_option maxHeartbeats 4000000 in
theorem enters_C (w : World) (v : Value) (P : Lk) (x : Int) (wt try_ : Bool) (h : IsLock w v P) (hn : P.line.length ≤ 6000) (hn2 : P.line.length ≤ 700 ∨ 4999 ≤ P.line.length) (hf : (lockF P).1 = 0) (hx : ¬ x < 1) (hi : P.line.any (isOfP x) = true) :
    Calls Try.prog 3 #[v, .int .i64 x, .bool wt, .bool try_] w fun e w' => e = .returned (.bool true) ∧ Below w.heap.size w w' := by
  have hnot : ∀ (x : Bool) (w : World), (Op.unary .not (.bool x)).run Try.prog w = .ok (.bool (!x)) w := fun _ _ => rfl
  have eF := lockF_zero hf
  have eG : enterF P x = (10, -1) := by unfold enterF; rw [if_neg (by simpa using hf), if_neg hx, if_pos hi]
  have HOW : Hid (∀ W, Below w.heap.size w W → Calls Try.prog 9 #[v] W fun e w' => ∃ a c, e = .returned (.agg #[.int .i64 P.readers, .bool P.writer, .slice a P.line.length c]) ∧ IsL KP w' (.slice a P.line.length c) P.line ∧ Below W.heap.size W w') := fun W hW => (ownLock_any W v P (h.below hW) (by omega)).mono fun e w' ⟨v', h1, h2, h3⟩ => by
    obtain ⟨a, c, rfl, h4⟩ := h2.form
    exact ⟨a, c, h1, h4.1, h3⟩
  have HCK : Hid (∀ W v', IsLock W v' P → Calls Try.prog 10 #[v'] W fun e w' => e = .returned (.agg #[.int .i64 0, .int .i64 0]) ∧ Below W.heap.size W w') := fun W v' hW => by
    have := check_any W v' P hW (by omega)
    rw [eF] at this
    exact this
  have HPF : Hid (∀ W, Below w.heap.size w W → Calls Try.prog 12 #[v] W fun e w' => e = .returned (.agg #[.int .i64 0, .int .i64 0]) ∧ Below W.heap.size W w') := fun W hW => by
    have := lockFault_any W v P (h.below hW)
    rw [eF] at this
    exact this
  have HSP : Hid (∀ W v', Below w.heap.size w W → IsLock W v' P → Calls Try.prog 13 #[v', v] W fun e w' => e = .returned (.bool true) ∧ Below W.heap.size W w') := fun W v' hW hv' => sameLock_any W v' v P hv' (h.below hW) (by unfold maxLen; omega)
  have HEN : Hid (∀ W v', IsLock W v' P → Calls Try.prog 11 #[v', .int .i64 x, .bool wt, .bool try_] W fun e w' => e = .returned (.tuple #[.agg #[.int .i64 0, .bool false, .slice none 0 0], .bool false, .agg #[.int .i64 10, .int .i64 (-1)]]) ∧ Below W.heap.size W w') := fun W v' hW => by
    have := enter_fault W v' P x wt try_ hW (by omega) (by rw [eG]; decide)
    rw [eG] at this
    exact this
  have HIN : Hid (∀ W vl, IsL KP W vl P.line → Calls Try.prog 15 #[vl, .int .i64 x] W fun e w' => ∃ i : Int, e = .returned (.int .i64 i) ∧ 0 ≤ i ∧ Below W.heap.size W w') := fun W vl hW => (inLine_any W vl P.line x hW (by unfold maxLen; omega)).mono fun e w' ⟨h1, h2⟩ => by
    rcases h1 with ⟨rfl, h3⟩ | ⟨j, rfl, h3, h4, -⟩
    · rw [hi] at h3; cases h3
    · exact ⟨_, rfl, by omega, h2⟩
  obtain ⟨r, bw, line⟩ := P
  obtain ⟨a0, c0, rfl, hL⟩ := h.form
  simp only at hL hn hn2 HOW HCK HPF HSP HEN HIN ⊢
  have HLL := hide hL
  obtain ⟨n, en⟩ : ∃ n, line.length = n := ⟨_, rfl⟩
  rw [en] at hn hn2 HOW HPF HSP HLL ⊢
  clear h hL en hi hf eF eG
  have g1 : ¬ (6000 : Int) < (n : Int) := by omega
  have hq : (¬ (700 : Int) < (n : Int) ∧ True) ∨ ((700 : Int) < (n : Int) ∧ ¬ (n : Int) < 4999) := by
    rcases hn2 with h | h
    · exact Or.inl ⟨by omega, trivial⟩
    · exact Or.inr ⟨by omega, by omega⟩
  clear hn2
  obtain ⟨W0, e0⟩ : ∃ W, w.alloc (.cells #[.int .i64 r, .bool bw, .slice a0 n c0] 24) = W := ⟨_, rfl⟩
  have HX := hide ((Below.refl w.heap.size w).alloc (Nat.le_refl _) (.cells #[.int .i64 r, .bool bw, .slice a0 n c0] 24))
  have HP := hide (new_block w (.cells #[.int .i64 r, .bool bw, .slice a0 n c0] 24))
  rw [e0] at HX HP
  have HE := hide e0
  clear e0
  rcases hq with ⟨g2, g3⟩ | ⟨g2, g3⟩
  all_goals
    go_enter Try.func3, Try.ntmps3
    go_upto_region 1 with fail
    rw [unhide HE]
    clear HE
    obtain ⟨⟨p0, p1, p2⟩, ⟨pf0, pf1, pf2⟩, pl⟩ := block3 (unhide HP)
    go_upto_region 6 with (first
        | (go_at_call 8; refine (begun_any _).mono ?_; rintro e w1 ⟨rfl, hb1⟩; have HX_1 := hide (Below.next (unhide HX) hb1 (by first | exact Nat.le_refl _ | (have := unhide HBA; omega))); have Kp_1 := hide (keep_below (unhide HP) hb1); clear HX HP; clear hb1 p0 p1 p2 pf0 pf1 pf2 pl; obtain ⟨⟨p0, p1, p2⟩, ⟨pf0, pf1, pf2⟩, pl⟩ := block3 (unhide Kp_1))
        | (go_at_call 9; refine (unhide HOW _ (unhide HX_1)).mono ?_; rintro e w2 ⟨a2, c2, rfl, hi2, hb2⟩; have HI2 := hide hi2; have HX_2 := hide (Below.next (unhide HX_1) hb2 (by first | exact Nat.le_refl _ | (have := unhide HBA; omega))); have Kp_2 := hide (keep_below (unhide Kp_1) hb2); clear HX_1 Kp_1; clear hb2 hi2 p0 p1 p2 pf0 pf1 pf2 pl))
    have HX_3 := hide ((unhide HX_2).alloc (Nat.le_trans (show w.heap.size ≤ w.heap.size from Nat.le_refl _) (unhide HX_2).size) (.cells #[.int .i64 r, .bool bw, .slice a2 n c2] 24))
    have Kp_3 := hide (keep_alloc (unhide Kp_2) (.cells #[.int .i64 r, .bool bw, .slice a2 n c2] 24))
    have FX_3 := hide ((unhide HI2).below ((Below.refl _ _).alloc (Nat.le_refl _) (.cells #[.int .i64 r, .bool bw, .slice a2 n c2] 24)))
    have Kx_3 := hide (new_block w2 (.cells #[.int .i64 r, .bool bw, .slice a2 n c2] 24))
    have hlp_x : w.heap.size < w2.heap.size := size_of (unhide Kp_2)
    obtain ⟨X, eX⟩ : ∃ X, w2.heap.size = X := ⟨_, rfl⟩
    obtain ⟨W3, eW3⟩ : ∃ X, w2.alloc (.cells #[.int .i64 r, .bool bw, .slice a2 n c2] 24) = X := ⟨_, rfl⟩
    rw [eX, eW3] at Kx_3; rw [eW3] at HX_3 Kp_3 FX_3; rw [eX] at hlp_x; rw [eX, eW3]
    clear eX eW3 HX_2 Kp_2 HI2
    obtain ⟨⟨x0, x1, x2⟩, ⟨xf0, xf1, xf2⟩, xl⟩ := block3 (unhide Kx_3)
    go_upto_region 7 with (go_at_call 10; refine (unhide HCK _ _ ⟨_, rfl, unhide FX_3⟩).mono ?_; rintro e w4 ⟨rfl, hb4⟩; have HX_4 := hide (Below.next (unhide HX_3) hb4 (by first | exact Nat.le_refl _ | (have := unhide HBA; omega))); have Kp_4 := hide (keep_below (unhide Kp_3) hb4); have Kx_4 := hide (keep_below (unhide Kx_3) hb4); have FX_4 := hide ((unhide FX_3).below hb4); clear HX_3 Kp_3 Kx_3 FX_3; clear hb4 x0 x1 x2 xf0 xf1 xf2 xl)
    have HX_5 := hide ((unhide HX_4).alloc (Nat.le_trans (show w.heap.size ≤ w.heap.size from Nat.le_refl _) (unhide HX_4).size) (.cells #[.int .i64 0, .int .i64 0] 28))
    have Kp_5 := hide (keep_alloc (unhide Kp_4) (.cells #[.int .i64 0, .int .i64 0] 28))
    have Kx_5 := hide (keep_alloc (unhide Kx_4) (.cells #[.int .i64 0, .int .i64 0] 28))
    have FX_5 := hide ((unhide FX_4).below ((Below.refl _ _).alloc (Nat.le_refl _) (.cells #[.int .i64 0, .int .i64 0] 28)))
    have Kc_5 := hide (new_block w4 (.cells #[.int .i64 0, .int .i64 0] 28))
    have hlp_c : w.heap.size < w4.heap.size := size_of (unhide Kp_4)
    have hlx_c : X < w4.heap.size := size_of (unhide Kx_4)
    obtain ⟨C, eC⟩ : ∃ X, w4.heap.size = X := ⟨_, rfl⟩
    obtain ⟨W5, eW5⟩ : ∃ X, w4.alloc (.cells #[.int .i64 0, .int .i64 0] 28) = X := ⟨_, rfl⟩
    rw [eC, eW5] at Kc_5; rw [eW5] at HX_5 Kp_5 Kx_5 FX_5; rw [eC] at hlp_c hlx_c; rw [eC, eW5]
    clear eC eW5 HX_4 Kp_4 Kx_4 FX_4
    obtain ⟨⟨x0, x1, x2⟩, ⟨xf0, xf1, xf2⟩, xl⟩ := block3 (unhide Kx_5)
    go_upto_region 8 with (go_at_call 11; refine (unhide HEN _ _ ⟨_, rfl, unhide FX_5⟩).mono ?_; rintro e w6 ⟨rfl, hb6⟩; have HX_6 := hide (Below.next (unhide HX_5) hb6 (by first | exact Nat.le_refl _ | (have := unhide HBA; omega))); have Kp_6 := hide (keep_below (unhide Kp_5) hb6); have Kx_6 := hide (keep_below (unhide Kx_5) hb6); have Kc_6 := hide (keep_below (unhide Kc_5) hb6); have FX_6 := hide ((unhide FX_5).below hb6); clear HX_5 Kp_5 Kx_5 Kc_5 FX_5; clear hb6 x0 x1 x2 xf0 xf1 xf2 xl)
    obtain ⟨W7, eW7, hBW7, k0_7, k1_7⟩ := two_new w6 (.cells #[.int .i64 0, .bool false, .slice none 0 0] 24) (.cells #[.int .i64 10, .int .i64 (-1)] 28)
    rw [eW7]
    clear eW7
    have hlp_m : w.heap.size < w6.heap.size := size_of (unhide Kp_6)
    have hlx_m : X < w6.heap.size := size_of (unhide Kx_6)
    have hlc_m : C < w6.heap.size := size_of (unhide Kc_6)
    (have HX_7 := hide (Below.next (unhide HX_6) hBW7 (by first | exact Nat.le_refl _ | (have := unhide HBA; omega))); have Kp_7 := hide (keep_below (unhide Kp_6) hBW7); have Kx_7 := hide (keep_below (unhide Kx_6) hBW7); have Kc_7 := hide (keep_below (unhide Kc_6) hBW7); have FX_7 := hide ((unhide FX_6).below hBW7); clear HX_6 Kp_6 Kx_6 Kc_6 FX_6)
    obtain ⟨M, eM⟩ : ∃ X, w6.heap.size = X := ⟨_, rfl⟩
    rw [eM] at k0_7 k1_7 hlp_m hlx_m hlc_m ⊢
    have Km_7 := hide k0_7
    have Kf_7 := hide k1_7
    clear eM hBW7 k0_7 k1_7
    obtain ⟨⟨p0, p1, p2⟩, ⟨pf0, pf1, pf2⟩, pl⟩ := block3 (unhide Kp_7)
    go_upto_region 9 with (go_at_call 12; refine (unhide HPF _ (unhide HX_7)).mono ?_; rintro e w8 ⟨rfl, hb8⟩; have HX_8 := hide (Below.next (unhide HX_7) hb8 (by first | exact Nat.le_refl _ | (have := unhide HBA; omega))); have Kp_8 := hide (keep_below (unhide Kp_7) hb8); have Kx_8 := hide (keep_below (unhide Kx_7) hb8); have Kc_8 := hide (keep_below (unhide Kc_7) hb8); have Km_8 := hide (keep_below (unhide Km_7) hb8); have Kf_8 := hide (keep_below (unhide Kf_7) hb8); have FX_8 := hide ((unhide FX_7).below hb8); clear HX_7 Kp_7 Kx_7 Kc_7 Km_7 Kf_7 FX_7; clear hb8 p0 p1 p2 pf0 pf1 pf2 pl)
    have HX_9 := hide ((unhide HX_8).alloc (Nat.le_trans (show w.heap.size ≤ w.heap.size from Nat.le_refl _) (unhide HX_8).size) (.cells #[.int .i64 0, .int .i64 0] 28))
    have Kp_9 := hide (keep_alloc (unhide Kp_8) (.cells #[.int .i64 0, .int .i64 0] 28))
    have Kx_9 := hide (keep_alloc (unhide Kx_8) (.cells #[.int .i64 0, .int .i64 0] 28))
    have Kc_9 := hide (keep_alloc (unhide Kc_8) (.cells #[.int .i64 0, .int .i64 0] 28))
    have Km_9 := hide (keep_alloc (unhide Km_8) (.cells #[.int .i64 0, .int .i64 0] 28))
    have Kf_9 := hide (keep_alloc (unhide Kf_8) (.cells #[.int .i64 0, .int .i64 0] 28))
    have FX_9 := hide ((unhide FX_8).below ((Below.refl _ _).alloc (Nat.le_refl _) (.cells #[.int .i64 0, .int .i64 0] 28)))
    have Kw_9 := hide (new_block w8 (.cells #[.int .i64 0, .int .i64 0] 28))
    have hlp_w : w.heap.size < w8.heap.size := size_of (unhide Kp_8)
    have hlx_w : X < w8.heap.size := size_of (unhide Kx_8)
    have hlc_w : C < w8.heap.size := size_of (unhide Kc_8)
    have hlm_w : M < w8.heap.size := size_of (unhide Km_8)
    have hlf_w : M + 1 < w8.heap.size := size_of (unhide Kf_8)
    obtain ⟨Z, eZ⟩ : ∃ X, w8.heap.size = X := ⟨_, rfl⟩
    obtain ⟨W9, eW9⟩ : ∃ X, w8.alloc (.cells #[.int .i64 0, .int .i64 0] 28) = X := ⟨_, rfl⟩
    rw [eZ, eW9] at Kw_9; rw [eW9] at HX_9 Kp_9 Kx_9 Kc_9 Km_9 Kf_9 FX_9; rw [eZ] at hlp_w hlx_w hlc_w hlm_w hlf_w; rw [eZ, eW9]
    clear eZ eW9 HX_8 Kp_8 Kx_8 Kc_8 Km_8 Kf_8 FX_8
    obtain ⟨⟨p0, p1, p2⟩, ⟨pf0, pf1, pf2⟩, pl⟩ := block3 (unhide Kp_9)
    obtain ⟨⟨x0, x1, x2⟩, ⟨xf0, xf1, xf2⟩, xl⟩ := block3 (unhide Kx_9)
    obtain ⟨k0, k1, kf0, kf1, kl⟩ := block2 (unhide Kc_9)
    obtain ⟨z0, z1, zf0, zf1, zl⟩ := block2 (unhide Kw_9)
    go_upto_region 11 with (go_at_call 13; refine (unhide HSP _ _ (unhide HX_9) ⟨_, rfl, unhide FX_9⟩).mono ?_; rintro e w10 ⟨rfl, hb10⟩; have HX_10 := hide (Below.next (unhide HX_9) hb10 (by first | exact Nat.le_refl _ | (have := unhide HBA; omega))); have Kp_10 := hide (keep_below (unhide Kp_9) hb10); have Kx_10 := hide (keep_below (unhide Kx_9) hb10); have Kc_10 := hide (keep_below (unhide Kc_9) hb10); have Km_10 := hide (keep_below (unhide Km_9) hb10); have Kf_10 := hide (keep_below (unhide Kf_9) hb10); have Kw_10 := hide (keep_below (unhide Kw_9) hb10); have FX_10 := hide ((unhide FX_9).below hb10); clear HX_9 Kp_9 Kx_9 Kc_9 Km_9 Kf_9 Kw_9 FX_9; clear hb10 p0 p1 p2 pf0 pf1 pf2 pl x0 x1 x2 xf0 xf1 xf2 xl k0 k1 kf0 kf1 kl z0 z1 zf0 zf1 zl)
    clear FX_10
    have HL9 := hide (IsL.below (unhide HLL) (unhide HX_10))
    obtain ⟨⟨p0, p1, p2⟩, ⟨pf0, pf1, pf2⟩, pl⟩ := block3 (unhide Kp_10)
    obtain ⟨z0, z1, zf0, zf1, zl⟩ := block2 (unhide Kw_10)
    go_upto_region 15 with (first
        | (go_at_call 15; refine (unhide HIN _ _ (unhide HL9)).mono ?_; rintro e w11 ⟨i, rfl, hi11, hb11⟩; have hi0 : 0 ≤ i := (by omega); have HX_11 := hide (Below.next (unhide HX_10) hb11 (by first | exact Nat.le_refl _ | (have := unhide HBA; omega))); have Kp_11 := hide (keep_below (unhide Kp_10) hb11); have Kx_11 := hide (keep_below (unhide Kx_10) hb11); have Kc_11 := hide (keep_below (unhide Kc_10) hb11); have Km_11 := hide (keep_below (unhide Km_10) hb11); have Kf_11 := hide (keep_below (unhide Kf_10) hb11); have Kw_11 := hide (keep_below (unhide Kw_10) hb11); clear HX_10 Kp_10 Kx_10 Kc_10 Km_10 Kf_10 Kw_10; clear hb11 hi11 p0 p1 p2 pf0 pf1 pf2 pl z0 z1 zf0 zf1 zl; obtain ⟨z0, z1, zf0, zf1, zl⟩ := block2 (unhide Kw_11))
        | (go_at_call 14; refine (refF_any _ _ _).mono ?_; rintro e w12 ⟨rfl, hb12⟩; have HX_12 := hide (Below.next (unhide HX_11) hb12 (by first | exact Nat.le_refl _ | (have := unhide HBA; omega))); have Kp_12 := hide (keep_below (unhide Kp_11) hb12); have Kx_12 := hide (keep_below (unhide Kx_11) hb12); have Kc_12 := hide (keep_below (unhide Kc_11) hb12); have Km_12 := hide (keep_below (unhide Km_11) hb12); have Kf_12 := hide (keep_below (unhide Kf_11) hb12); have Kw_12 := hide (keep_below (unhide Kw_11) hb12); clear HX_11 Kp_11 Kx_11 Kc_11 Km_11 Kf_11 Kw_11; clear hb12 z0 z1 zf0 zf1 zl; obtain ⟨z0, z1, zf0, zf1, zl⟩ := block2 (unhide Kw_12)))
    clear z0 z1 zf0 zf1 zl
    have HX_13 := hide (put2_below (y0 := .int .i64 10) (y1 := .int .i64 (-1)) (unhide HX_12) (show w.heap.size ≤ Z by first | omega | (have := unhide HBA; omega)))
    have Kp_13 := hide ((put2_keep (y0 := .int .i64 10) (y1 := .int .i64 (-1)) (show w.heap.size ≠ Z by omega)).trans (unhide Kp_12))
    have Kx_13 := hide ((put2_keep (y0 := .int .i64 10) (y1 := .int .i64 (-1)) (show X ≠ Z by omega)).trans (unhide Kx_12))
    have Kc_13 := hide ((put2_keep (y0 := .int .i64 10) (y1 := .int .i64 (-1)) (show C ≠ Z by omega)).trans (unhide Kc_12))
    have Km_13 := hide ((put2_keep (y0 := .int .i64 10) (y1 := .int .i64 (-1)) (show M ≠ Z by omega)).trans (unhide Km_12))
    have Kf_13 := hide ((put2_keep (y0 := .int .i64 10) (y1 := .int .i64 (-1)) (show M + 1 ≠ Z by omega)).trans (unhide Kf_12))
    have Kw_13 := hide (put2_new (y0 := .int .i64 10) (y1 := .int .i64 (-1)) (unhide Kw_12))
    obtain ⟨W13, eW13⟩ : ∃ X, put2 w12 (Z) (.int .i64 10) (.int .i64 (-1)) = X := ⟨_, rfl⟩
    rw [eW13] at HX_13 Kp_13 Kx_13 Kc_13 Km_13 Kf_13 Kw_13
    have eW132 : ((w12).setCell ⟨Z, 0, none⟩ (.int .i64 10)).setCell ⟨Z, 1, none⟩ (.int .i64 (-1)) = W13 := eW13
    rw [eW132]
    clear eW13 eW132 HX_12 Kp_12 Kx_12 Kc_12 Km_12 Kf_12 Kw_12
    obtain ⟨⟨m0, m1, m2⟩, ⟨mf0, mf1, mf2⟩, ml⟩ := block3 (unhide Km_13)
    obtain ⟨f0, f1, ff0, ff1, fl⟩ := block2 (unhide Kf_13)
    obtain ⟨z0, z1, zf0, zf1, zl⟩ := block2 (unhide Kw_13)
    go_wp2_with (go_at_call 16; refine (noLock_zero _).mono ?_; rintro e w20 ⟨rfl, hb20⟩; have HX_14 := hide (Below.next (unhide HX_13) hb20 (by first | exact Nat.le_refl _ | (have := unhide HBA; omega))); have Kp_14 := hide (keep_below (unhide Kp_13) hb20); have Kx_14 := hide (keep_below (unhide Kx_13) hb20); have Kc_14 := hide (keep_below (unhide Kc_13) hb20); have Km_14 := hide (keep_below (unhide Km_13) hb20); have Kf_14 := hide (keep_below (unhide Kf_13) hb20); have Kw_14 := hide (keep_below (unhide Kw_13) hb20); clear HX_13 Kp_13 Kx_13 Kc_13 Km_13 Kf_13 Kw_13; clear hb20 m0 m1 m2 mf0 mf1 mf2 ml f0 f1 ff0 ff1 fl z0 z1 zf0 zf1 zl)
    go_ret
    exact ⟨rfl, unhide HX_14⟩

set_option maxRecDepth 100000 in
set_option maxHeartbeats 4000000 in
theorem enters_D (w : World) (v : Value) (P : Lk) (x : Int) (wt try_ : Bool) (h : IsLock w v P) (hn : P.line.length ≤ 6000) (hn2 : P.line.length ≤ 700 ∨ 4999 ≤ P.line.length) (hf : (lockF P).1 = 0) (hx : ¬ x < 1) (hi : P.line.any (isOfP x) = false) (hm : P.line.length = 5000) :
    Calls Try.prog 3 #[v, .int .i64 x, .bool wt, .bool try_] w fun e w' => e = .returned (.bool true) ∧ Below w.heap.size w w' := by
  have hnot : ∀ (x : Bool) (w : World), (Op.unary .not (.bool x)).run Try.prog w = .ok (.bool (!x)) w := fun _ _ => rfl
  have eF := lockF_zero hf
  have eG : enterF P x = (9, 0) := by unfold enterF; rw [if_neg (by simpa using hf), if_neg hx, if_neg (by rw [hi]; simp), if_pos (Or.inl hm)]
  have HOW : Hid (∀ W, Below w.heap.size w W → Calls Try.prog 9 #[v] W fun e w' => ∃ a c, e = .returned (.agg #[.int .i64 P.readers, .bool P.writer, .slice a P.line.length c]) ∧ IsL KP w' (.slice a P.line.length c) P.line ∧ Below W.heap.size W w') := fun W hW => (ownLock_any W v P (h.below hW) (by omega)).mono fun e w' ⟨v', h1, h2, h3⟩ => by
    obtain ⟨a, c, rfl, h4⟩ := h2.form
    exact ⟨a, c, h1, h4.1, h3⟩
  have HCK : Hid (∀ W v', IsLock W v' P → Calls Try.prog 10 #[v'] W fun e w' => e = .returned (.agg #[.int .i64 0, .int .i64 0]) ∧ Below W.heap.size W w') := fun W v' hW => by
    have := check_any W v' P hW (by omega)
    rw [eF] at this
    exact this
  have HPF : Hid (∀ W, Below w.heap.size w W → Calls Try.prog 12 #[v] W fun e w' => e = .returned (.agg #[.int .i64 0, .int .i64 0]) ∧ Below W.heap.size W w') := fun W hW => by
    have := lockFault_any W v P (h.below hW)
    rw [eF] at this
    exact this
  have HSP : Hid (∀ W v', Below w.heap.size w W → IsLock W v' P → Calls Try.prog 13 #[v', v] W fun e w' => e = .returned (.bool true) ∧ Below W.heap.size W w') := fun W v' hW hv' => sameLock_any W v' v P hv' (h.below hW) (by unfold maxLen; omega)
  have HEN : Hid (∀ W v', IsLock W v' P → Calls Try.prog 11 #[v', .int .i64 x, .bool wt, .bool try_] W fun e w' => e = .returned (.tuple #[.agg #[.int .i64 0, .bool false, .slice none 0 0], .bool false, .agg #[.int .i64 9, .int .i64 0]]) ∧ Below W.heap.size W w') := fun W v' hW => by
    have := enter_fault W v' P x wt try_ hW (by omega) (by rw [eG]; decide)
    rw [eG] at this
    exact this
  have HIN : Hid (∀ W vl, IsL KP W vl P.line → Calls Try.prog 15 #[vl, .int .i64 x] W fun e w' => ∃ i : Int, e = .returned (.int .i64 i) ∧ ¬ 0 ≤ i ∧ Below W.heap.size W w') := fun W vl hW => (inLine_any W vl P.line x hW (by unfold maxLen; omega)).mono fun e w' ⟨h1, h2⟩ => by
    rcases h1 with ⟨rfl, h3⟩ | ⟨j, rfl, h3, h4, -⟩
    · exact ⟨_, rfl, by decide, h2⟩
    · rw [(any_pAt _ _).2 ⟨j, h3, by simp [isOfP, h4]⟩] at hi; cases hi
  obtain ⟨r, bw, line⟩ := P
  obtain ⟨a0, c0, rfl, hL⟩ := h.form
  simp only at hL hn hn2 HOW HCK HPF HSP HEN HIN hm ⊢
  have HLL := hide hL
  obtain ⟨n, en⟩ : ∃ n, line.length = n := ⟨_, rfl⟩
  rw [en] at hn hn2 HOW HPF HSP HLL hm ⊢
  clear h hL en hi hf eF eG
  have HM := hide hm
  clear hm
  have g1 : ¬ (6000 : Int) < (n : Int) := by omega
  have hq : (¬ (700 : Int) < (n : Int) ∧ True) ∨ ((700 : Int) < (n : Int) ∧ ¬ (n : Int) < 4999) := by
    rcases hn2 with h | h
    · exact Or.inl ⟨by omega, trivial⟩
    · exact Or.inr ⟨by omega, by omega⟩
  clear hn2
  obtain ⟨W0, e0⟩ : ∃ W, w.alloc (.cells #[.int .i64 r, .bool bw, .slice a0 n c0] 24) = W := ⟨_, rfl⟩
  have HX := hide ((Below.refl w.heap.size w).alloc (Nat.le_refl _) (.cells #[.int .i64 r, .bool bw, .slice a0 n c0] 24))
  have HP := hide (new_block w (.cells #[.int .i64 r, .bool bw, .slice a0 n c0] 24))
  rw [e0] at HX HP
  have HE := hide e0
  clear e0
  rcases hq with ⟨g2, g3⟩ | ⟨g2, g3⟩
  all_goals
    go_enter Try.func3, Try.ntmps3
    go_upto_region 1 with fail
    rw [unhide HE]
    clear HE
    obtain ⟨⟨p0, p1, p2⟩, ⟨pf0, pf1, pf2⟩, pl⟩ := block3 (unhide HP)
    go_upto_region 6 with (first
        | (go_at_call 8; refine (begun_any _).mono ?_; rintro e w1 ⟨rfl, hb1⟩; have HX_1 := hide (Below.next (unhide HX) hb1 (by first | exact Nat.le_refl _ | (have := unhide HBA; omega))); have Kp_1 := hide (keep_below (unhide HP) hb1); clear HX HP; clear hb1 p0 p1 p2 pf0 pf1 pf2 pl; obtain ⟨⟨p0, p1, p2⟩, ⟨pf0, pf1, pf2⟩, pl⟩ := block3 (unhide Kp_1))
        | (go_at_call 9; refine (unhide HOW _ (unhide HX_1)).mono ?_; rintro e w2 ⟨a2, c2, rfl, hi2, hb2⟩; have HI2 := hide hi2; have HX_2 := hide (Below.next (unhide HX_1) hb2 (by first | exact Nat.le_refl _ | (have := unhide HBA; omega))); have Kp_2 := hide (keep_below (unhide Kp_1) hb2); clear HX_1 Kp_1; clear hb2 hi2 p0 p1 p2 pf0 pf1 pf2 pl))
    have HX_3 := hide ((unhide HX_2).alloc (Nat.le_trans (show w.heap.size ≤ w.heap.size from Nat.le_refl _) (unhide HX_2).size) (.cells #[.int .i64 r, .bool bw, .slice a2 n c2] 24))
    have Kp_3 := hide (keep_alloc (unhide Kp_2) (.cells #[.int .i64 r, .bool bw, .slice a2 n c2] 24))
    have FX_3 := hide ((unhide HI2).below ((Below.refl _ _).alloc (Nat.le_refl _) (.cells #[.int .i64 r, .bool bw, .slice a2 n c2] 24)))
    have Kx_3 := hide (new_block w2 (.cells #[.int .i64 r, .bool bw, .slice a2 n c2] 24))
    have hlp_x : w.heap.size < w2.heap.size := size_of (unhide Kp_2)
    obtain ⟨X, eX⟩ : ∃ X, w2.heap.size = X := ⟨_, rfl⟩
    obtain ⟨W3, eW3⟩ : ∃ X, w2.alloc (.cells #[.int .i64 r, .bool bw, .slice a2 n c2] 24) = X := ⟨_, rfl⟩
    rw [eX, eW3] at Kx_3; rw [eW3] at HX_3 Kp_3 FX_3; rw [eX] at hlp_x; rw [eX, eW3]
    clear eX eW3 HX_2 Kp_2 HI2
    obtain ⟨⟨x0, x1, x2⟩, ⟨xf0, xf1, xf2⟩, xl⟩ := block3 (unhide Kx_3)
    go_upto_region 7 with (go_at_call 10; refine (unhide HCK _ _ ⟨_, rfl, unhide FX_3⟩).mono ?_; rintro e w4 ⟨rfl, hb4⟩; have HX_4 := hide (Below.next (unhide HX_3) hb4 (by first | exact Nat.le_refl _ | (have := unhide HBA; omega))); have Kp_4 := hide (keep_below (unhide Kp_3) hb4); have Kx_4 := hide (keep_below (unhide Kx_3) hb4); have FX_4 := hide ((unhide FX_3).below hb4); clear HX_3 Kp_3 Kx_3 FX_3; clear hb4 x0 x1 x2 xf0 xf1 xf2 xl)
    have HX_5 := hide ((unhide HX_4).alloc (Nat.le_trans (show w.heap.size ≤ w.heap.size from Nat.le_refl _) (unhide HX_4).size) (.cells #[.int .i64 0, .int .i64 0] 28))
    have Kp_5 := hide (keep_alloc (unhide Kp_4) (.cells #[.int .i64 0, .int .i64 0] 28))
    have Kx_5 := hide (keep_alloc (unhide Kx_4) (.cells #[.int .i64 0, .int .i64 0] 28))
    have FX_5 := hide ((unhide FX_4).below ((Below.refl _ _).alloc (Nat.le_refl _) (.cells #[.int .i64 0, .int .i64 0] 28)))
    have Kc_5 := hide (new_block w4 (.cells #[.int .i64 0, .int .i64 0] 28))
    have hlp_c : w.heap.size < w4.heap.size := size_of (unhide Kp_4)
    have hlx_c : X < w4.heap.size := size_of (unhide Kx_4)
    obtain ⟨C, eC⟩ : ∃ X, w4.heap.size = X := ⟨_, rfl⟩
    obtain ⟨W5, eW5⟩ : ∃ X, w4.alloc (.cells #[.int .i64 0, .int .i64 0] 28) = X := ⟨_, rfl⟩
    rw [eC, eW5] at Kc_5; rw [eW5] at HX_5 Kp_5 Kx_5 FX_5; rw [eC] at hlp_c hlx_c; rw [eC, eW5]
    clear eC eW5 HX_4 Kp_4 Kx_4 FX_4
    obtain ⟨⟨x0, x1, x2⟩, ⟨xf0, xf1, xf2⟩, xl⟩ := block3 (unhide Kx_5)
    go_upto_region 8 with (go_at_call 11; refine (unhide HEN _ _ ⟨_, rfl, unhide FX_5⟩).mono ?_; rintro e w6 ⟨rfl, hb6⟩; have HX_6 := hide (Below.next (unhide HX_5) hb6 (by first | exact Nat.le_refl _ | (have := unhide HBA; omega))); have Kp_6 := hide (keep_below (unhide Kp_5) hb6); have Kx_6 := hide (keep_below (unhide Kx_5) hb6); have Kc_6 := hide (keep_below (unhide Kc_5) hb6); have FX_6 := hide ((unhide FX_5).below hb6); clear HX_5 Kp_5 Kx_5 Kc_5 FX_5; clear hb6 x0 x1 x2 xf0 xf1 xf2 xl)
    obtain ⟨W7, eW7, hBW7, k0_7, k1_7⟩ := two_new w6 (.cells #[.int .i64 0, .bool false, .slice none 0 0] 24) (.cells #[.int .i64 9, .int .i64 0] 28)
    rw [eW7]
    clear eW7
    have hlp_m : w.heap.size < w6.heap.size := size_of (unhide Kp_6)
    have hlx_m : X < w6.heap.size := size_of (unhide Kx_6)
    have hlc_m : C < w6.heap.size := size_of (unhide Kc_6)
    (have HX_7 := hide (Below.next (unhide HX_6) hBW7 (by first | exact Nat.le_refl _ | (have := unhide HBA; omega))); have Kp_7 := hide (keep_below (unhide Kp_6) hBW7); have Kx_7 := hide (keep_below (unhide Kx_6) hBW7); have Kc_7 := hide (keep_below (unhide Kc_6) hBW7); have FX_7 := hide ((unhide FX_6).below hBW7); clear HX_6 Kp_6 Kx_6 Kc_6 FX_6)
    obtain ⟨M, eM⟩ : ∃ X, w6.heap.size = X := ⟨_, rfl⟩
    rw [eM] at k0_7 k1_7 hlp_m hlx_m hlc_m ⊢
    have Km_7 := hide k0_7
    have Kf_7 := hide k1_7
    clear eM hBW7 k0_7 k1_7
    obtain ⟨⟨p0, p1, p2⟩, ⟨pf0, pf1, pf2⟩, pl⟩ := block3 (unhide Kp_7)
    go_upto_region 9 with (go_at_call 12; refine (unhide HPF _ (unhide HX_7)).mono ?_; rintro e w8 ⟨rfl, hb8⟩; have HX_8 := hide (Below.next (unhide HX_7) hb8 (by first | exact Nat.le_refl _ | (have := unhide HBA; omega))); have Kp_8 := hide (keep_below (unhide Kp_7) hb8); have Kx_8 := hide (keep_below (unhide Kx_7) hb8); have Kc_8 := hide (keep_below (unhide Kc_7) hb8); have Km_8 := hide (keep_below (unhide Km_7) hb8); have Kf_8 := hide (keep_below (unhide Kf_7) hb8); have FX_8 := hide ((unhide FX_7).below hb8); clear HX_7 Kp_7 Kx_7 Kc_7 Km_7 Kf_7 FX_7; clear hb8 p0 p1 p2 pf0 pf1 pf2 pl)
    have HX_9 := hide ((unhide HX_8).alloc (Nat.le_trans (show w.heap.size ≤ w.heap.size from Nat.le_refl _) (unhide HX_8).size) (.cells #[.int .i64 0, .int .i64 0] 28))
    have Kp_9 := hide (keep_alloc (unhide Kp_8) (.cells #[.int .i64 0, .int .i64 0] 28))
    have Kx_9 := hide (keep_alloc (unhide Kx_8) (.cells #[.int .i64 0, .int .i64 0] 28))
    have Kc_9 := hide (keep_alloc (unhide Kc_8) (.cells #[.int .i64 0, .int .i64 0] 28))
    have Km_9 := hide (keep_alloc (unhide Km_8) (.cells #[.int .i64 0, .int .i64 0] 28))
    have Kf_9 := hide (keep_alloc (unhide Kf_8) (.cells #[.int .i64 0, .int .i64 0] 28))
    have FX_9 := hide ((unhide FX_8).below ((Below.refl _ _).alloc (Nat.le_refl _) (.cells #[.int .i64 0, .int .i64 0] 28)))
    have Kw_9 := hide (new_block w8 (.cells #[.int .i64 0, .int .i64 0] 28))
    have hlp_w : w.heap.size < w8.heap.size := size_of (unhide Kp_8)
    have hlx_w : X < w8.heap.size := size_of (unhide Kx_8)
    have hlc_w : C < w8.heap.size := size_of (unhide Kc_8)
    have hlm_w : M < w8.heap.size := size_of (unhide Km_8)
    have hlf_w : M + 1 < w8.heap.size := size_of (unhide Kf_8)
    obtain ⟨Z, eZ⟩ : ∃ X, w8.heap.size = X := ⟨_, rfl⟩
    obtain ⟨W9, eW9⟩ : ∃ X, w8.alloc (.cells #[.int .i64 0, .int .i64 0] 28) = X := ⟨_, rfl⟩
    rw [eZ, eW9] at Kw_9; rw [eW9] at HX_9 Kp_9 Kx_9 Kc_9 Km_9 Kf_9 FX_9; rw [eZ] at hlp_w hlx_w hlc_w hlm_w hlf_w; rw [eZ, eW9]
    clear eZ eW9 HX_8 Kp_8 Kx_8 Kc_8 Km_8 Kf_8 FX_8
    obtain ⟨⟨p0, p1, p2⟩, ⟨pf0, pf1, pf2⟩, pl⟩ := block3 (unhide Kp_9)
    obtain ⟨⟨x0, x1, x2⟩, ⟨xf0, xf1, xf2⟩, xl⟩ := block3 (unhide Kx_9)
    obtain ⟨k0, k1, kf0, kf1, kl⟩ := block2 (unhide Kc_9)
    obtain ⟨z0, z1, zf0, zf1, zl⟩ := block2 (unhide Kw_9)
    go_upto_region 11 with (go_at_call 13; refine (unhide HSP _ _ (unhide HX_9) ⟨_, rfl, unhide FX_9⟩).mono ?_; rintro e w10 ⟨rfl, hb10⟩; have HX_10 := hide (Below.next (unhide HX_9) hb10 (by first | exact Nat.le_refl _ | (have := unhide HBA; omega))); have Kp_10 := hide (keep_below (unhide Kp_9) hb10); have Kx_10 := hide (keep_below (unhide Kx_9) hb10); have Kc_10 := hide (keep_below (unhide Kc_9) hb10); have Km_10 := hide (keep_below (unhide Km_9) hb10); have Kf_10 := hide (keep_below (unhide Kf_9) hb10); have Kw_10 := hide (keep_below (unhide Kw_9) hb10); have FX_10 := hide ((unhide FX_9).below hb10); clear HX_9 Kp_9 Kx_9 Kc_9 Km_9 Kf_9 Kw_9 FX_9; clear hb10 p0 p1 p2 pf0 pf1 pf2 pl x0 x1 x2 xf0 xf1 xf2 xl k0 k1 kf0 kf1 kl z0 z1 zf0 zf1 zl)
    clear FX_10
    have HL9 := hide (IsL.below (unhide HLL) (unhide HX_10))
    obtain ⟨⟨p0, p1, p2⟩, ⟨pf0, pf1, pf2⟩, pl⟩ := block3 (unhide Kp_10)
    obtain ⟨z0, z1, zf0, zf1, zl⟩ := block2 (unhide Kw_10)
    have xm : ((n : Int) == 5000) = true := by rw [unhide HM]; rfl
    go_upto_region 17 with (first
        | (go_at_call 15; refine (unhide HIN _ _ (unhide HL9)).mono ?_; rintro e w11 ⟨i, rfl, hi11, hb11⟩; have hi0 : ¬ 0 ≤ i := (by omega); have HX_11 := hide (Below.next (unhide HX_10) hb11 (by first | exact Nat.le_refl _ | (have := unhide HBA; omega))); have Kp_11 := hide (keep_below (unhide Kp_10) hb11); have Kx_11 := hide (keep_below (unhide Kx_10) hb11); have Kc_11 := hide (keep_below (unhide Kc_10) hb11); have Km_11 := hide (keep_below (unhide Km_10) hb11); have Kf_11 := hide (keep_below (unhide Kf_10) hb11); have Kw_11 := hide (keep_below (unhide Kw_10) hb11); clear HX_10 Kp_10 Kx_10 Kc_10 Km_10 Kf_10 Kw_10; clear hb11 hi11 p0 p1 p2 pf0 pf1 pf2 pl z0 z1 zf0 zf1 zl; obtain ⟨z0, z1, zf0, zf1, zl⟩ := block2 (unhide Kw_11); obtain ⟨⟨p0, p1, p2⟩, ⟨pf0, pf1, pf2⟩, pl⟩ := block3 (unhide Kp_11))
        | (go_at_call 14; refine (refF_any _ _ _).mono ?_; rintro e w12 ⟨rfl, hb12⟩; have HX_12 := hide (Below.next (unhide HX_11) hb12 (by first | exact Nat.le_refl _ | (have := unhide HBA; omega))); have Kp_12 := hide (keep_below (unhide Kp_11) hb12); have Kx_12 := hide (keep_below (unhide Kx_11) hb12); have Kc_12 := hide (keep_below (unhide Kc_11) hb12); have Km_12 := hide (keep_below (unhide Km_11) hb12); have Kf_12 := hide (keep_below (unhide Kf_11) hb12); have Kw_12 := hide (keep_below (unhide Kw_11) hb12); clear HX_11 Kp_11 Kx_11 Kc_11 Km_11 Kf_11 Kw_11; clear hb12 p0 p1 p2 pf0 pf1 pf2 pl z0 z1 zf0 zf1 zl; obtain ⟨z0, z1, zf0, zf1, zl⟩ := block2 (unhide Kw_12)))
    clear z0 z1 zf0 zf1 zl
    have HX_13 := hide (put2_below (y0 := .int .i64 9) (y1 := .int .i64 0) (unhide HX_12) (show w.heap.size ≤ Z by first | omega | (have := unhide HBA; omega)))
    have Kp_13 := hide ((put2_keep (y0 := .int .i64 9) (y1 := .int .i64 0) (show w.heap.size ≠ Z by omega)).trans (unhide Kp_12))
    have Kx_13 := hide ((put2_keep (y0 := .int .i64 9) (y1 := .int .i64 0) (show X ≠ Z by omega)).trans (unhide Kx_12))
    have Kc_13 := hide ((put2_keep (y0 := .int .i64 9) (y1 := .int .i64 0) (show C ≠ Z by omega)).trans (unhide Kc_12))
    have Km_13 := hide ((put2_keep (y0 := .int .i64 9) (y1 := .int .i64 0) (show M ≠ Z by omega)).trans (unhide Km_12))
    have Kf_13 := hide ((put2_keep (y0 := .int .i64 9) (y1 := .int .i64 0) (show M + 1 ≠ Z by omega)).trans (unhide Kf_12))
    have Kw_13 := hide (put2_new (y0 := .int .i64 9) (y1 := .int .i64 0) (unhide Kw_12))
    obtain ⟨W13, eW13⟩ : ∃ X, put2 w12 (Z) (.int .i64 9) (.int .i64 0) = X := ⟨_, rfl⟩
    rw [eW13] at HX_13 Kp_13 Kx_13 Kc_13 Km_13 Kf_13 Kw_13
    have eW132 : ((w12).setCell ⟨Z, 0, none⟩ (.int .i64 9)).setCell ⟨Z, 1, none⟩ (.int .i64 0) = W13 := eW13
    rw [eW132]
    clear eW13 eW132 HX_12 Kp_12 Kx_12 Kc_12 Km_12 Kf_12 Kw_12
    obtain ⟨⟨m0, m1, m2⟩, ⟨mf0, mf1, mf2⟩, ml⟩ := block3 (unhide Km_13)
    obtain ⟨f0, f1, ff0, ff1, fl⟩ := block2 (unhide Kf_13)
    obtain ⟨z0, z1, zf0, zf1, zl⟩ := block2 (unhide Kw_13)
    go_wp2_with (go_at_call 16; refine (noLock_zero _).mono ?_; rintro e w20 ⟨rfl, hb20⟩; have HX_14 := hide (Below.next (unhide HX_13) hb20 (by first | exact Nat.le_refl _ | (have := unhide HBA; omega))); have Kp_14 := hide (keep_below (unhide Kp_13) hb20); have Kx_14 := hide (keep_below (unhide Kx_13) hb20); have Kc_14 := hide (keep_below (unhide Kc_13) hb20); have Km_14 := hide (keep_below (unhide Km_13) hb20); have Kf_14 := hide (keep_below (unhide Kf_13) hb20); have Kw_14 := hide (keep_below (unhide Kw_13) hb20); clear HX_13 Kp_13 Kx_13 Kc_13 Km_13 Kf_13 Kw_13; clear hb20 m0 m1 m2 mf0 mf1 mf2 ml f0 f1 ff0 ff1 fl z0 z1 zf0 zf1 zl)
    go_ret
    exact ⟨rfl, unhide HX_14⟩

set_option maxRecDepth 100000 in
set_option maxHeartbeats 4000000 in
theorem enters_G (w : World) (v : Value) (P : Lk) (x : Int) (wt try_ : Bool) (h : IsLock w v P) (hn : P.line.length ≤ 6000) (hn2 : P.line.length ≤ 700 ∨ 4999 ≤ P.line.length) (hf : (lockF P).1 = 0) (hx : ¬ x < 1) (hi : P.line.any (isOfP x) = false) (hm : P.line.length ≠ 5000) (hm2 : P.readers = 1000000000) :
    Calls Try.prog 3 #[v, .int .i64 x, .bool wt, .bool try_] w fun e w' => e = .returned (.bool true) ∧ Below w.heap.size w w' := by
  have hnot : ∀ (x : Bool) (w : World), (Op.unary .not (.bool x)).run Try.prog w = .ok (.bool (!x)) w := fun _ _ => rfl
  have eF := lockF_zero hf
  have eG : enterF P x = (9, 0) := by unfold enterF; rw [if_neg (by simpa using hf), if_neg hx, if_neg (by rw [hi]; simp), if_pos (Or.inr hm2)]
  have HOW : Hid (∀ W, Below w.heap.size w W → Calls Try.prog 9 #[v] W fun e w' => ∃ a c, e = .returned (.agg #[.int .i64 P.readers, .bool P.writer, .slice a P.line.length c]) ∧ IsL KP w' (.slice a P.line.length c) P.line ∧ Below W.heap.size W w') := fun W hW => (ownLock_any W v P (h.below hW) (by omega)).mono fun e w' ⟨v', h1, h2, h3⟩ => by
    obtain ⟨a, c, rfl, h4⟩ := h2.form
    exact ⟨a, c, h1, h4.1, h3⟩
  have HCK : Hid (∀ W v', IsLock W v' P → Calls Try.prog 10 #[v'] W fun e w' => e = .returned (.agg #[.int .i64 0, .int .i64 0]) ∧ Below W.heap.size W w') := fun W v' hW => by
    have := check_any W v' P hW (by omega)
    rw [eF] at this
    exact this
  have HPF : Hid (∀ W, Below w.heap.size w W → Calls Try.prog 12 #[v] W fun e w' => e = .returned (.agg #[.int .i64 0, .int .i64 0]) ∧ Below W.heap.size W w') := fun W hW => by
    have := lockFault_any W v P (h.below hW)
    rw [eF] at this
    exact this
  have HSP : Hid (∀ W v', Below w.heap.size w W → IsLock W v' P → Calls Try.prog 13 #[v', v] W fun e w' => e = .returned (.bool true) ∧ Below W.heap.size W w') := fun W v' hW hv' => sameLock_any W v' v P hv' (h.below hW) (by unfold maxLen; omega)
  have HEN : Hid (∀ W v', IsLock W v' P → Calls Try.prog 11 #[v', .int .i64 x, .bool wt, .bool try_] W fun e w' => e = .returned (.tuple #[.agg #[.int .i64 0, .bool false, .slice none 0 0], .bool false, .agg #[.int .i64 9, .int .i64 0]]) ∧ Below W.heap.size W w') := fun W v' hW => by
    have := enter_fault W v' P x wt try_ hW (by omega) (by rw [eG]; decide)
    rw [eG] at this
    exact this
  have HIN : Hid (∀ W vl, IsL KP W vl P.line → Calls Try.prog 15 #[vl, .int .i64 x] W fun e w' => ∃ i : Int, e = .returned (.int .i64 i) ∧ ¬ 0 ≤ i ∧ Below W.heap.size W w') := fun W vl hW => (inLine_any W vl P.line x hW (by unfold maxLen; omega)).mono fun e w' ⟨h1, h2⟩ => by
    rcases h1 with ⟨rfl, h3⟩ | ⟨j, rfl, h3, h4, -⟩
    · exact ⟨_, rfl, by decide, h2⟩
    · rw [(any_pAt _ _).2 ⟨j, h3, by simp [isOfP, h4]⟩] at hi; cases hi
  obtain ⟨r, bw, line⟩ := P
  obtain ⟨a0, c0, rfl, hL⟩ := h.form
  simp only at hL hn hn2 HOW HCK HPF HSP HEN HIN hm hm2 ⊢
  have HLL := hide hL
  obtain ⟨n, en⟩ : ∃ n, line.length = n := ⟨_, rfl⟩
  rw [en] at hn hn2 HOW HPF HSP HLL hm ⊢
  clear h hL en hi hf eF eG
  have HM := hide hm
  clear hm
  have HM2 := hide hm2
  clear hm2
  have g1 : ¬ (6000 : Int) < (n : Int) := by omega
  have hq : (¬ (700 : Int) < (n : Int) ∧ True) ∨ ((700 : Int) < (n : Int) ∧ ¬ (n : Int) < 4999) := by
    rcases hn2 with h | h
    · exact Or.inl ⟨by omega, trivial⟩
    · exact Or.inr ⟨by omega, by omega⟩
  clear hn2
  obtain ⟨W0, e0⟩ : ∃ W, w.alloc (.cells #[.int .i64 r, .bool bw, .slice a0 n c0] 24) = W := ⟨_, rfl⟩
  have HX := hide ((Below.refl w.heap.size w).alloc (Nat.le_refl _) (.cells #[.int .i64 r, .bool bw, .slice a0 n c0] 24))
  have HP := hide (new_block w (.cells #[.int .i64 r, .bool bw, .slice a0 n c0] 24))
  rw [e0] at HX HP
  have HE := hide e0
  clear e0
  rcases hq with ⟨g2, g3⟩ | ⟨g2, g3⟩
  all_goals
    go_enter Try.func3, Try.ntmps3
    go_upto_region 1 with fail
    rw [unhide HE]
    clear HE
    obtain ⟨⟨p0, p1, p2⟩, ⟨pf0, pf1, pf2⟩, pl⟩ := block3 (unhide HP)
    go_upto_region 6 with (first
        | (go_at_call 8; refine (begun_any _).mono ?_; rintro e w1 ⟨rfl, hb1⟩; have HX_1 := hide (Below.next (unhide HX) hb1 (by first | exact Nat.le_refl _ | (have := unhide HBA; omega))); have Kp_1 := hide (keep_below (unhide HP) hb1); clear HX HP; clear hb1 p0 p1 p2 pf0 pf1 pf2 pl; obtain ⟨⟨p0, p1, p2⟩, ⟨pf0, pf1, pf2⟩, pl⟩ := block3 (unhide Kp_1))
        | (go_at_call 9; refine (unhide HOW _ (unhide HX_1)).mono ?_; rintro e w2 ⟨a2, c2, rfl, hi2, hb2⟩; have HI2 := hide hi2; have HX_2 := hide (Below.next (unhide HX_1) hb2 (by first | exact Nat.le_refl _ | (have := unhide HBA; omega))); have Kp_2 := hide (keep_below (unhide Kp_1) hb2); clear HX_1 Kp_1; clear hb2 hi2 p0 p1 p2 pf0 pf1 pf2 pl))
    have HX_3 := hide ((unhide HX_2).alloc (Nat.le_trans (show w.heap.size ≤ w.heap.size from Nat.le_refl _) (unhide HX_2).size) (.cells #[.int .i64 r, .bool bw, .slice a2 n c2] 24))
    have Kp_3 := hide (keep_alloc (unhide Kp_2) (.cells #[.int .i64 r, .bool bw, .slice a2 n c2] 24))
    have FX_3 := hide ((unhide HI2).below ((Below.refl _ _).alloc (Nat.le_refl _) (.cells #[.int .i64 r, .bool bw, .slice a2 n c2] 24)))
    have Kx_3 := hide (new_block w2 (.cells #[.int .i64 r, .bool bw, .slice a2 n c2] 24))
    have hlp_x : w.heap.size < w2.heap.size := size_of (unhide Kp_2)
    obtain ⟨X, eX⟩ : ∃ X, w2.heap.size = X := ⟨_, rfl⟩
    obtain ⟨W3, eW3⟩ : ∃ X, w2.alloc (.cells #[.int .i64 r, .bool bw, .slice a2 n c2] 24) = X := ⟨_, rfl⟩
    rw [eX, eW3] at Kx_3; rw [eW3] at HX_3 Kp_3 FX_3; rw [eX] at hlp_x; rw [eX, eW3]
    clear eX eW3 HX_2 Kp_2 HI2
    obtain ⟨⟨x0, x1, x2⟩, ⟨xf0, xf1, xf2⟩, xl⟩ := block3 (unhide Kx_3)
    go_upto_region 7 with (go_at_call 10; refine (unhide HCK _ _ ⟨_, rfl, unhide FX_3⟩).mono ?_; rintro e w4 ⟨rfl, hb4⟩; have HX_4 := hide (Below.next (unhide HX_3) hb4 (by first | exact Nat.le_refl _ | (have := unhide HBA; omega))); have Kp_4 := hide (keep_below (unhide Kp_3) hb4); have Kx_4 := hide (keep_below (unhide Kx_3) hb4); have FX_4 := hide ((unhide FX_3).below hb4); clear HX_3 Kp_3 Kx_3 FX_3; clear hb4 x0 x1 x2 xf0 xf1 xf2 xl)
    have HX_5 := hide ((unhide HX_4).alloc (Nat.le_trans (show w.heap.size ≤ w.heap.size from Nat.le_refl _) (unhide HX_4).size) (.cells #[.int .i64 0, .int .i64 0] 28))
    have Kp_5 := hide (keep_alloc (unhide Kp_4) (.cells #[.int .i64 0, .int .i64 0] 28))
    have Kx_5 := hide (keep_alloc (unhide Kx_4) (.cells #[.int .i64 0, .int .i64 0] 28))
    have FX_5 := hide ((unhide FX_4).below ((Below.refl _ _).alloc (Nat.le_refl _) (.cells #[.int .i64 0, .int .i64 0] 28)))
    have Kc_5 := hide (new_block w4 (.cells #[.int .i64 0, .int .i64 0] 28))
    have hlp_c : w.heap.size < w4.heap.size := size_of (unhide Kp_4)
    have hlx_c : X < w4.heap.size := size_of (unhide Kx_4)
    obtain ⟨C, eC⟩ : ∃ X, w4.heap.size = X := ⟨_, rfl⟩
    obtain ⟨W5, eW5⟩ : ∃ X, w4.alloc (.cells #[.int .i64 0, .int .i64 0] 28) = X := ⟨_, rfl⟩
    rw [eC, eW5] at Kc_5; rw [eW5] at HX_5 Kp_5 Kx_5 FX_5; rw [eC] at hlp_c hlx_c; rw [eC, eW5]
    clear eC eW5 HX_4 Kp_4 Kx_4 FX_4
    obtain ⟨⟨x0, x1, x2⟩, ⟨xf0, xf1, xf2⟩, xl⟩ := block3 (unhide Kx_5)
    go_upto_region 8 with (go_at_call 11; refine (unhide HEN _ _ ⟨_, rfl, unhide FX_5⟩).mono ?_; rintro e w6 ⟨rfl, hb6⟩; have HX_6 := hide (Below.next (unhide HX_5) hb6 (by first | exact Nat.le_refl _ | (have := unhide HBA; omega))); have Kp_6 := hide (keep_below (unhide Kp_5) hb6); have Kx_6 := hide (keep_below (unhide Kx_5) hb6); have Kc_6 := hide (keep_below (unhide Kc_5) hb6); have FX_6 := hide ((unhide FX_5).below hb6); clear HX_5 Kp_5 Kx_5 Kc_5 FX_5; clear hb6 x0 x1 x2 xf0 xf1 xf2 xl)
    obtain ⟨W7, eW7, hBW7, k0_7, k1_7⟩ := two_new w6 (.cells #[.int .i64 0, .bool false, .slice none 0 0] 24) (.cells #[.int .i64 9, .int .i64 0] 28)
    rw [eW7]
    clear eW7
    have hlp_m : w.heap.size < w6.heap.size := size_of (unhide Kp_6)
    have hlx_m : X < w6.heap.size := size_of (unhide Kx_6)
    have hlc_m : C < w6.heap.size := size_of (unhide Kc_6)
    (have HX_7 := hide (Below.next (unhide HX_6) hBW7 (by first | exact Nat.le_refl _ | (have := unhide HBA; omega))); have Kp_7 := hide (keep_below (unhide Kp_6) hBW7); have Kx_7 := hide (keep_below (unhide Kx_6) hBW7); have Kc_7 := hide (keep_below (unhide Kc_6) hBW7); have FX_7 := hide ((unhide FX_6).below hBW7); clear HX_6 Kp_6 Kx_6 Kc_6 FX_6)
    obtain ⟨M, eM⟩ : ∃ X, w6.heap.size = X := ⟨_, rfl⟩
    rw [eM] at k0_7 k1_7 hlp_m hlx_m hlc_m ⊢
    have Km_7 := hide k0_7
    have Kf_7 := hide k1_7
    clear eM hBW7 k0_7 k1_7
    obtain ⟨⟨p0, p1, p2⟩, ⟨pf0, pf1, pf2⟩, pl⟩ := block3 (unhide Kp_7)
    go_upto_region 9 with (go_at_call 12; refine (unhide HPF _ (unhide HX_7)).mono ?_; rintro e w8 ⟨rfl, hb8⟩; have HX_8 := hide (Below.next (unhide HX_7) hb8 (by first | exact Nat.le_refl _ | (have := unhide HBA; omega))); have Kp_8 := hide (keep_below (unhide Kp_7) hb8); have Kx_8 := hide (keep_below (unhide Kx_7) hb8); have Kc_8 := hide (keep_below (unhide Kc_7) hb8); have Km_8 := hide (keep_below (unhide Km_7) hb8); have Kf_8 := hide (keep_below (unhide Kf_7) hb8); have FX_8 := hide ((unhide FX_7).below hb8); clear HX_7 Kp_7 Kx_7 Kc_7 Km_7 Kf_7 FX_7; clear hb8 p0 p1 p2 pf0 pf1 pf2 pl)
    have HX_9 := hide ((unhide HX_8).alloc (Nat.le_trans (show w.heap.size ≤ w.heap.size from Nat.le_refl _) (unhide HX_8).size) (.cells #[.int .i64 0, .int .i64 0] 28))
    have Kp_9 := hide (keep_alloc (unhide Kp_8) (.cells #[.int .i64 0, .int .i64 0] 28))
    have Kx_9 := hide (keep_alloc (unhide Kx_8) (.cells #[.int .i64 0, .int .i64 0] 28))
    have Kc_9 := hide (keep_alloc (unhide Kc_8) (.cells #[.int .i64 0, .int .i64 0] 28))
    have Km_9 := hide (keep_alloc (unhide Km_8) (.cells #[.int .i64 0, .int .i64 0] 28))
    have Kf_9 := hide (keep_alloc (unhide Kf_8) (.cells #[.int .i64 0, .int .i64 0] 28))
    have FX_9 := hide ((unhide FX_8).below ((Below.refl _ _).alloc (Nat.le_refl _) (.cells #[.int .i64 0, .int .i64 0] 28)))
    have Kw_9 := hide (new_block w8 (.cells #[.int .i64 0, .int .i64 0] 28))
    have hlp_w : w.heap.size < w8.heap.size := size_of (unhide Kp_8)
    have hlx_w : X < w8.heap.size := size_of (unhide Kx_8)
    have hlc_w : C < w8.heap.size := size_of (unhide Kc_8)
    have hlm_w : M < w8.heap.size := size_of (unhide Km_8)
    have hlf_w : M + 1 < w8.heap.size := size_of (unhide Kf_8)
    obtain ⟨Z, eZ⟩ : ∃ X, w8.heap.size = X := ⟨_, rfl⟩
    obtain ⟨W9, eW9⟩ : ∃ X, w8.alloc (.cells #[.int .i64 0, .int .i64 0] 28) = X := ⟨_, rfl⟩
    rw [eZ, eW9] at Kw_9; rw [eW9] at HX_9 Kp_9 Kx_9 Kc_9 Km_9 Kf_9 FX_9; rw [eZ] at hlp_w hlx_w hlc_w hlm_w hlf_w; rw [eZ, eW9]
    clear eZ eW9 HX_8 Kp_8 Kx_8 Kc_8 Km_8 Kf_8 FX_8
    obtain ⟨⟨p0, p1, p2⟩, ⟨pf0, pf1, pf2⟩, pl⟩ := block3 (unhide Kp_9)
    obtain ⟨⟨x0, x1, x2⟩, ⟨xf0, xf1, xf2⟩, xl⟩ := block3 (unhide Kx_9)
    obtain ⟨k0, k1, kf0, kf1, kl⟩ := block2 (unhide Kc_9)
    obtain ⟨z0, z1, zf0, zf1, zl⟩ := block2 (unhide Kw_9)
    go_upto_region 11 with (go_at_call 13; refine (unhide HSP _ _ (unhide HX_9) ⟨_, rfl, unhide FX_9⟩).mono ?_; rintro e w10 ⟨rfl, hb10⟩; have HX_10 := hide (Below.next (unhide HX_9) hb10 (by first | exact Nat.le_refl _ | (have := unhide HBA; omega))); have Kp_10 := hide (keep_below (unhide Kp_9) hb10); have Kx_10 := hide (keep_below (unhide Kx_9) hb10); have Kc_10 := hide (keep_below (unhide Kc_9) hb10); have Km_10 := hide (keep_below (unhide Km_9) hb10); have Kf_10 := hide (keep_below (unhide Kf_9) hb10); have Kw_10 := hide (keep_below (unhide Kw_9) hb10); have FX_10 := hide ((unhide FX_9).below hb10); clear HX_9 Kp_9 Kx_9 Kc_9 Km_9 Kf_9 Kw_9 FX_9; clear hb10 p0 p1 p2 pf0 pf1 pf2 pl x0 x1 x2 xf0 xf1 xf2 xl k0 k1 kf0 kf1 kl z0 z1 zf0 zf1 zl)
    clear FX_10
    have HL9 := hide (IsL.below (unhide HLL) (unhide HX_10))
    obtain ⟨⟨p0, p1, p2⟩, ⟨pf0, pf1, pf2⟩, pl⟩ := block3 (unhide Kp_10)
    obtain ⟨z0, z1, zf0, zf1, zl⟩ := block2 (unhide Kw_10)
    have xm : ((n : Int) == 5000) = false := beq_false_of_ne (by have := unhide HM; omega)
    have xm2 : (r == 1000000000) = true := by rw [unhide HM2]; rfl
    go_upto_region 17 with (first
        | (go_at_call 15; refine (unhide HIN _ _ (unhide HL9)).mono ?_; rintro e w11 ⟨i, rfl, hi11, hb11⟩; have hi0 : ¬ 0 ≤ i := (by omega); have HX_11 := hide (Below.next (unhide HX_10) hb11 (by first | exact Nat.le_refl _ | (have := unhide HBA; omega))); have Kp_11 := hide (keep_below (unhide Kp_10) hb11); have Kx_11 := hide (keep_below (unhide Kx_10) hb11); have Kc_11 := hide (keep_below (unhide Kc_10) hb11); have Km_11 := hide (keep_below (unhide Km_10) hb11); have Kf_11 := hide (keep_below (unhide Kf_10) hb11); have Kw_11 := hide (keep_below (unhide Kw_10) hb11); clear HX_10 Kp_10 Kx_10 Kc_10 Km_10 Kf_10 Kw_10; clear hb11 hi11 p0 p1 p2 pf0 pf1 pf2 pl z0 z1 zf0 zf1 zl; obtain ⟨z0, z1, zf0, zf1, zl⟩ := block2 (unhide Kw_11); obtain ⟨⟨p0, p1, p2⟩, ⟨pf0, pf1, pf2⟩, pl⟩ := block3 (unhide Kp_11))
        | (go_at_call 14; refine (refF_any _ _ _).mono ?_; rintro e w12 ⟨rfl, hb12⟩; have HX_12 := hide (Below.next (unhide HX_11) hb12 (by first | exact Nat.le_refl _ | (have := unhide HBA; omega))); have Kp_12 := hide (keep_below (unhide Kp_11) hb12); have Kx_12 := hide (keep_below (unhide Kx_11) hb12); have Kc_12 := hide (keep_below (unhide Kc_11) hb12); have Km_12 := hide (keep_below (unhide Km_11) hb12); have Kf_12 := hide (keep_below (unhide Kf_11) hb12); have Kw_12 := hide (keep_below (unhide Kw_11) hb12); clear HX_11 Kp_11 Kx_11 Kc_11 Km_11 Kf_11 Kw_11; clear hb12 p0 p1 p2 pf0 pf1 pf2 pl z0 z1 zf0 zf1 zl; obtain ⟨z0, z1, zf0, zf1, zl⟩ := block2 (unhide Kw_12)))
    clear z0 z1 zf0 zf1 zl
    have HX_13 := hide (put2_below (y0 := .int .i64 9) (y1 := .int .i64 0) (unhide HX_12) (show w.heap.size ≤ Z by first | omega | (have := unhide HBA; omega)))
    have Kp_13 := hide ((put2_keep (y0 := .int .i64 9) (y1 := .int .i64 0) (show w.heap.size ≠ Z by omega)).trans (unhide Kp_12))
    have Kx_13 := hide ((put2_keep (y0 := .int .i64 9) (y1 := .int .i64 0) (show X ≠ Z by omega)).trans (unhide Kx_12))
    have Kc_13 := hide ((put2_keep (y0 := .int .i64 9) (y1 := .int .i64 0) (show C ≠ Z by omega)).trans (unhide Kc_12))
    have Km_13 := hide ((put2_keep (y0 := .int .i64 9) (y1 := .int .i64 0) (show M ≠ Z by omega)).trans (unhide Km_12))
    have Kf_13 := hide ((put2_keep (y0 := .int .i64 9) (y1 := .int .i64 0) (show M + 1 ≠ Z by omega)).trans (unhide Kf_12))
    have Kw_13 := hide (put2_new (y0 := .int .i64 9) (y1 := .int .i64 0) (unhide Kw_12))
    obtain ⟨W13, eW13⟩ : ∃ X, put2 w12 (Z) (.int .i64 9) (.int .i64 0) = X := ⟨_, rfl⟩
    rw [eW13] at HX_13 Kp_13 Kx_13 Kc_13 Km_13 Kf_13 Kw_13
    have eW132 : ((w12).setCell ⟨Z, 0, none⟩ (.int .i64 9)).setCell ⟨Z, 1, none⟩ (.int .i64 0) = W13 := eW13
    rw [eW132]
    clear eW13 eW132 HX_12 Kp_12 Kx_12 Kc_12 Km_12 Kf_12 Kw_12
    obtain ⟨⟨m0, m1, m2⟩, ⟨mf0, mf1, mf2⟩, ml⟩ := block3 (unhide Km_13)
    obtain ⟨f0, f1, ff0, ff1, fl⟩ := block2 (unhide Kf_13)
    obtain ⟨z0, z1, zf0, zf1, zl⟩ := block2 (unhide Kw_13)
    go_wp2_with (go_at_call 16; refine (noLock_zero _).mono ?_; rintro e w20 ⟨rfl, hb20⟩; have HX_14 := hide (Below.next (unhide HX_13) hb20 (by first | exact Nat.le_refl _ | (have := unhide HBA; omega))); have Kp_14 := hide (keep_below (unhide Kp_13) hb20); have Kx_14 := hide (keep_below (unhide Kx_13) hb20); have Kc_14 := hide (keep_below (unhide Kc_13) hb20); have Km_14 := hide (keep_below (unhide Km_13) hb20); have Kf_14 := hide (keep_below (unhide Kf_13) hb20); have Kw_14 := hide (keep_below (unhide Kw_13) hb20); clear HX_13 Kp_13 Kx_13 Kc_13 Km_13 Kf_13 Kw_13; clear hb20 m0 m1 m2 mf0 mf1 mf2 ml f0 f1 ff0 ff1 fl z0 z1 zf0 zf1 zl)
    go_ret
    exact ⟨rfl, unhide HX_14⟩
end Go.Proofs.Ytdpcbmekplcllaa
