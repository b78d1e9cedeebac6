/-
  taskmilllaw.LockEnters, where nothing is wrong and many wait.
-/
import Derived.Test.YtdpcbmekplcllaaEb
namespace Go.Proofs.Ytdpcbmekplcllaa
open Go.RowKit

set_option maxRecDepth 100000 in
set_option maxHeartbeats 4000000 in
theorem enters_E2 (w : World) (v : Value) (P : Lk) (x : Int) (wt try_ : Bool) (h : IsLock w v P) (hn : P.line.length ≤ 6000) (hn2 : 4999 ≤ P.line.length) (he : (enterF P x).1 = 0) :
    Calls Try.prog 3 #[v, .int .i64 x, .bool wt, .bool try_] w fun e w' => e = .returned (.bool true) ∧ Below w.heap.size w w' := by
  have hnot : ∀ (x : Bool) (w : World), (Op.unary .not (.bool x)).run Try.prog w = .ok (.bool (!x)) w := fun _ _ => rfl
  obtain ⟨hf, eG, hx1, hi, hl5, hr9⟩ := enterF_good he
  have hx : ¬ x < 1 := by omega
  have hgood := lockF_good hf
  have eF := lockF_zero hf
  have HOW : Hid (∀ W, Below w.heap.size w W → Calls Try.prog 9 #[v] W fun e w' => ∃ a c, e = .returned (.agg #[.int .i64 P.readers, .bool P.writer, .slice a P.line.length c]) ∧ IsL KP w' (.slice a P.line.length c) P.line ∧ Below W.heap.size W w') := fun W hW => (ownLock_any W v P (h.below hW) (by omega)).mono fun e w' ⟨v', h1, h2, h3⟩ => by
    obtain ⟨a, c, rfl, h4⟩ := h2.form
    exact ⟨a, c, h1, h4.1, h3⟩
  have HCK : Hid (∀ W v', IsLock W v' P → Calls Try.prog 10 #[v'] W fun e w' => e = .returned (.agg #[.int .i64 0, .int .i64 0]) ∧ Below W.heap.size W w') := fun W v' hW => by
    have := check_any W v' P hW (by omega)
    rw [eF] at this
    exact this
  have HPF : Hid (∀ W, Below w.heap.size w W → Calls Try.prog 12 #[v] W fun e w' => e = .returned (.agg #[.int .i64 0, .int .i64 0]) ∧ Below W.heap.size W w') := fun W hW => by
    have := lockFault_any W v P (h.below hW)
    rw [eF] at this
    exact this
  have HSP : Hid (∀ W v', Below w.heap.size w W → IsLock W v' P → Calls Try.prog 13 #[v', v] W fun e w' => e = .returned (.bool true) ∧ Below W.heap.size W w') := fun W v' hW hv' => sameLock_any W v' v P hv' (h.below hW) (by unfold maxLen; omega)
  have HIN : Hid (∀ W vl, IsL KP W vl P.line → Calls Try.prog 15 #[vl, .int .i64 x] W fun e w' => ∃ i : Int, e = .returned (.int .i64 i) ∧ ¬ 0 ≤ i ∧ Below W.heap.size W w') := fun W vl hW => (inLine_any W vl P.line x hW (by unfold maxLen; omega)).mono fun e w' ⟨h1, h2⟩ => by
    rcases h1 with ⟨rfl, h3⟩ | ⟨j, rfl, h3, h4, -⟩
    · exact ⟨_, rfl, by decide, h2⟩
    · rw [(any_pAt _ _).2 ⟨j, h3, by simp [isOfP, h4]⟩] at hi; cases hi
  have HE1 : Hid (∀ W v', IsLock W v' P → Calls Try.prog 11 #[v', .int .i64 x, .bool wt, .bool try_] W fun e w' => ∃ v1, e = .returned (.tuple #[v1, .bool (enterR P x wt try_).2, .agg #[.int .i64 0, .int .i64 0]]) ∧ NewLock W.heap.size w' v1 (enterR P x wt try_).1 ∧ Below W.heap.size W w') := fun W v' hW => enter_ok W v' P x wt try_ hW he
  have hhold := enter_holds (good_of hf) hx1 (fun hc => by rw [(any_isOf _ _).2 hc] at hi; cases hi) wt
  have HOWN : Hid (∀ W vl, IsL KP W vl P.line → Calls Try.prog 18 #[vl] W fun e w' => ∃ a' c', e = .returned (.slice a' P.line.length c') ∧ Own KP W.heap.size w' (.slice a' P.line.length c') P.line ∧ Below W.heap.size W w') := fun W vl hW => ownPosts_any W vl P.line hW (by omega)
  obtain ⟨Q, eQ⟩ : ∃ Q, admR P.readers P.writer (P.line ++ [(x, wt, 0)]) = Q := ⟨_, rfl⟩
  have HAD : Hid (∀ W a c, IsL KP W (.slice a (P.line.length + 1) c) (P.line ++ [(x, wt, 0)]) → Calls Try.prog 17 #[.agg #[.int .i64 P.readers, .bool P.writer, .slice a (P.line.length + 1) c]] W fun e w' => ∃ v1 v2, e = .returned (.tuple #[v1, v2]) ∧ AtLock (Value.slice a (P.line.length + 1) c).ownBlock w' v1 Q.1 ∧ Own KI W.heap.size w' v2 Q.2 ∧ Below W.heap.size W w') := fun W a c hW => by
    rw [← eQ]
    exact refAdm_any W _ _ ⟨P.readers, P.writer, P.line ++ [(x, wt, 0)]⟩ ⟨_, rfl, at_own hW⟩ (by simp only; omega) (by simp only; omega) (by simp only; omega) (by simp only [List.length_append, List.length_cons, List.length_nil]; omega)
  have hql : Q.1.line.length ≤ P.line.length + 1 := by
    rw [← eQ]
    have := admR_len P.readers P.writer (P.line ++ [(x, wt, 0)])
    simpa using this
  have hqw : Q.2.length ≤ P.line.length + 1 := by
    rw [← eQ]
    have := admR_most P.readers P.writer (P.line ++ [(x, wt, 0)])
    simpa using this
  rw [eQ] at hhold
  have eR : enterR P x wt try_ = (if try_ = true ∧ Q.2.contains x = false then P else Q.1, Q.2.contains x) := by
    unfold enterR
    rw [eQ, hhold]
    cases Q.1.line.any (isOfP x) <;> simp
  obtain ⟨z, ez⟩ : ∃ z, Q.2.contains x = z := ⟨_, rfl⟩
  rw [ez] at eR
  obtain ⟨E, eE⟩ : ∃ E, (if try_ = true ∧ z = false then P else Q.1) = E := ⟨_, rfl⟩
  rw [eE] at eR
  rw [eR] at HE1
  simp only at HE1
  have HHA : Hid (∀ W v2, IsL KI W v2 Q.2 → Calls Try.prog 19 #[v2, .int .i64 x] W fun e w' => e = .returned (.bool z) ∧ Below W.heap.size W w') := fun W v2 hW => by
    rw [← ez]
    exact has_any W v2 Q.2 x hW (by unfold maxLen; omega)
  have HEE := hide eE
  have hEl : E.line.length ≤ 6001 := by
    rw [← eE]
    split
    · omega
    · omega
  have HEL := hide hEl
  clear eQ hhold eR ez eE hql hqw hgood hEl
  have HPP := hide h
  obtain ⟨r, bw, line⟩ := P
  obtain ⟨⟨qr, qb, ql⟩, qw⟩ := Q
  obtain ⟨er, eb, el⟩ := E
  obtain ⟨a0, c0, rfl, hL⟩ := h.form
  simp only at hL hn hn2 HOW HCK HPF HSP HIN HE1 HOWN HAD HHA HEE hl5 hr9 HEL HPP ⊢
  have HLL := hide hL
  obtain ⟨n, en⟩ : ∃ n, line.length = n := ⟨_, rfl⟩
  rw [en] at hn hn2 HOW HPF HSP HLL hl5 HOWN HAD HPP ⊢
  have HN := hide en
  clear h hL en hf eF eG he hi
  have g1 : ¬ (6000 : Int) < (n : Int) := by omega
  have g2 : (700 : Int) < (n : Int) := by omega
  have g3 : ¬ (n : Int) < 4999 := by omega
  clear hn2
  have xm : ((n : Int) == 5000) = false := beq_false_of_ne (by omega)
  have xm2 : (r == 1000000000) = false := beq_false_of_ne (by omega)
  obtain ⟨W0, e0⟩ : ∃ W, w.alloc (.cells #[.int .i64 r, .bool bw, .slice a0 n c0] 24) = W := ⟨_, rfl⟩
  have HX := hide ((Below.refl w.heap.size w).alloc (Nat.le_refl _) (.cells #[.int .i64 r, .bool bw, .slice a0 n c0] 24))
  have HP := hide (new_block w (.cells #[.int .i64 r, .bool bw, .slice a0 n c0] 24))
  rw [e0] at HX HP
  have HE := hide e0
  clear e0
  all_goals
    go_enter Try.func3, Try.ntmps3
    go_upto_region 1 with fail
    rw [unhide HE]
    clear HE
    obtain ⟨⟨p0, p1, p2⟩, ⟨pf0, pf1, pf2⟩, pl⟩ := block3 (unhide HP)
    go_upto_region 6 with (first
        | (go_at_call 8; refine (begun_any _).mono ?_; rintro e w1 ⟨rfl, hb1⟩; have HX_1 := hide (Below.next (unhide HX) hb1 (by first | exact Nat.le_refl _ | (have := unhide HBA; omega))); have Kp_1 := hide (keep_below (unhide HP) hb1); clear HX HP; clear hb1 p0 p1 p2 pf0 pf1 pf2 pl; obtain ⟨⟨p0, p1, p2⟩, ⟨pf0, pf1, pf2⟩, pl⟩ := block3 (unhide Kp_1))
        | (go_at_call 9; refine (unhide HOW _ (unhide HX_1)).mono ?_; rintro e w2 ⟨a2, c2, rfl, hi2, hb2⟩; have HI2 := hide hi2; have HX_2 := hide (Below.next (unhide HX_1) hb2 (by first | exact Nat.le_refl _ | (have := unhide HBA; omega))); have Kp_2 := hide (keep_below (unhide Kp_1) hb2); clear HX_1 Kp_1; clear hb2 hi2 p0 p1 p2 pf0 pf1 pf2 pl))
    have HX_3 := hide ((unhide HX_2).alloc (Nat.le_trans (show w.heap.size ≤ w.heap.size from Nat.le_refl _) (unhide HX_2).size) (.cells #[.int .i64 r, .bool bw, .slice a2 n c2] 24))
    have Kp_3 := hide (keep_alloc (unhide Kp_2) (.cells #[.int .i64 r, .bool bw, .slice a2 n c2] 24))
    have FX_3 := hide ((unhide HI2).below ((Below.refl _ _).alloc (Nat.le_refl _) (.cells #[.int .i64 r, .bool bw, .slice a2 n c2] 24)))
    have Kx_3 := hide (new_block w2 (.cells #[.int .i64 r, .bool bw, .slice a2 n c2] 24))
    have hlp_x : w.heap.size < w2.heap.size := size_of (unhide Kp_2)
    obtain ⟨X, eX⟩ : ∃ X, w2.heap.size = X := ⟨_, rfl⟩
    obtain ⟨W3, eW3⟩ : ∃ X, w2.alloc (.cells #[.int .i64 r, .bool bw, .slice a2 n c2] 24) = X := ⟨_, rfl⟩
    rw [eX, eW3] at Kx_3; rw [eW3] at HX_3 Kp_3 FX_3; rw [eX] at hlp_x; rw [eX, eW3]
    clear eX eW3 HX_2 Kp_2 HI2
    obtain ⟨⟨x0, x1, x2⟩, ⟨xf0, xf1, xf2⟩, xl⟩ := block3 (unhide Kx_3)
    go_upto_region 7 with (go_at_call 10; refine (unhide HCK _ _ ⟨_, rfl, unhide FX_3⟩).mono ?_; rintro e w4 ⟨rfl, hb4⟩; have HX_4 := hide (Below.next (unhide HX_3) hb4 (by first | exact Nat.le_refl _ | (have := unhide HBA; omega))); have Kp_4 := hide (keep_below (unhide Kp_3) hb4); have Kx_4 := hide (keep_below (unhide Kx_3) hb4); have FX_4 := hide ((unhide FX_3).below hb4); clear HX_3 Kp_3 Kx_3 FX_3; clear hb4 x0 x1 x2 xf0 xf1 xf2 xl)
    have HX_5 := hide ((unhide HX_4).alloc (Nat.le_trans (show w.heap.size ≤ w.heap.size from Nat.le_refl _) (unhide HX_4).size) (.cells #[.int .i64 0, .int .i64 0] 28))
    have Kp_5 := hide (keep_alloc (unhide Kp_4) (.cells #[.int .i64 0, .int .i64 0] 28))
    have Kx_5 := hide (keep_alloc (unhide Kx_4) (.cells #[.int .i64 0, .int .i64 0] 28))
    have FX_5 := hide ((unhide FX_4).below ((Below.refl _ _).alloc (Nat.le_refl _) (.cells #[.int .i64 0, .int .i64 0] 28)))
    have Kc_5 := hide (new_block w4 (.cells #[.int .i64 0, .int .i64 0] 28))
    have hlp_c : w.heap.size < w4.heap.size := size_of (unhide Kp_4)
    have hlx_c : X < w4.heap.size := size_of (unhide Kx_4)
    obtain ⟨C, eC⟩ : ∃ X, w4.heap.size = X := ⟨_, rfl⟩
    obtain ⟨W5, eW5⟩ : ∃ X, w4.alloc (.cells #[.int .i64 0, .int .i64 0] 28) = X := ⟨_, rfl⟩
    rw [eC, eW5] at Kc_5; rw [eW5] at HX_5 Kp_5 Kx_5 FX_5; rw [eC] at hlp_c hlx_c; rw [eC, eW5]
    clear eC eW5 HX_4 Kp_4 Kx_4 FX_4
    obtain ⟨⟨x0, x1, x2⟩, ⟨xf0, xf1, xf2⟩, xl⟩ := block3 (unhide Kx_5)
    go_upto_region 8 with (go_at_call 11; refine (unhide HE1 _ _ ⟨_, rfl, unhide FX_5⟩).mono ?_; rintro e w6 ⟨v6, rfl, hv6, hb6⟩; obtain ⟨a6, c6, rfl, hn6⟩ := hv6.form; simp only at hn6; have HM6 := hide hn6.1; have HX_6 := hide (Below.next (unhide HX_5) hb6 (by first | exact Nat.le_refl _ | (have := unhide HBA; omega))); have Kp_6 := hide (keep_below (unhide Kp_5) hb6); have Kx_6 := hide (keep_below (unhide Kx_5) hb6); have Kc_6 := hide (keep_below (unhide Kc_5) hb6); have FX_6 := hide ((unhide FX_5).below hb6); clear HX_5 Kp_5 Kx_5 Kc_5 FX_5; clear hb6 hv6 hn6 x0 x1 x2 xf0 xf1 xf2 xl)
    obtain ⟨W7, eW7, hBW7, k0_7, k1_7⟩ := two_new w6 (.cells #[.int .i64 er, .bool eb, .slice a6 el.length c6] 24) (.cells #[.int .i64 0, .int .i64 0] 28)
    rw [eW7]
    clear eW7
    have hlp_m : w.heap.size < w6.heap.size := size_of (unhide Kp_6)
    have hlx_m : X < w6.heap.size := size_of (unhide Kx_6)
    have hlc_m : C < w6.heap.size := size_of (unhide Kc_6)
    (have HX_7 := hide (Below.next (unhide HX_6) hBW7 (by first | exact Nat.le_refl _ | (have := unhide HBA; omega))); have Kp_7 := hide (keep_below (unhide Kp_6) hBW7); have Kx_7 := hide (keep_below (unhide Kx_6) hBW7); have Kc_7 := hide (keep_below (unhide Kc_6) hBW7); have FX_7 := hide ((unhide FX_6).below hBW7); have FM_7 := hide ((unhide HM6).below hBW7); clear HX_6 Kp_6 Kx_6 Kc_6 FX_6 HM6)
    obtain ⟨M, eM⟩ : ∃ X, w6.heap.size = X := ⟨_, rfl⟩
    rw [eM] at k0_7 k1_7 hlp_m hlx_m hlc_m ⊢
    have Km_7 := hide k0_7
    have Kf_7 := hide k1_7
    clear eM hBW7 k0_7 k1_7
    obtain ⟨⟨p0, p1, p2⟩, ⟨pf0, pf1, pf2⟩, pl⟩ := block3 (unhide Kp_7)
    go_upto_region 9 with (go_at_call 12; refine (unhide HPF _ (unhide HX_7)).mono ?_; rintro e w8 ⟨rfl, hb8⟩; have HX_8 := hide (Below.next (unhide HX_7) hb8 (by first | exact Nat.le_refl _ | (have := unhide HBA; omega))); have Kp_8 := hide (keep_below (unhide Kp_7) hb8); have Kx_8 := hide (keep_below (unhide Kx_7) hb8); have Kc_8 := hide (keep_below (unhide Kc_7) hb8); have Km_8 := hide (keep_below (unhide Km_7) hb8); have Kf_8 := hide (keep_below (unhide Kf_7) hb8); have FX_8 := hide ((unhide FX_7).below hb8); have FM_8 := hide ((unhide FM_7).below hb8); clear HX_7 Kp_7 Kx_7 Kc_7 Km_7 Kf_7 FX_7 FM_7; clear hb8 p0 p1 p2 pf0 pf1 pf2 pl)
    have HX_9 := hide ((unhide HX_8).alloc (Nat.le_trans (show w.heap.size ≤ w.heap.size from Nat.le_refl _) (unhide HX_8).size) (.cells #[.int .i64 0, .int .i64 0] 28))
    have Kp_9 := hide (keep_alloc (unhide Kp_8) (.cells #[.int .i64 0, .int .i64 0] 28))
    have Kx_9 := hide (keep_alloc (unhide Kx_8) (.cells #[.int .i64 0, .int .i64 0] 28))
    have Kc_9 := hide (keep_alloc (unhide Kc_8) (.cells #[.int .i64 0, .int .i64 0] 28))
    have Km_9 := hide (keep_alloc (unhide Km_8) (.cells #[.int .i64 0, .int .i64 0] 28))
    have Kf_9 := hide (keep_alloc (unhide Kf_8) (.cells #[.int .i64 0, .int .i64 0] 28))
    have FX_9 := hide ((unhide FX_8).below ((Below.refl _ _).alloc (Nat.le_refl _) (.cells #[.int .i64 0, .int .i64 0] 28)))
    have FM_9 := hide ((unhide FM_8).below ((Below.refl _ _).alloc (Nat.le_refl _) (.cells #[.int .i64 0, .int .i64 0] 28)))
    have Kw_9 := hide (new_block w8 (.cells #[.int .i64 0, .int .i64 0] 28))
    have hlp_w : w.heap.size < w8.heap.size := size_of (unhide Kp_8)
    have hlx_w : X < w8.heap.size := size_of (unhide Kx_8)
    have hlc_w : C < w8.heap.size := size_of (unhide Kc_8)
    have hlm_w : M < w8.heap.size := size_of (unhide Km_8)
    have hlf_w : M + 1 < w8.heap.size := size_of (unhide Kf_8)
    obtain ⟨Z, eZ⟩ : ∃ X, w8.heap.size = X := ⟨_, rfl⟩
    obtain ⟨W9, eW9⟩ : ∃ X, w8.alloc (.cells #[.int .i64 0, .int .i64 0] 28) = X := ⟨_, rfl⟩
    rw [eZ, eW9] at Kw_9; rw [eW9] at HX_9 Kp_9 Kx_9 Kc_9 Km_9 Kf_9 FX_9 FM_9; rw [eZ] at hlp_w hlx_w hlc_w hlm_w hlf_w; rw [eZ, eW9]
    clear eZ eW9 HX_8 Kp_8 Kx_8 Kc_8 Km_8 Kf_8 FX_8 FM_8
    obtain ⟨⟨p0, p1, p2⟩, ⟨pf0, pf1, pf2⟩, pl⟩ := block3 (unhide Kp_9)
    obtain ⟨⟨x0, x1, x2⟩, ⟨xf0, xf1, xf2⟩, xl⟩ := block3 (unhide Kx_9)
    obtain ⟨k0, k1, kf0, kf1, kl⟩ := block2 (unhide Kc_9)
    obtain ⟨z0, z1, zf0, zf1, zl⟩ := block2 (unhide Kw_9)
    go_upto_region 11 with (go_at_call 13; refine (unhide HSP _ _ (unhide HX_9) ⟨_, rfl, unhide FX_9⟩).mono ?_; rintro e w10 ⟨rfl, hb10⟩; have HX_10 := hide (Below.next (unhide HX_9) hb10 (by first | exact Nat.le_refl _ | (have := unhide HBA; omega))); have Kp_10 := hide (keep_below (unhide Kp_9) hb10); have Kx_10 := hide (keep_below (unhide Kx_9) hb10); have Kc_10 := hide (keep_below (unhide Kc_9) hb10); have Km_10 := hide (keep_below (unhide Km_9) hb10); have Kf_10 := hide (keep_below (unhide Kf_9) hb10); have Kw_10 := hide (keep_below (unhide Kw_9) hb10); have FX_10 := hide ((unhide FX_9).below hb10); have FM_10 := hide ((unhide FM_9).below hb10); clear HX_9 Kp_9 Kx_9 Kc_9 Km_9 Kf_9 Kw_9 FX_9 FM_9; clear hb10 p0 p1 p2 pf0 pf1 pf2 pl x0 x1 x2 xf0 xf1 xf2 xl k0 k1 kf0 kf1 kl z0 z1 zf0 zf1 zl)
    clear FX_10
    have HL9 := hide (IsL.below (unhide HLL) (unhide HX_10))
    obtain ⟨⟨p0, p1, p2⟩, ⟨pf0, pf1, pf2⟩, pl⟩ := block3 (unhide Kp_10)
    obtain ⟨z0, z1, zf0, zf1, zl⟩ := block2 (unhide Kw_10)
    obtain ⟨f0, f1, ff0, ff1, fl⟩ := block2 (unhide Kf_10)
    go_upto_region 21 with (go_at_call 15; refine (unhide HIN _ _ (unhide HL9)).mono ?_; rintro e w11 ⟨i, rfl, hi11, hb11⟩; have hi0 : ¬ 0 ≤ i := (by omega); have HX_11 := hide (Below.next (unhide HX_10) hb11 (by first | exact Nat.le_refl _ | (have := unhide HBA; omega))); have Kp_11 := hide (keep_below (unhide Kp_10) hb11); have Kx_11 := hide (keep_below (unhide Kx_10) hb11); have Kc_11 := hide (keep_below (unhide Kc_10) hb11); have Km_11 := hide (keep_below (unhide Km_10) hb11); have Kf_11 := hide (keep_below (unhide Kf_10) hb11); have Kw_11 := hide (keep_below (unhide Kw_10) hb11); have FM_11 := hide ((unhide FM_10).below hb11); clear HX_10 Kp_10 Kx_10 Kc_10 Km_10 Kf_10 Kw_10 FM_10; clear hb11 hi11 p0 p1 p2 pf0 pf1 pf2 pl z0 z1 zf0 zf1 zl f0 f1 ff0 ff1 fl; obtain ⟨z0, z1, zf0, zf1, zl⟩ := block2 (unhide Kw_11); obtain ⟨⟨p0, p1, p2⟩, ⟨pf0, pf1, pf2⟩, pl⟩ := block3 (unhide Kp_11); obtain ⟨f0, f1, ff0, ff1, fl⟩ := block2 (unhide Kf_11))
    clear p0 p1 p2 pf0 pf1 pf2 pl z0 z1 zf0 zf1 zl f0 f1 ff0 ff1 fl
    have HSS : Hid (∀ W, Below w11.heap.size w11 W → W.cell? ⟨w.heap.size, 0, none⟩ = some (.int .i64 r) ∧ W.cell? ⟨w.heap.size, 1, none⟩ = some (.bool bw) ∧ W.cell? ⟨w.heap.size, 2, none⟩ = some (.slice a0 n c0) ∧ Below w11.heap.size w11 W) := fun W hW => by
      obtain ⟨⟨q0, q1, q2⟩, -, -⟩ := block3 (keep_below (unhide Kp_11) hW)
      exact ⟨q0, q1, q2, hW⟩
    have HOW9 : Hid (∀ W, Below w11.heap.size w11 W → Calls Try.prog 18 #[.slice a0 n c0] W fun e w' => ∃ a' c', e = .returned (.slice a' n c') ∧ Own KP W.heap.size w' (.slice a' n c') line ∧ Below W.heap.size W w') := fun W hW => unhide HOWN W _ (IsL.below (unhide HLL) (Below.next (unhide HX_11) hW (Nat.le_refl _)))
    have hsp : w.heap.size < w11.heap.size := size_of (unhide Kp_11)
    have hsx : X < w11.heap.size := size_of (unhide Kx_11)
    have hsc : C < w11.heap.size := size_of (unhide Kc_11)
    have hsm : M < w11.heap.size := size_of (unhide Km_11)
    have hsf : M + 1 < w11.heap.size := size_of (unhide Kf_11)
    have hsw : Z < w11.heap.size := size_of (unhide Kw_11)
    go_cut [15, 16] (fun s u W => ∃ (Y : Nat) (a7 : Option Addr) (c7 : Nat) (a8 : Option Addr) (c8 : Nat), s = .pointer (some ⟨Y, 0, none⟩) ∧ u = .slice a8 qw.length c8 ∧ Hid (W.heap[Y]? = some (.cells #[.int .i64 qr, .bool qb, .slice a7 ql.length c7] 24)) ∧ Hid (IsL KP W (.slice a7 ql.length c7) ql) ∧ Hid (IsL KI W (.slice a8 qw.length c8) qw) ∧ Hid (w11.heap.size ≤ Y) ∧ Hid (Below w11.heap.size w11 W))
    case first =>
      go_wp2_with fail
      go_region_held3 (fun W => W.cell? ⟨w.heap.size, 0, none⟩ = some (.int .i64 r) ∧ W.cell? ⟨w.heap.size, 1, none⟩ = some (.bool bw) ∧ W.cell? ⟨w.heap.size, 2, none⟩ = some (.slice a0 n c0) ∧ Below w11.heap.size w11 W)
        (first | with_reducible exact unhide HSS _ (Below.refl _ _).drew | with_reducible exact unhide HSS _ ((Below.refl w11.heap.size w11).alloc (Nat.le_refl _) _).drew | with_reducible exact unhide HSS _ (((Below.refl w11.heap.size w11).alloc (Nat.le_refl _) _).alloc (by simp) _).drew | with_reducible exact unhide HSS _ (unhide HX3) | with_reducible exact unhide HSS _ ((unhide HX3).alloc (unhide HX3).size _) | with_reducible exact unhide HSS _ (((unhide HX3).alloc (unhide HX3).size _).alloc ((unhide HX3).alloc (unhide HX3).size _).size _) | with_reducible exact unhide HSS _ (unhide HX4) | with_reducible exact unhide HSS _ ((unhide HX4).alloc (unhide HX4).size _) | with_reducible exact unhide HSS _ (unhide HX5) | with_reducible exact unhide HSS _ ((unhide HX5).alloc (unhide HX5).size _) | (exact unhide HSS _ (putL_below (by first | exact unhide HX5 | exact (unhide HX5).alloc (unhide HX5).size _) (by first | exact Nat.le_refl _ | exact Nat.le_succ _ | exact (unhide HX3).size | exact Nat.le_succ_of_le (unhide HX3).size | exact (unhide HX4).size | exact (unhide HX5).size))))
        (first
          | (go_at_call 18; refine (unhide HOW9 _ (by go_split_ands; assumption)).mono ?_; rintro e w13 ⟨a3, c3, rfl, ho3, hb3⟩; have HX3 : Hid (Below w11.heap.size w11 w13) := Below.next (by go_split_ands; assumption) hb3 (Nat.le_refl _); have HO3 := hide (ho3.base (show w11.heap.size ≤ _ from (show Below w11.heap.size w11 _ by go_split_ands; assumption).size)); have HB3 := hide hb3; (try (have HZ3 : Hid (w13.heap[w11.heap.size]? = some (.cells #[.int .i64 0, .bool false, .slice none 0 0] 24)) := (keep_below (w := (w11.alloc (.cells #[.int .i64 0, .bool false, .slice none 0 0] 24)).drew) (new_block w11 (.cells #[.int .i64 0, .bool false, .slice none 0 0] 24)) hb3))); (try (have HZ3 : Hid (w13.heap[w11.heap.size]? = some (.cells #[.int .i64 0, .bool false, .slice none 0 0] 24)) := (keep_below (w := ((w11.alloc (.cells #[.int .i64 0, .bool false, .slice none 0 0] 24)).alloc (.cells #[.int .i64 x, .bool wt, .int .i64 0] 41)).drew) (keep_alloc (new_block w11 (.cells #[.int .i64 0, .bool false, .slice none 0 0] 24)) (.cells #[.int .i64 x, .bool wt, .int .i64 0] 41)) hb3))); (try (have HZ3 : Hid (w13.heap[w11.heap.size + 1]? = some (.cells #[.int .i64 0, .bool false, .slice none 0 0] 24)) := (keep_below (w := ((w11.alloc (.cells #[.int .i64 x, .bool wt, .int .i64 0] 41)).alloc (.cells #[.int .i64 0, .bool false, .slice none 0 0] 24)).drew) (new_block2 w11 (.cells #[.int .i64 x, .bool wt, .int .i64 0] 41) (.cells #[.int .i64 0, .bool false, .slice none 0 0] 24)) hb3))); clear ho3 hb3)
          | (refine step_append kp (by rfl) (.tmp 112) (.tmp 116) rfl w11.heap.size (.slice a3 n c3) line rfl (by first | exact unhide HO3 | exact (unhide HO3).below ((Below.refl _ _).alloc (Nat.le_refl _) _) | exact ((unhide HO3).below ((Below.refl _ _).alloc (Nat.le_refl _) _)).below ((Below.refl _ _).alloc (Nat.le_refl _) _)) _ [(x, wt, 0)] rfl (by first | exact isl_one kp w13 (x, wt, 0) | exact (isl_one kp w13 (x, wt, 0)).below ((Below.refl _ _).alloc (Nat.le_refl _) _) | exact isl_one2 kp w13 _ (x, wt, 0) | exact ((isl_one kp w11 (x, wt, 0)).below (Below.refl _ _).drew).below (unhide HB3) | exact (((isl_one kp w11 (x, wt, 0)).below (Below.refl _ _).drew).below (unhide HB3)).below ((Below.refl _ _).alloc (Nat.le_refl _) _) | exact (((isl_one kp w11 (x, wt, 0)).below ((Below.refl _ _).alloc (Nat.le_refl _) _)).below (Below.refl _ _).drew).below (unhide HB3) | exact ((isl_one2 kp w11 _ (x, wt, 0)).below (Below.refl _ _).drew).below (unhide HB3)) (n + 1) (by simp [unhide HN]) (by simp [KP]; omega) (by first | exact (unhide HX3).size | exact ((unhide HX3).alloc (unhide HX3).size _).size | exact (((unhide HX3).alloc (unhide HX3).size _).alloc ((unhide HX3).alloc (unhide HX3).size _).size _).size) ?_; intro a4 c4 w14 ho4 hg4; have HI4 := hide ho4.isl; have HO4 := hide ho4; have HX4 : Hid (Below w11.heap.size w11 w14) := (by first | exact (unhide HX3).grown hg4 (unhide HX3).size (fun k hk => ((unhide HO3).lt k hk).1) | exact ((unhide HX3).alloc (unhide HX3).size _).grown hg4 ((unhide HX3).alloc (unhide HX3).size _).size (fun k hk => ((unhide HO3).lt k hk).1) | exact (((unhide HX3).alloc (unhide HX3).size _).alloc ((unhide HX3).alloc (unhide HX3).size _).size _).grown hg4 (((unhide HX3).alloc (unhide HX3).size _).alloc ((unhide HX3).alloc (unhide HX3).size _).size _).size (fun k hk => ((unhide HO3).lt k hk).1)); (try (have HZ4 : Hid (w14.heap[w11.heap.size]? = some (.cells #[.int .i64 0, .bool false, .slice none 0 0] 24)) := (keep_grown (unhide HZ3) hg4 (fun j hj => Own.ne (unhide HO3) (unhide HZ3) (by decide) j hj)))); (try (have HZ4 : Hid (w14.heap[w11.heap.size]? = some (.cells #[.int .i64 0, .bool false, .slice none 0 0] 24)) := (keep_grown (keep_alloc (unhide HZ3) (.cells #[.int .i64 x, .bool wt, .int .i64 0] 41)) hg4 (fun j hj => Own.ne ((unhide HO3).below ((Below.refl _ _).alloc (Nat.le_refl _) _)) (keep_alloc (unhide HZ3) (.cells #[.int .i64 x, .bool wt, .int .i64 0] 41)) (by decide) j hj)))); (try (have HZ4 : Hid (w14.heap[w11.heap.size + 1]? = some (.cells #[.int .i64 0, .bool false, .slice none 0 0] 24)) := (keep_grown (unhide HZ3) hg4 (fun j hj => Own.ne (unhide HO3) (unhide HZ3) (by decide) j hj)))); (try (have HZ4 : Hid (w14.heap[w11.heap.size + 1]? = some (.cells #[.int .i64 0, .bool false, .slice none 0 0] 24)) := (keep_grown (keep_alloc (unhide HZ3) (.cells #[.int .i64 x, .bool wt, .int .i64 0] 41)) hg4 (fun j hj => Own.ne ((unhide HO3).below ((Below.refl _ _).alloc (Nat.le_refl _) _)) (keep_alloc (unhide HZ3) (.cells #[.int .i64 x, .bool wt, .int .i64 0] 41)) (by decide) j hj)))); (try (have HZ4 : Hid (w14.heap[w13.heap.size]? = some (.cells #[.int .i64 0, .bool false, .slice none 0 0] 24)) := (keep_grown (new_block w13 (.cells #[.int .i64 0, .bool false, .slice none 0 0] 24)) hg4 (fun j hj => Own.ne ((unhide HO3).below ((Below.refl _ _).alloc (Nat.le_refl _) _)) (new_block w13 (.cells #[.int .i64 0, .bool false, .slice none 0 0] 24)) (by decide) j hj)))); (try (have HZ4 : Hid (w14.heap[w13.heap.size]? = some (.cells #[.int .i64 0, .bool false, .slice none 0 0] 24)) := (keep_grown (keep_alloc (new_block w13 (.cells #[.int .i64 0, .bool false, .slice none 0 0] 24)) (.cells #[.int .i64 x, .bool wt, .int .i64 0] 41)) hg4 (fun j hj => Own.ne (((unhide HO3).below ((Below.refl _ _).alloc (Nat.le_refl _) _)).below ((Below.refl _ _).alloc (Nat.le_refl _) _)) (keep_alloc (new_block w13 (.cells #[.int .i64 0, .bool false, .slice none 0 0] 24)) (.cells #[.int .i64 x, .bool wt, .int .i64 0] 41)) (by decide) j hj)))); (try (have HZ4 : Hid (w14.heap[w13.heap.size + 1]? = some (.cells #[.int .i64 0, .bool false, .slice none 0 0] 24)) := (keep_grown (new_block2 w13 (.cells #[.int .i64 x, .bool wt, .int .i64 0] 41) (.cells #[.int .i64 0, .bool false, .slice none 0 0] 24)) hg4 (fun j hj => Own.ne (((unhide HO3).below ((Below.refl _ _).alloc (Nat.le_refl _) _)).below ((Below.refl _ _).alloc (Nat.le_refl _) _)) (new_block2 w13 (.cells #[.int .i64 x, .bool wt, .int .i64 0] 41) (.cells #[.int .i64 0, .bool false, .slice none 0 0] 24)) (by decide) j hj)))); clear ho4 hg4)
          | (go_at_call 17; first | (refine (unhide HAD _ _ _ (unhide HI4)).mono ?_; rintro e w15 ⟨v1, v2, rfl, hq5, hw5, hb5⟩; obtain ⟨a7, c7, rfl, hq7⟩ := hq5.form; obtain ⟨a8, c8, rfl⟩ := hw5.form; have HQ5 := hide hq7; have HW5 := hide hw5; have HX5 : Hid (Below w11.heap.size w11 w15) := Below.next (unhide HX4) hb5 (Nat.le_refl _); (try (have HZ5 : Hid (w15.heap[w11.heap.size]? = some (.cells #[.int .i64 0, .bool false, .slice none 0 0] 24)) := (keep_below (unhide HZ4) hb5); have HNX : Hid (∀ k, (Value.slice a4 (n + 1) c4).ownBlock = some k → k ≠ w11.heap.size) := (fun k hk => Own.ne (unhide HO4) (unhide HZ4) (by decide) k hk); have HGE : Hid (w11.heap.size ≤ w11.heap.size) := (Nat.le_refl _); have HPK : Hid (∃ Wz, (((w15).setCell ⟨w11.heap.size, 0, none⟩ (.int .i64 qr)).setCell ⟨w11.heap.size, 1, none⟩ (.bool qb)).setCell ⟨w11.heap.size, 2, none⟩ (.slice a7 ql.length c7) = Wz ∧ Wz.heap[w11.heap.size]? = some (.cells #[.int .i64 qr, .bool qb, .slice a7 ql.length c7] 24) ∧ IsL KP Wz (.slice a7 ql.length c7) ql ∧ IsL KI Wz (.slice a8 qw.length c8) qw ∧ w11.heap.size ≤ w11.heap.size ∧ Below w11.heap.size w11 Wz) := ⟨_, rfl, putL_new (y0 := .int .i64 qr) (y1 := .bool qb) (y2 := .slice a7 ql.length c7) (unhide HZ5), (unhide HQ5).1.keep kp (fun k hk => putL_keep (y0 := .int .i64 qr) (y1 := .bool qb) (y2 := .slice a7 ql.length c7) (unhide HNX k ((unhide HQ5).2 k hk))), ((unhide HW5).keep (fun k hk => putL_keep (y0 := .int .i64 qr) (y1 := .bool qb) (y2 := .slice a7 ql.length c7) (Own.ne (unhide HW5) (unhide HZ5) (by decide) k hk))).isl, unhide HGE, putL_below (y0 := .int .i64 qr) (y1 := .bool qb) (y2 := .slice a7 ql.length c7) (unhide HX5) (unhide HGE)⟩)); (try (have HZ5 : Hid (w15.heap[w11.heap.size + 1]? = some (.cells #[.int .i64 0, .bool false, .slice none 0 0] 24)) := (keep_below (unhide HZ4) hb5); have HNX : Hid (∀ k, (Value.slice a4 (n + 1) c4).ownBlock = some k → k ≠ w11.heap.size + 1) := (fun k hk => Own.ne (unhide HO4) (unhide HZ4) (by decide) k hk); have HGE : Hid (w11.heap.size ≤ w11.heap.size + 1) := (Nat.le_succ _); have HPK : Hid (∃ Wz, (((w15).setCell ⟨w11.heap.size + 1, 0, none⟩ (.int .i64 qr)).setCell ⟨w11.heap.size + 1, 1, none⟩ (.bool qb)).setCell ⟨w11.heap.size + 1, 2, none⟩ (.slice a7 ql.length c7) = Wz ∧ Wz.heap[w11.heap.size + 1]? = some (.cells #[.int .i64 qr, .bool qb, .slice a7 ql.length c7] 24) ∧ IsL KP Wz (.slice a7 ql.length c7) ql ∧ IsL KI Wz (.slice a8 qw.length c8) qw ∧ w11.heap.size ≤ w11.heap.size + 1 ∧ Below w11.heap.size w11 Wz) := ⟨_, rfl, putL_new (y0 := .int .i64 qr) (y1 := .bool qb) (y2 := .slice a7 ql.length c7) (unhide HZ5), (unhide HQ5).1.keep kp (fun k hk => putL_keep (y0 := .int .i64 qr) (y1 := .bool qb) (y2 := .slice a7 ql.length c7) (unhide HNX k ((unhide HQ5).2 k hk))), ((unhide HW5).keep (fun k hk => putL_keep (y0 := .int .i64 qr) (y1 := .bool qb) (y2 := .slice a7 ql.length c7) (Own.ne (unhide HW5) (unhide HZ5) (by decide) k hk))).isl, unhide HGE, putL_below (y0 := .int .i64 qr) (y1 := .bool qb) (y2 := .slice a7 ql.length c7) (unhide HX5) (unhide HGE)⟩)); (try (have HZ5 : Hid (w15.heap[w13.heap.size]? = some (.cells #[.int .i64 0, .bool false, .slice none 0 0] 24)) := (keep_below (unhide HZ4) hb5); have HNX : Hid (∀ k, (Value.slice a4 (n + 1) c4).ownBlock = some k → k ≠ w13.heap.size) := (fun k hk => Own.ne (unhide HO4) (unhide HZ4) (by decide) k hk); have HGE : Hid (w11.heap.size ≤ w13.heap.size) := ((unhide HX3).size); have HPK : Hid (∃ Wz, (((w15).setCell ⟨w13.heap.size, 0, none⟩ (.int .i64 qr)).setCell ⟨w13.heap.size, 1, none⟩ (.bool qb)).setCell ⟨w13.heap.size, 2, none⟩ (.slice a7 ql.length c7) = Wz ∧ Wz.heap[w13.heap.size]? = some (.cells #[.int .i64 qr, .bool qb, .slice a7 ql.length c7] 24) ∧ IsL KP Wz (.slice a7 ql.length c7) ql ∧ IsL KI Wz (.slice a8 qw.length c8) qw ∧ w11.heap.size ≤ w13.heap.size ∧ Below w11.heap.size w11 Wz) := ⟨_, rfl, putL_new (y0 := .int .i64 qr) (y1 := .bool qb) (y2 := .slice a7 ql.length c7) (unhide HZ5), (unhide HQ5).1.keep kp (fun k hk => putL_keep (y0 := .int .i64 qr) (y1 := .bool qb) (y2 := .slice a7 ql.length c7) (unhide HNX k ((unhide HQ5).2 k hk))), ((unhide HW5).keep (fun k hk => putL_keep (y0 := .int .i64 qr) (y1 := .bool qb) (y2 := .slice a7 ql.length c7) (Own.ne (unhide HW5) (unhide HZ5) (by decide) k hk))).isl, unhide HGE, putL_below (y0 := .int .i64 qr) (y1 := .bool qb) (y2 := .slice a7 ql.length c7) (unhide HX5) (unhide HGE)⟩)); (try (have HZ5 : Hid (w15.heap[w13.heap.size + 1]? = some (.cells #[.int .i64 0, .bool false, .slice none 0 0] 24)) := (keep_below (unhide HZ4) hb5); have HNX : Hid (∀ k, (Value.slice a4 (n + 1) c4).ownBlock = some k → k ≠ w13.heap.size + 1) := (fun k hk => Own.ne (unhide HO4) (unhide HZ4) (by decide) k hk); have HGE : Hid (w11.heap.size ≤ w13.heap.size + 1) := (Nat.le_succ_of_le (unhide HX3).size); have HPK : Hid (∃ Wz, (((w15).setCell ⟨w13.heap.size + 1, 0, none⟩ (.int .i64 qr)).setCell ⟨w13.heap.size + 1, 1, none⟩ (.bool qb)).setCell ⟨w13.heap.size + 1, 2, none⟩ (.slice a7 ql.length c7) = Wz ∧ Wz.heap[w13.heap.size + 1]? = some (.cells #[.int .i64 qr, .bool qb, .slice a7 ql.length c7] 24) ∧ IsL KP Wz (.slice a7 ql.length c7) ql ∧ IsL KI Wz (.slice a8 qw.length c8) qw ∧ w11.heap.size ≤ w13.heap.size + 1 ∧ Below w11.heap.size w11 Wz) := ⟨_, rfl, putL_new (y0 := .int .i64 qr) (y1 := .bool qb) (y2 := .slice a7 ql.length c7) (unhide HZ5), (unhide HQ5).1.keep kp (fun k hk => putL_keep (y0 := .int .i64 qr) (y1 := .bool qb) (y2 := .slice a7 ql.length c7) (unhide HNX k ((unhide HQ5).2 k hk))), ((unhide HW5).keep (fun k hk => putL_keep (y0 := .int .i64 qr) (y1 := .bool qb) (y2 := .slice a7 ql.length c7) (Own.ne (unhide HW5) (unhide HZ5) (by decide) k hk))).isl, unhide HGE, putL_below (y0 := .int .i64 qr) (y1 := .bool qb) (y2 := .slice a7 ql.length c7) (unhide HX5) (unhide HGE)⟩)); (try (have HZ5 : Hid (w15.heap[w14.heap.size]? = some (.cells #[.int .i64 0, .bool false, .slice none 0 0] 24)) := (keep_below (new_block w14 (.cells #[.int .i64 0, .bool false, .slice none 0 0] 24)) hb5); have HNX : Hid (∀ k, (Value.slice a4 (n + 1) c4).ownBlock = some k → k ≠ w14.heap.size) := (fun k hk => Nat.ne_of_lt ((unhide HO4).lt k hk).2); have HGE : Hid (w11.heap.size ≤ w14.heap.size) := ((unhide HX4).size); have HPK : Hid (∃ Wz, (((w15).setCell ⟨w14.heap.size, 0, none⟩ (.int .i64 qr)).setCell ⟨w14.heap.size, 1, none⟩ (.bool qb)).setCell ⟨w14.heap.size, 2, none⟩ (.slice a7 ql.length c7) = Wz ∧ Wz.heap[w14.heap.size]? = some (.cells #[.int .i64 qr, .bool qb, .slice a7 ql.length c7] 24) ∧ IsL KP Wz (.slice a7 ql.length c7) ql ∧ IsL KI Wz (.slice a8 qw.length c8) qw ∧ w11.heap.size ≤ w14.heap.size ∧ Below w11.heap.size w11 Wz) := ⟨_, rfl, putL_new (y0 := .int .i64 qr) (y1 := .bool qb) (y2 := .slice a7 ql.length c7) (unhide HZ5), (unhide HQ5).1.keep kp (fun k hk => putL_keep (y0 := .int .i64 qr) (y1 := .bool qb) (y2 := .slice a7 ql.length c7) (unhide HNX k ((unhide HQ5).2 k hk))), ((unhide HW5).keep (fun k hk => putL_keep (y0 := .int .i64 qr) (y1 := .bool qb) (y2 := .slice a7 ql.length c7) (Own.ne (unhide HW5) (unhide HZ5) (by decide) k hk))).isl, unhide HGE, putL_below (y0 := .int .i64 qr) (y1 := .bool qb) (y2 := .slice a7 ql.length c7) (unhide HX5) (unhide HGE)⟩)); obtain ⟨⟨u0, u1, u2⟩, ⟨uf0, uf1, uf2⟩, ul⟩ := block3 (new_block w15 (.cells #[.int .i64 0, .bool false, .slice none 0 0] 24)); (try (have hy9 := block3 (unhide HZ5); obtain ⟨⟨y0, y1, y2⟩, ⟨yf0, yf1, yf2⟩, yl⟩ := hy9)); have HPL : Hid (∃ Wz, w15.alloc (.cells #[.int .i64 qr, .bool qb, .slice a7 ql.length c7] 24) = Wz ∧ Wz.heap[w15.heap.size]? = some (.cells #[.int .i64 qr, .bool qb, .slice a7 ql.length c7] 24) ∧ IsL KP Wz (.slice a7 ql.length c7) ql ∧ IsL KI Wz (.slice a8 qw.length c8) qw ∧ w11.heap.size ≤ w15.heap.size ∧ Below w11.heap.size w11 Wz) := ⟨_, rfl, new_block w15 (.cells #[.int .i64 qr, .bool qb, .slice a7 ql.length c7] 24), (unhide HQ5).1.below ((Below.refl _ _).alloc (Nat.le_refl _) _), (unhide HW5).isl.below ((Below.refl _ _).alloc (Nat.le_refl _) _), (unhide HX5).size, (unhide HX5).alloc (unhide HX5).size _⟩; clear hq5 hq7 hw5 hb5) | (refine (unhide HAD _ _ _ ((unhide HI4).below ((Below.refl _ _).alloc (Nat.le_refl _) _))).mono ?_; rintro e w15 ⟨v1, v2, rfl, hq5, hw5, hb5⟩; obtain ⟨a7, c7, rfl, hq7⟩ := hq5.form; obtain ⟨a8, c8, rfl⟩ := hw5.form; have HQ5 := hide hq7; have HW5 := hide hw5; have HX5 : Hid (Below w11.heap.size w11 w15) := Below.next ((unhide HX4).alloc (unhide HX4).size _) hb5 (Nat.le_refl _); (try (have HZ5 : Hid (w15.heap[w11.heap.size]? = some (.cells #[.int .i64 0, .bool false, .slice none 0 0] 24)) := (keep_below (unhide HZ4) hb5); have HNX : Hid (∀ k, (Value.slice a4 (n + 1) c4).ownBlock = some k → k ≠ w11.heap.size) := (fun k hk => Own.ne (unhide HO4) (unhide HZ4) (by decide) k hk); have HGE : Hid (w11.heap.size ≤ w11.heap.size) := (Nat.le_refl _); have HPK : Hid (∃ Wz, (((w15).setCell ⟨w11.heap.size, 0, none⟩ (.int .i64 qr)).setCell ⟨w11.heap.size, 1, none⟩ (.bool qb)).setCell ⟨w11.heap.size, 2, none⟩ (.slice a7 ql.length c7) = Wz ∧ Wz.heap[w11.heap.size]? = some (.cells #[.int .i64 qr, .bool qb, .slice a7 ql.length c7] 24) ∧ IsL KP Wz (.slice a7 ql.length c7) ql ∧ IsL KI Wz (.slice a8 qw.length c8) qw ∧ w11.heap.size ≤ w11.heap.size ∧ Below w11.heap.size w11 Wz) := ⟨_, rfl, putL_new (y0 := .int .i64 qr) (y1 := .bool qb) (y2 := .slice a7 ql.length c7) (unhide HZ5), (unhide HQ5).1.keep kp (fun k hk => putL_keep (y0 := .int .i64 qr) (y1 := .bool qb) (y2 := .slice a7 ql.length c7) (unhide HNX k ((unhide HQ5).2 k hk))), ((unhide HW5).keep (fun k hk => putL_keep (y0 := .int .i64 qr) (y1 := .bool qb) (y2 := .slice a7 ql.length c7) (Own.ne (unhide HW5) (unhide HZ5) (by decide) k hk))).isl, unhide HGE, putL_below (y0 := .int .i64 qr) (y1 := .bool qb) (y2 := .slice a7 ql.length c7) (unhide HX5) (unhide HGE)⟩)); (try (have HZ5 : Hid (w15.heap[w11.heap.size + 1]? = some (.cells #[.int .i64 0, .bool false, .slice none 0 0] 24)) := (keep_below (unhide HZ4) hb5); have HNX : Hid (∀ k, (Value.slice a4 (n + 1) c4).ownBlock = some k → k ≠ w11.heap.size + 1) := (fun k hk => Own.ne (unhide HO4) (unhide HZ4) (by decide) k hk); have HGE : Hid (w11.heap.size ≤ w11.heap.size + 1) := (Nat.le_succ _); have HPK : Hid (∃ Wz, (((w15).setCell ⟨w11.heap.size + 1, 0, none⟩ (.int .i64 qr)).setCell ⟨w11.heap.size + 1, 1, none⟩ (.bool qb)).setCell ⟨w11.heap.size + 1, 2, none⟩ (.slice a7 ql.length c7) = Wz ∧ Wz.heap[w11.heap.size + 1]? = some (.cells #[.int .i64 qr, .bool qb, .slice a7 ql.length c7] 24) ∧ IsL KP Wz (.slice a7 ql.length c7) ql ∧ IsL KI Wz (.slice a8 qw.length c8) qw ∧ w11.heap.size ≤ w11.heap.size + 1 ∧ Below w11.heap.size w11 Wz) := ⟨_, rfl, putL_new (y0 := .int .i64 qr) (y1 := .bool qb) (y2 := .slice a7 ql.length c7) (unhide HZ5), (unhide HQ5).1.keep kp (fun k hk => putL_keep (y0 := .int .i64 qr) (y1 := .bool qb) (y2 := .slice a7 ql.length c7) (unhide HNX k ((unhide HQ5).2 k hk))), ((unhide HW5).keep (fun k hk => putL_keep (y0 := .int .i64 qr) (y1 := .bool qb) (y2 := .slice a7 ql.length c7) (Own.ne (unhide HW5) (unhide HZ5) (by decide) k hk))).isl, unhide HGE, putL_below (y0 := .int .i64 qr) (y1 := .bool qb) (y2 := .slice a7 ql.length c7) (unhide HX5) (unhide HGE)⟩)); (try (have HZ5 : Hid (w15.heap[w13.heap.size]? = some (.cells #[.int .i64 0, .bool false, .slice none 0 0] 24)) := (keep_below (unhide HZ4) hb5); have HNX : Hid (∀ k, (Value.slice a4 (n + 1) c4).ownBlock = some k → k ≠ w13.heap.size) := (fun k hk => Own.ne (unhide HO4) (unhide HZ4) (by decide) k hk); have HGE : Hid (w11.heap.size ≤ w13.heap.size) := ((unhide HX3).size); have HPK : Hid (∃ Wz, (((w15).setCell ⟨w13.heap.size, 0, none⟩ (.int .i64 qr)).setCell ⟨w13.heap.size, 1, none⟩ (.bool qb)).setCell ⟨w13.heap.size, 2, none⟩ (.slice a7 ql.length c7) = Wz ∧ Wz.heap[w13.heap.size]? = some (.cells #[.int .i64 qr, .bool qb, .slice a7 ql.length c7] 24) ∧ IsL KP Wz (.slice a7 ql.length c7) ql ∧ IsL KI Wz (.slice a8 qw.length c8) qw ∧ w11.heap.size ≤ w13.heap.size ∧ Below w11.heap.size w11 Wz) := ⟨_, rfl, putL_new (y0 := .int .i64 qr) (y1 := .bool qb) (y2 := .slice a7 ql.length c7) (unhide HZ5), (unhide HQ5).1.keep kp (fun k hk => putL_keep (y0 := .int .i64 qr) (y1 := .bool qb) (y2 := .slice a7 ql.length c7) (unhide HNX k ((unhide HQ5).2 k hk))), ((unhide HW5).keep (fun k hk => putL_keep (y0 := .int .i64 qr) (y1 := .bool qb) (y2 := .slice a7 ql.length c7) (Own.ne (unhide HW5) (unhide HZ5) (by decide) k hk))).isl, unhide HGE, putL_below (y0 := .int .i64 qr) (y1 := .bool qb) (y2 := .slice a7 ql.length c7) (unhide HX5) (unhide HGE)⟩)); (try (have HZ5 : Hid (w15.heap[w13.heap.size + 1]? = some (.cells #[.int .i64 0, .bool false, .slice none 0 0] 24)) := (keep_below (unhide HZ4) hb5); have HNX : Hid (∀ k, (Value.slice a4 (n + 1) c4).ownBlock = some k → k ≠ w13.heap.size + 1) := (fun k hk => Own.ne (unhide HO4) (unhide HZ4) (by decide) k hk); have HGE : Hid (w11.heap.size ≤ w13.heap.size + 1) := (Nat.le_succ_of_le (unhide HX3).size); have HPK : Hid (∃ Wz, (((w15).setCell ⟨w13.heap.size + 1, 0, none⟩ (.int .i64 qr)).setCell ⟨w13.heap.size + 1, 1, none⟩ (.bool qb)).setCell ⟨w13.heap.size + 1, 2, none⟩ (.slice a7 ql.length c7) = Wz ∧ Wz.heap[w13.heap.size + 1]? = some (.cells #[.int .i64 qr, .bool qb, .slice a7 ql.length c7] 24) ∧ IsL KP Wz (.slice a7 ql.length c7) ql ∧ IsL KI Wz (.slice a8 qw.length c8) qw ∧ w11.heap.size ≤ w13.heap.size + 1 ∧ Below w11.heap.size w11 Wz) := ⟨_, rfl, putL_new (y0 := .int .i64 qr) (y1 := .bool qb) (y2 := .slice a7 ql.length c7) (unhide HZ5), (unhide HQ5).1.keep kp (fun k hk => putL_keep (y0 := .int .i64 qr) (y1 := .bool qb) (y2 := .slice a7 ql.length c7) (unhide HNX k ((unhide HQ5).2 k hk))), ((unhide HW5).keep (fun k hk => putL_keep (y0 := .int .i64 qr) (y1 := .bool qb) (y2 := .slice a7 ql.length c7) (Own.ne (unhide HW5) (unhide HZ5) (by decide) k hk))).isl, unhide HGE, putL_below (y0 := .int .i64 qr) (y1 := .bool qb) (y2 := .slice a7 ql.length c7) (unhide HX5) (unhide HGE)⟩)); (try (have HZ5 : Hid (w15.heap[w14.heap.size]? = some (.cells #[.int .i64 0, .bool false, .slice none 0 0] 24)) := (keep_below (new_block w14 (.cells #[.int .i64 0, .bool false, .slice none 0 0] 24)) hb5); have HNX : Hid (∀ k, (Value.slice a4 (n + 1) c4).ownBlock = some k → k ≠ w14.heap.size) := (fun k hk => Nat.ne_of_lt ((unhide HO4).lt k hk).2); have HGE : Hid (w11.heap.size ≤ w14.heap.size) := ((unhide HX4).size); have HPK : Hid (∃ Wz, (((w15).setCell ⟨w14.heap.size, 0, none⟩ (.int .i64 qr)).setCell ⟨w14.heap.size, 1, none⟩ (.bool qb)).setCell ⟨w14.heap.size, 2, none⟩ (.slice a7 ql.length c7) = Wz ∧ Wz.heap[w14.heap.size]? = some (.cells #[.int .i64 qr, .bool qb, .slice a7 ql.length c7] 24) ∧ IsL KP Wz (.slice a7 ql.length c7) ql ∧ IsL KI Wz (.slice a8 qw.length c8) qw ∧ w11.heap.size ≤ w14.heap.size ∧ Below w11.heap.size w11 Wz) := ⟨_, rfl, putL_new (y0 := .int .i64 qr) (y1 := .bool qb) (y2 := .slice a7 ql.length c7) (unhide HZ5), (unhide HQ5).1.keep kp (fun k hk => putL_keep (y0 := .int .i64 qr) (y1 := .bool qb) (y2 := .slice a7 ql.length c7) (unhide HNX k ((unhide HQ5).2 k hk))), ((unhide HW5).keep (fun k hk => putL_keep (y0 := .int .i64 qr) (y1 := .bool qb) (y2 := .slice a7 ql.length c7) (Own.ne (unhide HW5) (unhide HZ5) (by decide) k hk))).isl, unhide HGE, putL_below (y0 := .int .i64 qr) (y1 := .bool qb) (y2 := .slice a7 ql.length c7) (unhide HX5) (unhide HGE)⟩)); obtain ⟨⟨u0, u1, u2⟩, ⟨uf0, uf1, uf2⟩, ul⟩ := block3 (new_block w15 (.cells #[.int .i64 0, .bool false, .slice none 0 0] 24)); (try (have hy9 := block3 (unhide HZ5); obtain ⟨⟨y0, y1, y2⟩, ⟨yf0, yf1, yf2⟩, yl⟩ := hy9)); have HPL : Hid (∃ Wz, w15.alloc (.cells #[.int .i64 qr, .bool qb, .slice a7 ql.length c7] 24) = Wz ∧ Wz.heap[w15.heap.size]? = some (.cells #[.int .i64 qr, .bool qb, .slice a7 ql.length c7] 24) ∧ IsL KP Wz (.slice a7 ql.length c7) ql ∧ IsL KI Wz (.slice a8 qw.length c8) qw ∧ w11.heap.size ≤ w15.heap.size ∧ Below w11.heap.size w11 Wz) := ⟨_, rfl, new_block w15 (.cells #[.int .i64 qr, .bool qb, .slice a7 ql.length c7] 24), (unhide HQ5).1.below ((Below.refl _ _).alloc (Nat.le_refl _) _), (unhide HW5).isl.below ((Below.refl _ _).alloc (Nat.le_refl _) _), (unhide HX5).size, (unhide HX5).alloc (unhide HX5).size _⟩; clear hq5 hq7 hw5 hb5)))
      all_goals
        go_wp2_with fail
        go_meet
        case rel =>
          first
            | (have hpk := unhide HPK; obtain ⟨Wz, eWz, h1, h2, h3, h4, h5⟩ := hpk; rw [eWz]; exact ⟨_, a7, c7, a8, c8, rfl, rfl, h1, h2, h3, h4, h5⟩)
            | (have hpk := unhide HPL; obtain ⟨Wz, eWz, h1, h2, h3, h4, h5⟩ := hpk; rw [eWz]; exact ⟨_, a7, c7, a8, c8, rfl, rfl, h1, h2, h3, h4, h5⟩)
    case rest =>
      obtain ⟨Y, a7, c7, a8, c8, rfl, rfl, HT, HQ5, HW5, HXX, HX5⟩ := hcut
      clear HSS HOW9
      (have HX_r12 := hide (Below.next (unhide HX_11) (unhide HX5) (by first | exact Nat.le_refl _ | (have := unhide HBA; omega))); have Kp_r12 := hide (keep_below (unhide Kp_11) (unhide HX5)); have Kx_r12 := hide (keep_below (unhide Kx_11) (unhide HX5)); have Kc_r12 := hide (keep_below (unhide Kc_11) (unhide HX5)); have Km_r12 := hide (keep_below (unhide Km_11) (unhide HX5)); have Kf_r12 := hide (keep_below (unhide Kf_11) (unhide HX5)); have Kw_r12 := hide (keep_below (unhide Kw_11) (unhide HX5)); clear HX_11 Kp_11 Kx_11 Kc_11 Km_11 Kf_11 Kw_11)
      have HHA9 := hide (unhide HHA wc _ (unhide HW5))
      have xz : (z != z) = false := by simp
      go_upto_region 24 with (go_at_call 19; refine (unhide HHA9).mono ?_; rintro e w20 ⟨rfl, hb20⟩; have HX20 := hide (Below.next (unhide HX5) hb20 (Nat.le_refl _)); have HX_r13 := hide (Below.next (unhide HX_r12) hb20 (by first | exact Nat.le_refl _ | (have := unhide HBA; omega))); have Kp_r13 := hide (keep_below (unhide Kp_r12) hb20); have Kx_r13 := hide (keep_below (unhide Kx_r12) hb20); have Kc_r13 := hide (keep_below (unhide Kc_r12) hb20); have Km_r13 := hide (keep_below (unhide Km_r12) hb20); have Kf_r13 := hide (keep_below (unhide Kf_r12) hb20); have Kw_r13 := hide (keep_below (unhide Kw_r12) hb20); have Kt_r13 := hide (keep_below (unhide HT) hb20); have FQ_r13 := hide ((unhide HQ5).below hb20); have FW_r13 := hide ((unhide HW5).below hb20); clear HX_r12 Kp_r12 Kx_r12 Kc_r12 Km_r12 Kf_r12 Kw_r12 HT HQ5 HW5; clear hb20)
      cases z with
      | true =>
        cases try_ with
        | true =>
          have hE : (⟨qr, qb, ql⟩ : Lk) = ⟨er, eb, el⟩ := by have := unhide HEE; simpa using this
          clear HEE
          injection hE with e1 e2 e3
          subst e1 e2 e3
          have HMN := hide (IsL.below (unhide FM_11) (unhide HX20))
          obtain ⟨⟨m0, m1, m2⟩, ⟨mf0, mf1, mf2⟩, ml⟩ := block3 (unhide Km_r13)
          obtain ⟨⟨t0, t1, t2⟩, ⟨tf0, tf1, tf2⟩, tl⟩ := block3 (unhide Kt_r13)
          go_wp2_with (go_at_call 13; refine (sameLock_any _ _ _ ⟨qr, qb, ql⟩ ⟨_, rfl, unhide HMN⟩ ⟨_, rfl, unhide FQ_r13⟩ (by have := unhide HEL; unfold maxLen; simp only at this ⊢; omega)).mono ?_; rintro e w22 ⟨rfl, hb22⟩; have HX_ra14 := hide (Below.next (unhide HX_r13) hb22 (by first | exact Nat.le_refl _ | (have := unhide HBA; omega))); have Kp_ra14 := hide (keep_below (unhide Kp_r13) hb22); have Kx_ra14 := hide (keep_below (unhide Kx_r13) hb22); have Kc_ra14 := hide (keep_below (unhide Kc_r13) hb22); have Km_ra14 := hide (keep_below (unhide Km_r13) hb22); have Kf_ra14 := hide (keep_below (unhide Kf_r13) hb22); have Kw_ra14 := hide (keep_below (unhide Kw_r13) hb22); have Kt_ra14 := hide (keep_below (unhide Kt_r13) hb22); have FQ_ra14 := hide ((unhide FQ_r13).below hb22); have FW_ra14 := hide ((unhide FW_r13).below hb22); clear HX_r13 Kp_r13 Kx_r13 Kc_r13 Km_r13 Kf_r13 Kw_r13 Kt_r13 FQ_r13 FW_r13; clear hb22 m0 m1 m2 mf0 mf1 mf2 ml t0 t1 t2 tf0 tf1 tf2 tl)
          go_ret
          exact ⟨rfl, unhide HX_ra14⟩
        | false =>
          have hE : (⟨qr, qb, ql⟩ : Lk) = ⟨er, eb, el⟩ := by have := unhide HEE; simpa using this
          clear HEE
          injection hE with e1 e2 e3
          subst e1 e2 e3
          have HMN := hide (IsL.below (unhide FM_11) (unhide HX20))
          obtain ⟨⟨m0, m1, m2⟩, ⟨mf0, mf1, mf2⟩, ml⟩ := block3 (unhide Km_r13)
          obtain ⟨⟨t0, t1, t2⟩, ⟨tf0, tf1, tf2⟩, tl⟩ := block3 (unhide Kt_r13)
          go_wp2_with (go_at_call 13; refine (sameLock_any _ _ _ ⟨qr, qb, ql⟩ ⟨_, rfl, unhide HMN⟩ ⟨_, rfl, unhide FQ_r13⟩ (by have := unhide HEL; unfold maxLen; simp only at this ⊢; omega)).mono ?_; rintro e w22 ⟨rfl, hb22⟩; have HX_rb14 := hide (Below.next (unhide HX_r13) hb22 (by first | exact Nat.le_refl _ | (have := unhide HBA; omega))); have Kp_rb14 := hide (keep_below (unhide Kp_r13) hb22); have Kx_rb14 := hide (keep_below (unhide Kx_r13) hb22); have Kc_rb14 := hide (keep_below (unhide Kc_r13) hb22); have Km_rb14 := hide (keep_below (unhide Km_r13) hb22); have Kf_rb14 := hide (keep_below (unhide Kf_r13) hb22); have Kw_rb14 := hide (keep_below (unhide Kw_r13) hb22); have Kt_rb14 := hide (keep_below (unhide Kt_r13) hb22); have FQ_rb14 := hide ((unhide FQ_r13).below hb22); have FW_rb14 := hide ((unhide FW_r13).below hb22); clear HX_r13 Kp_r13 Kx_r13 Kc_r13 Km_r13 Kf_r13 Kw_r13 Kt_r13 FQ_r13 FW_r13; clear hb22 m0 m1 m2 mf0 mf1 mf2 ml t0 t1 t2 tf0 tf1 tf2 tl)
          go_ret
          exact ⟨rfl, unhide HX_rb14⟩
      | false =>
        cases try_ with
        | true =>
          have hE : (⟨r, bw, line⟩ : Lk) = ⟨er, eb, el⟩ := by have := unhide HEE; simpa using this
          clear HEE
          injection hE with e1 e2 e3
          subst e1 e2 e3
          have HMN := hide (IsL.below (unhide FM_11) (unhide HX20))
          obtain ⟨⟨p0, p1, p2⟩, ⟨pf0, pf1, pf2⟩, pl⟩ := block3 (unhide Kp_r13)
          obtain ⟨⟨t0, t1, t2⟩, ⟨tf0, tf1, tf2⟩, tl⟩ := block3 (unhide Kt_r13)
          go_upto_region 26 with fail
          clear p0 p1 p2 pf0 pf1 pf2 pl t0 t1 t2 tf0 tf1 tf2 tl
          have hYw : w11.heap.size ≤ Y := unhide HXX
          clear Kp_r13
          clear Kx_r13
          clear Kc_r13
          clear Kf_r13
          clear Kw_r13
          clear FQ_r13 FW_r13
          have HMV := hide (IsL.below (unhide FM_11) (putL_below (y0 := .int .i64 r) (y1 := .bool bw) (y2 := .slice a0 n c0) (unhide HX20) hYw))
          have HX_rc14 := hide (putL_below (y0 := .int .i64 r) (y1 := .bool bw) (y2 := .slice a0 n c0) (unhide HX_r13) (show w.heap.size ≤ Y by first | omega | (have := unhide HBA; omega)))
          have Km_rc14 := hide ((putL_keep (y0 := .int .i64 r) (y1 := .bool bw) (y2 := .slice a0 n c0) (show M ≠ Y by omega)).trans (unhide Km_r13))
          have Kt_rc14 := hide (putL_new (y0 := .int .i64 r) (y1 := .bool bw) (y2 := .slice a0 n c0) (unhide Kt_r13))
          obtain ⟨V1, eV1⟩ : ∃ X, putL w20 (Y) (.int .i64 r) (.bool bw) (.slice a0 n c0) = X := ⟨_, rfl⟩
          rw [eV1] at HX_rc14 Km_rc14 Kt_rc14 HMV
          have eV12 : (((w20).setCell ⟨Y, 0, none⟩ (.int .i64 r)).setCell ⟨Y, 1, none⟩ (.bool bw)).setCell ⟨Y, 2, none⟩ (.slice a0 n c0) = V1 := eV1
          rw [eV12]
          clear eV1 eV12 HX_r13 Km_r13 Kt_r13
          have HPV := hide (IsL.below (unhide HLL) (unhide HX_rc14))
          obtain ⟨⟨m0, m1, m2⟩, ⟨mf0, mf1, mf2⟩, ml⟩ := block3 (unhide Km_rc14)
          obtain ⟨⟨t0, t1, t2⟩, ⟨tf0, tf1, tf2⟩, tl⟩ := block3 (unhide Kt_rc14)
          go_wp2_with (go_at_call 13; refine (sameLock_any _ _ _ ⟨r, bw, line⟩ ⟨_, rfl, unhide HMV⟩ ⟨_, rfl, unhide HPV⟩ (by have h9 := unhide HN; show line.length ≤ maxLen; unfold maxLen; omega)).mono ?_; rintro e w22 ⟨rfl, hb22⟩; have HX_rc15 := hide (Below.next (unhide HX_rc14) hb22 (by first | exact Nat.le_refl _ | (have := unhide HBA; omega))); have Km_rc15 := hide (keep_below (unhide Km_rc14) hb22); have Kt_rc15 := hide (keep_below (unhide Kt_rc14) hb22); clear HX_rc14 Km_rc14 Kt_rc14; clear hb22 m0 m1 m2 mf0 mf1 mf2 ml t0 t1 t2 tf0 tf1 tf2 tl)
          go_ret
          exact ⟨rfl, unhide HX_rc15⟩
        | false =>
          have hE : (⟨qr, qb, ql⟩ : Lk) = ⟨er, eb, el⟩ := by have := unhide HEE; simpa using this
          clear HEE
          injection hE with e1 e2 e3
          subst e1 e2 e3
          have HMN := hide (IsL.below (unhide FM_11) (unhide HX20))
          obtain ⟨⟨m0, m1, m2⟩, ⟨mf0, mf1, mf2⟩, ml⟩ := block3 (unhide Km_r13)
          obtain ⟨⟨t0, t1, t2⟩, ⟨tf0, tf1, tf2⟩, tl⟩ := block3 (unhide Kt_r13)
          go_wp2_with (go_at_call 13; refine (sameLock_any _ _ _ ⟨qr, qb, ql⟩ ⟨_, rfl, unhide HMN⟩ ⟨_, rfl, unhide FQ_r13⟩ (by have := unhide HEL; unfold maxLen; simp only at this ⊢; omega)).mono ?_; rintro e w22 ⟨rfl, hb22⟩; have HX_rd14 := hide (Below.next (unhide HX_r13) hb22 (by first | exact Nat.le_refl _ | (have := unhide HBA; omega))); have Kp_rd14 := hide (keep_below (unhide Kp_r13) hb22); have Kx_rd14 := hide (keep_below (unhide Kx_r13) hb22); have Kc_rd14 := hide (keep_below (unhide Kc_r13) hb22); have Km_rd14 := hide (keep_below (unhide Km_r13) hb22); have Kf_rd14 := hide (keep_below (unhide Kf_r13) hb22); have Kw_rd14 := hide (keep_below (unhide Kw_r13) hb22); have Kt_rd14 := hide (keep_below (unhide Kt_r13) hb22); have FQ_rd14 := hide ((unhide FQ_r13).below hb22); have FW_rd14 := hide ((unhide FW_r13).below hb22); clear HX_r13 Kp_r13 Kx_r13 Kc_r13 Km_r13 Kf_r13 Kw_r13 Kt_r13 FQ_r13 FW_r13; clear hb22 m0 m1 m2 mf0 mf1 mf2 ml t0 t1 t2 tf0 tf1 tf2 tl)
          go_ret
          exact ⟨rfl, unhide HX_rd14⟩
end Go.Proofs.Ytdpcbmekplcllaa
