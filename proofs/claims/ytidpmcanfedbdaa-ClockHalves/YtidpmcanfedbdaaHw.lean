/-
  The walk of taskmilllaw.ClockHalves.
-/
import Derived.Test.YtidpmcanfedbdaaHb
namespace Go.Proofs.Ytidpmcanfedbdaa
open Go.RowKit

set_option maxRecDepth 100000 in
set_option maxHeartbeats 2000000 in
theorem halves_walk (w : World) (v : Value) (now next : Int) (xs : List Al) (a b : Int) (h : IsC w v now next xs) (hm : xs.length * 32 ≤ 140737488355328) :
    Calls Try.prog 5 #[v, .int .i64 a, .int .i64 b] w fun e w' => e = .returned (.bool true) ∧ Below w.heap.size w w' := by
  have hn : xs.length ≤ maxLen := by unfold maxLen; omega
  have HIC := hide h
  obtain ⟨a0, c0, rfl, hL⟩ := h.form
  obtain ⟨⟨⟨F0, F1⟩, ⟨n1, x1, zs⟩, td⟩, e1⟩ : ∃ r, passR now next xs a = r := ⟨_, rfl⟩
  obtain ⟨⟨⟨G0, G1⟩, ⟨n2, x2, zs2⟩, td2⟩, e2⟩ : ∃ r, passR n1 x1 zs b = r := ⟨_, rfl⟩
  obtain ⟨⟨⟨H0, H1⟩, ⟨n3, x3, zs3⟩, td3⟩, e3⟩ : ∃ r, passR now next xs (a + b) = r := ⟨_, rfl⟩
  have HP1 : Hid (∀ W, Below w.heap.size w W → Calls Try.prog 20 #[.agg #[.int .i64 now, .int .i64 next, .slice a0 xs.length c0], .int .i64 a] W fun e w' => ∃ av cv a c, e = .returned (.tuple #[.agg #[.int .i64 n1, .int .i64 x1, .slice av zs.length cv], .slice a td.length c, .agg #[.int .i64 F0, .int .i64 F1]]) ∧ IsL KA w' (.slice av zs.length cv) zs ∧ IsL KO w' (.slice a td.length c) td ∧ Below W.heap.size W w') := fun W hW => pass_any W _ now next xs a ((unhide HIC).below hW) hn F0 F1 n1 x1 zs td e1
  have HP3 : Hid (∀ W, Below w.heap.size w W → Calls Try.prog 20 #[.agg #[.int .i64 now, .int .i64 next, .slice a0 xs.length c0], .int .i64 (a + b)] W fun e w' => ∃ av cv a c, e = .returned (.tuple #[.agg #[.int .i64 n3, .int .i64 x3, .slice av zs3.length cv], .slice a td3.length c, .agg #[.int .i64 H0, .int .i64 H1]]) ∧ IsL KA w' (.slice av zs3.length cv) zs3 ∧ IsL KO w' (.slice a td3.length c) td3 ∧ Below W.heap.size W w') := fun W hW => pass_any W _ now next xs (a + b) ((unhide HIC).below hW) hn H0 H1 n3 x3 zs3 td3 e3
  have HZ1 : Hid (F0 = 0 → zs.length ≤ 5000 ∧ td.length ≤ 5000 ∧ Good n1 x1 zs) := fun h0 => by
    obtain ⟨g, h1, h2, h3, h4, h5, -⟩ := passR_ok e1 h0
    have := run_good h3 (by omega) 5000 next xs [] g _ _ _ h5
    subst h4
    exact ⟨this.1.len, by simpa using this.2, this.1⟩
  have HP2 : Hid (∀ W av cv, IsL KA W (.slice av zs.length cv) zs → zs.length ≤ 5000 → Calls Try.prog 20 #[.agg #[.int .i64 n1, .int .i64 x1, .slice av zs.length cv], .int .i64 b] W fun e w' => ∃ av cv a c, e = .returned (.tuple #[.agg #[.int .i64 n2, .int .i64 x2, .slice av zs2.length cv], .slice a td2.length c, .agg #[.int .i64 G0, .int .i64 G1]]) ∧ IsL KA w' (.slice av zs2.length cv) zs2 ∧ IsL KO w' (.slice a td2.length c) td2 ∧ Below W.heap.size W w') := fun W av cv hl hz => pass_any W _ n1 x1 zs b ⟨_, rfl, hl⟩ (by unfold maxLen; omega) G0 G1 n2 x2 zs2 td2 e2
  have HFIN : Hid (0 ≤ a → 0 ≤ b → a ≤ 1000000000 → b ≤ 1000000000 → F0 = 0 → (¬ (G0 = 0 ∧ H0 = 0) → 1000000000 < a + b ∨ H0 = 9) ∧ (G0 = 0 → H0 = 0 → n3 = n2 ∧ x3 = x2 ∧ zs3 = zs2 ∧ td3 = td ++ td2 ∧ zs2.length ≤ 5000 ∧ td2.length ≤ 5000)) := fun ha hb ha1 hb1 h0 => by
    obtain ⟨g, h1, h2, h3, h4, h5, -⟩ := passR_ok e1 h0
    have g1 := (unhide HZ1 h0).2.2
    subst h4
    refine ⟨fun hne => ?_, fun hg0 hh0 => ?_⟩
    · by_cases hab : 1000000000 < a + b
      · exact Or.inl hab
      · refine Or.inr ?_
        by_cases hh0 : H0 = 0
        · have hg0 : G0 ≠ 0 := fun e => hne ⟨e, hh0⟩
          obtain ⟨-, -, -, k3, -, k5, -⟩ := passR_ok e3 hh0
          obtain ⟨t2, k6, -⟩ := run_two (show now + a ≤ now + (a + b) by omega) h5 k5
          have := (passR_much e2 g1 ⟨hb, hb1⟩ hg0).2.2
          rcases this with this | this
          · omega
          · rw [show now + a + b = now + (a + b) by omega, k6] at this
            cases this
        · exact (passR_much e3 g ⟨by omega, by omega⟩ hh0).1
    · obtain ⟨-, -, -, k3, k4, k5, -⟩ := passR_ok e3 hh0
      obtain ⟨t2, k6, k7⟩ := run_two (show now + a ≤ now + (a + b) by omega) h5 k5
      obtain ⟨-, -, -, m3, m4, m5, -⟩ := passR_ok e2 hg0
      rw [show now + a + b = now + (a + b) by omega] at m5 m4
      rw [k6] at m5
      cases m5
      have := run_good (show now + (a + b) ≤ 1000000000 by omega) (show now + a ≤ now + (a + b) by omega) 5000 x1 zs [] g1 _ _ _ k6
      exact ⟨by omega, rfl, rfl, k7, this.1.len, by simpa using this.2⟩
  obtain ⟨n, en⟩ : ∃ n, xs.length = n := ⟨_, rfl⟩
  rw [en] at HP1 HP3 hm hn ⊢
  obtain ⟨m, em⟩ : ∃ m, zs.length = m := ⟨_, rfl⟩
  obtain ⟨m2, em2⟩ : ∃ m, zs2.length = m := ⟨_, rfl⟩
  obtain ⟨m3, em3⟩ : ∃ m, zs3.length = m := ⟨_, rfl⟩
  obtain ⟨k, ek⟩ : ∃ m, td.length = m := ⟨_, rfl⟩
  obtain ⟨k2, ek2⟩ : ∃ m, td2.length = m := ⟨_, rfl⟩
  obtain ⟨k3, ek3⟩ : ∃ m, td3.length = m := ⟨_, rfl⟩
  rw [em, ek] at HP1; rw [em, ek] at HZ1; rw [em2, ek2, em] at HP2; rw [em3, ek3] at HP3
  have HEM := hide em; have HEM2 := hide em2; have HEM3 := hide em3; have HEK := hide ek; have HEK2 := hide ek2; have HEK3 := hide ek3
  clear h hL en em em2 em3 ek ek2 ek3 e1 e2 e3 HIC
  obtain ⟨W0, e0, hB, k0⟩ : ∃ W, w.alloc (.cells #[.int .i64 now, .int .i64 next, .slice a0 n c0] 24) = W ∧ Below w.heap.size w W ∧ W.heap[w.heap.size]? = some (.cells #[.int .i64 now, .int .i64 next, .slice a0 n c0] 24) := ⟨_, rfl, (Below.refl _ _).alloc (Nat.le_refl _) _, new_block _ _⟩
  have HX := hide hB; have HP := hide k0; have HE := hide e0
  clear hB k0 e0
  go_enter Try.func5, Try.ntmps5
  go_upto_region 1 with fail
  rw [unhide HE]
  clear HE
  go_upto_region 3 with (go_at_call 8; refine (begun_any _).mono ?_; rintro e w1 ⟨rfl, hb1⟩; have HX_1 := hide (Below.next (unhide HX) hb1 (by first | exact Nat.le_refl _ | (have := unhide HBA; omega))); have Kp_1 := hide (keep_below (unhide HP) hb1); clear HX HP; clear hb1)
  obtain ⟨⟨p0, p1, p2⟩, ⟨pf0, pf1, pf2⟩, pl⟩ := block3 (unhide Kp_1)
  by_cases j1 : (700 : Int) < (n : Int)
  · skip
    go_wp2_with fail
    go_ret
    exact ⟨rfl, unhide HX_1⟩
  by_cases j2 : a < 0
  · skip
    go_wp2_with fail
    go_ret
    exact ⟨rfl, unhide HX_1⟩
  by_cases j3 : b < 0
  · skip
    go_wp2_with fail
    go_ret
    exact ⟨rfl, unhide HX_1⟩
  by_cases j4 : 1000000000 < a
  · skip
    go_wp2_with fail
    go_ret
    exact ⟨rfl, unhide HX_1⟩
  by_cases j5 : 1000000000 < b
  · skip
    go_wp2_with fail
    go_ret
    exact ⟨rfl, unhide HX_1⟩
  have hw1 : IntKind.i64.wrap (a + b) = a + b := wrapi (by omega) (by omega)
  go_upto_region 6 with (go_at_call 20; refine (unhide HP1 _ (unhide HX_1)).mono ?_; rintro e w2 ⟨av1, cv1, at1, ct1, rfl, hl2, ht2, hb2⟩; have HL2 := hide hl2; have HT2 := hide ht2; have HX_2 := hide (Below.next (unhide HX_1) hb2 (by first | exact Nat.le_refl _ | (have := unhide HBA; omega))); have Kp_2 := hide (keep_below (unhide Kp_1) hb2); clear HX_1 Kp_1; clear hb2 hl2 ht2 p0 p1 p2 pf0 pf1 pf2 pl)
  obtain ⟨W2, eW2, hBW2, k0_3, k1_3⟩ := two_new w2 (.cells #[.int .i64 n1, .int .i64 x1, .slice av1 m cv1] 24) (.cells #[.int .i64 F0, .int .i64 F1] 29)
  rw [eW2]
  clear eW2
  have hlp_x : w.heap.size < w2.heap.size := size_of (unhide Kp_2)
  (have HX_3 := hide (Below.next (unhide HX_2) hBW2 (by first | exact Nat.le_refl _ | (have := unhide HBA; omega))); have Kp_3 := hide (keep_below (unhide Kp_2) hBW2); have Fl1_3 := hide ((unhide HL2).below hBW2); have Ft1_3 := hide ((unhide HT2).below hBW2); clear HX_2 Kp_2 HL2 HT2)
  obtain ⟨X1, eX1⟩ : ∃ X, w2.heap.size = X := ⟨_, rfl⟩
  rw [eX1] at k0_3 k1_3 hlp_x ⊢
  have Kx_3 := hide k0_3
  have Kf_3 := hide k1_3
  clear eX1 hBW2 k0_3 k1_3
  obtain ⟨f0, f1, ff0, ff1, fl⟩ := block2 (unhide Kf_3)
  by_cases hF : F0 = 0
  · subst hF
    obtain ⟨hz5, hk5, -⟩ := unhide HZ1 rfl
    have HP22 := hide (fun W av cv hl => unhide HP2 W av cv hl hz5)
    obtain ⟨hfa, hfb⟩ := unhide HFIN (by omega) (by omega) (by omega) (by omega) rfl
    have HFA := hide hfa; have HFB := hide hfb
    clear hfa hfb HFIN HP2 HZ1
    clear f0 f1 ff0 ff1 fl
    obtain ⟨f0, f1, ff0, ff1, fl⟩ := block2 (unhide Kf_3)
    obtain ⟨⟨x0, x1, x2⟩, ⟨xf0, xf1, xf2⟩, xl⟩ := block3 (unhide Kx_3)
    go_upto_region 9 with (go_at_call 20; refine (unhide HP22 _ av1 cv1 (unhide Fl1_3)).mono ?_; rintro e w3 ⟨av2, cv2, at2, ct2, rfl, hl3, ht3, hb3⟩; have HL3 := hide hl3; have HT3 := hide ht3; have HX_4 := hide (Below.next (unhide HX_3) hb3 (by first | exact Nat.le_refl _ | (have := unhide HBA; omega))); have Kp_4 := hide (keep_below (unhide Kp_3) hb3); have Kx_4 := hide (keep_below (unhide Kx_3) hb3); have Kf_4 := hide (keep_below (unhide Kf_3) hb3); have Fl1_4 := hide ((unhide Fl1_3).below hb3); have Ft1_4 := hide ((unhide Ft1_3).below hb3); clear HX_3 Kp_3 Kx_3 Kf_3 Fl1_3 Ft1_3; clear hb3 hl3 ht3 x0 x1 x2 xf0 xf1 xf2 xl f0 f1 ff0 ff1 fl)
    obtain ⟨W3, eW3, hBW3, k0_5, k1_5⟩ := two_new w3 (.cells #[.int .i64 n2, .int .i64 x2, .slice av2 m2 cv2] 24) (.cells #[.int .i64 G0, .int .i64 G1] 29)
    rw [eW3]
    clear eW3
    have hlp_y : w.heap.size < w3.heap.size := size_of (unhide Kp_4)
    have hlx_y : X1 < w3.heap.size := size_of (unhide Kx_4)
    have hlf_y : X1 + 1 < w3.heap.size := size_of (unhide Kf_4)
    (have HX_5 := hide (Below.next (unhide HX_4) hBW3 (by first | exact Nat.le_refl _ | (have := unhide HBA; omega))); have Kp_5 := hide (keep_below (unhide Kp_4) hBW3); have Kx_5 := hide (keep_below (unhide Kx_4) hBW3); have Kf_5 := hide (keep_below (unhide Kf_4) hBW3); have Fl1_5 := hide ((unhide Fl1_4).below hBW3); have Ft1_5 := hide ((unhide Ft1_4).below hBW3); have Fl2_5 := hide ((unhide HL3).below hBW3); have Ft2_5 := hide ((unhide HT3).below hBW3); clear HX_4 Kp_4 Kx_4 Kf_4 Fl1_4 Ft1_4 HL3 HT3)
    obtain ⟨X2, eX2⟩ : ∃ X, w3.heap.size = X := ⟨_, rfl⟩
    rw [eX2] at k0_5 k1_5 hlp_y hlx_y hlf_y ⊢
    have Ky_5 := hide k0_5
    have Kg_5 := hide k1_5
    clear eX2 hBW3 k0_5 k1_5
    obtain ⟨⟨p0, p1, p2⟩, ⟨pf0, pf1, pf2⟩, pl⟩ := block3 (unhide Kp_5)
    go_upto_region 10 with (go_at_call 20; refine (unhide HP3 _ (unhide HX_5)).mono ?_; rintro e w4 ⟨av3, cv3, at3, ct3, rfl, hl4, ht4, hb4⟩; have HL4 := hide hl4; have HT4 := hide ht4; have HX_6 := hide (Below.next (unhide HX_5) hb4 (by first | exact Nat.le_refl _ | (have := unhide HBA; omega))); have Kp_6 := hide (keep_below (unhide Kp_5) hb4); have Kx_6 := hide (keep_below (unhide Kx_5) hb4); have Kf_6 := hide (keep_below (unhide Kf_5) hb4); have Ky_6 := hide (keep_below (unhide Ky_5) hb4); have Kg_6 := hide (keep_below (unhide Kg_5) hb4); have Fl1_6 := hide ((unhide Fl1_5).below hb4); have Ft1_6 := hide ((unhide Ft1_5).below hb4); have Fl2_6 := hide ((unhide Fl2_5).below hb4); have Ft2_6 := hide ((unhide Ft2_5).below hb4); clear HX_5 Kp_5 Kx_5 Kf_5 Ky_5 Kg_5 Fl1_5 Ft1_5 Fl2_5 Ft2_5; clear hb4 hl4 ht4 p0 p1 p2 pf0 pf1 pf2 pl)
    obtain ⟨W4, eW4, hBW4, k0_7, k1_7⟩ := two_new w4 (.cells #[.int .i64 n3, .int .i64 x3, .slice av3 m3 cv3] 24) (.cells #[.int .i64 H0, .int .i64 H1] 29)
    rw [eW4]
    clear eW4
    have hlp_z : w.heap.size < w4.heap.size := size_of (unhide Kp_6)
    have hlx_z : X1 < w4.heap.size := size_of (unhide Kx_6)
    have hlf_z : X1 + 1 < w4.heap.size := size_of (unhide Kf_6)
    have hly_z : X2 < w4.heap.size := size_of (unhide Ky_6)
    have hlg_z : X2 + 1 < w4.heap.size := size_of (unhide Kg_6)
    (have HX_7 := hide (Below.next (unhide HX_6) hBW4 (by first | exact Nat.le_refl _ | (have := unhide HBA; omega))); have Kp_7 := hide (keep_below (unhide Kp_6) hBW4); have Kx_7 := hide (keep_below (unhide Kx_6) hBW4); have Kf_7 := hide (keep_below (unhide Kf_6) hBW4); have Ky_7 := hide (keep_below (unhide Ky_6) hBW4); have Kg_7 := hide (keep_below (unhide Kg_6) hBW4); have Fl1_7 := hide ((unhide Fl1_6).below hBW4); have Ft1_7 := hide ((unhide Ft1_6).below hBW4); have Fl2_7 := hide ((unhide Fl2_6).below hBW4); have Ft2_7 := hide ((unhide Ft2_6).below hBW4); have Fl3_7 := hide ((unhide HL4).below hBW4); have Ft3_7 := hide ((unhide HT4).below hBW4); clear HX_6 Kp_6 Kx_6 Kf_6 Ky_6 Kg_6 Fl1_6 Ft1_6 Fl2_6 Ft2_6 HL4 HT4)
    obtain ⟨X3, eX3⟩ : ∃ X, w4.heap.size = X := ⟨_, rfl⟩
    rw [eX3] at k0_7 k1_7 hlp_z hlx_z hlf_z hly_z hlg_z ⊢
    have Kz_7 := hide k0_7
    have Ke_7 := hide k1_7
    clear eX3 hBW4 k0_7 k1_7
    obtain ⟨g0, g1, gf0, gf1, gl⟩ := block2 (unhide Kg_7)
    obtain ⟨r0, r1, rf0, rf1, rl⟩ := block2 (unhide Ke_7)
    by_cases hG : G0 = 0
    · by_cases hH : H0 = 0
      · obtain ⟨rfl, rfl, rfl, htd, hm2, hk2⟩ := unhide HFB hG hH
        subst hG
        subst hH
        have HTD := hide htd
        rw [unhide HEM2] at hm2
        rw [unhide HEK2] at hk2
        have hmm : m2 = m3 := (unhide HEM2).symm.trans (unhide HEM3)
        subst hmm
        have hkk : k + k2 = k3 := by rw [← unhide HEK3, htd, List.length_append, unhide HEK, unhide HEK2]
        have HKK := hide hkk
        clear htd HFA HFB hkk
        obtain ⟨⟨y0, y1, y2⟩, ⟨yf0, yf1, yf2⟩, yl⟩ := block3 (unhide Ky_7)
        obtain ⟨⟨z0, z1, z2⟩, ⟨zf0, zf1, zf2⟩, zl⟩ := block3 (unhide Kz_7)
        have HSC := hide (sameClock_same W4 (.agg #[.int .i64 n3, .int .i64 x3, .slice av2 m2 cv2]) (.agg #[.int .i64 n3, .int .i64 x3, .slice av3 m2 cv3]) n3 x3 zs3 ⟨_, rfl, unhide Fl2_7⟩ ⟨_, rfl, unhide Fl3_7⟩ (by rw [unhide HEM2]; omega))
        have HWW : Hid (w.heap.size ≤ W4.heap.size) := (unhide HX_7).size
        go_wp2_with (first
          | (go_at_call 16; refine (unhide HSC).mono ?_; rintro e w5 ⟨rfl, hb5⟩; have HX_8 := hide (Below.next (unhide HX_7) hb5 (by first | exact Nat.le_refl _ | (have := unhide HBA; omega))); have Kp_8 := hide (keep_below (unhide Kp_7) hb5); have Kx_8 := hide (keep_below (unhide Kx_7) hb5); have Kf_8 := hide (keep_below (unhide Kf_7) hb5); have Ky_8 := hide (keep_below (unhide Ky_7) hb5); have Kg_8 := hide (keep_below (unhide Kg_7) hb5); have Kz_8 := hide (keep_below (unhide Kz_7) hb5); have Ke_8 := hide (keep_below (unhide Ke_7) hb5); have Fl1_8 := hide ((unhide Fl1_7).below hb5); have Ft1_8 := hide ((unhide Ft1_7).below hb5); have Fl2_8 := hide ((unhide Fl2_7).below hb5); have Ft2_8 := hide ((unhide Ft2_7).below hb5); have Fl3_8 := hide ((unhide Fl3_7).below hb5); have Ft3_8 := hide ((unhide Ft3_7).below hb5); clear HX_7 Kp_7 Kx_7 Kf_7 Ky_7 Kg_7 Kz_7 Ke_7 Fl1_7 Ft1_7 Fl2_7 Ft2_7 Fl3_7 Ft3_7; have HB5 := hide hb5; clear hb5 y0 y1 y2 yf0 yf1 yf2 yl z0 z1 z2 zf0 zf1 zf2 zl)
          | (at_builtin; refine wpList_append ko rfl _ _ rfl w5.heap.size _ [] rfl (own_nil _ _) _ td rfl (unhide Ft1_8) k (by simp [unhide HEK]) (by simp [KO]; omega) (Nat.le_refl _) ?_; intro a6 c6 w6 ho6 hg6; have HO6 := hide (own_nil_append ho6); have hb6 : Below w5.heap.size w5 w6 := (Below.refl w5.heap.size w5).grown hg6 (Nat.le_refl _) (fun k hk => by cases hk); have HX5k := HX_8; have HT5k := Ft3_8; have HX_9 := hide (Below.next (unhide HX_8) hb6 (by first | exact Nat.le_refl _ | (have := unhide HBA; omega))); have Kp_9 := hide (keep_below (unhide Kp_8) hb6); have Kx_9 := hide (keep_below (unhide Kx_8) hb6); have Kf_9 := hide (keep_below (unhide Kf_8) hb6); have Ky_9 := hide (keep_below (unhide Ky_8) hb6); have Kg_9 := hide (keep_below (unhide Kg_8) hb6); have Kz_9 := hide (keep_below (unhide Kz_8) hb6); have Ke_9 := hide (keep_below (unhide Ke_8) hb6); have Fl1_9 := hide ((unhide Fl1_8).below hb6); have Ft1_9 := hide ((unhide Ft1_8).below hb6); have Fl2_9 := hide ((unhide Fl2_8).below hb6); have Ft2_9 := hide ((unhide Ft2_8).below hb6); have Fl3_9 := hide ((unhide Fl3_8).below hb6); have Ft3_9 := hide ((unhide Ft3_8).below hb6); clear HX_8 Kp_8 Kx_8 Kf_8 Ky_8 Kg_8 Kz_8 Ke_8 Fl1_8 Ft1_8 Fl2_8 Ft2_8 Fl3_8 Ft3_8; have HB6 := hide hb6; clear ho6 hg6 hb6)
          | (at_builtin; refine wpList_append ko rfl _ _ rfl w5.heap.size _ td rfl (unhide HO6) _ td2 rfl (unhide Ft2_9) (k + k2) (by simp [unhide HEK, unhide HEK2]) (by simp [KO]; omega) (unhide HB6).size ?_; intro a7 c7 w7 ho7 hg7; have HO7 := hide ho7; have hb7 : Below w5.heap.size w5 w7 := (unhide HB6).grown hg7 (unhide HB6).size (fun j hj => ((unhide HO6).lt j hj).1); have HX7 := hide (Below.next (unhide HX5k) hb7 (Nat.le_refl _)); have HT7 := hide ((unhide HT5k).below hb7); clear ho7 hg7 hb7)
          | (go_at_call 22; refine (sameOff_same w7 (.slice a7 (k + k2) c7) (.slice at3 k3 ct3) (td ++ td2) (unhide HO7).isl (by rw [← unhide HTD]; exact unhide HT7) (by rw [List.length_append, unhide HEK, unhide HEK2]; omega)).mono ?_; rintro e w8 ⟨rfl, hb8⟩; have HX8 := hide (Below.next (unhide HX7) hb8 (Nat.le_refl _)); clear hb8))
        go_ret
        exact ⟨rfl, unhide HX8⟩
      · have x9 : (H0 != 0) = true := by simpa using hH
        have hor := unhide HFA (fun hh => hH hh.2)
        subst hG
        clear HFA HFB hH
        by_cases hab : 1000000000 < a + b
        · go_wp2_with fail
          go_ret
          exact ⟨rfl, unhide HX_7⟩
        · obtain rfl : H0 = 9 := hor.resolve_left hab
          clear hor
          go_wp2_with fail
          go_ret
          exact ⟨rfl, unhide HX_7⟩
    · have x9 : (G0 != 0) = true := by simpa using hG
      have hor := unhide HFA (fun hh => hG hh.1)
      clear HFA HFB hG
      by_cases hab : 1000000000 < a + b
      · go_wp2_with fail
        go_ret
        exact ⟨rfl, unhide HX_7⟩
      · obtain rfl : H0 = 9 := hor.resolve_left hab
        clear hor
        go_wp2_with fail
        go_ret
        exact ⟨rfl, unhide HX_7⟩
  · have x0 : (F0 != 0) = true := by simpa using hF
    clear hF HZ1 HFIN HP2
    go_wp2_with fail
    go_ret
    exact ⟨rfl, unhide HX_3⟩
end Go.Proofs.Ytidpmcanfedbdaa
