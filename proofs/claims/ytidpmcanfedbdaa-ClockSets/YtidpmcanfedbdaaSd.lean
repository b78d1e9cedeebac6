/-
  taskmilllaw.ClockSets up to NoAlarm, one theorem a way.
-/
import Derived.Test.YtidpmcanfedbdaaSca
namespace Go.Proofs.Ytidpmcanfedbdaa
open Go.RowKit

set_option maxRecDepth 100000 in
set_option maxHeartbeats 2000000 in
theorem sets_bad (w : World) (v : Value) (now next : Int) (xs : List Al) (id after period : Int) (hk : (clockF now next xs).1 ≠ 0) (h : IsC w v now next xs) (hm : xs.length * 32 ≤ 140737488355328) :
    Calls Try.prog 3 #[v, .int .i64 id, .int .i64 after, .int .i64 period] w fun e w' => e = .returned (.bool true) ∧ Below w.heap.size w w' := by
  have hn : xs.length ≤ maxLen := by unfold maxLen; omega
  have HIC := hide h
  obtain ⟨a0, c0, rfl, hL⟩ := h.form
  obtain ⟨⟨C0, C1⟩, e0⟩ : ∃ r, clockF now next xs = r := ⟨_, rfl⟩
  obtain ⟨⟨U0, U1⟩, eU⟩ : ∃ r, setU (C0, C1) id after period = r := ⟨_, rfl⟩
  obtain ⟨⟨V0, V1⟩, eV⟩ : ∃ r, setV (U0, U1) (noL id xs).length next = r := ⟨_, rfl⟩
  obtain ⟨⟨⟨F0, F1⟩, ⟨n1, x1, zs1⟩, was⟩, e1⟩ : ∃ r, setR now next xs id after period = r := ⟨_, rfl⟩
  obtain ⟨⟨⟨T0, T1⟩, ⟨n2, x2, zs2⟩, is⟩, e2⟩ : ∃ r, stopR now next xs id = r := ⟨_, rfl⟩
  obtain ⟨⟨r, Q0, Q1⟩, e3⟩ : ∃ r, soonR now next xs = r := ⟨_, rfl⟩
  obtain ⟨rfl, rfl, rfl, rfl, hz1, hz2, hz3, hz4⟩ := sets_facts e0 eU eV e1 e2 e3
  rw [e0] at hk
  have HK0 : Hid (T0 ≠ 0) := hk
  have HZ1 := hide hz1; have HZ2 := hide hz2; have HZ3 := hide hz3; have HZ4 := hide hz4; have HEU := hide eU; have HEV := hide eV
  have HCK : Hid (∀ W a c, IsL KA W (.slice a xs.length c) xs → Calls Try.prog 11 #[.agg #[.int .i64 now, .int .i64 next, .slice a xs.length c]] W fun e w' => e = .returned (.agg #[.int .i64 T0, .int .i64 T1]) ∧ Below W.heap.size W w') := fun W a c hl => by
    have := check_any W _ now next xs ⟨_, rfl, hl⟩ hn
    rw [e0] at this
    exact this
  have HSE : Hid (∀ W a c, IsL KA W (.slice a xs.length c) xs → Calls Try.prog 12 #[.agg #[.int .i64 now, .int .i64 next, .slice a xs.length c], .int .i64 id, .int .i64 after, .int .i64 period] W fun e w' => ∃ av cv, e = .returned (.tuple #[.agg #[.int .i64 n1, .int .i64 x1, .slice av zs1.length cv], .bool was, .agg #[.int .i64 F0, .int .i64 F1]]) ∧ IsL KA w' (.slice av zs1.length cv) zs1 ∧ Below W.heap.size W w') := fun W a c hl => set_any W _ now next xs id after period ⟨_, rfl, hl⟩ hn F0 F1 n1 x1 zs1 was e1
  have HST : Hid (∀ W a c, IsL KA W (.slice a xs.length c) xs → Calls Try.prog 13 #[.agg #[.int .i64 now, .int .i64 next, .slice a xs.length c], .int .i64 id] W fun e w' => ∃ av cv, e = .returned (.tuple #[.agg #[.int .i64 n2, .int .i64 x2, .slice av zs2.length cv], .bool is, .agg #[.int .i64 T0, .int .i64 T1]]) ∧ IsL KA w' (.slice av zs2.length cv) zs2 ∧ Below W.heap.size W w') := fun W a c hl => stop_any W _ now next xs id ⟨_, rfl, hl⟩ hn T0 T1 n2 x2 zs2 is e2
  have HSN : Hid (∀ W a c, IsL KA W (.slice a xs.length c) xs → Calls Try.prog 14 #[.agg #[.int .i64 now, .int .i64 next, .slice a xs.length c]] W fun e w' => e = .returned (.tuple #[.int .i64 r, .agg #[.int .i64 Q0, .int .i64 Q1]]) ∧ Below W.heap.size W w') := fun W a c hl => soon_any W _ now next xs ⟨_, rfl, hl⟩ hn r Q0 Q1 e3
  have HCF : Hid (∀ W, Below w.heap.size w W → Calls Try.prog 15 #[.agg #[.int .i64 now, .int .i64 next, .slice a0 xs.length c0]] W fun e w' => e = .returned (.agg #[.int .i64 T0, .int .i64 T1]) ∧ Below W.heap.size W w') := fun W hW => by
    have := clockFault_any W _ now next xs ((unhide HIC).below hW) hn
    rw [e0] at this
    exact this
  have HOW : Hid (∀ W, Below w.heap.size w W → Calls Try.prog 10 #[.agg #[.int .i64 now, .int .i64 next, .slice a0 xs.length c0]] W fun e w' => ∃ a c, e = .returned (.agg #[.int .i64 now, .int .i64 next, .slice a xs.length c]) ∧ IsL KA w' (.slice a xs.length c) xs ∧ Below W.heap.size W w') := fun W hW => ownClock_any W _ now next xs ((unhide HIC).below hW) hm
  have HSX : Hid (∀ W a c, Below w.heap.size w W → IsL KA W (.slice a xs.length c) xs → xs.length ≤ 6000 → Calls Try.prog 16 #[.agg #[.int .i64 now, .int .i64 next, .slice a xs.length c], .agg #[.int .i64 now, .int .i64 next, .slice a0 xs.length c0]] W fun e w' => e = .returned (.bool true) ∧ Below W.heap.size W w') := fun W a c hW hl h6 => sameClock_same W _ _ now next xs ⟨_, rfl, hl⟩ ((unhide HIC).below hW) (by omega)
  have HNA : Hid (∀ W, Below w.heap.size w W → xs.length ≤ 6000 → Calls Try.prog 18 #[.agg #[.int .i64 now, .int .i64 next, .slice a0 xs.length c0], .int .i64 id] W fun e w' => ∃ a c, e = .returned (.tuple #[.agg #[.int .i64 now, .int .i64 next, .slice a (noL id xs).length c], .bool (xs.any (fun p => p.1 == id))]) ∧ Own KA W.heap.size w' (.slice a (noL id xs).length c) (noL id xs) ∧ Below W.heap.size W w') := fun W hW h6 => noAlarm_own W _ now next xs id ((unhide HIC).below hW) (by omega)
  have HLG := hide (fun W => long_any W xs.length hn)
  have H0 := hide (hL.opens ka rfl)
  obtain ⟨had, ehad⟩ : ∃ b, xs.any (fun p => p.1 == id) = b := ⟨_, rfl⟩
  rw [ehad] at HNA HZ2 HZ4
  obtain ⟨ys, eys⟩ : ∃ ys, noL id xs = ys := ⟨_, rfl⟩
  have hyl : (noL id xs).length ≤ xs.length := (noL_sub id xs).length_le
  rw [eys] at HNA HZ2 HZ4 HEV hyl
  obtain ⟨n, en⟩ : ∃ n, xs.length = n := ⟨_, rfl⟩
  rw [en] at HCK HSE HST HSN HCF HOW HSX HNA HLG H0 hm hn hyl ⊢
  obtain ⟨m, em⟩ : ∃ m, ys.length = m := ⟨_, rfl⟩
  obtain ⟨m1, em1⟩ : ∃ m, zs1.length = m := ⟨_, rfl⟩
  obtain ⟨m2, em2⟩ : ∃ m, zs2.length = m := ⟨_, rfl⟩
  rw [em] at HNA HEV hyl; rw [em1] at HSE; rw [em2] at HST
  have HN := hide en; have HEM := hide em; have HEM1 := hide em1; have HEM2 := hide em2
  clear hk h hL en em em1 em2 e0 e1 e2 e3 hz1 hz2 hz3 hz4 eU eV ehad eys HIC
  obtain ⟨W0, e0, hB, k0⟩ : ∃ W, w.alloc (.cells #[.int .i64 now, .int .i64 next, .slice a0 n c0] 24) = W ∧ Below w.heap.size w W ∧ W.heap[w.heap.size]? = some (.cells #[.int .i64 now, .int .i64 next, .slice a0 n c0] 24) := ⟨_, rfl, (Below.refl _ _).alloc (Nat.le_refl _) _, new_block _ _⟩
  have HX := hide hB; have HP := hide k0; have HE := hide e0
  clear hB k0 e0
  go_enter Try.func3, Try.ntmps3
  go_upto_region 1 with fail
  rw [unhide HE]
  clear HE
  go_upto_region 3 with (go_at_call 8; refine (begun_any _).mono ?_; rintro e w1 ⟨rfl, hb1⟩; have HX_1 := hide (Below.next (unhide HX) hb1 (by first | exact Nat.le_refl _ | (have := unhide HBA; omega))); have Kp_1 := hide (keep_below (unhide HP) hb1); clear HX HP; clear hb1)
  obtain ⟨⟨p0, p1, p2⟩, ⟨pf0, pf1, pf2⟩, pl⟩ := block3 (unhide Kp_1)
  by_cases hlong : (700 < n ∧ n < 4999) ∨ 6000 < n
  · rw [decide_eq_true hlong] at HLG
    go_wp2_with (go_at_call 9; refine (unhide HLG _).mono ?_; rintro e w1b ⟨rfl, rfl⟩)
    go_ret
    exact ⟨rfl, unhide HX_1⟩
  rw [decide_eq_false hlong] at HLG
  have hn6 : n ≤ 6000 := by omega
  have HSX2 := hide (fun W a c hW hl => unhide HSX W a c hW hl hn6)
  have HNA2 := hide (fun W hW => unhide HNA W hW hn6)
  clear hlong HSX HNA
  go_upto_region 6 with (first | (go_at_call 9; refine (unhide HLG _).mono ?_; rintro e w1b ⟨rfl, hw1b⟩; subst hw1b) | (go_at_call 10; refine (unhide HOW _ (unhide HX_1)).mono ?_; rintro e w2 ⟨a2, c2, rfl, hl2, hb2⟩; have HL2 := hide hl2; have HCX : Hid (Below w2.heap.size w2 w2) := Below.refl _ _; have HX_2 := hide (Below.next (unhide HX_1) hb2 (by first | exact Nat.le_refl _ | (have := unhide HBA; omega))); have Kp_2 := hide (keep_below (unhide Kp_1) hb2); clear HX_1 Kp_1; clear hb2 hl2 p0 p1 p2 pf0 pf1 pf2 pl))
  have HX_3 := hide ((unhide HX_2).alloc (Nat.le_trans (show w.heap.size ≤ w.heap.size from Nat.le_refl _) (unhide HX_2).size) (.cells #[.int .i64 now, .int .i64 next, .slice a2 n c2] 24))
  have Kp_3 := hide (keep_alloc (unhide Kp_2) (.cells #[.int .i64 now, .int .i64 next, .slice a2 n c2] 24))
  have Cx_3 := hide ((unhide HCX).alloc (unhide HCX).size (.cells #[.int .i64 now, .int .i64 next, .slice a2 n c2] 24))
  have Kx_3 := hide (new_block w2 (.cells #[.int .i64 now, .int .i64 next, .slice a2 n c2] 24))
  have hlp_x : w.heap.size < w2.heap.size := size_of (unhide Kp_2)
  obtain ⟨TX, eTX⟩ : ∃ X, w2.heap.size = X := ⟨_, rfl⟩
  obtain ⟨W1, eW1⟩ : ∃ X, w2.alloc (.cells #[.int .i64 now, .int .i64 next, .slice a2 n c2] 24) = X := ⟨_, rfl⟩
  rw [eTX, eW1] at Kx_3; rw [eW1] at HX_3 Kp_3 Cx_3; rw [eTX] at hlp_x; rw [eTX, eW1]
  have hleTX : w2.heap.size ≤ TX := Nat.le_of_eq eTX
  clear eTX eW1 HX_2 Kp_2 HCX
  obtain ⟨⟨x0, x1, x2⟩, ⟨xf0, xf1, xf2⟩, xl⟩ := block3 (unhide Kx_3)
  go_upto_region 7 with (go_at_call 11; refine (unhide HCK _ a2 c2 ((unhide HL2).below (unhide Cx_3))).mono ?_; rintro e w3 ⟨rfl, hb3⟩; have HX_4 := hide (Below.next (unhide HX_3) hb3 (by first | exact Nat.le_refl _ | (have := unhide HBA; omega))); have Kp_4 := hide (keep_below (unhide Kp_3) hb3); have Kx_4 := hide (keep_below (unhide Kx_3) hb3); have Cx_4 := hide (Below.next (unhide Cx_3) hb3 (Nat.le_refl _)); clear HX_3 Kp_3 Kx_3 Cx_3; clear hb3 x0 x1 x2 xf0 xf1 xf2 xl)
  have HX_5 := hide ((unhide HX_4).alloc (Nat.le_trans (show w.heap.size ≤ w.heap.size from Nat.le_refl _) (unhide HX_4).size) (.cells #[.int .i64 T0, .int .i64 T1] 29))
  have Kp_5 := hide (keep_alloc (unhide Kp_4) (.cells #[.int .i64 T0, .int .i64 T1] 29))
  have Kx_5 := hide (keep_alloc (unhide Kx_4) (.cells #[.int .i64 T0, .int .i64 T1] 29))
  have Cx_5 := hide ((unhide Cx_4).alloc (unhide Cx_4).size (.cells #[.int .i64 T0, .int .i64 T1] 29))
  have Kk_5 := hide (new_block w3 (.cells #[.int .i64 T0, .int .i64 T1] 29))
  have hlp_k : w.heap.size < w3.heap.size := size_of (unhide Kp_4)
  have hlx_k : TX < w3.heap.size := size_of (unhide Kx_4)
  obtain ⟨TK, eTK⟩ : ∃ X, w3.heap.size = X := ⟨_, rfl⟩
  obtain ⟨W2, eW2⟩ : ∃ X, w3.alloc (.cells #[.int .i64 T0, .int .i64 T1] 29) = X := ⟨_, rfl⟩
  rw [eTK, eW2] at Kk_5; rw [eW2] at HX_5 Kp_5 Kx_5 Cx_5; rw [eTK] at hlp_k hlx_k; rw [eTK, eW2]
  clear eTK eW2 HX_4 Kp_4 Kx_4 Cx_4
  obtain ⟨⟨x0, x1, x2⟩, ⟨xf0, xf1, xf2⟩, xl⟩ := block3 (unhide Kx_5)
  go_upto_region 8 with (go_at_call 12; refine (unhide HSE _ a2 c2 ((unhide HL2).below (unhide Cx_5))).mono ?_; rintro e w4 ⟨av1, cv1, rfl, hl4, hb4⟩; have HL4 := hide hl4; have HCA : Hid (Below w4.heap.size w4 w4) := Below.refl _ _; have HX_6 := hide (Below.next (unhide HX_5) hb4 (by first | exact Nat.le_refl _ | (have := unhide HBA; omega))); have Kp_6 := hide (keep_below (unhide Kp_5) hb4); have Kx_6 := hide (keep_below (unhide Kx_5) hb4); have Kk_6 := hide (keep_below (unhide Kk_5) hb4); have Cx_6 := hide (Below.next (unhide Cx_5) hb4 (Nat.le_refl _)); clear HX_5 Kp_5 Kx_5 Kk_5 Cx_5; clear hb4 hl4 x0 x1 x2 xf0 xf1 xf2 xl)
  obtain ⟨W3, eW3, hBW3, k0_7, k1_7⟩ := two_new w4 (.cells #[.int .i64 n1, .int .i64 x1, .slice av1 m1 cv1] 24) (.cells #[.int .i64 F0, .int .i64 F1] 29)
  rw [eW3]
  clear eW3
  have hlp_a : w.heap.size < w4.heap.size := size_of (unhide Kp_6)
  have hlx_a : TX < w4.heap.size := size_of (unhide Kx_6)
  have hlk_a : TK < w4.heap.size := size_of (unhide Kk_6)
  (have HX_7 := hide (Below.next (unhide HX_6) hBW3 (by first | exact Nat.le_refl _ | (have := unhide HBA; omega))); have Kp_7 := hide (keep_below (unhide Kp_6) hBW3); have Kx_7 := hide (keep_below (unhide Kx_6) hBW3); have Kk_7 := hide (keep_below (unhide Kk_6) hBW3); have Cx_7 := hide (Below.next (unhide Cx_6) hBW3 (Nat.le_refl _)); have Ca_7 := hide (Below.next (unhide HCA) hBW3 (Nat.le_refl _)); clear HX_6 Kp_6 Kx_6 Kk_6 Cx_6 HCA)
  obtain ⟨X1, eX1⟩ : ∃ X, w4.heap.size = X := ⟨_, rfl⟩
  rw [eX1] at k0_7 k1_7 hlp_a hlx_a hlk_a ⊢
  have Ka_7 := hide k0_7
  have Kf1_7 := hide k1_7
  have hleX1 : w4.heap.size ≤ X1 := Nat.le_of_eq eX1
  clear eX1 hBW3 k0_7 k1_7
  obtain ⟨⟨x0, x1, x2⟩, ⟨xf0, xf1, xf2⟩, xl⟩ := block3 (unhide Kx_7)
  go_upto_region 9 with (go_at_call 13; refine (unhide HST _ a2 c2 ((unhide HL2).below (unhide Cx_7))).mono ?_; rintro e w5 ⟨av2, cv2, rfl, hl5, hb5⟩; have HL5 := hide hl5; have HCB : Hid (Below w5.heap.size w5 w5) := Below.refl _ _; have HX_8 := hide (Below.next (unhide HX_7) hb5 (by first | exact Nat.le_refl _ | (have := unhide HBA; omega))); have Kp_8 := hide (keep_below (unhide Kp_7) hb5); have Kx_8 := hide (keep_below (unhide Kx_7) hb5); have Kk_8 := hide (keep_below (unhide Kk_7) hb5); have Ka_8 := hide (keep_below (unhide Ka_7) hb5); have Kf1_8 := hide (keep_below (unhide Kf1_7) hb5); have Cx_8 := hide (Below.next (unhide Cx_7) hb5 (Nat.le_refl _)); have Ca_8 := hide (Below.next (unhide Ca_7) hb5 (Nat.le_refl _)); clear HX_7 Kp_7 Kx_7 Kk_7 Ka_7 Kf1_7 Cx_7 Ca_7; clear hb5 hl5 x0 x1 x2 xf0 xf1 xf2 xl)
  obtain ⟨W4, eW4, hBW4, k0_9, k1_9⟩ := two_new w5 (.cells #[.int .i64 n2, .int .i64 x2, .slice av2 m2 cv2] 24) (.cells #[.int .i64 T0, .int .i64 T1] 29)
  rw [eW4]
  clear eW4
  have hlp_b : w.heap.size < w5.heap.size := size_of (unhide Kp_8)
  have hlx_b : TX < w5.heap.size := size_of (unhide Kx_8)
  have hlk_b : TK < w5.heap.size := size_of (unhide Kk_8)
  have hla_b : X1 < w5.heap.size := size_of (unhide Ka_8)
  have hlf1_b : X1 + 1 < w5.heap.size := size_of (unhide Kf1_8)
  (have HX_9 := hide (Below.next (unhide HX_8) hBW4 (by first | exact Nat.le_refl _ | (have := unhide HBA; omega))); have Kp_9 := hide (keep_below (unhide Kp_8) hBW4); have Kx_9 := hide (keep_below (unhide Kx_8) hBW4); have Kk_9 := hide (keep_below (unhide Kk_8) hBW4); have Ka_9 := hide (keep_below (unhide Ka_8) hBW4); have Kf1_9 := hide (keep_below (unhide Kf1_8) hBW4); have Cx_9 := hide (Below.next (unhide Cx_8) hBW4 (Nat.le_refl _)); have Ca_9 := hide (Below.next (unhide Ca_8) hBW4 (Nat.le_refl _)); have Cb_9 := hide (Below.next (unhide HCB) hBW4 (Nat.le_refl _)); clear HX_8 Kp_8 Kx_8 Kk_8 Ka_8 Kf1_8 Cx_8 Ca_8 HCB)
  obtain ⟨X2, eX2⟩ : ∃ X, w5.heap.size = X := ⟨_, rfl⟩
  rw [eX2] at k0_9 k1_9 hlp_b hlx_b hlk_b hla_b hlf1_b ⊢
  have Kb_9 := hide k0_9
  have Kf2_9 := hide k1_9
  have hleX2 : w5.heap.size ≤ X2 := Nat.le_of_eq eX2
  clear eX2 hBW4 k0_9 k1_9
  obtain ⟨⟨x0, x1, x2⟩, ⟨xf0, xf1, xf2⟩, xl⟩ := block3 (unhide Kx_9)
  go_upto_region 10 with (go_at_call 14; refine (unhide HSN _ a2 c2 ((unhide HL2).below (unhide Cx_9))).mono ?_; rintro e w6 ⟨rfl, hb6⟩; have HX_10 := hide (Below.next (unhide HX_9) hb6 (by first | exact Nat.le_refl _ | (have := unhide HBA; omega))); have Kp_10 := hide (keep_below (unhide Kp_9) hb6); have Kx_10 := hide (keep_below (unhide Kx_9) hb6); have Kk_10 := hide (keep_below (unhide Kk_9) hb6); have Ka_10 := hide (keep_below (unhide Ka_9) hb6); have Kf1_10 := hide (keep_below (unhide Kf1_9) hb6); have Kb_10 := hide (keep_below (unhide Kb_9) hb6); have Kf2_10 := hide (keep_below (unhide Kf2_9) hb6); have Cx_10 := hide (Below.next (unhide Cx_9) hb6 (Nat.le_refl _)); have Ca_10 := hide (Below.next (unhide Ca_9) hb6 (Nat.le_refl _)); have Cb_10 := hide (Below.next (unhide Cb_9) hb6 (Nat.le_refl _)); clear HX_9 Kp_9 Kx_9 Kk_9 Ka_9 Kf1_9 Kb_9 Kf2_9 Cx_9 Ca_9 Cb_9; clear hb6 x0 x1 x2 xf0 xf1 xf2 xl)
  have HX_11 := hide ((unhide HX_10).alloc (Nat.le_trans (show w.heap.size ≤ w.heap.size from Nat.le_refl _) (unhide HX_10).size) (.cells #[.int .i64 Q0, .int .i64 Q1] 29))
  have Kp_11 := hide (keep_alloc (unhide Kp_10) (.cells #[.int .i64 Q0, .int .i64 Q1] 29))
  have Kx_11 := hide (keep_alloc (unhide Kx_10) (.cells #[.int .i64 Q0, .int .i64 Q1] 29))
  have Kk_11 := hide (keep_alloc (unhide Kk_10) (.cells #[.int .i64 Q0, .int .i64 Q1] 29))
  have Ka_11 := hide (keep_alloc (unhide Ka_10) (.cells #[.int .i64 Q0, .int .i64 Q1] 29))
  have Kf1_11 := hide (keep_alloc (unhide Kf1_10) (.cells #[.int .i64 Q0, .int .i64 Q1] 29))
  have Kb_11 := hide (keep_alloc (unhide Kb_10) (.cells #[.int .i64 Q0, .int .i64 Q1] 29))
  have Kf2_11 := hide (keep_alloc (unhide Kf2_10) (.cells #[.int .i64 Q0, .int .i64 Q1] 29))
  have Cx_11 := hide ((unhide Cx_10).alloc (unhide Cx_10).size (.cells #[.int .i64 Q0, .int .i64 Q1] 29))
  have Ca_11 := hide ((unhide Ca_10).alloc (unhide Ca_10).size (.cells #[.int .i64 Q0, .int .i64 Q1] 29))
  have Cb_11 := hide ((unhide Cb_10).alloc (unhide Cb_10).size (.cells #[.int .i64 Q0, .int .i64 Q1] 29))
  have Kf3_11 := hide (new_block w6 (.cells #[.int .i64 Q0, .int .i64 Q1] 29))
  have hlp_f3 : w.heap.size < w6.heap.size := size_of (unhide Kp_10)
  have hlx_f3 : TX < w6.heap.size := size_of (unhide Kx_10)
  have hlk_f3 : TK < w6.heap.size := size_of (unhide Kk_10)
  have hla_f3 : X1 < w6.heap.size := size_of (unhide Ka_10)
  have hlf1_f3 : X1 + 1 < w6.heap.size := size_of (unhide Kf1_10)
  have hlb_f3 : X2 < w6.heap.size := size_of (unhide Kb_10)
  have hlf2_f3 : X2 + 1 < w6.heap.size := size_of (unhide Kf2_10)
  obtain ⟨TS, eTS⟩ : ∃ X, w6.heap.size = X := ⟨_, rfl⟩
  obtain ⟨W5, eW5⟩ : ∃ X, w6.alloc (.cells #[.int .i64 Q0, .int .i64 Q1] 29) = X := ⟨_, rfl⟩
  rw [eTS, eW5] at Kf3_11; rw [eW5] at HX_11 Kp_11 Kx_11 Kk_11 Ka_11 Kf1_11 Kb_11 Kf2_11 Cx_11 Ca_11 Cb_11; rw [eTS] at hlp_f3 hlx_f3 hlk_f3 hla_f3 hlf1_f3 hlb_f3 hlf2_f3; rw [eTS, eW5]
  clear eTS eW5 HX_10 Kp_10 Kx_10 Kk_10 Ka_10 Kf1_10 Kb_10 Kf2_10 Cx_10 Ca_10 Cb_10
  obtain ⟨⟨p0, p1, p2⟩, ⟨pf0, pf1, pf2⟩, pl⟩ := block3 (unhide Kp_11)
  go_upto_region 11 with (go_at_call 15; refine (unhide HCF _ (unhide HX_11)).mono ?_; rintro e w7 ⟨rfl, hb7⟩; have HX_12 := hide (Below.next (unhide HX_11) hb7 (by first | exact Nat.le_refl _ | (have := unhide HBA; omega))); have Kp_12 := hide (keep_below (unhide Kp_11) hb7); have Kx_12 := hide (keep_below (unhide Kx_11) hb7); have Kk_12 := hide (keep_below (unhide Kk_11) hb7); have Ka_12 := hide (keep_below (unhide Ka_11) hb7); have Kf1_12 := hide (keep_below (unhide Kf1_11) hb7); have Kb_12 := hide (keep_below (unhide Kb_11) hb7); have Kf2_12 := hide (keep_below (unhide Kf2_11) hb7); have Kf3_12 := hide (keep_below (unhide Kf3_11) hb7); have Cx_12 := hide (Below.next (unhide Cx_11) hb7 (Nat.le_refl _)); have Ca_12 := hide (Below.next (unhide Ca_11) hb7 (Nat.le_refl _)); have Cb_12 := hide (Below.next (unhide Cb_11) hb7 (Nat.le_refl _)); clear HX_11 Kp_11 Kx_11 Kk_11 Ka_11 Kf1_11 Kb_11 Kf2_11 Kf3_11 Cx_11 Ca_11 Cb_11; clear hb7 p0 p1 p2 pf0 pf1 pf2 pl)
  have HX_13 := hide ((unhide HX_12).alloc (Nat.le_trans (show w.heap.size ≤ w.heap.size from Nat.le_refl _) (unhide HX_12).size) (.cells #[.int .i64 T0, .int .i64 T1] 29))
  have Kp_13 := hide (keep_alloc (unhide Kp_12) (.cells #[.int .i64 T0, .int .i64 T1] 29))
  have Kx_13 := hide (keep_alloc (unhide Kx_12) (.cells #[.int .i64 T0, .int .i64 T1] 29))
  have Kk_13 := hide (keep_alloc (unhide Kk_12) (.cells #[.int .i64 T0, .int .i64 T1] 29))
  have Ka_13 := hide (keep_alloc (unhide Ka_12) (.cells #[.int .i64 T0, .int .i64 T1] 29))
  have Kf1_13 := hide (keep_alloc (unhide Kf1_12) (.cells #[.int .i64 T0, .int .i64 T1] 29))
  have Kb_13 := hide (keep_alloc (unhide Kb_12) (.cells #[.int .i64 T0, .int .i64 T1] 29))
  have Kf2_13 := hide (keep_alloc (unhide Kf2_12) (.cells #[.int .i64 T0, .int .i64 T1] 29))
  have Kf3_13 := hide (keep_alloc (unhide Kf3_12) (.cells #[.int .i64 T0, .int .i64 T1] 29))
  have Cx_13 := hide ((unhide Cx_12).alloc (unhide Cx_12).size (.cells #[.int .i64 T0, .int .i64 T1] 29))
  have Ca_13 := hide ((unhide Ca_12).alloc (unhide Ca_12).size (.cells #[.int .i64 T0, .int .i64 T1] 29))
  have Cb_13 := hide ((unhide Cb_12).alloc (unhide Cb_12).size (.cells #[.int .i64 T0, .int .i64 T1] 29))
  have Ku_13 := hide (new_block w7 (.cells #[.int .i64 T0, .int .i64 T1] 29))
  have hlp_u : w.heap.size < w7.heap.size := size_of (unhide Kp_12)
  have hlx_u : TX < w7.heap.size := size_of (unhide Kx_12)
  have hlk_u : TK < w7.heap.size := size_of (unhide Kk_12)
  have hla_u : X1 < w7.heap.size := size_of (unhide Ka_12)
  have hlf1_u : X1 + 1 < w7.heap.size := size_of (unhide Kf1_12)
  have hlb_u : X2 < w7.heap.size := size_of (unhide Kb_12)
  have hlf2_u : X2 + 1 < w7.heap.size := size_of (unhide Kf2_12)
  have hlf3_u : TS < w7.heap.size := size_of (unhide Kf3_12)
  obtain ⟨TU, eTU⟩ : ∃ X, w7.heap.size = X := ⟨_, rfl⟩
  obtain ⟨W6, eW6⟩ : ∃ X, w7.alloc (.cells #[.int .i64 T0, .int .i64 T1] 29) = X := ⟨_, rfl⟩
  rw [eTU, eW6] at Ku_13; rw [eW6] at HX_13 Kp_13 Kx_13 Kk_13 Ka_13 Kf1_13 Kb_13 Kf2_13 Kf3_13 Cx_13 Ca_13 Cb_13; rw [eTU] at hlp_u hlx_u hlk_u hla_u hlf1_u hlb_u hlf2_u hlf3_u; rw [eTU, eW6]
  clear eTU eW6 HX_12 Kp_12 Kx_12 Kk_12 Ka_12 Kf1_12 Kb_12 Kf2_12 Kf3_12 Cx_12 Ca_12 Cb_12
  obtain ⟨k0, k1, kf0, kf1, kl⟩ := block2 (unhide Kk_13)
  obtain ⟨u0, u1, uf0, uf1, ul⟩ := block2 (unhide Ku_13)
  obtain ⟨⟨x0, x1, x2⟩, ⟨xf0, xf1, xf2⟩, xl⟩ := block3 (unhide Kx_13)
  obtain ⟨⟨p0, p1, p2⟩, ⟨pf0, pf1, pf2⟩, pl⟩ := block3 (unhide Kp_13)
  have xc0 : (T0 == T0) = true := by simp
  have xc1 : (T1 == T1) = true := by simp
  go_upto_region 14 with (go_at_call 16; refine (unhide HSX2 _ a2 c2 (unhide HX_13) ((unhide HL2).below (unhide Cx_13))).mono ?_; rintro e w8 ⟨rfl, hb8⟩; have HX_14 := hide (Below.next (unhide HX_13) hb8 (by first | exact Nat.le_refl _ | (have := unhide HBA; omega))); have Kp_14 := hide (keep_below (unhide Kp_13) hb8); have Kx_14 := hide (keep_below (unhide Kx_13) hb8); have Kk_14 := hide (keep_below (unhide Kk_13) hb8); have Ka_14 := hide (keep_below (unhide Ka_13) hb8); have Kf1_14 := hide (keep_below (unhide Kf1_13) hb8); have Kb_14 := hide (keep_below (unhide Kb_13) hb8); have Kf2_14 := hide (keep_below (unhide Kf2_13) hb8); have Kf3_14 := hide (keep_below (unhide Kf3_13) hb8); have Ku_14 := hide (keep_below (unhide Ku_13) hb8); have Cx_14 := hide (Below.next (unhide Cx_13) hb8 (Nat.le_refl _)); have Ca_14 := hide (Below.next (unhide Ca_13) hb8 (Nat.le_refl _)); have Cb_14 := hide (Below.next (unhide Cb_13) hb8 (Nat.le_refl _)); clear HX_13 Kp_13 Kx_13 Kk_13 Ka_13 Kf1_13 Kb_13 Kf2_13 Kf3_13 Ku_13 Cx_13 Ca_13 Cb_13; clear hb8 k0 k1 kf0 kf1 kl u0 u1 uf0 uf1 ul x0 x1 x2 xf0 xf1 xf2 xl p0 p1 p2 pf0 pf1 pf2 pl; obtain ⟨u0, u1, uf0, uf1, ul⟩ := block2 (unhide Ku_14))
  clear u0 u1 uf0 uf1 ul
  have HX_15 := hide ((unhide HX_14).alloc (Nat.le_trans (show w.heap.size ≤ w.heap.size from Nat.le_refl _) (unhide HX_14).size) (.cells #[.int .i64 T0, .int .i64 T1] 29))
  have Kp_15 := hide (keep_alloc (unhide Kp_14) (.cells #[.int .i64 T0, .int .i64 T1] 29))
  have Kx_15 := hide (keep_alloc (unhide Kx_14) (.cells #[.int .i64 T0, .int .i64 T1] 29))
  have Kk_15 := hide (keep_alloc (unhide Kk_14) (.cells #[.int .i64 T0, .int .i64 T1] 29))
  have Ka_15 := hide (keep_alloc (unhide Ka_14) (.cells #[.int .i64 T0, .int .i64 T1] 29))
  have Kf1_15 := hide (keep_alloc (unhide Kf1_14) (.cells #[.int .i64 T0, .int .i64 T1] 29))
  have Kb_15 := hide (keep_alloc (unhide Kb_14) (.cells #[.int .i64 T0, .int .i64 T1] 29))
  have Kf2_15 := hide (keep_alloc (unhide Kf2_14) (.cells #[.int .i64 T0, .int .i64 T1] 29))
  have Kf3_15 := hide (keep_alloc (unhide Kf3_14) (.cells #[.int .i64 T0, .int .i64 T1] 29))
  have Ku_15 := hide (keep_alloc (unhide Ku_14) (.cells #[.int .i64 T0, .int .i64 T1] 29))
  have Cx_15 := hide ((unhide Cx_14).alloc (unhide Cx_14).size (.cells #[.int .i64 T0, .int .i64 T1] 29))
  have Ca_15 := hide ((unhide Ca_14).alloc (unhide Ca_14).size (.cells #[.int .i64 T0, .int .i64 T1] 29))
  have Cb_15 := hide ((unhide Cb_14).alloc (unhide Cb_14).size (.cells #[.int .i64 T0, .int .i64 T1] 29))
  have Kv_15 := hide (new_block w8 (.cells #[.int .i64 T0, .int .i64 T1] 29))
  have hlp_v : w.heap.size < w8.heap.size := size_of (unhide Kp_14)
  have hlx_v : TX < w8.heap.size := size_of (unhide Kx_14)
  have hlk_v : TK < w8.heap.size := size_of (unhide Kk_14)
  have hla_v : X1 < w8.heap.size := size_of (unhide Ka_14)
  have hlf1_v : X1 + 1 < w8.heap.size := size_of (unhide Kf1_14)
  have hlb_v : X2 < w8.heap.size := size_of (unhide Kb_14)
  have hlf2_v : X2 + 1 < w8.heap.size := size_of (unhide Kf2_14)
  have hlf3_v : TS < w8.heap.size := size_of (unhide Kf3_14)
  have hlu_v : TU < w8.heap.size := size_of (unhide Ku_14)
  obtain ⟨T, eT⟩ : ∃ X, w8.heap.size = X := ⟨_, rfl⟩
  obtain ⟨W7, eW7⟩ : ∃ X, w8.alloc (.cells #[.int .i64 T0, .int .i64 T1] 29) = X := ⟨_, rfl⟩
  rw [eT, eW7] at Kv_15; rw [eW7] at HX_15 Kp_15 Kx_15 Kk_15 Ka_15 Kf1_15 Kb_15 Kf2_15 Kf3_15 Ku_15 Cx_15 Ca_15 Cb_15; rw [eT] at hlp_v hlx_v hlk_v hla_v hlf1_v hlb_v hlf2_v hlf3_v hlu_v; rw [eT, eW7]
  clear eT eW7 HX_14 Kp_14 Kx_14 Kk_14 Ka_14 Kf1_14 Kb_14 Kf2_14 Kf3_14 Ku_14 Cx_14 Ca_14 Cb_14
  clear HCK HSE HST HSN HCF HOW HSX2 HLG
  have hk' := unhide HK0
  clear HK0
  have xt : (T0 == 0) = false := by simpa using hk'
  have hu : U0 = T0 ∧ U1 = T1 := by have := unhide HEU; unfold setU at this; rw [xt, Bool.false_and, if_neg (by decide)] at this; cases this; exact ⟨rfl, rfl⟩
  clear hk'
  have HHU := hide hu
  clear hu
  obtain ⟨v0, v1, vf0, vf1, vl⟩ := block2 (unhide Kv_15)
  go_upto_region 16 with fail
  clear v0 v1 vf0 vf1 vl
  obtain ⟨hu0, hu1⟩ := unhide HHU
  subst hu0
  subst hu1
  clear HHU
  exact sets_a_any w now next xs ys zs2 _ _ r Q0 Q1 n2 x2 is had n m m2 a0 c0 av2 cv2 id after period av1 cv1 X1 X2 TS TU T _ _ F0 F1 n1 x1 zs1 was m1 (unhide HEV) (unhide HZ1) (unhide HZ2) (unhide HNA2) (unhide HZ3) (unhide HZ4) (unhide HN) (unhide HEM1) (unhide HEM2) (unhide HEM) (by omega) (unhide H0) _ (unhide HX_15) (unhide Kp_15) (unhide Ka_15) (unhide Kf1_15) (unhide Kb_15) (unhide Kf2_15) (unhide Kf3_15) (unhide Ku_15) (unhide Kv_15) (fun W hW => isl_agree ka (unhide HL4) (fun k hk => (hW.block k (by omega)).trans ((unhide Ca_15).block k hk))) (fun W hW => isl_agree ka (unhide HL5) (fun k hk => (hW.block k (by omega)).trans ((unhide Cb_15).block k hk))) ⟨by omega, by omega, by omega, by omega, by omega⟩ _ _ _ (by assumption) (by kernel_rfl)

set_option maxRecDepth 100000 in
set_option maxHeartbeats 2000000 in
theorem sets_ok (w : World) (v : Value) (now next : Int) (xs : List Al) (id after period : Int) (hk : (clockF now next xs).1 = 0) (hb : badQ id after period = false) (h : IsC w v now next xs) (hm : xs.length * 32 ≤ 140737488355328) :
    Calls Try.prog 3 #[v, .int .i64 id, .int .i64 after, .int .i64 period] w fun e w' => e = .returned (.bool true) ∧ Below w.heap.size w w' := by
  have hn : xs.length ≤ maxLen := by unfold maxLen; omega
  have HIC := hide h
  obtain ⟨a0, c0, rfl, hL⟩ := h.form
  obtain ⟨⟨C0, C1⟩, e0⟩ : ∃ r, clockF now next xs = r := ⟨_, rfl⟩
  obtain ⟨⟨U0, U1⟩, eU⟩ : ∃ r, setU (C0, C1) id after period = r := ⟨_, rfl⟩
  obtain ⟨⟨V0, V1⟩, eV⟩ : ∃ r, setV (U0, U1) (noL id xs).length next = r := ⟨_, rfl⟩
  obtain ⟨⟨⟨F0, F1⟩, ⟨n1, x1, zs1⟩, was⟩, e1⟩ : ∃ r, setR now next xs id after period = r := ⟨_, rfl⟩
  obtain ⟨⟨⟨T0, T1⟩, ⟨n2, x2, zs2⟩, is⟩, e2⟩ : ∃ r, stopR now next xs id = r := ⟨_, rfl⟩
  obtain ⟨⟨r, Q0, Q1⟩, e3⟩ : ∃ r, soonR now next xs = r := ⟨_, rfl⟩
  obtain ⟨rfl, rfl, rfl, rfl, hz1, hz2, hz3, hz4⟩ := sets_facts e0 eU eV e1 e2 e3
  rw [e0] at hk
  have HK0 : Hid (T0 = 0) := hk
  have HZ1 := hide hz1; have HZ2 := hide hz2; have HZ3 := hide hz3; have HZ4 := hide hz4; have HEU := hide eU; have HEV := hide eV
  have HCK : Hid (∀ W a c, IsL KA W (.slice a xs.length c) xs → Calls Try.prog 11 #[.agg #[.int .i64 now, .int .i64 next, .slice a xs.length c]] W fun e w' => e = .returned (.agg #[.int .i64 T0, .int .i64 T1]) ∧ Below W.heap.size W w') := fun W a c hl => by
    have := check_any W _ now next xs ⟨_, rfl, hl⟩ hn
    rw [e0] at this
    exact this
  have HSE : Hid (∀ W a c, IsL KA W (.slice a xs.length c) xs → Calls Try.prog 12 #[.agg #[.int .i64 now, .int .i64 next, .slice a xs.length c], .int .i64 id, .int .i64 after, .int .i64 period] W fun e w' => ∃ av cv, e = .returned (.tuple #[.agg #[.int .i64 n1, .int .i64 x1, .slice av zs1.length cv], .bool was, .agg #[.int .i64 F0, .int .i64 F1]]) ∧ IsL KA w' (.slice av zs1.length cv) zs1 ∧ Below W.heap.size W w') := fun W a c hl => set_any W _ now next xs id after period ⟨_, rfl, hl⟩ hn F0 F1 n1 x1 zs1 was e1
  have HST : Hid (∀ W a c, IsL KA W (.slice a xs.length c) xs → Calls Try.prog 13 #[.agg #[.int .i64 now, .int .i64 next, .slice a xs.length c], .int .i64 id] W fun e w' => ∃ av cv, e = .returned (.tuple #[.agg #[.int .i64 n2, .int .i64 x2, .slice av zs2.length cv], .bool is, .agg #[.int .i64 T0, .int .i64 T1]]) ∧ IsL KA w' (.slice av zs2.length cv) zs2 ∧ Below W.heap.size W w') := fun W a c hl => stop_any W _ now next xs id ⟨_, rfl, hl⟩ hn T0 T1 n2 x2 zs2 is e2
  have HSN : Hid (∀ W a c, IsL KA W (.slice a xs.length c) xs → Calls Try.prog 14 #[.agg #[.int .i64 now, .int .i64 next, .slice a xs.length c]] W fun e w' => e = .returned (.tuple #[.int .i64 r, .agg #[.int .i64 Q0, .int .i64 Q1]]) ∧ Below W.heap.size W w') := fun W a c hl => soon_any W _ now next xs ⟨_, rfl, hl⟩ hn r Q0 Q1 e3
  have HCF : Hid (∀ W, Below w.heap.size w W → Calls Try.prog 15 #[.agg #[.int .i64 now, .int .i64 next, .slice a0 xs.length c0]] W fun e w' => e = .returned (.agg #[.int .i64 T0, .int .i64 T1]) ∧ Below W.heap.size W w') := fun W hW => by
    have := clockFault_any W _ now next xs ((unhide HIC).below hW) hn
    rw [e0] at this
    exact this
  have HOW : Hid (∀ W, Below w.heap.size w W → Calls Try.prog 10 #[.agg #[.int .i64 now, .int .i64 next, .slice a0 xs.length c0]] W fun e w' => ∃ a c, e = .returned (.agg #[.int .i64 now, .int .i64 next, .slice a xs.length c]) ∧ IsL KA w' (.slice a xs.length c) xs ∧ Below W.heap.size W w') := fun W hW => ownClock_any W _ now next xs ((unhide HIC).below hW) hm
  have HSX : Hid (∀ W a c, Below w.heap.size w W → IsL KA W (.slice a xs.length c) xs → xs.length ≤ 6000 → Calls Try.prog 16 #[.agg #[.int .i64 now, .int .i64 next, .slice a xs.length c], .agg #[.int .i64 now, .int .i64 next, .slice a0 xs.length c0]] W fun e w' => e = .returned (.bool true) ∧ Below W.heap.size W w') := fun W a c hW hl h6 => sameClock_same W _ _ now next xs ⟨_, rfl, hl⟩ ((unhide HIC).below hW) (by omega)
  have HNA : Hid (∀ W, Below w.heap.size w W → xs.length ≤ 6000 → Calls Try.prog 18 #[.agg #[.int .i64 now, .int .i64 next, .slice a0 xs.length c0], .int .i64 id] W fun e w' => ∃ a c, e = .returned (.tuple #[.agg #[.int .i64 now, .int .i64 next, .slice a (noL id xs).length c], .bool (xs.any (fun p => p.1 == id))]) ∧ Own KA W.heap.size w' (.slice a (noL id xs).length c) (noL id xs) ∧ Below W.heap.size W w') := fun W hW h6 => noAlarm_own W _ now next xs id ((unhide HIC).below hW) (by omega)
  have HLG := hide (fun W => long_any W xs.length hn)
  have H0 := hide (hL.opens ka rfl)
  obtain ⟨had, ehad⟩ : ∃ b, xs.any (fun p => p.1 == id) = b := ⟨_, rfl⟩
  rw [ehad] at HNA HZ2 HZ4
  obtain ⟨ys, eys⟩ : ∃ ys, noL id xs = ys := ⟨_, rfl⟩
  have hyl : (noL id xs).length ≤ xs.length := (noL_sub id xs).length_le
  rw [eys] at HNA HZ2 HZ4 HEV hyl
  obtain ⟨n, en⟩ : ∃ n, xs.length = n := ⟨_, rfl⟩
  rw [en] at HCK HSE HST HSN HCF HOW HSX HNA HLG H0 hm hn hyl ⊢
  obtain ⟨m, em⟩ : ∃ m, ys.length = m := ⟨_, rfl⟩
  obtain ⟨m1, em1⟩ : ∃ m, zs1.length = m := ⟨_, rfl⟩
  obtain ⟨m2, em2⟩ : ∃ m, zs2.length = m := ⟨_, rfl⟩
  rw [em] at HNA HEV hyl; rw [em1] at HSE; rw [em2] at HST
  have HN := hide en; have HEM := hide em; have HEM1 := hide em1; have HEM2 := hide em2
  clear hk h hL en em em1 em2 e0 e1 e2 e3 hz1 hz2 hz3 hz4 eU eV ehad eys HIC
  obtain ⟨W0, e0, hB, k0⟩ : ∃ W, w.alloc (.cells #[.int .i64 now, .int .i64 next, .slice a0 n c0] 24) = W ∧ Below w.heap.size w W ∧ W.heap[w.heap.size]? = some (.cells #[.int .i64 now, .int .i64 next, .slice a0 n c0] 24) := ⟨_, rfl, (Below.refl _ _).alloc (Nat.le_refl _) _, new_block _ _⟩
  have HX := hide hB; have HP := hide k0; have HE := hide e0
  clear hB k0 e0
  go_enter Try.func3, Try.ntmps3
  go_upto_region 1 with fail
  rw [unhide HE]
  clear HE
  go_upto_region 3 with (go_at_call 8; refine (begun_any _).mono ?_; rintro e w1 ⟨rfl, hb1⟩; have HX_1 := hide (Below.next (unhide HX) hb1 (by first | exact Nat.le_refl _ | (have := unhide HBA; omega))); have Kp_1 := hide (keep_below (unhide HP) hb1); clear HX HP; clear hb1)
  obtain ⟨⟨p0, p1, p2⟩, ⟨pf0, pf1, pf2⟩, pl⟩ := block3 (unhide Kp_1)
  by_cases hlong : (700 < n ∧ n < 4999) ∨ 6000 < n
  · rw [decide_eq_true hlong] at HLG
    go_wp2_with (go_at_call 9; refine (unhide HLG _).mono ?_; rintro e w1b ⟨rfl, rfl⟩)
    go_ret
    exact ⟨rfl, unhide HX_1⟩
  rw [decide_eq_false hlong] at HLG
  have hn6 : n ≤ 6000 := by omega
  have HSX2 := hide (fun W a c hW hl => unhide HSX W a c hW hl hn6)
  have HNA2 := hide (fun W hW => unhide HNA W hW hn6)
  clear hlong HSX HNA
  go_upto_region 6 with (first | (go_at_call 9; refine (unhide HLG _).mono ?_; rintro e w1b ⟨rfl, hw1b⟩; subst hw1b) | (go_at_call 10; refine (unhide HOW _ (unhide HX_1)).mono ?_; rintro e w2 ⟨a2, c2, rfl, hl2, hb2⟩; have HL2 := hide hl2; have HCX : Hid (Below w2.heap.size w2 w2) := Below.refl _ _; have HX_2 := hide (Below.next (unhide HX_1) hb2 (by first | exact Nat.le_refl _ | (have := unhide HBA; omega))); have Kp_2 := hide (keep_below (unhide Kp_1) hb2); clear HX_1 Kp_1; clear hb2 hl2 p0 p1 p2 pf0 pf1 pf2 pl))
  have HX_3 := hide ((unhide HX_2).alloc (Nat.le_trans (show w.heap.size ≤ w.heap.size from Nat.le_refl _) (unhide HX_2).size) (.cells #[.int .i64 now, .int .i64 next, .slice a2 n c2] 24))
  have Kp_3 := hide (keep_alloc (unhide Kp_2) (.cells #[.int .i64 now, .int .i64 next, .slice a2 n c2] 24))
  have Cx_3 := hide ((unhide HCX).alloc (unhide HCX).size (.cells #[.int .i64 now, .int .i64 next, .slice a2 n c2] 24))
  have Kx_3 := hide (new_block w2 (.cells #[.int .i64 now, .int .i64 next, .slice a2 n c2] 24))
  have hlp_x : w.heap.size < w2.heap.size := size_of (unhide Kp_2)
  obtain ⟨TX, eTX⟩ : ∃ X, w2.heap.size = X := ⟨_, rfl⟩
  obtain ⟨W1, eW1⟩ : ∃ X, w2.alloc (.cells #[.int .i64 now, .int .i64 next, .slice a2 n c2] 24) = X := ⟨_, rfl⟩
  rw [eTX, eW1] at Kx_3; rw [eW1] at HX_3 Kp_3 Cx_3; rw [eTX] at hlp_x; rw [eTX, eW1]
  have hleTX : w2.heap.size ≤ TX := Nat.le_of_eq eTX
  clear eTX eW1 HX_2 Kp_2 HCX
  obtain ⟨⟨x0, x1, x2⟩, ⟨xf0, xf1, xf2⟩, xl⟩ := block3 (unhide Kx_3)
  go_upto_region 7 with (go_at_call 11; refine (unhide HCK _ a2 c2 ((unhide HL2).below (unhide Cx_3))).mono ?_; rintro e w3 ⟨rfl, hb3⟩; have HX_4 := hide (Below.next (unhide HX_3) hb3 (by first | exact Nat.le_refl _ | (have := unhide HBA; omega))); have Kp_4 := hide (keep_below (unhide Kp_3) hb3); have Kx_4 := hide (keep_below (unhide Kx_3) hb3); have Cx_4 := hide (Below.next (unhide Cx_3) hb3 (Nat.le_refl _)); clear HX_3 Kp_3 Kx_3 Cx_3; clear hb3 x0 x1 x2 xf0 xf1 xf2 xl)
  have HX_5 := hide ((unhide HX_4).alloc (Nat.le_trans (show w.heap.size ≤ w.heap.size from Nat.le_refl _) (unhide HX_4).size) (.cells #[.int .i64 T0, .int .i64 T1] 29))
  have Kp_5 := hide (keep_alloc (unhide Kp_4) (.cells #[.int .i64 T0, .int .i64 T1] 29))
  have Kx_5 := hide (keep_alloc (unhide Kx_4) (.cells #[.int .i64 T0, .int .i64 T1] 29))
  have Cx_5 := hide ((unhide Cx_4).alloc (unhide Cx_4).size (.cells #[.int .i64 T0, .int .i64 T1] 29))
  have Kk_5 := hide (new_block w3 (.cells #[.int .i64 T0, .int .i64 T1] 29))
  have hlp_k : w.heap.size < w3.heap.size := size_of (unhide Kp_4)
  have hlx_k : TX < w3.heap.size := size_of (unhide Kx_4)
  obtain ⟨TK, eTK⟩ : ∃ X, w3.heap.size = X := ⟨_, rfl⟩
  obtain ⟨W2, eW2⟩ : ∃ X, w3.alloc (.cells #[.int .i64 T0, .int .i64 T1] 29) = X := ⟨_, rfl⟩
  rw [eTK, eW2] at Kk_5; rw [eW2] at HX_5 Kp_5 Kx_5 Cx_5; rw [eTK] at hlp_k hlx_k; rw [eTK, eW2]
  clear eTK eW2 HX_4 Kp_4 Kx_4 Cx_4
  obtain ⟨⟨x0, x1, x2⟩, ⟨xf0, xf1, xf2⟩, xl⟩ := block3 (unhide Kx_5)
  go_upto_region 8 with (go_at_call 12; refine (unhide HSE _ a2 c2 ((unhide HL2).below (unhide Cx_5))).mono ?_; rintro e w4 ⟨av1, cv1, rfl, hl4, hb4⟩; have HL4 := hide hl4; have HCA : Hid (Below w4.heap.size w4 w4) := Below.refl _ _; have HX_6 := hide (Below.next (unhide HX_5) hb4 (by first | exact Nat.le_refl _ | (have := unhide HBA; omega))); have Kp_6 := hide (keep_below (unhide Kp_5) hb4); have Kx_6 := hide (keep_below (unhide Kx_5) hb4); have Kk_6 := hide (keep_below (unhide Kk_5) hb4); have Cx_6 := hide (Below.next (unhide Cx_5) hb4 (Nat.le_refl _)); clear HX_5 Kp_5 Kx_5 Kk_5 Cx_5; clear hb4 hl4 x0 x1 x2 xf0 xf1 xf2 xl)
  obtain ⟨W3, eW3, hBW3, k0_7, k1_7⟩ := two_new w4 (.cells #[.int .i64 n1, .int .i64 x1, .slice av1 m1 cv1] 24) (.cells #[.int .i64 F0, .int .i64 F1] 29)
  rw [eW3]
  clear eW3
  have hlp_a : w.heap.size < w4.heap.size := size_of (unhide Kp_6)
  have hlx_a : TX < w4.heap.size := size_of (unhide Kx_6)
  have hlk_a : TK < w4.heap.size := size_of (unhide Kk_6)
  (have HX_7 := hide (Below.next (unhide HX_6) hBW3 (by first | exact Nat.le_refl _ | (have := unhide HBA; omega))); have Kp_7 := hide (keep_below (unhide Kp_6) hBW3); have Kx_7 := hide (keep_below (unhide Kx_6) hBW3); have Kk_7 := hide (keep_below (unhide Kk_6) hBW3); have Cx_7 := hide (Below.next (unhide Cx_6) hBW3 (Nat.le_refl _)); have Ca_7 := hide (Below.next (unhide HCA) hBW3 (Nat.le_refl _)); clear HX_6 Kp_6 Kx_6 Kk_6 Cx_6 HCA)
  obtain ⟨X1, eX1⟩ : ∃ X, w4.heap.size = X := ⟨_, rfl⟩
  rw [eX1] at k0_7 k1_7 hlp_a hlx_a hlk_a ⊢
  have Ka_7 := hide k0_7
  have Kf1_7 := hide k1_7
  have hleX1 : w4.heap.size ≤ X1 := Nat.le_of_eq eX1
  clear eX1 hBW3 k0_7 k1_7
  obtain ⟨⟨x0, x1, x2⟩, ⟨xf0, xf1, xf2⟩, xl⟩ := block3 (unhide Kx_7)
  go_upto_region 9 with (go_at_call 13; refine (unhide HST _ a2 c2 ((unhide HL2).below (unhide Cx_7))).mono ?_; rintro e w5 ⟨av2, cv2, rfl, hl5, hb5⟩; have HL5 := hide hl5; have HCB : Hid (Below w5.heap.size w5 w5) := Below.refl _ _; have HX_8 := hide (Below.next (unhide HX_7) hb5 (by first | exact Nat.le_refl _ | (have := unhide HBA; omega))); have Kp_8 := hide (keep_below (unhide Kp_7) hb5); have Kx_8 := hide (keep_below (unhide Kx_7) hb5); have Kk_8 := hide (keep_below (unhide Kk_7) hb5); have Ka_8 := hide (keep_below (unhide Ka_7) hb5); have Kf1_8 := hide (keep_below (unhide Kf1_7) hb5); have Cx_8 := hide (Below.next (unhide Cx_7) hb5 (Nat.le_refl _)); have Ca_8 := hide (Below.next (unhide Ca_7) hb5 (Nat.le_refl _)); clear HX_7 Kp_7 Kx_7 Kk_7 Ka_7 Kf1_7 Cx_7 Ca_7; clear hb5 hl5 x0 x1 x2 xf0 xf1 xf2 xl)
  obtain ⟨W4, eW4, hBW4, k0_9, k1_9⟩ := two_new w5 (.cells #[.int .i64 n2, .int .i64 x2, .slice av2 m2 cv2] 24) (.cells #[.int .i64 T0, .int .i64 T1] 29)
  rw [eW4]
  clear eW4
  have hlp_b : w.heap.size < w5.heap.size := size_of (unhide Kp_8)
  have hlx_b : TX < w5.heap.size := size_of (unhide Kx_8)
  have hlk_b : TK < w5.heap.size := size_of (unhide Kk_8)
  have hla_b : X1 < w5.heap.size := size_of (unhide Ka_8)
  have hlf1_b : X1 + 1 < w5.heap.size := size_of (unhide Kf1_8)
  (have HX_9 := hide (Below.next (unhide HX_8) hBW4 (by first | exact Nat.le_refl _ | (have := unhide HBA; omega))); have Kp_9 := hide (keep_below (unhide Kp_8) hBW4); have Kx_9 := hide (keep_below (unhide Kx_8) hBW4); have Kk_9 := hide (keep_below (unhide Kk_8) hBW4); have Ka_9 := hide (keep_below (unhide Ka_8) hBW4); have Kf1_9 := hide (keep_below (unhide Kf1_8) hBW4); have Cx_9 := hide (Below.next (unhide Cx_8) hBW4 (Nat.le_refl _)); have Ca_9 := hide (Below.next (unhide Ca_8) hBW4 (Nat.le_refl _)); have Cb_9 := hide (Below.next (unhide HCB) hBW4 (Nat.le_refl _)); clear HX_8 Kp_8 Kx_8 Kk_8 Ka_8 Kf1_8 Cx_8 Ca_8 HCB)
  obtain ⟨X2, eX2⟩ : ∃ X, w5.heap.size = X := ⟨_, rfl⟩
  rw [eX2] at k0_9 k1_9 hlp_b hlx_b hlk_b hla_b hlf1_b ⊢
  have Kb_9 := hide k0_9
  have Kf2_9 := hide k1_9
  have hleX2 : w5.heap.size ≤ X2 := Nat.le_of_eq eX2
  clear eX2 hBW4 k0_9 k1_9
  obtain ⟨⟨x0, x1, x2⟩, ⟨xf0, xf1, xf2⟩, xl⟩ := block3 (unhide Kx_9)
  go_upto_region 10 with (go_at_call 14; refine (unhide HSN _ a2 c2 ((unhide HL2).below (unhide Cx_9))).mono ?_; rintro e w6 ⟨rfl, hb6⟩; have HX_10 := hide (Below.next (unhide HX_9) hb6 (by first | exact Nat.le_refl _ | (have := unhide HBA; omega))); have Kp_10 := hide (keep_below (unhide Kp_9) hb6); have Kx_10 := hide (keep_below (unhide Kx_9) hb6); have Kk_10 := hide (keep_below (unhide Kk_9) hb6); have Ka_10 := hide (keep_below (unhide Ka_9) hb6); have Kf1_10 := hide (keep_below (unhide Kf1_9) hb6); have Kb_10 := hide (keep_below (unhide Kb_9) hb6); have Kf2_10 := hide (keep_below (unhide Kf2_9) hb6); have Cx_10 := hide (Below.next (unhide Cx_9) hb6 (Nat.le_refl _)); have Ca_10 := hide (Below.next (unhide Ca_9) hb6 (Nat.le_refl _)); have Cb_10 := hide (Below.next (unhide Cb_9) hb6 (Nat.le_refl _)); clear HX_9 Kp_9 Kx_9 Kk_9 Ka_9 Kf1_9 Kb_9 Kf2_9 Cx_9 Ca_9 Cb_9; clear hb6 x0 x1 x2 xf0 xf1 xf2 xl)
  have HX_11 := hide ((unhide HX_10).alloc (Nat.le_trans (show w.heap.size ≤ w.heap.size from Nat.le_refl _) (unhide HX_10).size) (.cells #[.int .i64 Q0, .int .i64 Q1] 29))
  have Kp_11 := hide (keep_alloc (unhide Kp_10) (.cells #[.int .i64 Q0, .int .i64 Q1] 29))
  have Kx_11 := hide (keep_alloc (unhide Kx_10) (.cells #[.int .i64 Q0, .int .i64 Q1] 29))
  have Kk_11 := hide (keep_alloc (unhide Kk_10) (.cells #[.int .i64 Q0, .int .i64 Q1] 29))
  have Ka_11 := hide (keep_alloc (unhide Ka_10) (.cells #[.int .i64 Q0, .int .i64 Q1] 29))
  have Kf1_11 := hide (keep_alloc (unhide Kf1_10) (.cells #[.int .i64 Q0, .int .i64 Q1] 29))
  have Kb_11 := hide (keep_alloc (unhide Kb_10) (.cells #[.int .i64 Q0, .int .i64 Q1] 29))
  have Kf2_11 := hide (keep_alloc (unhide Kf2_10) (.cells #[.int .i64 Q0, .int .i64 Q1] 29))
  have Cx_11 := hide ((unhide Cx_10).alloc (unhide Cx_10).size (.cells #[.int .i64 Q0, .int .i64 Q1] 29))
  have Ca_11 := hide ((unhide Ca_10).alloc (unhide Ca_10).size (.cells #[.int .i64 Q0, .int .i64 Q1] 29))
  have Cb_11 := hide ((unhide Cb_10).alloc (unhide Cb_10).size (.cells #[.int .i64 Q0, .int .i64 Q1] 29))
  have Kf3_11 := hide (new_block w6 (.cells #[.int .i64 Q0, .int .i64 Q1] 29))
  have hlp_f3 : w.heap.size < w6.heap.size := size_of (unhide Kp_10)
  have hlx_f3 : TX < w6.heap.size := size_of (unhide Kx_10)
  have hlk_f3 : TK < w6.heap.size := size_of (unhide Kk_10)
  have hla_f3 : X1 < w6.heap.size := size_of (unhide Ka_10)
  have hlf1_f3 : X1 + 1 < w6.heap.size := size_of (unhide Kf1_10)
  have hlb_f3 : X2 < w6.heap.size := size_of (unhide Kb_10)
  have hlf2_f3 : X2 + 1 < w6.heap.size := size_of (unhide Kf2_10)
  obtain ⟨TS, eTS⟩ : ∃ X, w6.heap.size = X := ⟨_, rfl⟩
  obtain ⟨W5, eW5⟩ : ∃ X, w6.alloc (.cells #[.int .i64 Q0, .int .i64 Q1] 29) = X := ⟨_, rfl⟩
  rw [eTS, eW5] at Kf3_11; rw [eW5] at HX_11 Kp_11 Kx_11 Kk_11 Ka_11 Kf1_11 Kb_11 Kf2_11 Cx_11 Ca_11 Cb_11; rw [eTS] at hlp_f3 hlx_f3 hlk_f3 hla_f3 hlf1_f3 hlb_f3 hlf2_f3; rw [eTS, eW5]
  clear eTS eW5 HX_10 Kp_10 Kx_10 Kk_10 Ka_10 Kf1_10 Kb_10 Kf2_10 Cx_10 Ca_10 Cb_10
  obtain ⟨⟨p0, p1, p2⟩, ⟨pf0, pf1, pf2⟩, pl⟩ := block3 (unhide Kp_11)
  go_upto_region 11 with (go_at_call 15; refine (unhide HCF _ (unhide HX_11)).mono ?_; rintro e w7 ⟨rfl, hb7⟩; have HX_12 := hide (Below.next (unhide HX_11) hb7 (by first | exact Nat.le_refl _ | (have := unhide HBA; omega))); have Kp_12 := hide (keep_below (unhide Kp_11) hb7); have Kx_12 := hide (keep_below (unhide Kx_11) hb7); have Kk_12 := hide (keep_below (unhide Kk_11) hb7); have Ka_12 := hide (keep_below (unhide Ka_11) hb7); have Kf1_12 := hide (keep_below (unhide Kf1_11) hb7); have Kb_12 := hide (keep_below (unhide Kb_11) hb7); have Kf2_12 := hide (keep_below (unhide Kf2_11) hb7); have Kf3_12 := hide (keep_below (unhide Kf3_11) hb7); have Cx_12 := hide (Below.next (unhide Cx_11) hb7 (Nat.le_refl _)); have Ca_12 := hide (Below.next (unhide Ca_11) hb7 (Nat.le_refl _)); have Cb_12 := hide (Below.next (unhide Cb_11) hb7 (Nat.le_refl _)); clear HX_11 Kp_11 Kx_11 Kk_11 Ka_11 Kf1_11 Kb_11 Kf2_11 Kf3_11 Cx_11 Ca_11 Cb_11; clear hb7 p0 p1 p2 pf0 pf1 pf2 pl)
  have HX_13 := hide ((unhide HX_12).alloc (Nat.le_trans (show w.heap.size ≤ w.heap.size from Nat.le_refl _) (unhide HX_12).size) (.cells #[.int .i64 T0, .int .i64 T1] 29))
  have Kp_13 := hide (keep_alloc (unhide Kp_12) (.cells #[.int .i64 T0, .int .i64 T1] 29))
  have Kx_13 := hide (keep_alloc (unhide Kx_12) (.cells #[.int .i64 T0, .int .i64 T1] 29))
  have Kk_13 := hide (keep_alloc (unhide Kk_12) (.cells #[.int .i64 T0, .int .i64 T1] 29))
  have Ka_13 := hide (keep_alloc (unhide Ka_12) (.cells #[.int .i64 T0, .int .i64 T1] 29))
  have Kf1_13 := hide (keep_alloc (unhide Kf1_12) (.cells #[.int .i64 T0, .int .i64 T1] 29))
  have Kb_13 := hide (keep_alloc (unhide Kb_12) (.cells #[.int .i64 T0, .int .i64 T1] 29))
  have Kf2_13 := hide (keep_alloc (unhide Kf2_12) (.cells #[.int .i64 T0, .int .i64 T1] 29))
  have Kf3_13 := hide (keep_alloc (unhide Kf3_12) (.cells #[.int .i64 T0, .int .i64 T1] 29))
  have Cx_13 := hide ((unhide Cx_12).alloc (unhide Cx_12).size (.cells #[.int .i64 T0, .int .i64 T1] 29))
  have Ca_13 := hide ((unhide Ca_12).alloc (unhide Ca_12).size (.cells #[.int .i64 T0, .int .i64 T1] 29))
  have Cb_13 := hide ((unhide Cb_12).alloc (unhide Cb_12).size (.cells #[.int .i64 T0, .int .i64 T1] 29))
  have Ku_13 := hide (new_block w7 (.cells #[.int .i64 T0, .int .i64 T1] 29))
  have hlp_u : w.heap.size < w7.heap.size := size_of (unhide Kp_12)
  have hlx_u : TX < w7.heap.size := size_of (unhide Kx_12)
  have hlk_u : TK < w7.heap.size := size_of (unhide Kk_12)
  have hla_u : X1 < w7.heap.size := size_of (unhide Ka_12)
  have hlf1_u : X1 + 1 < w7.heap.size := size_of (unhide Kf1_12)
  have hlb_u : X2 < w7.heap.size := size_of (unhide Kb_12)
  have hlf2_u : X2 + 1 < w7.heap.size := size_of (unhide Kf2_12)
  have hlf3_u : TS < w7.heap.size := size_of (unhide Kf3_12)
  obtain ⟨TU, eTU⟩ : ∃ X, w7.heap.size = X := ⟨_, rfl⟩
  obtain ⟨W6, eW6⟩ : ∃ X, w7.alloc (.cells #[.int .i64 T0, .int .i64 T1] 29) = X := ⟨_, rfl⟩
  rw [eTU, eW6] at Ku_13; rw [eW6] at HX_13 Kp_13 Kx_13 Kk_13 Ka_13 Kf1_13 Kb_13 Kf2_13 Kf3_13 Cx_13 Ca_13 Cb_13; rw [eTU] at hlp_u hlx_u hlk_u hla_u hlf1_u hlb_u hlf2_u hlf3_u; rw [eTU, eW6]
  clear eTU eW6 HX_12 Kp_12 Kx_12 Kk_12 Ka_12 Kf1_12 Kb_12 Kf2_12 Kf3_12 Cx_12 Ca_12 Cb_12
  obtain ⟨k0, k1, kf0, kf1, kl⟩ := block2 (unhide Kk_13)
  obtain ⟨u0, u1, uf0, uf1, ul⟩ := block2 (unhide Ku_13)
  obtain ⟨⟨x0, x1, x2⟩, ⟨xf0, xf1, xf2⟩, xl⟩ := block3 (unhide Kx_13)
  obtain ⟨⟨p0, p1, p2⟩, ⟨pf0, pf1, pf2⟩, pl⟩ := block3 (unhide Kp_13)
  have xc0 : (T0 == T0) = true := by simp
  have xc1 : (T1 == T1) = true := by simp
  go_upto_region 14 with (go_at_call 16; refine (unhide HSX2 _ a2 c2 (unhide HX_13) ((unhide HL2).below (unhide Cx_13))).mono ?_; rintro e w8 ⟨rfl, hb8⟩; have HX_14 := hide (Below.next (unhide HX_13) hb8 (by first | exact Nat.le_refl _ | (have := unhide HBA; omega))); have Kp_14 := hide (keep_below (unhide Kp_13) hb8); have Kx_14 := hide (keep_below (unhide Kx_13) hb8); have Kk_14 := hide (keep_below (unhide Kk_13) hb8); have Ka_14 := hide (keep_below (unhide Ka_13) hb8); have Kf1_14 := hide (keep_below (unhide Kf1_13) hb8); have Kb_14 := hide (keep_below (unhide Kb_13) hb8); have Kf2_14 := hide (keep_below (unhide Kf2_13) hb8); have Kf3_14 := hide (keep_below (unhide Kf3_13) hb8); have Ku_14 := hide (keep_below (unhide Ku_13) hb8); have Cx_14 := hide (Below.next (unhide Cx_13) hb8 (Nat.le_refl _)); have Ca_14 := hide (Below.next (unhide Ca_13) hb8 (Nat.le_refl _)); have Cb_14 := hide (Below.next (unhide Cb_13) hb8 (Nat.le_refl _)); clear HX_13 Kp_13 Kx_13 Kk_13 Ka_13 Kf1_13 Kb_13 Kf2_13 Kf3_13 Ku_13 Cx_13 Ca_13 Cb_13; clear hb8 k0 k1 kf0 kf1 kl u0 u1 uf0 uf1 ul x0 x1 x2 xf0 xf1 xf2 xl p0 p1 p2 pf0 pf1 pf2 pl; obtain ⟨u0, u1, uf0, uf1, ul⟩ := block2 (unhide Ku_14))
  clear u0 u1 uf0 uf1 ul
  have HX_15 := hide ((unhide HX_14).alloc (Nat.le_trans (show w.heap.size ≤ w.heap.size from Nat.le_refl _) (unhide HX_14).size) (.cells #[.int .i64 T0, .int .i64 T1] 29))
  have Kp_15 := hide (keep_alloc (unhide Kp_14) (.cells #[.int .i64 T0, .int .i64 T1] 29))
  have Kx_15 := hide (keep_alloc (unhide Kx_14) (.cells #[.int .i64 T0, .int .i64 T1] 29))
  have Kk_15 := hide (keep_alloc (unhide Kk_14) (.cells #[.int .i64 T0, .int .i64 T1] 29))
  have Ka_15 := hide (keep_alloc (unhide Ka_14) (.cells #[.int .i64 T0, .int .i64 T1] 29))
  have Kf1_15 := hide (keep_alloc (unhide Kf1_14) (.cells #[.int .i64 T0, .int .i64 T1] 29))
  have Kb_15 := hide (keep_alloc (unhide Kb_14) (.cells #[.int .i64 T0, .int .i64 T1] 29))
  have Kf2_15 := hide (keep_alloc (unhide Kf2_14) (.cells #[.int .i64 T0, .int .i64 T1] 29))
  have Kf3_15 := hide (keep_alloc (unhide Kf3_14) (.cells #[.int .i64 T0, .int .i64 T1] 29))
  have Ku_15 := hide (keep_alloc (unhide Ku_14) (.cells #[.int .i64 T0, .int .i64 T1] 29))
  have Cx_15 := hide ((unhide Cx_14).alloc (unhide Cx_14).size (.cells #[.int .i64 T0, .int .i64 T1] 29))
  have Ca_15 := hide ((unhide Ca_14).alloc (unhide Ca_14).size (.cells #[.int .i64 T0, .int .i64 T1] 29))
  have Cb_15 := hide ((unhide Cb_14).alloc (unhide Cb_14).size (.cells #[.int .i64 T0, .int .i64 T1] 29))
  have Kv_15 := hide (new_block w8 (.cells #[.int .i64 T0, .int .i64 T1] 29))
  have hlp_v : w.heap.size < w8.heap.size := size_of (unhide Kp_14)
  have hlx_v : TX < w8.heap.size := size_of (unhide Kx_14)
  have hlk_v : TK < w8.heap.size := size_of (unhide Kk_14)
  have hla_v : X1 < w8.heap.size := size_of (unhide Ka_14)
  have hlf1_v : X1 + 1 < w8.heap.size := size_of (unhide Kf1_14)
  have hlb_v : X2 < w8.heap.size := size_of (unhide Kb_14)
  have hlf2_v : X2 + 1 < w8.heap.size := size_of (unhide Kf2_14)
  have hlf3_v : TS < w8.heap.size := size_of (unhide Kf3_14)
  have hlu_v : TU < w8.heap.size := size_of (unhide Ku_14)
  obtain ⟨T, eT⟩ : ∃ X, w8.heap.size = X := ⟨_, rfl⟩
  obtain ⟨W7, eW7⟩ : ∃ X, w8.alloc (.cells #[.int .i64 T0, .int .i64 T1] 29) = X := ⟨_, rfl⟩
  rw [eT, eW7] at Kv_15; rw [eW7] at HX_15 Kp_15 Kx_15 Kk_15 Ka_15 Kf1_15 Kb_15 Kf2_15 Kf3_15 Ku_15 Cx_15 Ca_15 Cb_15; rw [eT] at hlp_v hlx_v hlk_v hla_v hlf1_v hlb_v hlf2_v hlf3_v hlu_v; rw [eT, eW7]
  clear eT eW7 HX_14 Kp_14 Kx_14 Kk_14 Ka_14 Kf1_14 Kb_14 Kf2_14 Kf3_14 Ku_14 Cx_14 Ca_14 Cb_14
  clear HCK HSE HST HSN HCF HOW HSX2 HLG
  have hk' := unhide HK0
  clear HK0
  have xt : (T0 == 0) = true := by simpa using hk'
  clear hk'
  have hu : U0 = T0 ∧ U1 = T1 := by have := unhide HEU; unfold setU at this; rw [hb, Bool.and_false, if_neg (by decide)] at this; cases this; exact ⟨rfl, rfl⟩
  have hq := of_decide_eq_false (show decide (id < 1 ∨ after < 1 ∨ 1000000000 < after ∨ period < 0 ∨ 1000000000 < period) = false from hb)
  have g1 : ¬ id < 1 := by omega
  have g2 : ¬ after < 1 := by omega
  have g3 : ¬ 1000000000 < after := by omega
  have g4 : ¬ period < 0 := by omega
  have g5 : ¬ 1000000000 < period := by omega
  clear hb hq
  have HHU := hide hu
  clear hu
  obtain ⟨v0, v1, vf0, vf1, vl⟩ := block2 (unhide Kv_15)
  go_upto_region 16 with fail
  clear v0 v1 vf0 vf1 vl
  obtain ⟨hu0, hu1⟩ := unhide HHU
  subst hu0
  subst hu1
  clear HHU
  exact sets_a_any w now next xs ys zs2 _ _ r Q0 Q1 n2 x2 is had n m m2 a0 c0 av2 cv2 id after period av1 cv1 X1 X2 TS TU T _ _ F0 F1 n1 x1 zs1 was m1 (unhide HEV) (unhide HZ1) (unhide HZ2) (unhide HNA2) (unhide HZ3) (unhide HZ4) (unhide HN) (unhide HEM1) (unhide HEM2) (unhide HEM) (by omega) (unhide H0) _ (unhide HX_15) (unhide Kp_15) (unhide Ka_15) (unhide Kf1_15) (unhide Kb_15) (unhide Kf2_15) (unhide Kf3_15) (unhide Ku_15) (unhide Kv_15) (fun W hW => isl_agree ka (unhide HL4) (fun k hk => (hW.block k (by omega)).trans ((unhide Ca_15).block k hk))) (fun W hW => isl_agree ka (unhide HL5) (fun k hk => (hW.block k (by omega)).trans ((unhide Cb_15).block k hk))) ⟨by omega, by omega, by omega, by omega, by omega⟩ _ _ _ (by assumption) (by kernel_rfl)

end Go.Proofs.Ytidpmcanfedbdaa
