/-
  taskmilllaw.PipeShuts, where the task does not wait.
-/
import Derived.Test.YtijogcjocandcaaSha
namespace Go.Proofs.Ytijogcjocandcaa
open Go.RowKit

set_option maxRecDepth 100000 in
set_option maxHeartbeats 4000000 in
theorem shuts_main3 (w : World) (v : Value) (P : Pp) (x : Int) (h : IsPipe w v P) (hv : vastL P = false) (hF : pipeF P = (0, 0)) (hw : waitsL P x = false) :
    Calls Try.prog 5 #[v, .int .i64 x] w fun e w' => e = .returned (.bool true) ∧ Below w.heap.size w w' := by
  have hnot : ∀ (x : Bool) (w : World), (Op.unary .not (.bool x)).run Try.prog w = .ok (.bool (!x)) w := fun _ _ => rfl
  have hc := not_vast hv
  have hs : Short P := short_of (Nat.le_trans hc (by decide))
  have hL : leaveF P x = (6, 0) := by unfold leaveF; rw [if_neg (by rw [hF]; simp), if_neg (by rw [hw]; simp)]
  have HV : Hid (∀ W, Below w.heap.size w W → Calls Try.prog 10 #[v] W fun e w' => e = .returned (.bool false) ∧ Below W.heap.size W w') := fun W hW => by
    have := vast_any W v P (h.below hW) hs
    rw [hv] at this
    exact this
  have HOW : Hid (∀ W, Below w.heap.size w W → Calls Try.prog 11 #[v] W fun e w' => ∃ v', e = .returned v' ∧ NewPipe W.heap.size w' v' P ∧ Below W.heap.size W w') := fun W hW => ownPipe_any W v P (h.below hW) hs
  have HSH : Hid (∀ W v', IsPipe W v' P → Calls Try.prog 22 #[v'] W fun e w' => ∃ v1 v2, e = .returned (.tuple #[v1, v2, .agg #[.int .i64 0, .int .i64 0]]) ∧ NewPipe W.heap.size w' v1 (shutR P).1 ∧ NewAns W.heap.size w' v2 (shutR P).2 ∧ Below W.heap.size W w') := fun W v' hW => by
    have := Shut_any W v' P hW hs
    rw [hF] at this
    exact this
  have HLV : Hid (∀ W v', IsPipe W v' P → Calls Try.prog 23 #[v', .int .i64 x] W fun e w' => ∃ v1, e = .returned (.tuple #[v1, .agg #[.int .i64 6, .int .i64 0]]) ∧ NewPipe W.heap.size w' v1 (leaveR P x) ∧ Below W.heap.size W w') := fun W v' hW => by
    have := Leave_any W v' P x hW hs
    rw [hL] at this
    exact this
  have HPF : Hid (∀ W, Below w.heap.size w W → Calls Try.prog 14 #[v] W fun e w' => e = .returned (.agg #[.int .i64 0, .int .i64 0]) ∧ Below W.heap.size W w') := fun W hW => by
    have := pfault_any W v P (h.below hW) hs
    rw [hF] at this
    exact this
  have HCL : Hid (∀ W, Below w.heap.size w W → Calls Try.prog 24 #[v] W fun e w' => ∃ v1 v2, e = .returned (.tuple #[v1, v2]) ∧ IsPipe w' v1 (shutL P).1 ∧ IsAns w' v2 (shutL P).2 ∧ Below W.heap.size W w') := fun W hW => closing_any W v P (h.below hW) hc
  have HWA : Hid (∀ W, Below w.heap.size w W → Calls Try.prog 25 #[v, .int .i64 x] W fun e w' => e = .returned (.bool false) ∧ Below W.heap.size W w') := fun W hW => by
    have := waitsAt_any W v P x (h.below hW) hs
    rw [hw] at this
    exact this
  have q1 := shutR_short (P := P) hc
  have q2 := leaveR_short (P := P) (x := x) hc
  have e2 : (shutL P).1 = (shutR P).1 ∧ (shutL P).2 = (shutR P).2 := by unfold shutR; rw [hF, if_pos rfl]; exact ⟨rfl, rfl⟩
  have e3 : leaveR P x = zeroP := by unfold leaveR; rw [hL, if_neg (by decide)]
  have HGS : Hid (∀ W v', IsL KP W v' P.ss → Calls Try.prog 27 #[v', .int .i64 x] W fun e w' => ∃ a c, e = .returned (.slice a (leftL (isOfP x) P.ss).length c) ∧ IsL KP w' (.slice a (leftL (isOfP x) P.ss).length c) (leftL (isOfP x) P.ss) ∧ Below W.heap.size W w') := fun W v' hW => gone_any W v' P.ss x hW hs.2.1
  have HGG : Hid (∀ W v', IsL KP W v' P.gs → Calls Try.prog 27 #[v', .int .i64 x] W fun e w' => ∃ a c, e = .returned (.slice a (leftL (isOfP x) P.gs).length c) ∧ IsL KP w' (.slice a (leftL (isOfP x) P.gs).length c) (leftL (isOfP x) P.gs) ∧ Below W.heap.size W w') := fun W v' hW => gone_any W v' P.gs x hW hs.2.2
  skip
  generalize leftL (isOfP x) P.ss = LS, leftL (isOfP x) P.gs = LG at HGS HGG
  generalize shutR P = R1, shutL P = R2, leaveR P x = R3 at HSH HCL HLV q1 q2 e2 e3
  obtain ⟨⟨cap1, items1, closed1, ss1, gs1⟩, ⟨o10, o11, o12, o13, o14, wk1⟩⟩ := R1
  obtain ⟨⟨cap2, items2, closed2, ss2, gs2⟩, ⟨o20, o21, o22, o23, o24, wk2⟩⟩ := R2
  obtain ⟨cap3, items3, closed3, ss3, gs3⟩ := R3
  simp only at HSH HCL HLV q1 q2 e2 e3
  have HQ1 : Hid (Short ⟨cap1, items1, closed1, ss1, gs1⟩ ∧ WShort ⟨o10, o11, o12, o13, o14, wk1⟩) := ⟨short_of q1.1, Nat.le_trans q1.2 (by decide)⟩
  have HQ2 : Hid (Short ⟨cap3, items3, closed3, ss3, gs3⟩) := short_of q2
  have HE2 := hide e2
  have HVP := hide h
  obtain ⟨cap, items, closed, ss, gs⟩ := P
  obtain ⟨a1, c1, a2, c2, a3, c3, ev, hI, hS, hG⟩ := h.form
  simp only at ev hI hS hG HGS HGG
  have HE3 := hide e3
  obtain ⟨n1, en1⟩ : ∃ n, items.length = n := ⟨_, rfl⟩
  obtain ⟨n2, en2⟩ : ∃ n, ss.length = n := ⟨_, rfl⟩
  obtain ⟨n3, en3⟩ : ∃ n, gs.length = n := ⟨_, rfl⟩
  rw [en1, en2, en3] at ev; rw [en1] at hI; rw [en2] at hS; rw [en3] at hG
  have HI := hide hI; have HS := hide hS; have HG := hide hG
  subst ev
  clear h hs hc hv hF hL q1 q2 e2 e3 hI hS hG en1 en2 en3 hw
  have HB0 := hide ((Below.refl w.heap.size w).alloc (Nat.le_refl _) (.cells #[.int .i64 cap, .slice a1 n1 c1, .bool closed, .slice a2 n2 c2, .slice a3 n3 c3] 25))
  have HK0 := hide (new_block w (.cells #[.int .i64 cap, .slice a1 n1 c1, .bool closed, .slice a2 n2 c2, .slice a3 n3 c3] 25))
  obtain ⟨W0, e0⟩ : ∃ X, w.alloc (.cells #[.int .i64 cap, .slice a1 n1 c1, .bool closed, .slice a2 n2 c2, .slice a3 n3 c3] 25) = X := ⟨_, rfl⟩
  rw [e0] at HB0 HK0
  have HW0 := hide e0
  clear e0
  go_enter Try.func5, Try.ntmps5
  go_upto_region 1 with fail
  rw [unhide HW0]
  clear HW0
  obtain ⟨⟨p0, p1, p2, p3, p4⟩, ⟨pf0, pf1, pf2, pf3, pf4⟩, pl⟩ := block5 (unhide HK0)
  go_upto_region 6 with (first
      | (go_at_call 9; refine (begun_any _).mono ?_; rintro e w1 ⟨rfl, hb1⟩; have HX_1 := hide (Below.next (unhide HB0) hb1 (by first | exact Nat.le_refl _ | (have := unhide HBA; omega))); have Kp_1 := hide (keep_below (unhide HK0) hb1); clear HB0 HK0; clear hb1 p0 p1 p2 p3 p4 pf0 pf1 pf2 pf3 pf4 pl; obtain ⟨⟨p0, p1, p2, p3, p4⟩, ⟨pf0, pf1, pf2, pf3, pf4⟩, pl⟩ := block5 (unhide Kp_1))
      | (go_at_call 10; refine (unhide HV _ (unhide HX_1)).mono ?_; rintro e w2 ⟨rfl, hb2⟩; have HX_2 := hide (Below.next (unhide HX_1) hb2 (by first | exact Nat.le_refl _ | (have := unhide HBA; omega))); have Kp_2 := hide (keep_below (unhide Kp_1) hb2); clear HX_1 Kp_1; clear hb2 p0 p1 p2 p3 p4 pf0 pf1 pf2 pf3 pf4 pl; obtain ⟨⟨p0, p1, p2, p3, p4⟩, ⟨pf0, pf1, pf2, pf3, pf4⟩, pl⟩ := block5 (unhide Kp_2))
      | (go_at_call 11; refine (unhide HOW _ (unhide HX_2)).mono ?_; rintro e w3 ⟨v3, rfl, hp3, hb3⟩; have HP3 := hide hp3.pipe; have HX_3 := hide (Below.next (unhide HX_2) hb3 (by first | exact Nat.le_refl _ | (have := unhide HBA; omega))); have Kp_3 := hide (keep_below (unhide Kp_2) hb3); clear HX_2 Kp_2; clear hb3 hp3 p0 p1 p2 p3 p4 pf0 pf1 pf2 pf3 pf4 pl)
      | (go_at_call 22; refine (unhide HSH _ _ (unhide HP3)).mono ?_; rintro e w4 ⟨v1, v2, rfl, hq7, ha7, hb7⟩; have HQa := hide hq7.pipe; have HAa := hide ha7.ans; obtain ⟨x1, y1, xs1, ys1, xg1, yg1, rfl, -, -, -⟩ := NewPipe.form' hq7; obtain ⟨xw1, yw1, rfl, -⟩ := NewAns.form' ha7; have HX_4 := hide (Below.next (unhide HX_3) hb7 (by first | exact Nat.le_refl _ | (have := unhide HBA; omega))); have Kp_4 := hide (keep_below (unhide Kp_3) hb7); clear HX_3 Kp_3; clear hb7 hq7 ha7 HP3))
  obtain ⟨W5, eW5, hBW5, k0_5, k1_5, k2_5⟩ := three_new w4 (.cells #[.int .i64 cap1, .slice x1 items1.length y1, .bool closed1, .slice xs1 ss1.length ys1, .slice xg1 gs1.length yg1] 25) (.cells #[.bool o10, .bool o11, .bool o12, .int .i64 o13, .int .i64 o14, .slice xw1 wk1.length yw1] 34) (.cells #[.int .i64 0, .int .i64 0] 30)
  rw [eW5]
  clear eW5
  have hlp_Q : w.heap.size < w4.heap.size := size_of (unhide Kp_4)
  (have HX_5 := hide (Below.next (unhide HX_4) hBW5 (by first | exact Nat.le_refl _ | (have := unhide HBA; omega))); have Kp_5 := hide (keep_below (unhide Kp_4) hBW5); have FQ_5 := hide ((unhide HQa).below hBW5); have FA_5 := hide ((unhide HAa).below hBW5); clear HX_4 Kp_4 HQa HAa)
  obtain ⟨N1, eN1⟩ : ∃ X, w4.heap.size = X := ⟨_, rfl⟩
  rw [eN1] at k0_5 k1_5 k2_5 hlp_Q ⊢
  have KQ_5 := hide k0_5
  have KA_5 := hide k1_5
  have KF_5 := hide k2_5
  clear eN1 hBW5 k0_5 k1_5 k2_5
  obtain ⟨⟨p0, p1, p2, p3, p4⟩, ⟨pf0, pf1, pf2, pf3, pf4⟩, pl⟩ := block5 (unhide Kp_5)
  go_upto_region 7 with (first
      | (go_at_call 11; refine (unhide HOW _ (unhide HX_5)).mono ?_; rintro e w6 ⟨v3, rfl, hp3, hb3⟩; have HP6 := hide hp3.pipe; have HX_6 := hide (Below.next (unhide HX_5) hb3 (by first | exact Nat.le_refl _ | (have := unhide HBA; omega))); have Kp_6 := hide (keep_below (unhide Kp_5) hb3); have KQ_6 := hide (keep_below (unhide KQ_5) hb3); have KA_6 := hide (keep_below (unhide KA_5) hb3); have KF_6 := hide (keep_below (unhide KF_5) hb3); have FQ_6 := hide ((unhide FQ_5).below hb3); have FA_6 := hide ((unhide FA_5).below hb3); clear HX_5 Kp_5 KQ_5 KA_5 KF_5 FQ_5 FA_5; clear hb3 hp3 p0 p1 p2 p3 p4 pf0 pf1 pf2 pf3 pf4 pl)
      | (go_at_call 23; refine (unhide HLV _ _ (unhide HP6)).mono ?_; rintro e w7 ⟨v1, rfl, hq7, hb7⟩; have HQe := hide hq7.pipe; obtain ⟨x3, y3, xs3, ys3, xg3, yg3, rfl, -, -, -⟩ := NewPipe.form' hq7; have HX_7 := hide (Below.next (unhide HX_6) hb7 (by first | exact Nat.le_refl _ | (have := unhide HBA; omega))); have Kp_7 := hide (keep_below (unhide Kp_6) hb7); have KQ_7 := hide (keep_below (unhide KQ_6) hb7); have KA_7 := hide (keep_below (unhide KA_6) hb7); have KF_7 := hide (keep_below (unhide KF_6) hb7); have FQ_7 := hide ((unhide FQ_6).below hb7); have FA_7 := hide ((unhide FA_6).below hb7); clear HX_6 Kp_6 KQ_6 KA_6 KF_6 FQ_6 FA_6; clear hb7 hq7 HP6))
  obtain ⟨W8, eW8, hBW8, k0_8, k1_8⟩ := two_new w7 (.cells #[.int .i64 cap3, .slice x3 items3.length y3, .bool closed3, .slice xs3 ss3.length ys3, .slice xg3 gs3.length yg3] 25) (.cells #[.int .i64 6, .int .i64 0] 30)
  rw [eW8]
  clear eW8
  have hlp_E : w.heap.size < w7.heap.size := size_of (unhide Kp_7)
  have hlQ_E : N1 < w7.heap.size := size_of (unhide KQ_7)
  have hlA_E : N1 + 1 < w7.heap.size := size_of (unhide KA_7)
  have hlF_E : N1 + 1 + 1 < w7.heap.size := size_of (unhide KF_7)
  (have HX_8 := hide (Below.next (unhide HX_7) hBW8 (by first | exact Nat.le_refl _ | (have := unhide HBA; omega))); have Kp_8 := hide (keep_below (unhide Kp_7) hBW8); have KQ_8 := hide (keep_below (unhide KQ_7) hBW8); have KA_8 := hide (keep_below (unhide KA_7) hBW8); have KF_8 := hide (keep_below (unhide KF_7) hBW8); have FQ_8 := hide ((unhide FQ_7).below hBW8); have FA_8 := hide ((unhide FA_7).below hBW8); have FE_8 := hide ((unhide HQe).below hBW8); clear HX_7 Kp_7 KQ_7 KA_7 KF_7 FQ_7 FA_7 HQe)
  obtain ⟨N2, eN2⟩ : ∃ X, w7.heap.size = X := ⟨_, rfl⟩
  rw [eN2] at k0_8 k1_8 hlp_E hlQ_E hlA_E hlF_E ⊢
  have KE_8 := hide k0_8
  have KG_8 := hide k1_8
  clear eN2 hBW8 k0_8 k1_8
  obtain ⟨⟨p0, p1, p2, p3, p4⟩, ⟨pf0, pf1, pf2, pf3, pf4⟩, pl⟩ := block5 (unhide Kp_8)
  go_upto_region 8 with (go_at_call 14; refine (unhide HPF _ (unhide HX_8)).mono ?_; rintro e w9 ⟨rfl, hb9⟩; have HX_9 := hide (Below.next (unhide HX_8) hb9 (by first | exact Nat.le_refl _ | (have := unhide HBA; omega))); have Kp_9 := hide (keep_below (unhide Kp_8) hb9); have KQ_9 := hide (keep_below (unhide KQ_8) hb9); have KA_9 := hide (keep_below (unhide KA_8) hb9); have KF_9 := hide (keep_below (unhide KF_8) hb9); have KE_9 := hide (keep_below (unhide KE_8) hb9); have KG_9 := hide (keep_below (unhide KG_8) hb9); have FQ_9 := hide ((unhide FQ_8).below hb9); have FA_9 := hide ((unhide FA_8).below hb9); have FE_9 := hide ((unhide FE_8).below hb9); clear HX_8 Kp_8 KQ_8 KA_8 KF_8 KE_8 KG_8 FQ_8 FA_8 FE_8; clear hb9 p0 p1 p2 p3 p4 pf0 pf1 pf2 pf3 pf4 pl)
  obtain ⟨B9, eB9⟩ : ∃ X, w9.heap.size = X := ⟨_, rfl⟩
  have HY0 : Hid (Since B9 w9 w9) := ⟨Below.refl _ _, by omega⟩
  have hVB : B9 ≤ w9.heap.size := by omega
  have HE9 := FE_9
  have HB9E := hide eB9
  clear eB9
  have HX_10 := hide ((unhide HX_9).alloc (Nat.le_trans (show w.heap.size ≤ w.heap.size from Nat.le_refl _) (unhide HX_9).size) (.cells #[.int .i64 0, .int .i64 0] 30))
  have Kp_10 := hide (keep_alloc (unhide Kp_9) (.cells #[.int .i64 0, .int .i64 0] 30))
  have KQ_10 := hide (keep_alloc (unhide KQ_9) (.cells #[.int .i64 0, .int .i64 0] 30))
  have KA_10 := hide (keep_alloc (unhide KA_9) (.cells #[.int .i64 0, .int .i64 0] 30))
  have KF_10 := hide (keep_alloc (unhide KF_9) (.cells #[.int .i64 0, .int .i64 0] 30))
  have KE_10 := hide (keep_alloc (unhide KE_9) (.cells #[.int .i64 0, .int .i64 0] 30))
  have KG_10 := hide (keep_alloc (unhide KG_9) (.cells #[.int .i64 0, .int .i64 0] 30))
  have FQ_10 := hide ((unhide FQ_9).below ((Below.refl _ _).alloc (Nat.le_refl _) (.cells #[.int .i64 0, .int .i64 0] 30)))
  have FA_10 := hide ((unhide FA_9).below ((Below.refl _ _).alloc (Nat.le_refl _) (.cells #[.int .i64 0, .int .i64 0] 30)))
  have FE_10 := hide ((unhide FE_9).below ((Below.refl _ _).alloc (Nat.le_refl _) (.cells #[.int .i64 0, .int .i64 0] 30)))
  have FY_10 := hide ((unhide HY0).below ((Below.refl _ _).alloc (Nat.le_refl _) (.cells #[.int .i64 0, .int .i64 0] 30)))
  have KV_10 := hide (new_block w9 (.cells #[.int .i64 0, .int .i64 0] 30))
  have hlp_V : w.heap.size < w9.heap.size := size_of (unhide Kp_9)
  have hlQ_V : N1 < w9.heap.size := size_of (unhide KQ_9)
  have hlA_V : N1 + 1 < w9.heap.size := size_of (unhide KA_9)
  have hlF_V : N1 + 1 + 1 < w9.heap.size := size_of (unhide KF_9)
  have hlE_V : N2 < w9.heap.size := size_of (unhide KE_9)
  have hlG_V : N2 + 1 < w9.heap.size := size_of (unhide KG_9)
  obtain ⟨V, eV⟩ : ∃ X, w9.heap.size = X := ⟨_, rfl⟩
  obtain ⟨W10, eW10⟩ : ∃ X, w9.alloc (.cells #[.int .i64 0, .int .i64 0] 30) = X := ⟨_, rfl⟩
  rw [eV, eW10] at KV_10; rw [eW10] at HX_10 Kp_10 KQ_10 KA_10 KF_10 KE_10 KG_10 FQ_10 FA_10 FE_10 FY_10; rw [eV] at hlp_V hlQ_V hlA_V hlF_V hlE_V hlG_V hVB; rw [eV, eW10]
  clear eV eW10 HX_9 Kp_9 KQ_9 KA_9 KF_9 KE_9 KG_9 FQ_9 FA_9 FE_9 HY0
  obtain ⟨⟨p0, p1, p2, p3, p4⟩, ⟨pf0, pf1, pf2, pf3, pf4⟩, pl⟩ := block5 (unhide Kp_10)
  go_upto_region 9 with (go_at_call 24; refine (unhide HCL _ (unhide HX_10)).mono ?_; rintro e w11 ⟨v1, v2, rfl, hq7, ha7, hb7⟩; have HQc := hide hq7; have HAc := hide ha7; obtain ⟨x2, y2, xs2, ys2, xg2, yg2, ev1, -, -, -⟩ := hq7.form; obtain ⟨xw2, yw2, ev2, -⟩ := ha7.form; simp only at ev1 ev2; subst ev1 ev2; have HX_11 := hide (Below.next (unhide HX_10) hb7 (by first | exact Nat.le_refl _ | (have := unhide HBA; omega))); have Kp_11 := hide (keep_below (unhide Kp_10) hb7); have KQ_11 := hide (keep_below (unhide KQ_10) hb7); have KA_11 := hide (keep_below (unhide KA_10) hb7); have KF_11 := hide (keep_below (unhide KF_10) hb7); have KE_11 := hide (keep_below (unhide KE_10) hb7); have KG_11 := hide (keep_below (unhide KG_10) hb7); have KV_11 := hide (keep_below (unhide KV_10) hb7); have FQ_11 := hide ((unhide FQ_10).below hb7); have FA_11 := hide ((unhide FA_10).below hb7); have FE_11 := hide ((unhide FE_10).below hb7); have FY_11 := hide ((unhide FY_10).below hb7); clear HX_10 Kp_10 KQ_10 KA_10 KF_10 KE_10 KG_10 KV_10 FQ_10 FA_10 FE_10 FY_10; clear hb7 hq7 ha7 p0 p1 p2 p3 p4 pf0 pf1 pf2 pf3 pf4 pl)
  obtain ⟨W12, eW12, hBW12, k0_12, k1_12⟩ := two_new w11 (.cells #[.int .i64 cap2, .slice x2 items2.length y2, .bool closed2, .slice xs2 ss2.length ys2, .slice xg2 gs2.length yg2] 25) (.cells #[.bool o20, .bool o21, .bool o22, .int .i64 o23, .int .i64 o24, .slice xw2 wk2.length yw2] 34)
  rw [eW12]
  clear eW12
  have hlp_C : w.heap.size < w11.heap.size := size_of (unhide Kp_11)
  have hlQ_C : N1 < w11.heap.size := size_of (unhide KQ_11)
  have hlA_C : N1 + 1 < w11.heap.size := size_of (unhide KA_11)
  have hlF_C : N1 + 1 + 1 < w11.heap.size := size_of (unhide KF_11)
  have hlE_C : N2 < w11.heap.size := size_of (unhide KE_11)
  have hlG_C : N2 + 1 < w11.heap.size := size_of (unhide KG_11)
  have hlV_C : V < w11.heap.size := size_of (unhide KV_11)
  (have HX_12 := hide (Below.next (unhide HX_11) hBW12 (by first | exact Nat.le_refl _ | (have := unhide HBA; omega))); have Kp_12 := hide (keep_below (unhide Kp_11) hBW12); have KQ_12 := hide (keep_below (unhide KQ_11) hBW12); have KA_12 := hide (keep_below (unhide KA_11) hBW12); have KF_12 := hide (keep_below (unhide KF_11) hBW12); have KE_12 := hide (keep_below (unhide KE_11) hBW12); have KG_12 := hide (keep_below (unhide KG_11) hBW12); have KV_12 := hide (keep_below (unhide KV_11) hBW12); have FQ_12 := hide ((unhide FQ_11).below hBW12); have FA_12 := hide ((unhide FA_11).below hBW12); have FE_12 := hide ((unhide FE_11).below hBW12); have FY_12 := hide ((unhide FY_11).below hBW12); have FC_12 := hide ((unhide HQc).below hBW12); have FD_12 := hide ((unhide HAc).below hBW12); clear HX_11 Kp_11 KQ_11 KA_11 KF_11 KE_11 KG_11 KV_11 FQ_11 FA_11 FE_11 FY_11 HQc HAc)
  obtain ⟨N3, eN3⟩ : ∃ X, w11.heap.size = X := ⟨_, rfl⟩
  rw [eN3] at k0_12 k1_12 hlp_C hlQ_C hlA_C hlF_C hlE_C hlG_C hlV_C ⊢
  have KC_12 := hide k0_12
  have KD_12 := hide k1_12
  clear eN3 hBW12 k0_12 k1_12
  obtain ⟨⟨qz0, qz1, qz2, qz3, qz4⟩, ⟨qzf0, qzf1, qzf2, qzf3, qzf4⟩, qzl⟩ := block5 (unhide KQ_12)
  obtain ⟨⟨az0, az1, az2, az3, az4, az5⟩, ⟨azf0, azf1, azf2, azf3, azf4, azf5⟩, azl⟩ := block6 (unhide KA_12)
  obtain ⟨fz0, fz1, fzf0, fzf1, fzl⟩ := block2 (unhide KF_12)
  obtain ⟨vz0, vz1, vzf0, vzf1, vzl⟩ := block2 (unhide KV_12)
  obtain ⟨⟨cz0, cz1, cz2, cz3, cz4⟩, ⟨czf0, czf1, czf2, czf3, czf4⟩, czl⟩ := block5 (unhide KC_12)
  obtain ⟨⟨dz0, dz1, dz2, dz3, dz4, dz5⟩, ⟨dzf0, dzf1, dzf2, dzf3, dzf4, dzf5⟩, dzl⟩ := block6 (unhide KD_12)
  go_upto_region 11 with (go_at_call 18; refine (pipeAs_any _ _ _ _ _ _ _ _ _ 0 0 (unhide FQ_12) (unhide FA_12) (unhide FC_12) (unhide FD_12) (unhide HQ1).1 (unhide HQ1).2 (fun _ => unhide HE2) (fun h => absurd rfl h)).mono ?_; rintro e w13 ⟨rfl, hb⟩; have HX_13 := hide (Below.next (unhide HX_12) hb (by first | exact Nat.le_refl _ | (have := unhide HBA; omega))); have Kp_13 := hide (keep_below (unhide Kp_12) hb); have KQ_13 := hide (keep_below (unhide KQ_12) hb); have KA_13 := hide (keep_below (unhide KA_12) hb); have KF_13 := hide (keep_below (unhide KF_12) hb); have KE_13 := hide (keep_below (unhide KE_12) hb); have KG_13 := hide (keep_below (unhide KG_12) hb); have KV_13 := hide (keep_below (unhide KV_12) hb); have KC_13 := hide (keep_below (unhide KC_12) hb); have KD_13 := hide (keep_below (unhide KD_12) hb); have FQ_13 := hide ((unhide FQ_12).below hb); have FA_13 := hide ((unhide FA_12).below hb); have FE_13 := hide ((unhide FE_12).below hb); have FY_13 := hide ((unhide FY_12).below hb); have FC_13 := hide ((unhide FC_12).below hb); have FD_13 := hide ((unhide FD_12).below hb); clear HX_12 Kp_12 KQ_12 KA_12 KF_12 KE_12 KG_12 KV_12 KC_12 KD_12 FQ_12 FA_12 FE_12 FY_12 FC_12 FD_12; clear hb qz0 qz1 qz2 qz3 qz4 qzf0 qzf1 qzf2 qzf3 qzf4 qzl az0 az1 az2 az3 az4 az5 azf0 azf1 azf2 azf3 azf4 azf5 azl fz0 fz1 fzf0 fzf1 fzl vz0 vz1 vzf0 vzf1 vzl cz0 cz1 cz2 cz3 cz4 czf0 czf1 czf2 czf3 czf4 czl dz0 dz1 dz2 dz3 dz4 dz5 dzf0 dzf1 dzf2 dzf3 dzf4 dzf5 dzl)
  obtain ⟨v0, v1, vf0, vf1, vl⟩ := block2 (unhide KV_13)
  obtain ⟨⟨p0, p1, p2, p3, p4⟩, ⟨pf0, pf1, pf2, pf3, pf4⟩, pl⟩ := block5 (unhide Kp_13)
  go_upto_region 12 with (go_at_call 25; refine (unhide HWA _ (unhide HX_13)).mono ?_; rintro e w14 ⟨rfl, hb⟩; have HX_14 := hide (Below.next (unhide HX_13) hb (by first | exact Nat.le_refl _ | (have := unhide HBA; omega))); have Kp_14 := hide (keep_below (unhide Kp_13) hb); have KQ_14 := hide (keep_below (unhide KQ_13) hb); have KA_14 := hide (keep_below (unhide KA_13) hb); have KF_14 := hide (keep_below (unhide KF_13) hb); have KE_14 := hide (keep_below (unhide KE_13) hb); have KG_14 := hide (keep_below (unhide KG_13) hb); have KV_14 := hide (keep_below (unhide KV_13) hb); have KC_14 := hide (keep_below (unhide KC_13) hb); have KD_14 := hide (keep_below (unhide KD_13) hb); have FQ_14 := hide ((unhide FQ_13).below hb); have FA_14 := hide ((unhide FA_13).below hb); have FE_14 := hide ((unhide FE_13).below hb); have FY_14 := hide ((unhide FY_13).below hb); have FC_14 := hide ((unhide FC_13).below hb); have FD_14 := hide ((unhide FD_13).below hb); clear HX_13 Kp_13 KQ_13 KA_13 KF_13 KE_13 KG_13 KV_13 KC_13 KD_13 FQ_13 FA_13 FE_13 FY_13 FC_13 FD_13; clear hb p0 p1 p2 p3 p4 pf0 pf1 pf2 pf3 pf4 pl v0 v1 vf0 vf1 vl)
  obtain ⟨v0, v1, vf0, vf1, vl⟩ := block2 (unhide KV_14)
  go_upto_region 13 with (go_at_call 26; refine (f_any _ 6 0).mono ?_; rintro e w15 ⟨rfl, hb⟩; have HX_15 := hide (Below.next (unhide HX_14) hb (by first | exact Nat.le_refl _ | (have := unhide HBA; omega))); have Kp_15 := hide (keep_below (unhide Kp_14) hb); have KQ_15 := hide (keep_below (unhide KQ_14) hb); have KA_15 := hide (keep_below (unhide KA_14) hb); have KF_15 := hide (keep_below (unhide KF_14) hb); have KE_15 := hide (keep_below (unhide KE_14) hb); have KG_15 := hide (keep_below (unhide KG_14) hb); have KV_15 := hide (keep_below (unhide KV_14) hb); have KC_15 := hide (keep_below (unhide KC_14) hb); have KD_15 := hide (keep_below (unhide KD_14) hb); have FQ_15 := hide ((unhide FQ_14).below hb); have FA_15 := hide ((unhide FA_14).below hb); have FE_15 := hide ((unhide FE_14).below hb); have FY_15 := hide ((unhide FY_14).below hb); have FC_15 := hide ((unhide FC_14).below hb); have FD_15 := hide ((unhide FD_14).below hb); clear HX_14 Kp_14 KQ_14 KA_14 KF_14 KE_14 KG_14 KV_14 KC_14 KD_14 FQ_14 FA_14 FE_14 FY_14 FC_14 FD_14; clear hb v0 v1 vf0 vf1 vl; obtain ⟨v0, v1, vf0, vf1, vl⟩ := block2 (unhide KV_15))
  clear v0 v1 vf0 vf1 vl
  have HX_16 := hide (put2_below (y0 := .int .i64 6) (y1 := .int .i64 0) (unhide HX_15) (show w.heap.size ≤ V by omega))
  have Kp_16 := hide ((put2_keep (y0 := .int .i64 6) (y1 := .int .i64 0) (show w.heap.size ≠ V by omega)).trans (unhide Kp_15))
  have KQ_16 := hide ((put2_keep (y0 := .int .i64 6) (y1 := .int .i64 0) (show N1 ≠ V by omega)).trans (unhide KQ_15))
  have KA_16 := hide ((put2_keep (y0 := .int .i64 6) (y1 := .int .i64 0) (show N1 + 1 ≠ V by omega)).trans (unhide KA_15))
  have KF_16 := hide ((put2_keep (y0 := .int .i64 6) (y1 := .int .i64 0) (show N1 + 1 + 1 ≠ V by omega)).trans (unhide KF_15))
  have KE_16 := hide ((put2_keep (y0 := .int .i64 6) (y1 := .int .i64 0) (show N2 ≠ V by omega)).trans (unhide KE_15))
  have KG_16 := hide ((put2_keep (y0 := .int .i64 6) (y1 := .int .i64 0) (show N2 + 1 ≠ V by omega)).trans (unhide KG_15))
  have KV_16 := hide (put2_new (y0 := .int .i64 6) (y1 := .int .i64 0) (unhide KV_15))
  have KC_16 := hide ((put2_keep (y0 := .int .i64 6) (y1 := .int .i64 0) (show N3 ≠ V by omega)).trans (unhide KC_15))
  have KD_16 := hide ((put2_keep (y0 := .int .i64 6) (y1 := .int .i64 0) (show N3 + 1 ≠ V by omega)).trans (unhide KD_15))
  have HY9 := hide (Since.put2 (y0 := .int .i64 6) (y1 := .int .i64 0) (unhide FY_15) hVB)
  obtain ⟨W16, e16⟩ : ∃ X, put2 w15 V (.int .i64 6) (.int .i64 0) = X := ⟨_, rfl⟩
  rw [e16] at HX_16 Kp_16 KQ_16 KA_16 KF_16 KE_16 KG_16 KV_16 KC_16 KD_16 HY9
  have e17 : (w15.setCell ⟨V, 0, none⟩ (.int .i64 6)).setCell ⟨V, 1, none⟩ (.int .i64 0) = W16 := e16
  rw [e17]
  clear e16 e17
  have HEk := hide (IsPipe.below (unhide HE9) (by have h0 := (unhide HY9).1; rw [← unhide HB9E] at h0; exact h0))
  have HSS : Hid (∀ W, Below W16.heap.size W16 W → (W.cell? ⟨N2, 0, none⟩ = some (.int .i64 cap3) ∧ W.cell? ⟨N2, 1, none⟩ = some (.slice x3 items3.length y3) ∧ W.cell? ⟨N2, 2, none⟩ = some (.bool closed3) ∧ W.cell? ⟨N2, 3, none⟩ = some (.slice xs3 ss3.length ys3) ∧ W.cell? ⟨N2, 4, none⟩ = some (.slice xg3 gs3.length yg3)) ∧ (W.cell? ⟨N2 + 1, 0, none⟩ = some (.int .i64 6) ∧ W.cell? ⟨N2 + 1, 1, none⟩ = some (.int .i64 0)) ∧ (W.cell? ⟨V, 0, none⟩ = some (.int .i64 6) ∧ W.cell? ⟨V, 1, none⟩ = some (.int .i64 0)) ∧ (W.cell? ⟨w.heap.size, 0, none⟩ = some (.int .i64 cap) ∧ W.cell? ⟨w.heap.size, 1, none⟩ = some (.slice a1 n1 c1) ∧ W.cell? ⟨w.heap.size, 2, none⟩ = some (.bool closed) ∧ W.cell? ⟨w.heap.size, 3, none⟩ = some (.slice a2 n2 c2) ∧ W.cell? ⟨w.heap.size, 4, none⟩ = some (.slice a3 n3 c3)) ∧ Below W16.heap.size W16 W) := fun W hW =>
    ⟨(block5 (keep_below (unhide KE_16) hW)).1, ⟨(block2 (keep_below (unhide KG_16) hW)).1, (block2 (keep_below (unhide KG_16) hW)).2.1⟩, ⟨(block2 (keep_below (unhide KV_16) hW)).1, (block2 (keep_below (unhide KV_16) hW)).2.1⟩, (block5 (keep_below (unhide Kp_16) hW)).1, hW⟩
  go_wp2_with fail
  go_region_held3 (fun W => (W.cell? ⟨N2, 0, none⟩ = some (.int .i64 cap3) ∧ W.cell? ⟨N2, 1, none⟩ = some (.slice x3 items3.length y3) ∧ W.cell? ⟨N2, 2, none⟩ = some (.bool closed3) ∧ W.cell? ⟨N2, 3, none⟩ = some (.slice xs3 ss3.length ys3) ∧ W.cell? ⟨N2, 4, none⟩ = some (.slice xg3 gs3.length yg3)) ∧ (W.cell? ⟨N2 + 1, 0, none⟩ = some (.int .i64 6) ∧ W.cell? ⟨N2 + 1, 1, none⟩ = some (.int .i64 0)) ∧ (W.cell? ⟨V, 0, none⟩ = some (.int .i64 6) ∧ W.cell? ⟨V, 1, none⟩ = some (.int .i64 0)) ∧ (W.cell? ⟨w.heap.size, 0, none⟩ = some (.int .i64 cap) ∧ W.cell? ⟨w.heap.size, 1, none⟩ = some (.slice a1 n1 c1) ∧ W.cell? ⟨w.heap.size, 2, none⟩ = some (.bool closed) ∧ W.cell? ⟨w.heap.size, 3, none⟩ = some (.slice a2 n2 c2) ∧ W.cell? ⟨w.heap.size, 4, none⟩ = some (.slice a3 n3 c3)) ∧ Below W16.heap.size W16 W)
    (first | with_reducible exact unhide HSS _ (Below.refl _ _).drew | with_reducible exact unhide HSS _ (unhide HZ))
    (first
      | (go_at_call 27; (with_reducible refine Calls.mono (unhide HGS _ _ (IsL.below (unhide HS) (Below.next (unhide HX_16) (Below.refl _ _).drew (Nat.le_refl _)))) ?_); rintro e w20 ⟨xa, ya, rfl, hla, hba⟩; have HLA := hide hla; have HZ : Hid (Below W16.heap.size W16 w20) := Below.next (Below.refl _ _).drew hba (Nat.le_refl _); clear hla hba)
      | (go_at_call 27; (with_reducible refine Calls.mono (unhide HGG _ _ (IsL.below (unhide HG) (Below.next (unhide HX_16) (unhide HZ) (Nat.le_refl _)))) ?_); rintro e w21 ⟨xb, yb, rfl, hlb, hbb⟩; have HLB := hide hlb; have HLA2 := hide ((unhide HLA).below hbb); have HZ2 : Hid (Below W16.heap.size W16 w21) := Below.next (unhide HZ) hbb (Nat.le_refl _); clear HZ hlb hbb HLA; have HZ := HZ2; clear HZ2)
      | (go_at_call 18; refine (pipeAs_any _ _ _ _ _ ⟨cap3, items3, closed3, ss3, gs3⟩ ⟨cap, items, closed, LS, LG⟩ zeroA zeroA 6 0 ((unhide HEk).below (unhide HZ)) (zero_newans w.heap.size _).ans ⟨_, _, _, rfl, (unhide HI).below (Below.next (unhide HX_16) (unhide HZ) (Nat.le_refl _)), unhide HLA2, unhide HLB⟩ (zero_newans w.heap.size _).ans (unhide HQ2) (by decide) (fun h => absurd h (by decide)) (fun _ => ⟨unhide HE3, rfl⟩)).mono ?_; rintro e w22 ⟨rfl, hb22⟩; have HZ3 : Hid (Below W16.heap.size W16 w22) := Below.next (unhide HZ) hb22 (Nat.le_refl _); clear HZ hb22; have HZ := HZ3; clear HZ3))
  go_wp2_with fail
  go_ret
  exact ⟨rfl, Below.next (unhide HX_16) (unhide HZ) (Nat.le_refl _)⟩

end Go.Proofs.Ytijogcjocandcaa
