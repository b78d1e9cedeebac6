/-
  pipe.Shut.
-/
import Derived.Test.YtijogcjocandcaaSa
namespace Go.Proofs.Ytijogcjocandcaa
open Go.RowKit

set_option maxRecDepth 100000 in
set_option maxHeartbeats 1000000 in
theorem shut_fault (w : World) (v : Value) (P : Pp)  (h : IsPipe w v P) (hs : Short P) (F0 F1 : Int) (hf : pipeF P = (F0, F1)) (hF : F0 ≠ 0) :
    Calls Try.prog 22 #[v] w fun e w' => ∃ v1 v2, e = .returned (.tuple #[v1, v2, .agg #[.int .i64 F0, .int .i64 F1]]) ∧ NewPipe w.heap.size w' v1 zeroP ∧ NewAns w.heap.size w' v2 zeroA ∧ Below w.heap.size w w' := by
  have hF1 : (F0 != 0) = true := by simpa using hF
  obtain ⟨cap, items, closed, ss, gs⟩ := P
  have HCT : Hid (∀ W, Below w.heap.size w W → Calls Try.prog 12 #[v] W fun e w' => e = .returned (.agg #[.int .i64 F0, .int .i64 F1]) ∧ Below W.heap.size W w') := fun W hW => by
    have := check_any W v _ (h.below hW) hs
    rw [hf] at this
    exact this
  have HV := hide h; have HSH := hide hs
  obtain ⟨a1, c1, a2, c2, a3, c3, ev, -, -, -⟩ := h.form
  simp only at ev
  generalize items.length = n1 at ev
  generalize ss.length = n2 at ev
  generalize gs.length = n3 at ev
  subst ev
  obtain ⟨W0, e0, hB, k0, k1, k2, k3⟩ := four_new w (.cells #[.int .i64 cap, .slice a1 n1 c1, .bool closed, .slice a2 n2 c2, .slice a3 n3 c3] 25) (.cells #[.int .i64 0, .slice none 0 0, .bool false, .slice none 0 0, .slice none 0 0] 25) (.cells #[.bool false, .bool false, .bool false, .int .i64 0, .int .i64 0, .slice none 0 0] 34) (.cells #[.int .i64 0, .int .i64 0] 30)
  have HB := hide hB; have HK0 := hide k0; have HK1 := hide k1; have HK2 := hide k2; have HK3 := hide k3; have HE := hide e0
  clear hB k0 k1 k2 k3 e0 h hs hf
  go_enter Try.func22, Try.ntmps22
  go_upto_region 1 with fail
  rw [unhide HE]
  clear HE
  obtain ⟨⟨p0, p1, p2, p3, p4⟩, -, pl⟩ := block5 (unhide HK0)
  go_upto_region 2 with (go_at_call 12; refine (unhide HCT _ (unhide HB)).mono ?_; rintro e w1 ⟨rfl, hb1⟩; have HX1 := hide hb1; clear hb1 p0 p1 p2 p3 p4 pl)
  have HB2 := hide ((Below.next (unhide HB) (unhide HX1) (Nat.le_refl _)).alloc (Nat.le_trans (unhide HB).size (unhide HX1).size) (.cells #[.int .i64 F0, .int .i64 F1] 30))
  have HJ0 := hide (keep_alloc (keep_below (unhide HK0) (unhide HX1)) (.cells #[.int .i64 F0, .int .i64 F1] 30))
  have HJ1 := hide (keep_alloc (keep_below (unhide HK1) (unhide HX1)) (.cells #[.int .i64 F0, .int .i64 F1] 30))
  have HJ2 := hide (keep_alloc (keep_below (unhide HK2) (unhide HX1)) (.cells #[.int .i64 F0, .int .i64 F1] 30))
  have HJ3 := hide (keep_alloc (keep_below (unhide HK3) (unhide HX1)) (.cells #[.int .i64 F0, .int .i64 F1] 30))
  have HT := hide (new_block w1 (.cells #[.int .i64 F0, .int .i64 F1] 30))
  have hTl : w.heap.size + 1 + 1 + 1 < w1.heap.size := Nat.lt_of_lt_of_le (block2 (unhide HK3)).2.2.2.2 (unhide HX1).size
  obtain ⟨T, eT⟩ : ∃ T, w1.heap.size = T := ⟨_, rfl⟩
  obtain ⟨W2, eW⟩ : ∃ W, w1.alloc (.cells #[.int .i64 F0, .int .i64 F1] 30) = W := ⟨_, rfl⟩
  rw [eT, eW] at HT; rw [eW] at HB2 HJ0 HJ1 HJ2 HJ3; rw [eT] at hTl; rw [eT, eW]
  clear eT eW HK0 HK1 HK2 HK3 HX1 HB HCT
  obtain ⟨⟨p0, p1, p2, p3, p4⟩, -, pl⟩ := block5 (unhide HJ0)
  obtain ⟨⟨q0, q1, q2, q3, q4⟩, ⟨f0, f1, f2, f3, f4⟩, ql⟩ := block5 (unhide HJ1)
  obtain ⟨⟨s0, s1, s2, s3, s4, s5⟩, ⟨g0, g1, g2, g3, g4, g5⟩, sl⟩ := block6 (unhide HJ2)
  obtain ⟨r0, r1, d0, d1, rl⟩ := block2 (unhide HJ3)
  obtain ⟨t0, t1, -, -, tl⟩ := block2 (unhide HT)
  have u0 : T ≠ w.heap.size + 1 := by omega
  have u1 : w.heap.size + 1 ≠ T := by omega
  have u2 : T ≠ w.heap.size + 1 + 1 := by omega
  have u3 : w.heap.size + 1 + 1 ≠ T := by omega
  have u4 : T ≠ w.heap.size + 1 + 1 + 1 := by omega
  have u5 : w.heap.size + 1 + 1 + 1 ≠ T := by omega
  go_wp2_with fail
  go_region
  obtain ⟨Wf, ef⟩ : ∃ W, (put2 (put6 (put5 W2 (w.heap.size + 1) (.int .i64 0) (.slice none 0 0) (.bool false) (.slice none 0 0) (.slice none 0 0)) (w.heap.size + 1 + 1) (.bool false) (.bool false) (.bool false) (.int .i64 0) (.int .i64 0) (.slice none 0 0)) (w.heap.size + 1 + 1 + 1) (.int .i64 F0) (.int .i64 F1)).drew = W := ⟨_, rfl⟩
  have H5 := hide (keep_below ((put2_keep (y0 := .int .i64 F0) (y1 := .int .i64 F1) (show w.heap.size + 1 ≠ w.heap.size + 1 + 1 + 1 by omega)).trans ((put6_keep (y0 := .bool false) (y1 := .bool false) (y2 := .bool false) (y3 := .int .i64 0) (y4 := .int .i64 0) (y5 := .slice none 0 0) (show w.heap.size + 1 ≠ w.heap.size + 1 + 1 by omega)).trans (put5_new (y0 := .int .i64 0) (y1 := .slice none 0 0) (y2 := .bool false) (y3 := .slice none 0 0) (y4 := .slice none 0 0) (unhide HJ1)))) (Below.refl _ _).drew)
  have H6 := hide (keep_below ((put2_keep (y0 := .int .i64 F0) (y1 := .int .i64 F1) (show w.heap.size + 1 + 1 ≠ w.heap.size + 1 + 1 + 1 by omega)).trans (put6_new (y0 := .bool false) (y1 := .bool false) (y2 := .bool false) (y3 := .int .i64 0) (y4 := .int .i64 0) (y5 := .slice none 0 0) ((put5_keep (y0 := .int .i64 0) (y1 := .slice none 0 0) (y2 := .bool false) (y3 := .slice none 0 0) (y4 := .slice none 0 0) (show w.heap.size + 1 + 1 ≠ w.heap.size + 1 by omega)).trans (unhide HJ2)))) (Below.refl _ _).drew)
  have H2 := hide (keep_below (put2_new (y0 := .int .i64 F0) (y1 := .int .i64 F1) ((put6_keep (y0 := .bool false) (y1 := .bool false) (y2 := .bool false) (y3 := .int .i64 0) (y4 := .int .i64 0) (y5 := .slice none 0 0) (show w.heap.size + 1 + 1 + 1 ≠ w.heap.size + 1 + 1 by omega)).trans ((put5_keep (y0 := .int .i64 0) (y1 := .slice none 0 0) (y2 := .bool false) (y3 := .slice none 0 0) (y4 := .slice none 0 0) (show w.heap.size + 1 + 1 + 1 ≠ w.heap.size + 1 by omega)).trans (unhide HJ3)))) (Below.refl _ _).drew)
  have HBf : Hid (Below w.heap.size w (put2 (put6 (put5 W2 (w.heap.size + 1) (.int .i64 0) (.slice none 0 0) (.bool false) (.slice none 0 0) (.slice none 0 0)) (w.heap.size + 1 + 1) (.bool false) (.bool false) (.bool false) (.int .i64 0) (.int .i64 0) (.slice none 0 0)) (w.heap.size + 1 + 1 + 1) (.int .i64 F0) (.int .i64 F1)).drew) := (put2_below (put6_below (put5_below (unhide HB2) (by omega)) (by omega)) (by omega)).drew
  have HKf : Hid (∀ k, k ≠ w.heap.size + 1 → k ≠ w.heap.size + 1 + 1 → k ≠ w.heap.size + 1 + 1 + 1 → ((put2 (put6 (put5 W2 (w.heap.size + 1) (.int .i64 0) (.slice none 0 0) (.bool false) (.slice none 0 0) (.slice none 0 0)) (w.heap.size + 1 + 1) (.bool false) (.bool false) (.bool false) (.int .i64 0) (.int .i64 0) (.slice none 0 0)) (w.heap.size + 1 + 1 + 1) (.int .i64 F0) (.int .i64 F1)).drew).heap[k]? = W2.heap[k]?) := fun k h5 h6 h2 => (drew_at _ k).trans ((put2_keep h2).trans ((put6_keep h6).trans (put5_keep h5)))
  rw [ef] at H5 H6 H2 HBf HKf
  have ef2 : ((((((((((((((W2).setCell ⟨w.heap.size + 1, 0, none⟩ (.int .i64 0)).setCell ⟨w.heap.size + 1, 1, none⟩ (.slice none 0 0)).setCell ⟨w.heap.size + 1, 2, none⟩ (.bool false)).setCell ⟨w.heap.size + 1, 3, none⟩ (.slice none 0 0)).setCell ⟨w.heap.size + 1, 4, none⟩ (.slice none 0 0)).setCell ⟨w.heap.size + 1 + 1, 0, none⟩ (.bool false)).setCell ⟨w.heap.size + 1 + 1, 1, none⟩ (.bool false)).setCell ⟨w.heap.size + 1 + 1, 2, none⟩ (.bool false)).setCell ⟨w.heap.size + 1 + 1, 3, none⟩ (.int .i64 0)).setCell ⟨w.heap.size + 1 + 1, 4, none⟩ (.int .i64 0)).setCell ⟨w.heap.size + 1 + 1, 5, none⟩ (.slice none 0 0)).setCell ⟨w.heap.size + 1 + 1 + 1, 0, none⟩ (.int .i64 F0)).setCell ⟨w.heap.size + 1 + 1 + 1, 1, none⟩ (.int .i64 F1)).drew = Wf := ef
  rw [ef2]
  clear ef ef2
  clear p0 p1 p2 p3 p4 pl q0 q1 q2 q3 q4 f0 f1 f2 f3 f4 ql s0 s1 s2 s3 s4 s5 g0 g1 g2 g3 g4 g5 sl r0 r1 d0 d1 rl t0 t1 tl
  obtain ⟨⟨q0, q1, q2, q3, q4⟩, -, -⟩ := block5 (unhide H5)
  obtain ⟨⟨s0, s1, s2, s3, s4, s5⟩, -, -⟩ := block6 (unhide H6)
  obtain ⟨r0, r1, -, -, -⟩ := block2 (unhide H2)
  go_wp2_with fail
  exact bodyPost_ret (v := .tuple #[.agg #[.int .i64 0, .slice none 0 0, .bool false, .slice none 0 0, .slice none 0 0], .agg #[.bool false, .bool false, .bool false, .int .i64 0, .int .i64 0, .slice none 0 0], .agg #[.int .i64 F0, .int .i64 F1]]) (by simp [results, Try.results22, go_sem, q0, q1, q2, q3, q4, s0, s1, s2, s3, s4, s5, r0, r1]) rfl ⟨_, _, rfl, zero_newpipe _ _, zero_newans _ _, unhide HBf⟩

set_option maxRecDepth 100000 in
set_option maxHeartbeats 1000000 in
theorem shut_do (w : World) (v : Value) (P : Pp)  (h : IsPipe w v P) (hs : Short P) (hf : pipeF P = (0, 0)) (P' : Pp) (A' : An)
    (hd : ∀ W base v', OwnPipe base W v' P → base ≤ W.heap.size → Calls Try.prog 43 #[v'] W fun e w' => ∃ v1 v2, e = .returned (.tuple #[v1, v2]) ∧ NewPipe base w' v1 P' ∧ NewAns base w' v2 A' ∧ Below base W w') :
    Calls Try.prog 22 #[v] w fun e w' => ∃ v1 v2, e = .returned (.tuple #[v1, v2, .agg #[.int .i64 0, .int .i64 0]]) ∧ NewPipe w.heap.size w' v1 P' ∧ NewAns w.heap.size w' v2 A' ∧ Below w.heap.size w w' := by
  obtain ⟨cap9, items9, closed9, ss9, gs9⟩ := P'
  obtain ⟨o0, o1, o2, o3, o4, wk9⟩ := A'
  have HD := hide hd
  clear hd
  obtain ⟨cap, items, closed, ss, gs⟩ := P
  have HCT : Hid (∀ W, Below w.heap.size w W → Calls Try.prog 12 #[v] W fun e w' => e = .returned (.agg #[.int .i64 0, .int .i64 0]) ∧ Below W.heap.size W w') := fun W hW => by
    have := check_any W v _ (h.below hW) hs
    rw [hf] at this
    exact this
  have HV := hide h; have HSH := hide hs
  obtain ⟨a1, c1, a2, c2, a3, c3, ev, -, -, -⟩ := h.form
  simp only at ev
  generalize items.length = n1 at ev
  generalize ss.length = n2 at ev
  generalize gs.length = n3 at ev
  subst ev
  obtain ⟨W0, e0, hB, k0, k1, k2, k3⟩ := four_new w (.cells #[.int .i64 cap, .slice a1 n1 c1, .bool closed, .slice a2 n2 c2, .slice a3 n3 c3] 25) (.cells #[.int .i64 0, .slice none 0 0, .bool false, .slice none 0 0, .slice none 0 0] 25) (.cells #[.bool false, .bool false, .bool false, .int .i64 0, .int .i64 0, .slice none 0 0] 34) (.cells #[.int .i64 0, .int .i64 0] 30)
  have HB := hide hB; have HK0 := hide k0; have HK1 := hide k1; have HK2 := hide k2; have HK3 := hide k3; have HE := hide e0
  clear hB k0 k1 k2 k3 e0 h hs hf
  go_enter Try.func22, Try.ntmps22
  go_upto_region 1 with fail
  rw [unhide HE]
  clear HE
  obtain ⟨⟨p0, p1, p2, p3, p4⟩, -, pl⟩ := block5 (unhide HK0)
  go_upto_region 2 with (go_at_call 12; refine (unhide HCT _ (unhide HB)).mono ?_; rintro e w1 ⟨rfl, hb1⟩; have HX1 := hide hb1; clear hb1 p0 p1 p2 p3 p4 pl)
  have HB2 := hide ((Below.next (unhide HB) (unhide HX1) (Nat.le_refl _)).alloc (Nat.le_trans (unhide HB).size (unhide HX1).size) (.cells #[.int .i64 0, .int .i64 0] 30))
  have HJ0 := hide (keep_alloc (keep_below (unhide HK0) (unhide HX1)) (.cells #[.int .i64 0, .int .i64 0] 30))
  have HJ1 := hide (keep_alloc (keep_below (unhide HK1) (unhide HX1)) (.cells #[.int .i64 0, .int .i64 0] 30))
  have HJ2 := hide (keep_alloc (keep_below (unhide HK2) (unhide HX1)) (.cells #[.int .i64 0, .int .i64 0] 30))
  have HJ3 := hide (keep_alloc (keep_below (unhide HK3) (unhide HX1)) (.cells #[.int .i64 0, .int .i64 0] 30))
  have HT := hide (new_block w1 (.cells #[.int .i64 0, .int .i64 0] 30))
  have hTl : w.heap.size + 1 + 1 + 1 < w1.heap.size := Nat.lt_of_lt_of_le (block2 (unhide HK3)).2.2.2.2 (unhide HX1).size
  obtain ⟨T, eT⟩ : ∃ T, w1.heap.size = T := ⟨_, rfl⟩
  obtain ⟨W2, eW⟩ : ∃ W, w1.alloc (.cells #[.int .i64 0, .int .i64 0] 30) = W := ⟨_, rfl⟩
  rw [eT, eW] at HT; rw [eW] at HB2 HJ0 HJ1 HJ2 HJ3; rw [eT] at hTl; rw [eT, eW]
  clear eT eW HK0 HK1 HK2 HK3 HX1 HB HCT
  obtain ⟨⟨p0, p1, p2, p3, p4⟩, -, pl⟩ := block5 (unhide HJ0)
  obtain ⟨⟨q0, q1, q2, q3, q4⟩, ⟨f0, f1, f2, f3, f4⟩, ql⟩ := block5 (unhide HJ1)
  obtain ⟨⟨s0, s1, s2, s3, s4, s5⟩, ⟨g0, g1, g2, g3, g4, g5⟩, sl⟩ := block6 (unhide HJ2)
  obtain ⟨r0, r1, d0, d1, rl⟩ := block2 (unhide HJ3)
  obtain ⟨t0, t1, -, -, tl⟩ := block2 (unhide HT)
  go_upto_region 5 with (first
    | (go_at_call 39; refine (fresh_any _ _ _ (IsPipe.below (unhide HV) (unhide HB2)) (unhide HSH)).mono ?_; rintro e w3 ⟨v3, rfl, ho3, hb3⟩; have HO3 := hide ho3; have HX3 := hide hb3; clear ho3 hb3 p0 p1 p2 p3 p4 pl q0 q1 q2 q3 q4 f0 f1 f2 f3 f4 ql s0 s1 s2 s3 s4 s5 g0 g1 g2 g3 g4 g5 sl r0 r1 d0 d1 rl t0 t1 tl)
    | (go_at_call 43; refine (unhide HD _ _ _ (unhide HO3) (unhide HX3).size).mono ?_; rintro e w4 ⟨v4, v5, rfl, hp4, ha4, hb4⟩; obtain ⟨b1, e1, b2, e2, b3, e3, rfl, i1, i2, i3⟩ := NewPipe.form' hp4; obtain ⟨b4, e4, rfl, i4⟩ := NewAns.form' ha4; have HI1 := hide i1; have HI2 := hide i2; have HI3 := hide i3; have HI4 := hide i4; have HX4 := hide (Below.trans (unhide HX3) hb4); clear hp4 ha4 hb4 i1 i2 i3 i4; (generalize items9.length = m1, ss9.length = m2, gs9.length = m3, wk9.length = m4 at *)))
  have HB4 := hide (Below.next (unhide HB2) (unhide HX4) (Nat.le_refl _))
  have HL1 := hide (keep_alloc (keep_alloc (keep_below (unhide HJ1) (unhide HX4)) (.cells #[.int .i64 cap9, .slice b1 m1 e1, .bool closed9, .slice b2 m2 e2, .slice b3 m3 e3] 25)) (.cells #[.bool o0, .bool o1, .bool o2, .int .i64 o3, .int .i64 o4, .slice b4 m4 e4] 34))
  have HL2 := hide (keep_alloc (keep_alloc (keep_below (unhide HJ2) (unhide HX4)) (.cells #[.int .i64 cap9, .slice b1 m1 e1, .bool closed9, .slice b2 m2 e2, .slice b3 m3 e3] 25)) (.cells #[.bool o0, .bool o1, .bool o2, .int .i64 o3, .int .i64 o4, .slice b4 m4 e4] 34))
  have HL3 := hide (keep_alloc (keep_alloc (keep_below (unhide HJ3) (unhide HX4)) (.cells #[.int .i64 cap9, .slice b1 m1 e1, .bool closed9, .slice b2 m2 e2, .slice b3 m3 e3] 25)) (.cells #[.bool o0, .bool o1, .bool o2, .int .i64 o3, .int .i64 o4, .slice b4 m4 e4] 34))
  have HV2 := hide (keep_alloc (new_block w4 (.cells #[.int .i64 cap9, .slice b1 m1 e1, .bool closed9, .slice b2 m2 e2, .slice b3 m3 e3] 25)) (.cells #[.bool o0, .bool o1, .bool o2, .int .i64 o3, .int .i64 o4, .slice b4 m4 e4] 34))
  have HV3 := hide (new_block (w4.alloc (.cells #[.int .i64 cap9, .slice b1 m1 e1, .bool closed9, .slice b2 m2 e2, .slice b3 m3 e3] 25)) (.cells #[.bool o0, .bool o1, .bool o2, .int .i64 o3, .int .i64 o4, .slice b4 m4 e4] 34))
  have HB5 := hide (((unhide HB4).alloc (unhide HB4).size (.cells #[.int .i64 cap9, .slice b1 m1 e1, .bool closed9, .slice b2 m2 e2, .slice b3 m3 e3] 25)).alloc (Nat.le_trans (unhide HB4).size (by simp)) (.cells #[.bool o0, .bool o1, .bool o2, .int .i64 o3, .int .i64 o4, .slice b4 m4 e4] 34))
  have HJ5 : Hid (Below w4.heap.size w4 ((w4.alloc (.cells #[.int .i64 cap9, .slice b1 m1 e1, .bool closed9, .slice b2 m2 e2, .slice b3 m3 e3] 25)).alloc (.cells #[.bool o0, .bool o1, .bool o2, .int .i64 o3, .int .i64 o4, .slice b4 m4 e4] 34))) := ((Below.refl _ _).alloc (Nat.le_refl _) _).alloc (by simp) _
  rw [World.size_alloc] at HV3
  have hU : T < w4.heap.size := Nat.lt_of_lt_of_le (block2 (unhide HT)).2.2.2.2 (unhide HX4).size
  have hU2 : T < W2.heap.size := (block2 (unhide HT)).2.2.2.2
  have HU3 := hide (unhide HX4).size
  obtain ⟨T2, eT2⟩ : ∃ T, w4.heap.size = T := ⟨_, rfl⟩
  obtain ⟨W5, eW5⟩ : ∃ W, (w4.alloc (.cells #[.int .i64 cap9, .slice b1 m1 e1, .bool closed9, .slice b2 m2 e2, .slice b3 m3 e3] 25)).alloc (.cells #[.bool o0, .bool o1, .bool o2, .int .i64 o3, .int .i64 o4, .slice b4 m4 e4] 34) = W := ⟨_, rfl⟩
  rw [eT2, eW5] at HV2 HV3; rw [eW5] at HL1 HL2 HL3 HB5 HJ5; rw [eT2] at hU; rw [eT2, eW5]
  clear eT2 eW5
  obtain ⟨⟨p0, p1, p2, p3, p4⟩, -, pl⟩ := block5 (unhide HV2)
  obtain ⟨⟨x0, x1, x2, x3, x4, x5⟩, -, xl⟩ := block6 (unhide HV3)
  obtain ⟨⟨q0, q1, q2, q3, q4⟩, ⟨f0, f1, f2, f3, f4⟩, ql⟩ := block5 (unhide HL1)
  obtain ⟨⟨s0, s1, s2, s3, s4, s5⟩, ⟨g0, g1, g2, g3, g4, g5⟩, sl⟩ := block6 (unhide HL2)
  obtain ⟨r0, r1, d0, d1, rl⟩ := block2 (unhide HL3)
  have u0 : T2 ≠ w.heap.size + 1 := by omega
  have u1 : w.heap.size + 1 ≠ T2 := by omega
  have u2 : T2 ≠ w.heap.size + 1 + 1 := by omega
  have u3 : w.heap.size + 1 + 1 ≠ T2 := by omega
  have u4 : T2 ≠ w.heap.size + 1 + 1 + 1 := by omega
  have u5 : w.heap.size + 1 + 1 + 1 ≠ T2 := by omega
  have k0 : (T2 + 1) ≠ w.heap.size + 1 := by omega
  have k1 : w.heap.size + 1 ≠ (T2 + 1) := by omega
  have k2 : (T2 + 1) ≠ w.heap.size + 1 + 1 := by omega
  have k3 : w.heap.size + 1 + 1 ≠ (T2 + 1) := by omega
  have k4 : (T2 + 1) ≠ w.heap.size + 1 + 1 + 1 := by omega
  have k5 : w.heap.size + 1 + 1 + 1 ≠ (T2 + 1) := by omega
  go_wp2_with fail
  go_region
  obtain ⟨Wf, ef⟩ : ∃ W, (put2 (put6 (put5 W5 (w.heap.size + 1) (.int .i64 cap9) (.slice b1 m1 e1) (.bool closed9) (.slice b2 m2 e2) (.slice b3 m3 e3)) (w.heap.size + 1 + 1) (.bool o0) (.bool o1) (.bool o2) (.int .i64 o3) (.int .i64 o4) (.slice b4 m4 e4)) (w.heap.size + 1 + 1 + 1) (.int .i64 0) (.int .i64 0)).drew = W := ⟨_, rfl⟩
  have H5 := hide (keep_below ((put2_keep (y0 := .int .i64 0) (y1 := .int .i64 0) (show w.heap.size + 1 ≠ w.heap.size + 1 + 1 + 1 by omega)).trans ((put6_keep (y0 := .bool o0) (y1 := .bool o1) (y2 := .bool o2) (y3 := .int .i64 o3) (y4 := .int .i64 o4) (y5 := .slice b4 m4 e4) (show w.heap.size + 1 ≠ w.heap.size + 1 + 1 by omega)).trans (put5_new (y0 := .int .i64 cap9) (y1 := .slice b1 m1 e1) (y2 := .bool closed9) (y3 := .slice b2 m2 e2) (y4 := .slice b3 m3 e3) (unhide HL1)))) (Below.refl _ _).drew)
  have H6 := hide (keep_below ((put2_keep (y0 := .int .i64 0) (y1 := .int .i64 0) (show w.heap.size + 1 + 1 ≠ w.heap.size + 1 + 1 + 1 by omega)).trans (put6_new (y0 := .bool o0) (y1 := .bool o1) (y2 := .bool o2) (y3 := .int .i64 o3) (y4 := .int .i64 o4) (y5 := .slice b4 m4 e4) ((put5_keep (y0 := .int .i64 cap9) (y1 := .slice b1 m1 e1) (y2 := .bool closed9) (y3 := .slice b2 m2 e2) (y4 := .slice b3 m3 e3) (show w.heap.size + 1 + 1 ≠ w.heap.size + 1 by omega)).trans (unhide HL2)))) (Below.refl _ _).drew)
  have H2 := hide (keep_below (put2_new (y0 := .int .i64 0) (y1 := .int .i64 0) ((put6_keep (y0 := .bool o0) (y1 := .bool o1) (y2 := .bool o2) (y3 := .int .i64 o3) (y4 := .int .i64 o4) (y5 := .slice b4 m4 e4) (show w.heap.size + 1 + 1 + 1 ≠ w.heap.size + 1 + 1 by omega)).trans ((put5_keep (y0 := .int .i64 cap9) (y1 := .slice b1 m1 e1) (y2 := .bool closed9) (y3 := .slice b2 m2 e2) (y4 := .slice b3 m3 e3) (show w.heap.size + 1 + 1 + 1 ≠ w.heap.size + 1 by omega)).trans (unhide HL3)))) (Below.refl _ _).drew)
  have HBf : Hid (Below w.heap.size w (put2 (put6 (put5 W5 (w.heap.size + 1) (.int .i64 cap9) (.slice b1 m1 e1) (.bool closed9) (.slice b2 m2 e2) (.slice b3 m3 e3)) (w.heap.size + 1 + 1) (.bool o0) (.bool o1) (.bool o2) (.int .i64 o3) (.int .i64 o4) (.slice b4 m4 e4)) (w.heap.size + 1 + 1 + 1) (.int .i64 0) (.int .i64 0)).drew) := (put2_below (put6_below (put5_below (unhide HB5) (by omega)) (by omega)) (by omega)).drew
  have HKf : Hid (∀ k, k ≠ w.heap.size + 1 → k ≠ w.heap.size + 1 + 1 → k ≠ w.heap.size + 1 + 1 + 1 → ((put2 (put6 (put5 W5 (w.heap.size + 1) (.int .i64 cap9) (.slice b1 m1 e1) (.bool closed9) (.slice b2 m2 e2) (.slice b3 m3 e3)) (w.heap.size + 1 + 1) (.bool o0) (.bool o1) (.bool o2) (.int .i64 o3) (.int .i64 o4) (.slice b4 m4 e4)) (w.heap.size + 1 + 1 + 1) (.int .i64 0) (.int .i64 0)).drew).heap[k]? = W5.heap[k]?) := fun k h5 h6 h2 => (drew_at _ k).trans ((put2_keep h2).trans ((put6_keep h6).trans (put5_keep h5)))
  rw [ef] at H5 H6 H2 HBf HKf
  have ef2 : ((((((((((((((W5).setCell ⟨w.heap.size + 1, 0, none⟩ (.int .i64 cap9)).setCell ⟨w.heap.size + 1, 1, none⟩ (.slice b1 m1 e1)).setCell ⟨w.heap.size + 1, 2, none⟩ (.bool closed9)).setCell ⟨w.heap.size + 1, 3, none⟩ (.slice b2 m2 e2)).setCell ⟨w.heap.size + 1, 4, none⟩ (.slice b3 m3 e3)).setCell ⟨w.heap.size + 1 + 1, 0, none⟩ (.bool o0)).setCell ⟨w.heap.size + 1 + 1, 1, none⟩ (.bool o1)).setCell ⟨w.heap.size + 1 + 1, 2, none⟩ (.bool o2)).setCell ⟨w.heap.size + 1 + 1, 3, none⟩ (.int .i64 o3)).setCell ⟨w.heap.size + 1 + 1, 4, none⟩ (.int .i64 o4)).setCell ⟨w.heap.size + 1 + 1, 5, none⟩ (.slice b4 m4 e4)).setCell ⟨w.heap.size + 1 + 1 + 1, 0, none⟩ (.int .i64 0)).setCell ⟨w.heap.size + 1 + 1 + 1, 1, none⟩ (.int .i64 0)).drew = Wf := ef
  rw [ef2]
  clear ef ef2
  clear p0 p1 p2 p3 p4 pl x0 x1 x2 x3 x4 x5 xl q0 q1 q2 q3 q4 f0 f1 f2 f3 f4 ql s0 s1 s2 s3 s4 s5 g0 g1 g2 g3 g4 g5 sl r0 r1 d0 d1 rl
  obtain ⟨⟨q0, q1, q2, q3, q4⟩, -, -⟩ := block5 (unhide H5)
  obtain ⟨⟨s0, s1, s2, s3, s4, s5⟩, -, -⟩ := block6 (unhide H6)
  obtain ⟨r0, r1, -, -, -⟩ := block2 (unhide H2)
  go_wp2_with fail
  refine bodyPost_ret (v := .tuple #[.agg #[.int .i64 cap9, .slice b1 m1 e1, .bool closed9, .slice b2 m2 e2, .slice b3 m3 e3], .agg #[.bool o0, .bool o1, .bool o2, .int .i64 o3, .int .i64 o4, .slice b4 m4 e4], .agg #[.int .i64 0, .int .i64 0]]) (by simp [results, Try.results22, go_sem, q0, q1, q2, q3, q4, s0, s1, s2, s3, s4, s5, r0, r1]) rfl ⟨_, _, rfl, ⟨_, _, _, rfl, ?_, ?_, ?_⟩, ⟨_, rfl, ?_⟩, unhide HBf⟩
  · exact (((unhide HI1).below (unhide HJ5)).apart ki (lo := W2.heap.size) (Nat.le_refl _) (fun k hk _ => unhide HKf k (by omega) (by omega) (by omega))).base (unhide HB2).size
  · exact (((unhide HI2).below (unhide HJ5)).apart kp (lo := W2.heap.size) (Nat.le_refl _) (fun k hk _ => unhide HKf k (by omega) (by omega) (by omega))).base (unhide HB2).size
  · exact (((unhide HI3).below (unhide HJ5)).apart kp (lo := W2.heap.size) (Nat.le_refl _) (fun k hk _ => unhide HKf k (by omega) (by omega) (by omega))).base (unhide HB2).size
  · exact (((unhide HI4).below (unhide HJ5)).apart kw (lo := W2.heap.size) (Nat.le_refl _) (fun k hk _ => unhide HKf k (by omega) (by omega) (by omega))).base (unhide HB2).size

/-- What a Shut answers. -/
def shutR (P : Pp) : Pp × An := if (pipeF P).1 = 0 then shutL P else (zeroP, zeroA)
theorem Shut_any (w : World) (v : Value) (P : Pp) (h : IsPipe w v P) (hs : Short P) :
    Calls Try.prog 22 #[v] w fun e w' => ∃ v1 v2, e = .returned (.tuple #[v1, v2, faultV (pipeF P)]) ∧ NewPipe w.heap.size w' v1 (shutR P).1 ∧ NewAns w.heap.size w' v2 (shutR P).2 ∧ Below w.heap.size w w' := by
  unfold shutR
  by_cases h0 : (pipeF P).1 = 0
  · rw [if_pos h0]
    have ht := pipeF_zero h0
    rw [ht]
    exact shut_do w v P h hs ht _ _ (fun W base v' ho hb => (shut_any W base v' P ho.new hb (Nat.le_trans (of_pipeF ht) (by decide))).mono fun e w' ⟨v1, v2, e1, e2, e3, e4⟩ => ⟨v1, v2, e1, e2, e3, e4.mono hb⟩)
  · rw [if_neg h0]
    exact shut_fault w v P h hs _ _ rfl h0
end Go.Proofs.Ytijogcjocandcaa
