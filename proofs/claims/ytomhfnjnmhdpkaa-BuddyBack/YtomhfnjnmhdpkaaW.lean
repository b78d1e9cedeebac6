/-
  buddy.Take of a space of which nothing is wrong, where there is a block and room.
-/
import Derived.Test.YtomhfnjnmhdpkaaV
namespace Go.Proofs.Ytomhfnjnmhdpkaa
open Go.RowKit

theorem new2 (w : World) (o o' : Obj) : ((w.alloc o).alloc o').heap[w.heap.size + 1]? = some o' := by
  have := new_block (w.alloc o) o'
  rw [World.size_alloc] at this
  exact this
/-- The lists that a taken block leaves rise all along. -/
theorem take_rises {u : Int} {fs : List Bl} {S0 C0 z : Int} (hr : Rise fs) (hs : Fol fs) (hf : ∀ x ∈ fs, fitB u x = true) (hm : (S0, C0) ∈ fs) (hz : 1 ≤ z) (hK : C0 ≤ (2 : Int) ^ 31) : ∀ j, Rise (insAll (noB (S0, C0) fs) ((halves z S0 31 C0).2.take j)) := by
  intro j
  obtain ⟨h1, h2, h3, h4⟩ := fit_parts (hf _ hm)
  simp only at h1 h2 h3 h4
  have hs2 := halves_spec hz 31 C0 h1 h3 hK
  refine insAll_rise (noB_rise hr) ?_ ?_
  · refine List.Pairwise.sublist (List.take_sublist _ _) ?_
    refine List.Pairwise.imp_of_mem (fun {a b} ha hb hab => ?_) hs2.desc
    have := hs2.one hb
    omega
  · intro y hy x hx
    have hy2 := List.mem_of_mem_take hy
    have h5 := hs2.inn y hy2
    have h6 := pw_pos hs2.pd
    have h7 := hs2.one hy2
    obtain ⟨g1, g2⟩ := noB_iff.1 hx
    have g3 := pw_pos (fit_parts (hf _ g1)).1
    rcases fol_sep hs hm g1 g2 with h | h <;> simp only at h <;> omega

set_option maxRecDepth 100000 in
set_option maxHeartbeats 4000000 in
theorem take_ok (w : World) (v : Value) (b : Int) (us fs : List Bl) (z : Int) (h : IsS w v b us fs) (hn : us.length ≤ 100000) (hm : fs.length ≤ 100000) (hb1 : Bnd us) (hb2 : Bnd fs) (hf : spaceF b us fs = (0, 0)) (hz1 : 1 ≤ z) (hz2 : z ≤ 1073741824) (x : Bl) (hl : leastL (asks z) fs = some x) (hq5 : us.length + fs.length + (halves z x.1 31 x.2).2.length ≤ 5000) :
    Calls Try.prog 11 #[v, .int .i64 z] w fun e w' => ∃ sv, e = .returned (.tuple #[sv, .int .i64 x.1, faultV (0, 0)]) ∧ NewS w.heap.size w' sv b (insB (x.1, (halves z x.1 31 x.2).1) us) (insAll (noB x fs) (halves z x.1 31 x.2).2) ∧ Below w.heap.size w w' := by
  have HC : Hid (∀ W, Below w.heap.size w W → Calls Try.prog 10 #[v] W fun e w' => e = .returned (faultV (0, 0)) ∧ Below W.heap.size W w') := fun W hW => by
    have := check_any W v b us fs (h.below hW) hn hm hb1 hb2
    rw [hf] at this; exact this
  obtain ⟨hg1, hg2, hg3, hg4, hg5, hg6⟩ := spaceF_good hf
  obtain ⟨hu1, hu2⟩ := pow30 hg1.1 hg1.2
  obtain ⟨a0, c0, a1, c1, rfl, hu, hfr⟩ := h.form
  have HUN : Hid (∀ W, Calls Try.prog 21 #[.int .i64 30] W fun e w' => e = .returned (.int .i64 1073741824) ∧ w' = W) := fun W => unitsOf_any W 30 (by decide) (by decide)
  have HLE : Hid (∀ W, Below w.heap.size w W → W.heap[w.heap.size + 1]? = some (.cells #[.int .i64 z] 3 (0, 0)) → Calls Try.prog 25 #[.slice a1 fs.length c1, .func (.func 26) #[] #[.pointer (some ⟨w.heap.size + 1, 0, none⟩)]] W fun e w' => e = .returned (leastV (leastL (asks z) fs)) ∧ Below W.heap.size W w') := fun W hW hk =>
    least_any W _ fs (hfr.below hW) hm 26 enters_take #[.pointer (some ⟨w.heap.size + 1, 0, none⟩)] (asks z) (fun W2 x hW2 => take1_any W2 (w.heap.size + 1) z x.1 x.2 (keep_below hk hW2))
  rw [hl] at HLE
  obtain ⟨S0, C0⟩ := x
  have hmem : (S0, C0) ∈ fs ∧ asks z (S0, C0) = true := by
    rcases leastL_mem fs none (S0, C0) hl with h1 | h1
    · cases h1
    · exact h1
  obtain ⟨hp, h0, hmo, hend⟩ := fit_parts (hg4.1 _ hmem.1)
  simp only at hp h0 hmo hend
  have hpos := pw_pos hp
  have HHA : Hid (∀ W, Calls Try.prog 27 #[.agg #[.int .i64 S0, .int .i64 C0], .int .i64 z] W fun e w' => ∃ a cp, e = .returned (.tuple #[.agg #[.int .i64 S0, .int .i64 (halves z S0 31 C0).1], .slice a (halves z S0 31 C0).2.length cp]) ∧ Own KB W.heap.size w' (.slice a (halves z S0 31 C0).2.length cp) (halves z S0 31 C0).2 ∧ Below W.heap.size W w') := fun W => halved_any W S0 C0 z 31 hp h0 (by omega) hmo hz1 (by rw [show (2 : Int) ^ 31 = 2147483648 from by decide]; omega) (by decide)
  have hql := halves_len z S0 31 C0
  simp only at hq5 ⊢
  have hpart := partN_spec _ _ _ _ hg5 (fun y hy => pw_pos (fit_parts (hg3.1 y hy)).1) (fun y hy => pw_pos (fit_parts (hg4.1 y hy)).1)
  have hris := take_rises hg4.2 hpart.fol' hg4.1 hmem.1 hz1 (by rw [show (2 : Int) ^ 31 = 2147483648 from by decide]; omega)
  obtain ⟨OC, eOC⟩ : ∃ X, (halves z S0 31 C0).1 = X := ⟨_, rfl⟩
  obtain ⟨SL, eSL⟩ : ∃ X, (halves z S0 31 C0).2 = X := ⟨_, rfl⟩
  obtain ⟨q, eq⟩ : ∃ X, SL.length = X := ⟨_, rfl⟩
  rw [eOC, eSL, eq] at HHA
  rw [eSL, eq] at hql
  have HQL := hide eq
  rw [eSL, eq] at hq5
  rw [eOC, eSL]
  rw [eSL] at hris
  have HWA : Hid (∀ W vy, Below w.heap.size w W → IsL KB W vy [(S0, OC)] → Calls Try.prog 28 #[.slice a0 us.length c0, vy] W fun e w' => ∃ a' c', e = .returned (.slice a' (us.length + 1) c') ∧ Own KB W.heap.size w' (.slice a' (us.length + 1) c') (insB (S0, OC) us) ∧ Below W.heap.size W w') := fun W vy hW hy =>
    with_any W _ vy us [(S0, OC)] (hu.below hW) hy (by omega) (by simp) (fun j hj => by
      have : j = 0 := by simp at hj; omega
      subst this
      exact hg3.2)
  have HWO : Hid (∀ W, Below w.heap.size w W → Calls Try.prog 29 #[.slice a1 fs.length c1, .agg #[.int .i64 S0, .int .i64 C0]] W fun e w' => ∃ a c, e = .returned (.slice a (noB (S0, C0) fs).length c) ∧ Own KB W.heap.size w' (.slice a (noB (S0, C0) fs).length c) (noB (S0, C0) fs) ∧ Below W.heap.size W w') := fun W hW => without_any W _ fs S0 C0 (hfr.below hW) hm
  have hnl := (noB_sub (S0, C0) fs).length_le
  obtain ⟨nl, enl⟩ : ∃ X, noB (S0, C0) fs = X := ⟨_, rfl⟩
  rw [enl] at HWO hris hnl ⊢
  have HWB : Hid (∀ W a c a7 c7, IsL KB W (.slice a nl.length c) nl → IsL KB W (.slice a7 q c7) SL → Calls Try.prog 28 #[.slice a nl.length c, .slice a7 q c7] W fun e w' => ∃ a' c', e = .returned (.slice a' (nl.length + q) c') ∧ Own KB W.heap.size w' (.slice a' (nl.length + q) c') (insAll nl SL) ∧ Below W.heap.size W w') := fun W a c a7 c7 h1 h2 => by
    have := with_any W _ _ nl SL h1 h2 (by omega) (by omega) (fun j _ => hris j)
    rw [eq] at this
    exact this
  have HNK := hide (insB_len (S0, OC) us); have HJK := hide (insAll_len nl SL)
  obtain ⟨nk, enk⟩ : ∃ X, nl.length = X := ⟨_, rfl⟩
  rw [enk] at HWO HWB HJK
  rw [eq] at HJK
  obtain ⟨n, en⟩ : ∃ n, us.length = n := ⟨_, rfl⟩
  obtain ⟨m, em⟩ : ∃ m, fs.length = m := ⟨_, rfl⟩
  rw [en, em] at HC hg2 ⊢
  rw [en] at hn
  rw [em] at HLE hm
  have hq : ∀ w, (Op.equalIn 10000 29 (.agg #[.int .i64 0, .int .i64 0]) (.agg #[.int .i64 0, .int .i64 0])).run Try.prog w = .ok true w := fun w => by rw [flt_eq]; rfl
  have hnz : ¬ z < 1 := by omega
  have hnz2 : ¬ 1073741824 < z := by omega
  rw [en] at HWA HNK hq5
  rw [em] at HWO hq5
  have hs1 : IntKind.i64.wrap ((n : Int) + (m : Int)) = (n : Int) + (m : Int) := wrapi (by omega) (by omega)
  have hs2 : IntKind.i64.wrap ((n : Int) + (m : Int) + (q : Int)) = (n : Int) + (m : Int) + (q : Int) := wrapi (by omega) (by omega)
  have hs3 : ¬ (5000 : Int) < (n : Int) + (m : Int) + (q : Int) := by omega
  clear h hf hb1 hb2 hl hu hfr hg1 hg2 hg3 hg4 hg5 hg6 en em hu1 hu2 hmem hp h0 hmo hend hpos eOC eSL eq hpart hris hnl enl enk
  obtain ⟨W0, e0, hB, k0, k1, k2, k3⟩ := four_new w (.cells #[.int .i64 b, .slice a0 n c0, .slice a1 m c1] 24) (.cells #[.int .i64 z] 3) (.cells #[.int .i64 0, .slice none 0 0, .slice none 0 0] 24) (.cells #[.int .i64 0, .int .i64 0] 29)
  have HX := hide hB; have HP := hide k0; have HN := hide k1; have HQ := hide k2; have HG := hide k3; have HE := hide e0
  clear hB k0 k1 k2 k3 e0
  go_enter Try.func11, Try.ntmps11
  go_upto_region 1 with fail
  rw [unhide HE]
  clear HE
  obtain ⟨⟨p0, p1, p2⟩, ⟨pf0, pf1, pf2⟩, pl⟩ := block3 (unhide HP)
  go_upto_region 2 with (go_at_call 10; refine (unhide HC _ (unhide HX)).mono ?_; rintro e w1 ⟨he, hb1⟩; obtain rfl : e = .returned (.agg #[.int .i64 0, .int .i64 0]) := he; have HX_1 := hide (Below.next (unhide HX) hb1 (by first | exact Nat.le_refl _ | (have := unhide HBA; omega))); have Kp_1 := hide (keep_below (unhide HP) hb1); have Kn_1 := hide (keep_below (unhide HN) hb1); have Kq_1 := hide (keep_below (unhide HQ) hb1); have Kg_1 := hide (keep_below (unhide HG) hb1); clear HX HP HN HQ HG; clear hb1 p0 p1 p2 pf0 pf1 pf2 pl)
  have HX_2 := hide ((unhide HX_1).alloc (Nat.le_trans (show w.heap.size ≤ w.heap.size from Nat.le_refl _) (unhide HX_1).size) (.cells #[.int .i64 0, .int .i64 0] 29))
  have Kp_2 := hide (keep_alloc (unhide Kp_1) (.cells #[.int .i64 0, .int .i64 0] 29))
  have Kn_2 := hide (keep_alloc (unhide Kn_1) (.cells #[.int .i64 0, .int .i64 0] 29))
  have Kq_2 := hide (keep_alloc (unhide Kq_1) (.cells #[.int .i64 0, .int .i64 0] 29))
  have Kg_2 := hide (keep_alloc (unhide Kg_1) (.cells #[.int .i64 0, .int .i64 0] 29))
  have Kf_2 := hide (new_block w1 (.cells #[.int .i64 0, .int .i64 0] 29))
  have hlp_f : w.heap.size < w1.heap.size := size_of (unhide Kp_1)
  have hln_f : w.heap.size + 1 < w1.heap.size := size_of (unhide Kn_1)
  have hlq_f : w.heap.size + 1 + 1 < w1.heap.size := size_of (unhide Kq_1)
  have hlg_f : w.heap.size + 1 + 1 + 1 < w1.heap.size := size_of (unhide Kg_1)
  obtain ⟨T, eT⟩ : ∃ X, w1.heap.size = X := ⟨_, rfl⟩
  obtain ⟨W2, eW2⟩ : ∃ X, w1.alloc (.cells #[.int .i64 0, .int .i64 0] 29) = X := ⟨_, rfl⟩
  rw [eT, eW2] at Kf_2; rw [eW2] at HX_2 Kp_2 Kn_2 Kq_2 Kg_2; rw [eT] at hlp_f hln_f hlq_f hlg_f; rw [eT, eW2]
  clear eT eW2 HX_1 Kp_1 Kn_1 Kq_1 Kg_1
  obtain ⟨f0, f1, ff0, ff1, fl⟩ := block2 (unhide Kf_2)
  go_upto_region 4 with fail
  clear f0 f1 ff0 ff1 fl
  obtain ⟨n0, nf0, nl⟩ := block1 (unhide Kn_2)
  go_quiet ((go_at_call 21; exact Calls.quiet_of_same (unhide HUN _)))
  have hV0 : Below W2.heap.size W2 (W2.drewN nq) := below_drewN (Below.refl _ _) nq
  obtain ⟨V0, eV0⟩ : ∃ X, W2.drewN nq = X := ⟨_, rfl⟩
  rw [eV0] at hV0 ⊢
  (have HX_3 := hide (Below.next (unhide HX_2) hV0 (by first | exact Nat.le_refl _ | (have := unhide HBA; omega))); have Kp_3 := hide (keep_below (unhide Kp_2) hV0); have Kn_3 := hide (keep_below (unhide Kn_2) hV0); have Kq_3 := hide (keep_below (unhide Kq_2) hV0); have Kg_3 := hide (keep_below (unhide Kg_2) hV0); have Kf_3 := hide (keep_below (unhide Kf_2) hV0); clear HX_2 Kp_2 Kn_2 Kq_2 Kg_2 Kf_2)
  clear hV0 eV0
  clear n0 nf0 nl
  obtain ⟨⟨p0, p1, p2⟩, ⟨pf0, pf1, pf2⟩, pl⟩ := block3 (unhide Kp_3)
  have HCS := hide (unhide HX_3)
  have HCN := hide (unhide Kn_3)
  go_upto_region 7 with (go_at_call 25; refine (unhide HLE _ (unhide HCS) (unhide HCN)).mono ?_; rintro e w6 ⟨he, hb6⟩; obtain rfl : e = .returned (.tuple #[.agg #[.int .i64 S0, .int .i64 C0], .bool true]) := he; have HX_4 := hide (Below.next (unhide HX_3) hb6 (by first | exact Nat.le_refl _ | (have := unhide HBA; omega))); have Kp_4 := hide (keep_below (unhide Kp_3) hb6); have Kn_4 := hide (keep_below (unhide Kn_3) hb6); have Kq_4 := hide (keep_below (unhide Kq_3) hb6); have Kg_4 := hide (keep_below (unhide Kg_3) hb6); have Kf_4 := hide (keep_below (unhide Kf_3) hb6); clear HX_3 Kp_3 Kn_3 Kq_3 Kg_3 Kf_3; clear HCS HCN hb6 p0 p1 p2 pf0 pf1 pf2 pl)
  have HX_5 := hide ((unhide HX_4).alloc (Nat.le_trans (show w.heap.size ≤ w.heap.size from Nat.le_refl _) (unhide HX_4).size) (.cells #[.int .i64 S0, .int .i64 C0] 38))
  have Kp_5 := hide (keep_alloc (unhide Kp_4) (.cells #[.int .i64 S0, .int .i64 C0] 38))
  have Kn_5 := hide (keep_alloc (unhide Kn_4) (.cells #[.int .i64 S0, .int .i64 C0] 38))
  have Kq_5 := hide (keep_alloc (unhide Kq_4) (.cells #[.int .i64 S0, .int .i64 C0] 38))
  have Kg_5 := hide (keep_alloc (unhide Kg_4) (.cells #[.int .i64 S0, .int .i64 C0] 38))
  have Kf_5 := hide (keep_alloc (unhide Kf_4) (.cells #[.int .i64 S0, .int .i64 C0] 38))
  have Ko_5 := hide (new_block w6 (.cells #[.int .i64 S0, .int .i64 C0] 38))
  have hlp_o : w.heap.size < w6.heap.size := size_of (unhide Kp_4)
  have hln_o : w.heap.size + 1 < w6.heap.size := size_of (unhide Kn_4)
  have hlq_o : w.heap.size + 1 + 1 < w6.heap.size := size_of (unhide Kq_4)
  have hlg_o : w.heap.size + 1 + 1 + 1 < w6.heap.size := size_of (unhide Kg_4)
  have hlf_o : T < w6.heap.size := size_of (unhide Kf_4)
  obtain ⟨T2, eT2⟩ : ∃ X, w6.heap.size = X := ⟨_, rfl⟩
  obtain ⟨W3, eW3⟩ : ∃ X, w6.alloc (.cells #[.int .i64 S0, .int .i64 C0] 38) = X := ⟨_, rfl⟩
  rw [eT2, eW3] at Ko_5; rw [eW3] at HX_5 Kp_5 Kn_5 Kq_5 Kg_5 Kf_5; rw [eT2] at hlp_o hln_o hlq_o hlg_o hlf_o; rw [eT2, eW3]
  clear eT2 eW3 HX_4 Kp_4 Kn_4 Kq_4 Kg_4 Kf_4
  obtain ⟨n0, nf0, nl⟩ := block1 (unhide Kn_5)
  obtain ⟨z0, z1, zf0, zf1, zl⟩ := block2 (unhide Ko_5)
  go_upto_region 10 with (go_at_call 27; refine (unhide HHA _).mono ?_; rintro e w7 ⟨a7, c7, rfl, ho7, hb7⟩; have HO7 := hide (ho7.base (base' := w.heap.size) (unhide HX_5).size); have HX_6 := hide (Below.next (unhide HX_5) hb7 (by first | exact Nat.le_refl _ | (have := unhide HBA; omega))); have Kp_6 := hide (keep_below (unhide Kp_5) hb7); have Kn_6 := hide (keep_below (unhide Kn_5) hb7); have Kq_6 := hide (keep_below (unhide Kq_5) hb7); have Kg_6 := hide (keep_below (unhide Kg_5) hb7); have Kf_6 := hide (keep_below (unhide Kf_5) hb7); have Ko_6 := hide (keep_below (unhide Ko_5) hb7); clear HX_5 Kp_5 Kn_5 Kq_5 Kg_5 Kf_5 Ko_5; clear ho7 hb7 n0 nf0 nl z0 z1 zf0 zf1 zl)
  have HX_7 := hide ((unhide HX_6).alloc (Nat.le_trans (show w.heap.size ≤ w.heap.size from Nat.le_refl _) (unhide HX_6).size) (.cells #[.int .i64 S0, .int .i64 OC] 38))
  have Kp_7 := hide (keep_alloc (unhide Kp_6) (.cells #[.int .i64 S0, .int .i64 OC] 38))
  have Kn_7 := hide (keep_alloc (unhide Kn_6) (.cells #[.int .i64 S0, .int .i64 OC] 38))
  have Kq_7 := hide (keep_alloc (unhide Kq_6) (.cells #[.int .i64 S0, .int .i64 OC] 38))
  have Kg_7 := hide (keep_alloc (unhide Kg_6) (.cells #[.int .i64 S0, .int .i64 OC] 38))
  have Kf_7 := hide (keep_alloc (unhide Kf_6) (.cells #[.int .i64 S0, .int .i64 OC] 38))
  have Ko_7 := hide (keep_alloc (unhide Ko_6) (.cells #[.int .i64 S0, .int .i64 OC] 38))
  have Ou_7 := hide ((unhide HO7).below ((Below.refl _ _).alloc (Nat.le_refl _) (.cells #[.int .i64 S0, .int .i64 OC] 38)))
  have Ke_7 := hide (new_block w7 (.cells #[.int .i64 S0, .int .i64 OC] 38))
  have hlp_e : w.heap.size < w7.heap.size := size_of (unhide Kp_6)
  have hln_e : w.heap.size + 1 < w7.heap.size := size_of (unhide Kn_6)
  have hlq_e : w.heap.size + 1 + 1 < w7.heap.size := size_of (unhide Kq_6)
  have hlg_e : w.heap.size + 1 + 1 + 1 < w7.heap.size := size_of (unhide Kg_6)
  have hlf_e : T < w7.heap.size := size_of (unhide Kf_6)
  have hlo_e : T2 < w7.heap.size := size_of (unhide Ko_6)
  obtain ⟨T3, eT3⟩ : ∃ X, w7.heap.size = X := ⟨_, rfl⟩
  obtain ⟨W5, eW5⟩ : ∃ X, w7.alloc (.cells #[.int .i64 S0, .int .i64 OC] 38) = X := ⟨_, rfl⟩
  rw [eT3, eW5] at Ke_7; rw [eW5] at HX_7 Kp_7 Kn_7 Kq_7 Kg_7 Kf_7 Ko_7 Ou_7; rw [eT3] at hlp_e hln_e hlq_e hlg_e hlf_e hlo_e; rw [eT3, eW5]
  clear eT3 eW5 HX_6 Kp_6 Kn_6 Kq_6 Kg_6 Kf_6 Ko_6 HO7
  obtain ⟨⟨p0, p1, p2⟩, ⟨pf0, pf1, pf2⟩, pl⟩ := block3 (unhide Kp_7)
  obtain ⟨z0, z1, zf0, zf1, zl⟩ := block2 (unhide Ko_7)
  obtain ⟨y0, y1, yf0, yf1, yl⟩ := block2 (unhide Ke_7)
  go_upto_region 12 with fail
  have HSS : Hid (∀ W, Below W5.heap.size W5 W → ((W.cell? ⟨w.heap.size, 0, none⟩ = some (.int .i64 b) ∧ W.cell? ⟨w.heap.size, 1, none⟩ = some (.slice a0 n c0) ∧ W.cell? ⟨w.heap.size, 2, none⟩ = some (.slice a1 m c1)) ∧ (W.cell? ⟨T2, 0, none⟩ = some (.int .i64 S0) ∧ W.cell? ⟨T2, 1, none⟩ = some (.int .i64 C0)) ∧ W.cell? ⟨T3, 0, none⟩ = some (.int .i64 S0) ∧ W.cell? ⟨T3, 1, none⟩ = some (.int .i64 OC))) := fun W hW => ⟨(block3 (keep_below (unhide Kp_7) hW)).1, ⟨(block2 (keep_below (unhide Ko_7) hW)).1, (block2 (keep_below (unhide Ko_7) hW)).2.1⟩, (block2 (keep_below (unhide Ke_7) hW)).1, (block2 (keep_below (unhide Ke_7) hW)).2.1⟩
  have HWX : Hid (∀ W, Below W5.heap.size W5 W → Below w.heap.size w W) := fun W hW => Below.next (unhide HX_7) hW (Nat.le_refl _)
  have hT3l : T3 < W5.heap.size := size_of (unhide Ke_7)
  have HI0 : Hid (IsL KB (W5.alloc (.cells #[.int .i64 S0, .int .i64 OC] 38)).drew (.slice (some ⟨W5.heap.size, 0, none⟩) 1 1) [(S0, OC)]) := (isl_one kb W5 (S0, OC)).below (Below.refl _ _).drew
  have HI2 : Hid (IsL KB ((W5.alloc (.cells #[.int .i64 S0, .int .i64 OC] 38)).alloc (.cells #[.int .i64 0, .slice none 0 0, .slice none 0 0] 24)).drew (.slice (some ⟨W5.heap.size, 0, none⟩) 1 1) [(S0, OC)]) := ((isl_one kb W5 (S0, OC)).below ((Below.refl _ _).alloc (Nat.le_refl _) _)).below (Below.refl _ _).drew
  have HI1 : Hid (IsL KB ((W5.alloc (.cells #[.int .i64 0, .slice none 0 0, .slice none 0 0] 24)).alloc (.cells #[.int .i64 S0, .int .i64 OC] 38)).drew (.slice (some ⟨W5.heap.size + 1, 0, none⟩) 1 1) [(S0, OC)]) := by
    have h8 := (isl_one kb (W5.alloc (.cells #[.int .i64 0, .slice none 0 0, .slice none 0 0] 24)) (S0, OC)).below (Below.refl _ _).drew
    rw [World.size_alloc] at h8
    exact h8
  have HN1 : Hid (((W5.alloc (.cells #[.int .i64 0, .slice none 0 0, .slice none 0 0] 24)).alloc (.cells #[.int .i64 S0, .int .i64 OC] 38)).drew.heap[W5.heap.size]? = some (.cells #[.int .i64 0, .slice none 0 0, .slice none 0 0] 24 (0, 0))) := keep_alloc (new_block W5 (.cells #[.int .i64 0, .slice none 0 0, .slice none 0 0] 24)) (.cells #[.int .i64 S0, .int .i64 OC] 38)
  have HN2 : Hid (((W5.alloc (.cells #[.int .i64 S0, .int .i64 OC] 38)).alloc (.cells #[.int .i64 0, .slice none 0 0, .slice none 0 0] 24)).drew.heap[W5.heap.size + 1]? = some (.cells #[.int .i64 0, .slice none 0 0, .slice none 0 0] 24 (0, 0))) := new2 W5 (.cells #[.int .i64 S0, .int .i64 OC] 38) (.cells #[.int .i64 0, .slice none 0 0, .slice none 0 0] 24)
  go_region_held3 (fun W => ((W.cell? ⟨w.heap.size, 0, none⟩ = some (.int .i64 b) ∧ W.cell? ⟨w.heap.size, 1, none⟩ = some (.slice a0 n c0) ∧ W.cell? ⟨w.heap.size, 2, none⟩ = some (.slice a1 m c1)) ∧ (W.cell? ⟨T2, 0, none⟩ = some (.int .i64 S0) ∧ W.cell? ⟨T2, 1, none⟩ = some (.int .i64 C0)) ∧ W.cell? ⟨T3, 0, none⟩ = some (.int .i64 S0) ∧ W.cell? ⟨T3, 1, none⟩ = some (.int .i64 OC)))
    (first | (refine unhide HSS _ ?_; repeat (first | with_reducible exact Below.refl _ _ | with_reducible exact unhide HY10 | with_reducible exact unhide HY9 | with_reducible exact unhide HY8 | with_reducible refine drew_b ?_ | with_reducible refine alloc_b ?_ | (with_reducible refine set_b ?_ (by first | exact Nat.le_refl _ | exact (unhide HY10).size | exact (unhide HY9).size | exact (unhide HY8).size | (simp; done) | (have := (unhide HY9).size; simp; omega) | (have := (unhide HY8).size; simp; omega) | (simp; omega))))))
    (first
      | (go_at_call 28; (first
          | ((with_reducible refine Calls.mono (unhide HWA _ _ ?_ ?_) ?_); (· exact unhide HWX _ (by repeat (first | with_reducible exact Below.refl _ _ | with_reducible refine drew_b ?_ | with_reducible refine alloc_b ?_))); (· first | with_reducible exact unhide HI0 | with_reducible exact unhide HI1 | with_reducible exact unhide HI2); rintro e w8 ⟨a8, c8, rfl, ho8, hb8⟩; have HY8 : Hid (Below W5.heap.size W5 w8) := Below.next (by repeat (first | with_reducible exact Below.refl _ _ | with_reducible refine drew_b ?_ | with_reducible refine alloc_b ?_)) hb8 (Nat.le_refl _); (try (have h8 : w8.heap[W5.heap.size]? = some (.cells #[.int .i64 0, .slice none 0 0, .slice none 0 0] 24 (0, 0)) := (by with_reducible exact keep_below (unhide HN1) hb8); have HT8 := hide h8; clear h8)); (try (have h8 : w8.heap[W5.heap.size + 1]? = some (.cells #[.int .i64 0, .slice none 0 0, .slice none 0 0] 24 (0, 0)) := (by with_reducible exact keep_below (unhide HN2) hb8); have HT8 := hide h8; clear h8)); have HO8 := hide (ho8.base (base' := W5.heap.size) (by first | exact Nat.le_refl _ | (simp; done) | (simp; omega))); clear ho8 hb8)
          | ((with_reducible refine Calls.mono (unhide HWB _ _ _ _ _ ?_ ?_) ?_); (· first | with_reducible exact (unhide HO9).isl | with_reducible exact ((unhide HO9).below ((Below.refl _ _).alloc (Nat.le_refl _) _)).isl); (· first | with_reducible exact ((unhide Ou_7).below (unhide HY9)).isl | with_reducible exact ((unhide Ou_7).below (alloc_b (unhide HY9))).isl); rintro e w10 ⟨a10, c10, rfl, ho10, hb10⟩; have HY10 : Hid (Below W5.heap.size W5 w10) := Below.next (by first | with_reducible exact unhide HY9 | with_reducible exact alloc_b (unhide HY9)) hb10 (Nat.le_refl _); (try (have h8 : w10.heap[W5.heap.size]? = some (.cells #[.int .i64 0, .slice none 0 0, .slice none 0 0] 24 (0, 0)) := (by with_reducible exact keep_below (unhide HT9) hb10); obtain ⟨⟨t0, t1, t2⟩, ⟨tf0, tf1, tf2⟩, tl⟩ := block3 h8; have HT10 := hide h8; clear h8)); (try (have h8 : w10.heap[W5.heap.size + 1]? = some (.cells #[.int .i64 0, .slice none 0 0, .slice none 0 0] 24 (0, 0)) := (by with_reducible exact keep_below (unhide HT9) hb10); obtain ⟨⟨t0, t1, t2⟩, ⟨tf0, tf1, tf2⟩, tl⟩ := block3 h8; have HT10 := hide h8; clear h8)); (try (have h8 : w10.heap[w8.heap.size]? = some (.cells #[.int .i64 0, .slice none 0 0, .slice none 0 0] 24 (0, 0)) := (by with_reducible exact keep_below (unhide HT9) hb10); obtain ⟨⟨t0, t1, t2⟩, ⟨tf0, tf1, tf2⟩, tl⟩ := block3 h8; have HT10 := hide h8; clear h8)); (try (have h8 : w10.heap[w9.heap.size]? = some (.cells #[.int .i64 0, .slice none 0 0, .slice none 0 0] 24 (0, 0)) := (by with_reducible exact keep_below (new_block w9 (.cells #[.int .i64 0, .slice none 0 0, .slice none 0 0] 24)) hb10); obtain ⟨⟨t0, t1, t2⟩, ⟨tf0, tf1, tf2⟩, tl⟩ := block3 h8; have HT10 := hide h8; clear h8)); have HO10 := hide (ho10.base (base' := W5.heap.size) (by first | exact (unhide HY9).size | (have := (unhide HY9).size; simp; omega))); have HP10 := hide ((unhide HP9).below (w' := w10) (by first | with_reducible exact hb10 | with_reducible exact Below.next ((Below.refl _ _).alloc (Nat.le_refl _) _) hb10 (Nat.le_refl _))); clear ho10 hb10)))
      | (go_at_call 29; refine (unhide HWO _ (unhide HWX _ (by first | with_reducible exact unhide HY8 | with_reducible exact alloc_b (unhide HY8)))).mono ?_; rintro e w9 ⟨a9, c9, rfl, ho9, hb9⟩; have HY9 : Hid (Below W5.heap.size W5 w9) := Below.next (by first | with_reducible exact unhide HY8 | with_reducible exact alloc_b (unhide HY8)) hb9 (Nat.le_refl _); (try (have h8 : w9.heap[W5.heap.size]? = some (.cells #[.int .i64 0, .slice none 0 0, .slice none 0 0] 24 (0, 0)) := (by with_reducible exact keep_below (unhide HT8) hb9); have HT9 := hide h8; clear h8)); (try (have h8 : w9.heap[W5.heap.size + 1]? = some (.cells #[.int .i64 0, .slice none 0 0, .slice none 0 0] 24 (0, 0)) := (by with_reducible exact keep_below (unhide HT8) hb9); have HT9 := hide h8; clear h8)); (try (have h8 : w9.heap[w8.heap.size]? = some (.cells #[.int .i64 0, .slice none 0 0, .slice none 0 0] 24 (0, 0)) := (by with_reducible exact keep_below (new_block w8 (.cells #[.int .i64 0, .slice none 0 0, .slice none 0 0] 24)) hb9); have HT9 := hide h8; clear h8)); have HO9 := hide (ho9.base (base' := W5.heap.size) (by first | exact (unhide HY8).size | (have := (unhide HY8).size; simp; omega))); have HP9 := hide ((unhide HO8).below (w' := w9) (by first | with_reducible exact hb9 | with_reducible exact Below.next ((Below.refl _ _).alloc (Nat.le_refl _) _) hb9 (Nat.le_refl _))); have hs8 := (unhide HY8).size; clear ho9 hb9))
  all_goals first
    | (have HX10 := hide (unhide HWX _ (unhide HY10))
       have HQ10 := hide (keep_below (unhide Kq_7) (unhide HY10))
       have HG10 := hide (keep_below (unhide Kg_7) (unhide HY10))
       have HE10 := hide (keep_below (unhide Ke_7) (unhide HY10))
       have hw4 : w.heap.size + 1 + 1 + 1 < W5.heap.size := size_of (unhide Kg_7)
       have hw5 : W5.heap.size ≤ w8.heap.size := (unhide HY8).size
       have hw6 : W5.heap.size ≤ w9.heap.size := (unhide HY9).size
       have hw7 : W5.heap.size ≤ w10.heap.size := (unhide HY10).size
       have HX_L1 := hide (putL_below (y0 := .int .i64 b) (y1 := .slice a8 (n + 1) c8) (y2 := .slice a10 (nk + q) c10) (unhide HX10) (show w.heap.size ≤ W5.heap.size by first | omega | (have := unhide HBA; omega)))
       have Kq_L1 := hide ((putL_keep (y0 := .int .i64 b) (y1 := .slice a8 (n + 1) c8) (y2 := .slice a10 (nk + q) c10) (show w.heap.size + 1 + 1 ≠ W5.heap.size by omega)).trans (unhide HQ10))
       have Kg_L1 := hide ((putL_keep (y0 := .int .i64 b) (y1 := .slice a8 (n + 1) c8) (y2 := .slice a10 (nk + q) c10) (show w.heap.size + 1 + 1 + 1 ≠ W5.heap.size by omega)).trans (unhide HG10))
       have Ke_L1 := hide ((putL_keep (y0 := .int .i64 b) (y1 := .slice a8 (n + 1) c8) (y2 := .slice a10 (nk + q) c10) (show T3 ≠ W5.heap.size by omega)).trans (unhide HE10))
       have Kt_L1 := hide (putL_new (y0 := .int .i64 b) (y1 := .slice a8 (n + 1) c8) (y2 := .slice a10 (nk + q) c10) (unhide HT10))
       have Ou_L1 := hide ((unhide HP10).keep (fun k hk => putL_keep (y0 := .int .i64 b) (y1 := .slice a8 (n + 1) c8) (y2 := .slice a10 (nk + q) c10) (Own.ne (unhide HP10) (unhide HT10) (by decide) k hk)))
       have Oj_L1 := hide ((unhide HO10).keep (fun k hk => putL_keep (y0 := .int .i64 b) (y1 := .slice a8 (n + 1) c8) (y2 := .slice a10 (nk + q) c10) (Own.ne (unhide HO10) (unhide HT10) (by decide) k hk)))
       obtain ⟨V0, eV0⟩ : ∃ X, putL w10 (W5.heap.size) (.int .i64 b) (.slice a8 (n + 1) c8) (.slice a10 (nk + q) c10) = X := ⟨_, rfl⟩
       rw [eV0] at HX_L1 Kq_L1 Kg_L1 Ke_L1 Kt_L1 Ou_L1 Oj_L1
       have eV02 : (((w10).setCell ⟨W5.heap.size, 0, none⟩ (.int .i64 b)).setCell ⟨W5.heap.size, 1, none⟩ (.slice a8 (n + 1) c8)).setCell ⟨W5.heap.size, 2, none⟩ (.slice a10 (nk + q) c10) = V0 := eV0
       rw [eV02]
       clear eV0 eV02 HX10 HQ10 HG10 HE10 HT10 HP10 HO10
       go_upto_region 13 with fail
       obtain ⟨⟨q0, q1, q2⟩, ⟨qf0, qf1, qf2⟩, ql⟩ := block3 (unhide Kq_L1)
       obtain ⟨g0, g1, gf0, gf1, gl⟩ := block2 (unhide Kg_L1)
       obtain ⟨⟨r0, r1, r2⟩, ⟨rf0, rf1, rf2⟩, rl⟩ := block3 (unhide Kt_L1)
       obtain ⟨x0, x1, xf0, xf1, xl⟩ := block2 (unhide Ke_L1)
       have v0_ : w.heap.size + 1 + 1 ≠ W5.heap.size := by omega
       have v1_ : W5.heap.size ≠ w.heap.size + 1 + 1 := by omega
       have v2_ : w.heap.size + 1 + 1 ≠ T3 := by omega
       have v3_ : T3 ≠ w.heap.size + 1 + 1 := by omega
       have v4_ : w.heap.size + 1 + 1 + 1 ≠ W5.heap.size := by omega
       have v5_ : W5.heap.size ≠ w.heap.size + 1 + 1 + 1 := by omega
       have v6_ : w.heap.size + 1 + 1 + 1 ≠ T3 := by omega
       have v7_ : T3 ≠ w.heap.size + 1 + 1 + 1 := by omega
       go_wp2_with fail
       go_region
       clear q0 q1 q2 qf0 qf1 qf2 ql g0 g1 gf0 gf1 gl r0 r1 r2 rf0 rf1 rf2 rl x0 x1 xf0 xf1 xl
       have HX_L2 := hide (putL_below (y0 := .int .i64 b) (y1 := .slice a8 (n + 1) c8) (y2 := .slice a10 (nk + q) c10) (unhide HX_L1) (show w.heap.size ≤ w.heap.size + 1 + 1 by first | omega | (have := unhide HBA; omega)))
       have Kq_L2 := hide (putL_new (y0 := .int .i64 b) (y1 := .slice a8 (n + 1) c8) (y2 := .slice a10 (nk + q) c10) (unhide Kq_L1))
       have Kg_L2 := hide ((putL_keep (y0 := .int .i64 b) (y1 := .slice a8 (n + 1) c8) (y2 := .slice a10 (nk + q) c10) (show w.heap.size + 1 + 1 + 1 ≠ w.heap.size + 1 + 1 by omega)).trans (unhide Kg_L1))
       have Ke_L2 := hide ((putL_keep (y0 := .int .i64 b) (y1 := .slice a8 (n + 1) c8) (y2 := .slice a10 (nk + q) c10) (show T3 ≠ w.heap.size + 1 + 1 by omega)).trans (unhide Ke_L1))
       have Kt_L2 := hide ((putL_keep (y0 := .int .i64 b) (y1 := .slice a8 (n + 1) c8) (y2 := .slice a10 (nk + q) c10) (show W5.heap.size ≠ w.heap.size + 1 + 1 by omega)).trans (unhide Kt_L1))
       have Ou_L2 := hide ((unhide Ou_L1).keep (fun k hk => putL_keep (y0 := .int .i64 b) (y1 := .slice a8 (n + 1) c8) (y2 := .slice a10 (nk + q) c10) (Own.ne (unhide Ou_L1) (unhide Kq_L1) (by decide) k hk)))
       have Oj_L2 := hide ((unhide Oj_L1).keep (fun k hk => putL_keep (y0 := .int .i64 b) (y1 := .slice a8 (n + 1) c8) (y2 := .slice a10 (nk + q) c10) (Own.ne (unhide Oj_L1) (unhide Kq_L1) (by decide) k hk)))
       obtain ⟨V1, eV1⟩ : ∃ X, putL V0 (w.heap.size + 1 + 1) (.int .i64 b) (.slice a8 (n + 1) c8) (.slice a10 (nk + q) c10) = X := ⟨_, rfl⟩
       rw [eV1] at HX_L2 Kq_L2 Kg_L2 Ke_L2 Kt_L2 Ou_L2 Oj_L2
       have eV12 : (((V0).setCell ⟨w.heap.size + 1 + 1, 0, none⟩ (.int .i64 b)).setCell ⟨w.heap.size + 1 + 1, 1, none⟩ (.slice a8 (n + 1) c8)).setCell ⟨w.heap.size + 1 + 1, 2, none⟩ (.slice a10 (nk + q) c10) = V1 := eV1
       rw [eV12]
       clear eV1 eV12 HX_L1 Kq_L1 Kg_L1 Ke_L1 Kt_L1 Ou_L1 Oj_L1
       have HX_L3 := hide (put2_below (y0 := .int .i64 0) (y1 := .int .i64 0) (unhide HX_L2) (show w.heap.size ≤ w.heap.size + 1 + 1 + 1 by first | omega | (have := unhide HBA; omega)))
       have Kq_L3 := hide ((put2_keep (y0 := .int .i64 0) (y1 := .int .i64 0) (show w.heap.size + 1 + 1 ≠ w.heap.size + 1 + 1 + 1 by omega)).trans (unhide Kq_L2))
       have Kg_L3 := hide (put2_new (y0 := .int .i64 0) (y1 := .int .i64 0) (unhide Kg_L2))
       have Ke_L3 := hide ((put2_keep (y0 := .int .i64 0) (y1 := .int .i64 0) (show T3 ≠ w.heap.size + 1 + 1 + 1 by omega)).trans (unhide Ke_L2))
       have Kt_L3 := hide ((put2_keep (y0 := .int .i64 0) (y1 := .int .i64 0) (show W5.heap.size ≠ w.heap.size + 1 + 1 + 1 by omega)).trans (unhide Kt_L2))
       have Ou_L3 := hide ((unhide Ou_L2).keep (fun k hk => put2_keep (y0 := .int .i64 0) (y1 := .int .i64 0) (Own.ne (unhide Ou_L2) (unhide Kg_L2) (by decide) k hk)))
       have Oj_L3 := hide ((unhide Oj_L2).keep (fun k hk => put2_keep (y0 := .int .i64 0) (y1 := .int .i64 0) (Own.ne (unhide Oj_L2) (unhide Kg_L2) (by decide) k hk)))
       obtain ⟨V2, eV2⟩ : ∃ X, put2 V1 (w.heap.size + 1 + 1 + 1) (.int .i64 0) (.int .i64 0) = X := ⟨_, rfl⟩
       rw [eV2] at HX_L3 Kq_L3 Kg_L3 Ke_L3 Kt_L3 Ou_L3 Oj_L3
       have eV22 : ((V1).setCell ⟨w.heap.size + 1 + 1 + 1, 0, none⟩ (.int .i64 0)).setCell ⟨w.heap.size + 1 + 1 + 1, 1, none⟩ (.int .i64 0) = V2 := eV2
       rw [eV22]
       clear eV2 eV22 HX_L2 Kq_L2 Kg_L2 Ke_L2 Kt_L2 Ou_L2 Oj_L2
       have hV3 : Below V2.heap.size V2 V2.drew := (Below.refl _ _).drew
       obtain ⟨V3, eV3⟩ : ∃ X, V2.drew = X := ⟨_, rfl⟩
       rw [eV3] at hV3 ⊢
       (have HX_L4 := hide (Below.next (unhide HX_L3) hV3 (by first | exact Nat.le_refl _ | (have := unhide HBA; omega))); have Kq_L4 := hide (keep_below (unhide Kq_L3) hV3); have Kg_L4 := hide (keep_below (unhide Kg_L3) hV3); have Ke_L4 := hide (keep_below (unhide Ke_L3) hV3); have Kt_L4 := hide (keep_below (unhide Kt_L3) hV3); have Ou_L4 := hide ((unhide Ou_L3).below hV3); have Oj_L4 := hide ((unhide Oj_L3).below hV3); clear HX_L3 Kq_L3 Kg_L3 Ke_L3 Kt_L3 Ou_L3 Oj_L3)
       clear hV3 eV3
       obtain ⟨⟨q0, q1, q2⟩, ⟨qf0, qf1, qf2⟩, ql⟩ := block3 (unhide Kq_L4)
       obtain ⟨g0, g1, gf0, gf1, gl⟩ := block2 (unhide Kg_L4)
       go_wp2_with fail
       refine bodyPost_ret (v := .tuple #[.agg #[.int .i64 b, .slice a8 (n + 1) c8, .slice a10 (nk + q) c10], .int .i64 S0, .agg #[.int .i64 0, .int .i64 0]]) (by simp [results, Try.results11, go_sem, q0, q1, q2, g0, g1]) rfl ⟨_, rfl, ⟨a8, c8, a10, c10, ?_, ?_, ?_⟩, unhide HX_L4⟩
       · rw [unhide HNK, unhide HJK]
       · rw [unhide HNK]; exact (unhide Ou_L4).new.base (by omega)
       · rw [unhide HJK]; exact (unhide Oj_L4).new.base (by omega))
    | (have HX10 := hide (unhide HWX _ (unhide HY10))
       have HQ10 := hide (keep_below (unhide Kq_7) (unhide HY10))
       have HG10 := hide (keep_below (unhide Kg_7) (unhide HY10))
       have HE10 := hide (keep_below (unhide Ke_7) (unhide HY10))
       have hw4 : w.heap.size + 1 + 1 + 1 < W5.heap.size := size_of (unhide Kg_7)
       have hw5 : W5.heap.size ≤ w8.heap.size := (unhide HY8).size
       have hw6 : W5.heap.size ≤ w9.heap.size := (unhide HY9).size
       have hw7 : W5.heap.size ≤ w10.heap.size := (unhide HY10).size
       have HX_L1 := hide (putL_below (y0 := .int .i64 b) (y1 := .slice a8 (n + 1) c8) (y2 := .slice a10 (nk + q) c10) (unhide HX10) (show w.heap.size ≤ W5.heap.size + 1 by first | omega | (have := unhide HBA; omega)))
       have Kq_L1 := hide ((putL_keep (y0 := .int .i64 b) (y1 := .slice a8 (n + 1) c8) (y2 := .slice a10 (nk + q) c10) (show w.heap.size + 1 + 1 ≠ W5.heap.size + 1 by omega)).trans (unhide HQ10))
       have Kg_L1 := hide ((putL_keep (y0 := .int .i64 b) (y1 := .slice a8 (n + 1) c8) (y2 := .slice a10 (nk + q) c10) (show w.heap.size + 1 + 1 + 1 ≠ W5.heap.size + 1 by omega)).trans (unhide HG10))
       have Ke_L1 := hide ((putL_keep (y0 := .int .i64 b) (y1 := .slice a8 (n + 1) c8) (y2 := .slice a10 (nk + q) c10) (show T3 ≠ W5.heap.size + 1 by omega)).trans (unhide HE10))
       have Kt_L1 := hide (putL_new (y0 := .int .i64 b) (y1 := .slice a8 (n + 1) c8) (y2 := .slice a10 (nk + q) c10) (unhide HT10))
       have Ou_L1 := hide ((unhide HP10).keep (fun k hk => putL_keep (y0 := .int .i64 b) (y1 := .slice a8 (n + 1) c8) (y2 := .slice a10 (nk + q) c10) (Own.ne (unhide HP10) (unhide HT10) (by decide) k hk)))
       have Oj_L1 := hide ((unhide HO10).keep (fun k hk => putL_keep (y0 := .int .i64 b) (y1 := .slice a8 (n + 1) c8) (y2 := .slice a10 (nk + q) c10) (Own.ne (unhide HO10) (unhide HT10) (by decide) k hk)))
       obtain ⟨V0, eV0⟩ : ∃ X, putL w10 (W5.heap.size + 1) (.int .i64 b) (.slice a8 (n + 1) c8) (.slice a10 (nk + q) c10) = X := ⟨_, rfl⟩
       rw [eV0] at HX_L1 Kq_L1 Kg_L1 Ke_L1 Kt_L1 Ou_L1 Oj_L1
       have eV02 : (((w10).setCell ⟨W5.heap.size + 1, 0, none⟩ (.int .i64 b)).setCell ⟨W5.heap.size + 1, 1, none⟩ (.slice a8 (n + 1) c8)).setCell ⟨W5.heap.size + 1, 2, none⟩ (.slice a10 (nk + q) c10) = V0 := eV0
       rw [eV02]
       clear eV0 eV02 HX10 HQ10 HG10 HE10 HT10 HP10 HO10
       go_upto_region 13 with fail
       obtain ⟨⟨q0, q1, q2⟩, ⟨qf0, qf1, qf2⟩, ql⟩ := block3 (unhide Kq_L1)
       obtain ⟨g0, g1, gf0, gf1, gl⟩ := block2 (unhide Kg_L1)
       obtain ⟨⟨r0, r1, r2⟩, ⟨rf0, rf1, rf2⟩, rl⟩ := block3 (unhide Kt_L1)
       obtain ⟨x0, x1, xf0, xf1, xl⟩ := block2 (unhide Ke_L1)
       have v0_ : w.heap.size + 1 + 1 ≠ W5.heap.size + 1 := by omega
       have v1_ : W5.heap.size + 1 ≠ w.heap.size + 1 + 1 := by omega
       have v2_ : w.heap.size + 1 + 1 ≠ T3 := by omega
       have v3_ : T3 ≠ w.heap.size + 1 + 1 := by omega
       have v4_ : w.heap.size + 1 + 1 + 1 ≠ W5.heap.size + 1 := by omega
       have v5_ : W5.heap.size + 1 ≠ w.heap.size + 1 + 1 + 1 := by omega
       have v6_ : w.heap.size + 1 + 1 + 1 ≠ T3 := by omega
       have v7_ : T3 ≠ w.heap.size + 1 + 1 + 1 := by omega
       go_wp2_with fail
       go_region
       clear q0 q1 q2 qf0 qf1 qf2 ql g0 g1 gf0 gf1 gl r0 r1 r2 rf0 rf1 rf2 rl x0 x1 xf0 xf1 xl
       have HX_L2 := hide (putL_below (y0 := .int .i64 b) (y1 := .slice a8 (n + 1) c8) (y2 := .slice a10 (nk + q) c10) (unhide HX_L1) (show w.heap.size ≤ w.heap.size + 1 + 1 by first | omega | (have := unhide HBA; omega)))
       have Kq_L2 := hide (putL_new (y0 := .int .i64 b) (y1 := .slice a8 (n + 1) c8) (y2 := .slice a10 (nk + q) c10) (unhide Kq_L1))
       have Kg_L2 := hide ((putL_keep (y0 := .int .i64 b) (y1 := .slice a8 (n + 1) c8) (y2 := .slice a10 (nk + q) c10) (show w.heap.size + 1 + 1 + 1 ≠ w.heap.size + 1 + 1 by omega)).trans (unhide Kg_L1))
       have Ke_L2 := hide ((putL_keep (y0 := .int .i64 b) (y1 := .slice a8 (n + 1) c8) (y2 := .slice a10 (nk + q) c10) (show T3 ≠ w.heap.size + 1 + 1 by omega)).trans (unhide Ke_L1))
       have Kt_L2 := hide ((putL_keep (y0 := .int .i64 b) (y1 := .slice a8 (n + 1) c8) (y2 := .slice a10 (nk + q) c10) (show W5.heap.size + 1 ≠ w.heap.size + 1 + 1 by omega)).trans (unhide Kt_L1))
       have Ou_L2 := hide ((unhide Ou_L1).keep (fun k hk => putL_keep (y0 := .int .i64 b) (y1 := .slice a8 (n + 1) c8) (y2 := .slice a10 (nk + q) c10) (Own.ne (unhide Ou_L1) (unhide Kq_L1) (by decide) k hk)))
       have Oj_L2 := hide ((unhide Oj_L1).keep (fun k hk => putL_keep (y0 := .int .i64 b) (y1 := .slice a8 (n + 1) c8) (y2 := .slice a10 (nk + q) c10) (Own.ne (unhide Oj_L1) (unhide Kq_L1) (by decide) k hk)))
       obtain ⟨V1, eV1⟩ : ∃ X, putL V0 (w.heap.size + 1 + 1) (.int .i64 b) (.slice a8 (n + 1) c8) (.slice a10 (nk + q) c10) = X := ⟨_, rfl⟩
       rw [eV1] at HX_L2 Kq_L2 Kg_L2 Ke_L2 Kt_L2 Ou_L2 Oj_L2
       have eV12 : (((V0).setCell ⟨w.heap.size + 1 + 1, 0, none⟩ (.int .i64 b)).setCell ⟨w.heap.size + 1 + 1, 1, none⟩ (.slice a8 (n + 1) c8)).setCell ⟨w.heap.size + 1 + 1, 2, none⟩ (.slice a10 (nk + q) c10) = V1 := eV1
       rw [eV12]
       clear eV1 eV12 HX_L1 Kq_L1 Kg_L1 Ke_L1 Kt_L1 Ou_L1 Oj_L1
       have HX_L3 := hide (put2_below (y0 := .int .i64 0) (y1 := .int .i64 0) (unhide HX_L2) (show w.heap.size ≤ w.heap.size + 1 + 1 + 1 by first | omega | (have := unhide HBA; omega)))
       have Kq_L3 := hide ((put2_keep (y0 := .int .i64 0) (y1 := .int .i64 0) (show w.heap.size + 1 + 1 ≠ w.heap.size + 1 + 1 + 1 by omega)).trans (unhide Kq_L2))
       have Kg_L3 := hide (put2_new (y0 := .int .i64 0) (y1 := .int .i64 0) (unhide Kg_L2))
       have Ke_L3 := hide ((put2_keep (y0 := .int .i64 0) (y1 := .int .i64 0) (show T3 ≠ w.heap.size + 1 + 1 + 1 by omega)).trans (unhide Ke_L2))
       have Kt_L3 := hide ((put2_keep (y0 := .int .i64 0) (y1 := .int .i64 0) (show W5.heap.size + 1 ≠ w.heap.size + 1 + 1 + 1 by omega)).trans (unhide Kt_L2))
       have Ou_L3 := hide ((unhide Ou_L2).keep (fun k hk => put2_keep (y0 := .int .i64 0) (y1 := .int .i64 0) (Own.ne (unhide Ou_L2) (unhide Kg_L2) (by decide) k hk)))
       have Oj_L3 := hide ((unhide Oj_L2).keep (fun k hk => put2_keep (y0 := .int .i64 0) (y1 := .int .i64 0) (Own.ne (unhide Oj_L2) (unhide Kg_L2) (by decide) k hk)))
       obtain ⟨V2, eV2⟩ : ∃ X, put2 V1 (w.heap.size + 1 + 1 + 1) (.int .i64 0) (.int .i64 0) = X := ⟨_, rfl⟩
       rw [eV2] at HX_L3 Kq_L3 Kg_L3 Ke_L3 Kt_L3 Ou_L3 Oj_L3
       have eV22 : ((V1).setCell ⟨w.heap.size + 1 + 1 + 1, 0, none⟩ (.int .i64 0)).setCell ⟨w.heap.size + 1 + 1 + 1, 1, none⟩ (.int .i64 0) = V2 := eV2
       rw [eV22]
       clear eV2 eV22 HX_L2 Kq_L2 Kg_L2 Ke_L2 Kt_L2 Ou_L2 Oj_L2
       have hV3 : Below V2.heap.size V2 V2.drew := (Below.refl _ _).drew
       obtain ⟨V3, eV3⟩ : ∃ X, V2.drew = X := ⟨_, rfl⟩
       rw [eV3] at hV3 ⊢
       (have HX_L4 := hide (Below.next (unhide HX_L3) hV3 (by first | exact Nat.le_refl _ | (have := unhide HBA; omega))); have Kq_L4 := hide (keep_below (unhide Kq_L3) hV3); have Kg_L4 := hide (keep_below (unhide Kg_L3) hV3); have Ke_L4 := hide (keep_below (unhide Ke_L3) hV3); have Kt_L4 := hide (keep_below (unhide Kt_L3) hV3); have Ou_L4 := hide ((unhide Ou_L3).below hV3); have Oj_L4 := hide ((unhide Oj_L3).below hV3); clear HX_L3 Kq_L3 Kg_L3 Ke_L3 Kt_L3 Ou_L3 Oj_L3)
       clear hV3 eV3
       obtain ⟨⟨q0, q1, q2⟩, ⟨qf0, qf1, qf2⟩, ql⟩ := block3 (unhide Kq_L4)
       obtain ⟨g0, g1, gf0, gf1, gl⟩ := block2 (unhide Kg_L4)
       go_wp2_with fail
       refine bodyPost_ret (v := .tuple #[.agg #[.int .i64 b, .slice a8 (n + 1) c8, .slice a10 (nk + q) c10], .int .i64 S0, .agg #[.int .i64 0, .int .i64 0]]) (by simp [results, Try.results11, go_sem, q0, q1, q2, g0, g1]) rfl ⟨_, rfl, ⟨a8, c8, a10, c10, ?_, ?_, ?_⟩, unhide HX_L4⟩
       · rw [unhide HNK, unhide HJK]
       · rw [unhide HNK]; exact (unhide Ou_L4).new.base (by omega)
       · rw [unhide HJK]; exact (unhide Oj_L4).new.base (by omega))
    | (have HX10 := hide (unhide HWX _ (unhide HY10))
       have HQ10 := hide (keep_below (unhide Kq_7) (unhide HY10))
       have HG10 := hide (keep_below (unhide Kg_7) (unhide HY10))
       have HE10 := hide (keep_below (unhide Ke_7) (unhide HY10))
       have hw4 : w.heap.size + 1 + 1 + 1 < W5.heap.size := size_of (unhide Kg_7)
       have hw5 : W5.heap.size ≤ w8.heap.size := (unhide HY8).size
       have hw6 : W5.heap.size ≤ w9.heap.size := (unhide HY9).size
       have hw7 : W5.heap.size ≤ w10.heap.size := (unhide HY10).size
       have HX_L1 := hide (putL_below (y0 := .int .i64 b) (y1 := .slice a8 (n + 1) c8) (y2 := .slice a10 (nk + q) c10) (unhide HX10) (show w.heap.size ≤ w8.heap.size by first | omega | (have := unhide HBA; omega)))
       have Kq_L1 := hide ((putL_keep (y0 := .int .i64 b) (y1 := .slice a8 (n + 1) c8) (y2 := .slice a10 (nk + q) c10) (show w.heap.size + 1 + 1 ≠ w8.heap.size by omega)).trans (unhide HQ10))
       have Kg_L1 := hide ((putL_keep (y0 := .int .i64 b) (y1 := .slice a8 (n + 1) c8) (y2 := .slice a10 (nk + q) c10) (show w.heap.size + 1 + 1 + 1 ≠ w8.heap.size by omega)).trans (unhide HG10))
       have Ke_L1 := hide ((putL_keep (y0 := .int .i64 b) (y1 := .slice a8 (n + 1) c8) (y2 := .slice a10 (nk + q) c10) (show T3 ≠ w8.heap.size by omega)).trans (unhide HE10))
       have Kt_L1 := hide (putL_new (y0 := .int .i64 b) (y1 := .slice a8 (n + 1) c8) (y2 := .slice a10 (nk + q) c10) (unhide HT10))
       have Ou_L1 := hide ((unhide HP10).keep (fun k hk => putL_keep (y0 := .int .i64 b) (y1 := .slice a8 (n + 1) c8) (y2 := .slice a10 (nk + q) c10) (Own.ne (unhide HP10) (unhide HT10) (by decide) k hk)))
       have Oj_L1 := hide ((unhide HO10).keep (fun k hk => putL_keep (y0 := .int .i64 b) (y1 := .slice a8 (n + 1) c8) (y2 := .slice a10 (nk + q) c10) (Own.ne (unhide HO10) (unhide HT10) (by decide) k hk)))
       obtain ⟨V0, eV0⟩ : ∃ X, putL w10 (w8.heap.size) (.int .i64 b) (.slice a8 (n + 1) c8) (.slice a10 (nk + q) c10) = X := ⟨_, rfl⟩
       rw [eV0] at HX_L1 Kq_L1 Kg_L1 Ke_L1 Kt_L1 Ou_L1 Oj_L1
       have eV02 : (((w10).setCell ⟨w8.heap.size, 0, none⟩ (.int .i64 b)).setCell ⟨w8.heap.size, 1, none⟩ (.slice a8 (n + 1) c8)).setCell ⟨w8.heap.size, 2, none⟩ (.slice a10 (nk + q) c10) = V0 := eV0
       rw [eV02]
       clear eV0 eV02 HX10 HQ10 HG10 HE10 HT10 HP10 HO10
       go_upto_region 13 with fail
       obtain ⟨⟨q0, q1, q2⟩, ⟨qf0, qf1, qf2⟩, ql⟩ := block3 (unhide Kq_L1)
       obtain ⟨g0, g1, gf0, gf1, gl⟩ := block2 (unhide Kg_L1)
       obtain ⟨⟨r0, r1, r2⟩, ⟨rf0, rf1, rf2⟩, rl⟩ := block3 (unhide Kt_L1)
       obtain ⟨x0, x1, xf0, xf1, xl⟩ := block2 (unhide Ke_L1)
       have v0_ : w.heap.size + 1 + 1 ≠ w8.heap.size := by omega
       have v1_ : w8.heap.size ≠ w.heap.size + 1 + 1 := by omega
       have v2_ : w.heap.size + 1 + 1 ≠ T3 := by omega
       have v3_ : T3 ≠ w.heap.size + 1 + 1 := by omega
       have v4_ : w.heap.size + 1 + 1 + 1 ≠ w8.heap.size := by omega
       have v5_ : w8.heap.size ≠ w.heap.size + 1 + 1 + 1 := by omega
       have v6_ : w.heap.size + 1 + 1 + 1 ≠ T3 := by omega
       have v7_ : T3 ≠ w.heap.size + 1 + 1 + 1 := by omega
       go_wp2_with fail
       go_region
       clear q0 q1 q2 qf0 qf1 qf2 ql g0 g1 gf0 gf1 gl r0 r1 r2 rf0 rf1 rf2 rl x0 x1 xf0 xf1 xl
       have HX_L2 := hide (putL_below (y0 := .int .i64 b) (y1 := .slice a8 (n + 1) c8) (y2 := .slice a10 (nk + q) c10) (unhide HX_L1) (show w.heap.size ≤ w.heap.size + 1 + 1 by first | omega | (have := unhide HBA; omega)))
       have Kq_L2 := hide (putL_new (y0 := .int .i64 b) (y1 := .slice a8 (n + 1) c8) (y2 := .slice a10 (nk + q) c10) (unhide Kq_L1))
       have Kg_L2 := hide ((putL_keep (y0 := .int .i64 b) (y1 := .slice a8 (n + 1) c8) (y2 := .slice a10 (nk + q) c10) (show w.heap.size + 1 + 1 + 1 ≠ w.heap.size + 1 + 1 by omega)).trans (unhide Kg_L1))
       have Ke_L2 := hide ((putL_keep (y0 := .int .i64 b) (y1 := .slice a8 (n + 1) c8) (y2 := .slice a10 (nk + q) c10) (show T3 ≠ w.heap.size + 1 + 1 by omega)).trans (unhide Ke_L1))
       have Kt_L2 := hide ((putL_keep (y0 := .int .i64 b) (y1 := .slice a8 (n + 1) c8) (y2 := .slice a10 (nk + q) c10) (show w8.heap.size ≠ w.heap.size + 1 + 1 by omega)).trans (unhide Kt_L1))
       have Ou_L2 := hide ((unhide Ou_L1).keep (fun k hk => putL_keep (y0 := .int .i64 b) (y1 := .slice a8 (n + 1) c8) (y2 := .slice a10 (nk + q) c10) (Own.ne (unhide Ou_L1) (unhide Kq_L1) (by decide) k hk)))
       have Oj_L2 := hide ((unhide Oj_L1).keep (fun k hk => putL_keep (y0 := .int .i64 b) (y1 := .slice a8 (n + 1) c8) (y2 := .slice a10 (nk + q) c10) (Own.ne (unhide Oj_L1) (unhide Kq_L1) (by decide) k hk)))
       obtain ⟨V1, eV1⟩ : ∃ X, putL V0 (w.heap.size + 1 + 1) (.int .i64 b) (.slice a8 (n + 1) c8) (.slice a10 (nk + q) c10) = X := ⟨_, rfl⟩
       rw [eV1] at HX_L2 Kq_L2 Kg_L2 Ke_L2 Kt_L2 Ou_L2 Oj_L2
       have eV12 : (((V0).setCell ⟨w.heap.size + 1 + 1, 0, none⟩ (.int .i64 b)).setCell ⟨w.heap.size + 1 + 1, 1, none⟩ (.slice a8 (n + 1) c8)).setCell ⟨w.heap.size + 1 + 1, 2, none⟩ (.slice a10 (nk + q) c10) = V1 := eV1
       rw [eV12]
       clear eV1 eV12 HX_L1 Kq_L1 Kg_L1 Ke_L1 Kt_L1 Ou_L1 Oj_L1
       have HX_L3 := hide (put2_below (y0 := .int .i64 0) (y1 := .int .i64 0) (unhide HX_L2) (show w.heap.size ≤ w.heap.size + 1 + 1 + 1 by first | omega | (have := unhide HBA; omega)))
       have Kq_L3 := hide ((put2_keep (y0 := .int .i64 0) (y1 := .int .i64 0) (show w.heap.size + 1 + 1 ≠ w.heap.size + 1 + 1 + 1 by omega)).trans (unhide Kq_L2))
       have Kg_L3 := hide (put2_new (y0 := .int .i64 0) (y1 := .int .i64 0) (unhide Kg_L2))
       have Ke_L3 := hide ((put2_keep (y0 := .int .i64 0) (y1 := .int .i64 0) (show T3 ≠ w.heap.size + 1 + 1 + 1 by omega)).trans (unhide Ke_L2))
       have Kt_L3 := hide ((put2_keep (y0 := .int .i64 0) (y1 := .int .i64 0) (show w8.heap.size ≠ w.heap.size + 1 + 1 + 1 by omega)).trans (unhide Kt_L2))
       have Ou_L3 := hide ((unhide Ou_L2).keep (fun k hk => put2_keep (y0 := .int .i64 0) (y1 := .int .i64 0) (Own.ne (unhide Ou_L2) (unhide Kg_L2) (by decide) k hk)))
       have Oj_L3 := hide ((unhide Oj_L2).keep (fun k hk => put2_keep (y0 := .int .i64 0) (y1 := .int .i64 0) (Own.ne (unhide Oj_L2) (unhide Kg_L2) (by decide) k hk)))
       obtain ⟨V2, eV2⟩ : ∃ X, put2 V1 (w.heap.size + 1 + 1 + 1) (.int .i64 0) (.int .i64 0) = X := ⟨_, rfl⟩
       rw [eV2] at HX_L3 Kq_L3 Kg_L3 Ke_L3 Kt_L3 Ou_L3 Oj_L3
       have eV22 : ((V1).setCell ⟨w.heap.size + 1 + 1 + 1, 0, none⟩ (.int .i64 0)).setCell ⟨w.heap.size + 1 + 1 + 1, 1, none⟩ (.int .i64 0) = V2 := eV2
       rw [eV22]
       clear eV2 eV22 HX_L2 Kq_L2 Kg_L2 Ke_L2 Kt_L2 Ou_L2 Oj_L2
       have hV3 : Below V2.heap.size V2 V2.drew := (Below.refl _ _).drew
       obtain ⟨V3, eV3⟩ : ∃ X, V2.drew = X := ⟨_, rfl⟩
       rw [eV3] at hV3 ⊢
       (have HX_L4 := hide (Below.next (unhide HX_L3) hV3 (by first | exact Nat.le_refl _ | (have := unhide HBA; omega))); have Kq_L4 := hide (keep_below (unhide Kq_L3) hV3); have Kg_L4 := hide (keep_below (unhide Kg_L3) hV3); have Ke_L4 := hide (keep_below (unhide Ke_L3) hV3); have Kt_L4 := hide (keep_below (unhide Kt_L3) hV3); have Ou_L4 := hide ((unhide Ou_L3).below hV3); have Oj_L4 := hide ((unhide Oj_L3).below hV3); clear HX_L3 Kq_L3 Kg_L3 Ke_L3 Kt_L3 Ou_L3 Oj_L3)
       clear hV3 eV3
       obtain ⟨⟨q0, q1, q2⟩, ⟨qf0, qf1, qf2⟩, ql⟩ := block3 (unhide Kq_L4)
       obtain ⟨g0, g1, gf0, gf1, gl⟩ := block2 (unhide Kg_L4)
       go_wp2_with fail
       refine bodyPost_ret (v := .tuple #[.agg #[.int .i64 b, .slice a8 (n + 1) c8, .slice a10 (nk + q) c10], .int .i64 S0, .agg #[.int .i64 0, .int .i64 0]]) (by simp [results, Try.results11, go_sem, q0, q1, q2, g0, g1]) rfl ⟨_, rfl, ⟨a8, c8, a10, c10, ?_, ?_, ?_⟩, unhide HX_L4⟩
       · rw [unhide HNK, unhide HJK]
       · rw [unhide HNK]; exact (unhide Ou_L4).new.base (by omega)
       · rw [unhide HJK]; exact (unhide Oj_L4).new.base (by omega))
    | (have HX10 := hide (unhide HWX _ (unhide HY10))
       have HQ10 := hide (keep_below (unhide Kq_7) (unhide HY10))
       have HG10 := hide (keep_below (unhide Kg_7) (unhide HY10))
       have HE10 := hide (keep_below (unhide Ke_7) (unhide HY10))
       have hw4 : w.heap.size + 1 + 1 + 1 < W5.heap.size := size_of (unhide Kg_7)
       have hw5 : W5.heap.size ≤ w8.heap.size := (unhide HY8).size
       have hw6 : W5.heap.size ≤ w9.heap.size := (unhide HY9).size
       have hw7 : W5.heap.size ≤ w10.heap.size := (unhide HY10).size
       have HX_L1 := hide (putL_below (y0 := .int .i64 b) (y1 := .slice a8 (n + 1) c8) (y2 := .slice a10 (nk + q) c10) (unhide HX10) (show w.heap.size ≤ w9.heap.size by first | omega | (have := unhide HBA; omega)))
       have Kq_L1 := hide ((putL_keep (y0 := .int .i64 b) (y1 := .slice a8 (n + 1) c8) (y2 := .slice a10 (nk + q) c10) (show w.heap.size + 1 + 1 ≠ w9.heap.size by omega)).trans (unhide HQ10))
       have Kg_L1 := hide ((putL_keep (y0 := .int .i64 b) (y1 := .slice a8 (n + 1) c8) (y2 := .slice a10 (nk + q) c10) (show w.heap.size + 1 + 1 + 1 ≠ w9.heap.size by omega)).trans (unhide HG10))
       have Ke_L1 := hide ((putL_keep (y0 := .int .i64 b) (y1 := .slice a8 (n + 1) c8) (y2 := .slice a10 (nk + q) c10) (show T3 ≠ w9.heap.size by omega)).trans (unhide HE10))
       have Kt_L1 := hide (putL_new (y0 := .int .i64 b) (y1 := .slice a8 (n + 1) c8) (y2 := .slice a10 (nk + q) c10) (unhide HT10))
       have Ou_L1 := hide ((unhide HP10).keep (fun k hk => putL_keep (y0 := .int .i64 b) (y1 := .slice a8 (n + 1) c8) (y2 := .slice a10 (nk + q) c10) (Own.ne (unhide HP10) (unhide HT10) (by decide) k hk)))
       have Oj_L1 := hide ((unhide HO10).keep (fun k hk => putL_keep (y0 := .int .i64 b) (y1 := .slice a8 (n + 1) c8) (y2 := .slice a10 (nk + q) c10) (Own.ne (unhide HO10) (unhide HT10) (by decide) k hk)))
       obtain ⟨V0, eV0⟩ : ∃ X, putL w10 (w9.heap.size) (.int .i64 b) (.slice a8 (n + 1) c8) (.slice a10 (nk + q) c10) = X := ⟨_, rfl⟩
       rw [eV0] at HX_L1 Kq_L1 Kg_L1 Ke_L1 Kt_L1 Ou_L1 Oj_L1
       have eV02 : (((w10).setCell ⟨w9.heap.size, 0, none⟩ (.int .i64 b)).setCell ⟨w9.heap.size, 1, none⟩ (.slice a8 (n + 1) c8)).setCell ⟨w9.heap.size, 2, none⟩ (.slice a10 (nk + q) c10) = V0 := eV0
       rw [eV02]
       clear eV0 eV02 HX10 HQ10 HG10 HE10 HT10 HP10 HO10
       go_upto_region 13 with fail
       obtain ⟨⟨q0, q1, q2⟩, ⟨qf0, qf1, qf2⟩, ql⟩ := block3 (unhide Kq_L1)
       obtain ⟨g0, g1, gf0, gf1, gl⟩ := block2 (unhide Kg_L1)
       obtain ⟨⟨r0, r1, r2⟩, ⟨rf0, rf1, rf2⟩, rl⟩ := block3 (unhide Kt_L1)
       obtain ⟨x0, x1, xf0, xf1, xl⟩ := block2 (unhide Ke_L1)
       have v0_ : w.heap.size + 1 + 1 ≠ w9.heap.size := by omega
       have v1_ : w9.heap.size ≠ w.heap.size + 1 + 1 := by omega
       have v2_ : w.heap.size + 1 + 1 ≠ T3 := by omega
       have v3_ : T3 ≠ w.heap.size + 1 + 1 := by omega
       have v4_ : w.heap.size + 1 + 1 + 1 ≠ w9.heap.size := by omega
       have v5_ : w9.heap.size ≠ w.heap.size + 1 + 1 + 1 := by omega
       have v6_ : w.heap.size + 1 + 1 + 1 ≠ T3 := by omega
       have v7_ : T3 ≠ w.heap.size + 1 + 1 + 1 := by omega
       go_wp2_with fail
       go_region
       clear q0 q1 q2 qf0 qf1 qf2 ql g0 g1 gf0 gf1 gl r0 r1 r2 rf0 rf1 rf2 rl x0 x1 xf0 xf1 xl
       have HX_L2 := hide (putL_below (y0 := .int .i64 b) (y1 := .slice a8 (n + 1) c8) (y2 := .slice a10 (nk + q) c10) (unhide HX_L1) (show w.heap.size ≤ w.heap.size + 1 + 1 by first | omega | (have := unhide HBA; omega)))
       have Kq_L2 := hide (putL_new (y0 := .int .i64 b) (y1 := .slice a8 (n + 1) c8) (y2 := .slice a10 (nk + q) c10) (unhide Kq_L1))
       have Kg_L2 := hide ((putL_keep (y0 := .int .i64 b) (y1 := .slice a8 (n + 1) c8) (y2 := .slice a10 (nk + q) c10) (show w.heap.size + 1 + 1 + 1 ≠ w.heap.size + 1 + 1 by omega)).trans (unhide Kg_L1))
       have Ke_L2 := hide ((putL_keep (y0 := .int .i64 b) (y1 := .slice a8 (n + 1) c8) (y2 := .slice a10 (nk + q) c10) (show T3 ≠ w.heap.size + 1 + 1 by omega)).trans (unhide Ke_L1))
       have Kt_L2 := hide ((putL_keep (y0 := .int .i64 b) (y1 := .slice a8 (n + 1) c8) (y2 := .slice a10 (nk + q) c10) (show w9.heap.size ≠ w.heap.size + 1 + 1 by omega)).trans (unhide Kt_L1))
       have Ou_L2 := hide ((unhide Ou_L1).keep (fun k hk => putL_keep (y0 := .int .i64 b) (y1 := .slice a8 (n + 1) c8) (y2 := .slice a10 (nk + q) c10) (Own.ne (unhide Ou_L1) (unhide Kq_L1) (by decide) k hk)))
       have Oj_L2 := hide ((unhide Oj_L1).keep (fun k hk => putL_keep (y0 := .int .i64 b) (y1 := .slice a8 (n + 1) c8) (y2 := .slice a10 (nk + q) c10) (Own.ne (unhide Oj_L1) (unhide Kq_L1) (by decide) k hk)))
       obtain ⟨V1, eV1⟩ : ∃ X, putL V0 (w.heap.size + 1 + 1) (.int .i64 b) (.slice a8 (n + 1) c8) (.slice a10 (nk + q) c10) = X := ⟨_, rfl⟩
       rw [eV1] at HX_L2 Kq_L2 Kg_L2 Ke_L2 Kt_L2 Ou_L2 Oj_L2
       have eV12 : (((V0).setCell ⟨w.heap.size + 1 + 1, 0, none⟩ (.int .i64 b)).setCell ⟨w.heap.size + 1 + 1, 1, none⟩ (.slice a8 (n + 1) c8)).setCell ⟨w.heap.size + 1 + 1, 2, none⟩ (.slice a10 (nk + q) c10) = V1 := eV1
       rw [eV12]
       clear eV1 eV12 HX_L1 Kq_L1 Kg_L1 Ke_L1 Kt_L1 Ou_L1 Oj_L1
       have HX_L3 := hide (put2_below (y0 := .int .i64 0) (y1 := .int .i64 0) (unhide HX_L2) (show w.heap.size ≤ w.heap.size + 1 + 1 + 1 by first | omega | (have := unhide HBA; omega)))
       have Kq_L3 := hide ((put2_keep (y0 := .int .i64 0) (y1 := .int .i64 0) (show w.heap.size + 1 + 1 ≠ w.heap.size + 1 + 1 + 1 by omega)).trans (unhide Kq_L2))
       have Kg_L3 := hide (put2_new (y0 := .int .i64 0) (y1 := .int .i64 0) (unhide Kg_L2))
       have Ke_L3 := hide ((put2_keep (y0 := .int .i64 0) (y1 := .int .i64 0) (show T3 ≠ w.heap.size + 1 + 1 + 1 by omega)).trans (unhide Ke_L2))
       have Kt_L3 := hide ((put2_keep (y0 := .int .i64 0) (y1 := .int .i64 0) (show w9.heap.size ≠ w.heap.size + 1 + 1 + 1 by omega)).trans (unhide Kt_L2))
       have Ou_L3 := hide ((unhide Ou_L2).keep (fun k hk => put2_keep (y0 := .int .i64 0) (y1 := .int .i64 0) (Own.ne (unhide Ou_L2) (unhide Kg_L2) (by decide) k hk)))
       have Oj_L3 := hide ((unhide Oj_L2).keep (fun k hk => put2_keep (y0 := .int .i64 0) (y1 := .int .i64 0) (Own.ne (unhide Oj_L2) (unhide Kg_L2) (by decide) k hk)))
       obtain ⟨V2, eV2⟩ : ∃ X, put2 V1 (w.heap.size + 1 + 1 + 1) (.int .i64 0) (.int .i64 0) = X := ⟨_, rfl⟩
       rw [eV2] at HX_L3 Kq_L3 Kg_L3 Ke_L3 Kt_L3 Ou_L3 Oj_L3
       have eV22 : ((V1).setCell ⟨w.heap.size + 1 + 1 + 1, 0, none⟩ (.int .i64 0)).setCell ⟨w.heap.size + 1 + 1 + 1, 1, none⟩ (.int .i64 0) = V2 := eV2
       rw [eV22]
       clear eV2 eV22 HX_L2 Kq_L2 Kg_L2 Ke_L2 Kt_L2 Ou_L2 Oj_L2
       have hV3 : Below V2.heap.size V2 V2.drew := (Below.refl _ _).drew
       obtain ⟨V3, eV3⟩ : ∃ X, V2.drew = X := ⟨_, rfl⟩
       rw [eV3] at hV3 ⊢
       (have HX_L4 := hide (Below.next (unhide HX_L3) hV3 (by first | exact Nat.le_refl _ | (have := unhide HBA; omega))); have Kq_L4 := hide (keep_below (unhide Kq_L3) hV3); have Kg_L4 := hide (keep_below (unhide Kg_L3) hV3); have Ke_L4 := hide (keep_below (unhide Ke_L3) hV3); have Kt_L4 := hide (keep_below (unhide Kt_L3) hV3); have Ou_L4 := hide ((unhide Ou_L3).below hV3); have Oj_L4 := hide ((unhide Oj_L3).below hV3); clear HX_L3 Kq_L3 Kg_L3 Ke_L3 Kt_L3 Ou_L3 Oj_L3)
       clear hV3 eV3
       obtain ⟨⟨q0, q1, q2⟩, ⟨qf0, qf1, qf2⟩, ql⟩ := block3 (unhide Kq_L4)
       obtain ⟨g0, g1, gf0, gf1, gl⟩ := block2 (unhide Kg_L4)
       go_wp2_with fail
       refine bodyPost_ret (v := .tuple #[.agg #[.int .i64 b, .slice a8 (n + 1) c8, .slice a10 (nk + q) c10], .int .i64 S0, .agg #[.int .i64 0, .int .i64 0]]) (by simp [results, Try.results11, go_sem, q0, q1, q2, g0, g1]) rfl ⟨_, rfl, ⟨a8, c8, a10, c10, ?_, ?_, ?_⟩, unhide HX_L4⟩
       · rw [unhide HNK, unhide HJK]
       · rw [unhide HNK]; exact (unhide Ou_L4).new.base (by omega)
       · rw [unhide HJK]; exact (unhide Oj_L4).new.base (by omega))
    | (have HX10 := hide (unhide HWX _ (unhide HY10))
       have HQ10 := hide (keep_below (unhide Kq_7) (unhide HY10))
       have HG10 := hide (keep_below (unhide Kg_7) (unhide HY10))
       have HE10 := hide (keep_below (unhide Ke_7) (unhide HY10))
       have hw4 : w.heap.size + 1 + 1 + 1 < W5.heap.size := size_of (unhide Kg_7)
       have hw5 : W5.heap.size ≤ w8.heap.size := (unhide HY8).size
       have hw6 : W5.heap.size ≤ w9.heap.size := (unhide HY9).size
       have hw7 : W5.heap.size ≤ w10.heap.size := (unhide HY10).size
       have HX_L1 := hide ((unhide HX10).alloc (Nat.le_trans (show w.heap.size ≤ w.heap.size from Nat.le_refl _) (unhide HX10).size) (.cells #[.int .i64 b, .slice a8 (n + 1) c8, .slice a10 (nk + q) c10] 24))
       have Kq_L1 := hide (keep_alloc (unhide HQ10) (.cells #[.int .i64 b, .slice a8 (n + 1) c8, .slice a10 (nk + q) c10] 24))
       have Kg_L1 := hide (keep_alloc (unhide HG10) (.cells #[.int .i64 b, .slice a8 (n + 1) c8, .slice a10 (nk + q) c10] 24))
       have Ke_L1 := hide (keep_alloc (unhide HE10) (.cells #[.int .i64 b, .slice a8 (n + 1) c8, .slice a10 (nk + q) c10] 24))
       have Ou_L1 := hide ((unhide HP10).below ((Below.refl _ _).alloc (Nat.le_refl _) (.cells #[.int .i64 b, .slice a8 (n + 1) c8, .slice a10 (nk + q) c10] 24)))
       have Oj_L1 := hide ((unhide HO10).below ((Below.refl _ _).alloc (Nat.le_refl _) (.cells #[.int .i64 b, .slice a8 (n + 1) c8, .slice a10 (nk + q) c10] 24)))
       have Kt_L1 := hide (new_block w10 (.cells #[.int .i64 b, .slice a8 (n + 1) c8, .slice a10 (nk + q) c10] 24))
       have hlq_t : w.heap.size + 1 + 1 < w10.heap.size := size_of (unhide HQ10)
       have hlg_t : w.heap.size + 1 + 1 + 1 < w10.heap.size := size_of (unhide HG10)
       have hle_t : T3 < w10.heap.size := size_of (unhide HE10)
       obtain ⟨T9, eT9⟩ : ∃ X, w10.heap.size = X := ⟨_, rfl⟩
       obtain ⟨V0, eV0⟩ : ∃ X, w10.alloc (.cells #[.int .i64 b, .slice a8 (n + 1) c8, .slice a10 (nk + q) c10] 24) = X := ⟨_, rfl⟩
       rw [eT9, eV0] at Kt_L1; rw [eV0] at HX_L1 Kq_L1 Kg_L1 Ke_L1 Ou_L1 Oj_L1; rw [eT9] at hlq_t hlg_t hle_t; rw [eT9, eV0]
       clear eT9 eV0 HX10 HQ10 HG10 HE10 HP10 HO10
       go_upto_region 13 with fail
       obtain ⟨⟨q0, q1, q2⟩, ⟨qf0, qf1, qf2⟩, ql⟩ := block3 (unhide Kq_L1)
       obtain ⟨g0, g1, gf0, gf1, gl⟩ := block2 (unhide Kg_L1)
       obtain ⟨⟨r0, r1, r2⟩, ⟨rf0, rf1, rf2⟩, rl⟩ := block3 (unhide Kt_L1)
       obtain ⟨x0, x1, xf0, xf1, xl⟩ := block2 (unhide Ke_L1)
       have v0_ : w.heap.size + 1 + 1 ≠ T9 := by omega
       have v1_ : T9 ≠ w.heap.size + 1 + 1 := by omega
       have v2_ : w.heap.size + 1 + 1 ≠ T3 := by omega
       have v3_ : T3 ≠ w.heap.size + 1 + 1 := by omega
       have v4_ : w.heap.size + 1 + 1 + 1 ≠ T9 := by omega
       have v5_ : T9 ≠ w.heap.size + 1 + 1 + 1 := by omega
       have v6_ : w.heap.size + 1 + 1 + 1 ≠ T3 := by omega
       have v7_ : T3 ≠ w.heap.size + 1 + 1 + 1 := by omega
       go_wp2_with fail
       go_region
       clear q0 q1 q2 qf0 qf1 qf2 ql g0 g1 gf0 gf1 gl r0 r1 r2 rf0 rf1 rf2 rl x0 x1 xf0 xf1 xl
       have HX_L2 := hide (putL_below (y0 := .int .i64 b) (y1 := .slice a8 (n + 1) c8) (y2 := .slice a10 (nk + q) c10) (unhide HX_L1) (show w.heap.size ≤ w.heap.size + 1 + 1 by first | omega | (have := unhide HBA; omega)))
       have Kq_L2 := hide (putL_new (y0 := .int .i64 b) (y1 := .slice a8 (n + 1) c8) (y2 := .slice a10 (nk + q) c10) (unhide Kq_L1))
       have Kg_L2 := hide ((putL_keep (y0 := .int .i64 b) (y1 := .slice a8 (n + 1) c8) (y2 := .slice a10 (nk + q) c10) (show w.heap.size + 1 + 1 + 1 ≠ w.heap.size + 1 + 1 by omega)).trans (unhide Kg_L1))
       have Ke_L2 := hide ((putL_keep (y0 := .int .i64 b) (y1 := .slice a8 (n + 1) c8) (y2 := .slice a10 (nk + q) c10) (show T3 ≠ w.heap.size + 1 + 1 by omega)).trans (unhide Ke_L1))
       have Kt_L2 := hide ((putL_keep (y0 := .int .i64 b) (y1 := .slice a8 (n + 1) c8) (y2 := .slice a10 (nk + q) c10) (show T9 ≠ w.heap.size + 1 + 1 by omega)).trans (unhide Kt_L1))
       have Ou_L2 := hide ((unhide Ou_L1).keep (fun k hk => putL_keep (y0 := .int .i64 b) (y1 := .slice a8 (n + 1) c8) (y2 := .slice a10 (nk + q) c10) (Own.ne (unhide Ou_L1) (unhide Kq_L1) (by decide) k hk)))
       have Oj_L2 := hide ((unhide Oj_L1).keep (fun k hk => putL_keep (y0 := .int .i64 b) (y1 := .slice a8 (n + 1) c8) (y2 := .slice a10 (nk + q) c10) (Own.ne (unhide Oj_L1) (unhide Kq_L1) (by decide) k hk)))
       obtain ⟨V1, eV1⟩ : ∃ X, putL V0 (w.heap.size + 1 + 1) (.int .i64 b) (.slice a8 (n + 1) c8) (.slice a10 (nk + q) c10) = X := ⟨_, rfl⟩
       rw [eV1] at HX_L2 Kq_L2 Kg_L2 Ke_L2 Kt_L2 Ou_L2 Oj_L2
       have eV12 : (((V0).setCell ⟨w.heap.size + 1 + 1, 0, none⟩ (.int .i64 b)).setCell ⟨w.heap.size + 1 + 1, 1, none⟩ (.slice a8 (n + 1) c8)).setCell ⟨w.heap.size + 1 + 1, 2, none⟩ (.slice a10 (nk + q) c10) = V1 := eV1
       rw [eV12]
       clear eV1 eV12 HX_L1 Kq_L1 Kg_L1 Ke_L1 Kt_L1 Ou_L1 Oj_L1
       have HX_L3 := hide (put2_below (y0 := .int .i64 0) (y1 := .int .i64 0) (unhide HX_L2) (show w.heap.size ≤ w.heap.size + 1 + 1 + 1 by first | omega | (have := unhide HBA; omega)))
       have Kq_L3 := hide ((put2_keep (y0 := .int .i64 0) (y1 := .int .i64 0) (show w.heap.size + 1 + 1 ≠ w.heap.size + 1 + 1 + 1 by omega)).trans (unhide Kq_L2))
       have Kg_L3 := hide (put2_new (y0 := .int .i64 0) (y1 := .int .i64 0) (unhide Kg_L2))
       have Ke_L3 := hide ((put2_keep (y0 := .int .i64 0) (y1 := .int .i64 0) (show T3 ≠ w.heap.size + 1 + 1 + 1 by omega)).trans (unhide Ke_L2))
       have Kt_L3 := hide ((put2_keep (y0 := .int .i64 0) (y1 := .int .i64 0) (show T9 ≠ w.heap.size + 1 + 1 + 1 by omega)).trans (unhide Kt_L2))
       have Ou_L3 := hide ((unhide Ou_L2).keep (fun k hk => put2_keep (y0 := .int .i64 0) (y1 := .int .i64 0) (Own.ne (unhide Ou_L2) (unhide Kg_L2) (by decide) k hk)))
       have Oj_L3 := hide ((unhide Oj_L2).keep (fun k hk => put2_keep (y0 := .int .i64 0) (y1 := .int .i64 0) (Own.ne (unhide Oj_L2) (unhide Kg_L2) (by decide) k hk)))
       obtain ⟨V2, eV2⟩ : ∃ X, put2 V1 (w.heap.size + 1 + 1 + 1) (.int .i64 0) (.int .i64 0) = X := ⟨_, rfl⟩
       rw [eV2] at HX_L3 Kq_L3 Kg_L3 Ke_L3 Kt_L3 Ou_L3 Oj_L3
       have eV22 : ((V1).setCell ⟨w.heap.size + 1 + 1 + 1, 0, none⟩ (.int .i64 0)).setCell ⟨w.heap.size + 1 + 1 + 1, 1, none⟩ (.int .i64 0) = V2 := eV2
       rw [eV22]
       clear eV2 eV22 HX_L2 Kq_L2 Kg_L2 Ke_L2 Kt_L2 Ou_L2 Oj_L2
       have hV3 : Below V2.heap.size V2 V2.drew := (Below.refl _ _).drew
       obtain ⟨V3, eV3⟩ : ∃ X, V2.drew = X := ⟨_, rfl⟩
       rw [eV3] at hV3 ⊢
       (have HX_L4 := hide (Below.next (unhide HX_L3) hV3 (by first | exact Nat.le_refl _ | (have := unhide HBA; omega))); have Kq_L4 := hide (keep_below (unhide Kq_L3) hV3); have Kg_L4 := hide (keep_below (unhide Kg_L3) hV3); have Ke_L4 := hide (keep_below (unhide Ke_L3) hV3); have Kt_L4 := hide (keep_below (unhide Kt_L3) hV3); have Ou_L4 := hide ((unhide Ou_L3).below hV3); have Oj_L4 := hide ((unhide Oj_L3).below hV3); clear HX_L3 Kq_L3 Kg_L3 Ke_L3 Kt_L3 Ou_L3 Oj_L3)
       clear hV3 eV3
       obtain ⟨⟨q0, q1, q2⟩, ⟨qf0, qf1, qf2⟩, ql⟩ := block3 (unhide Kq_L4)
       obtain ⟨g0, g1, gf0, gf1, gl⟩ := block2 (unhide Kg_L4)
       go_wp2_with fail
       refine bodyPost_ret (v := .tuple #[.agg #[.int .i64 b, .slice a8 (n + 1) c8, .slice a10 (nk + q) c10], .int .i64 S0, .agg #[.int .i64 0, .int .i64 0]]) (by simp [results, Try.results11, go_sem, q0, q1, q2, g0, g1]) rfl ⟨_, rfl, ⟨a8, c8, a10, c10, ?_, ?_, ?_⟩, unhide HX_L4⟩
       · rw [unhide HNK, unhide HJK]
       · rw [unhide HNK]; exact (unhide Ou_L4).new.base (by omega)
       · rw [unhide HJK]; exact (unhide Oj_L4).new.base (by omega))

end Go.Proofs.Ytomhfnjnmhdpkaa
