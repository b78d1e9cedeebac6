/-
  taskmilllaw.BuddyBack.
-/
import Derived.Test.YtomhfnjnmhdpkaaBm
namespace Go.Proofs.Ytomhfnjnmhdpkaa
open Go.RowKit

theorem give_new (w : World) (v : Value) (b : Int) (us fs : List Bl) (s : Int) (h : IsS w v b us fs) (hn : us.length ≤ 100000) (hm : fs.length ≤ 100000) (hb1 : Bnd us) (hb2 : Bnd fs) :
    Calls Try.prog 17 #[v, .int .i64 s] w fun e w' => ∃ sv, e = .returned (.tuple #[sv, .agg #[.int .i64 (giveR b us fs s).1.1, .int .i64 (giveR b us fs s).1.2]]) ∧ NewS w.heap.size w' sv (giveR b us fs s).2.1 (giveR b us fs s).2.2.1 (giveR b us fs s).2.2.2 ∧ Below w.heap.size w w' := by
  have hnil : ∀ w' : World, NewS w.heap.size w' noS 0 [] [] := fun w' => ⟨none, 0, none, 0, rfl, new_nil _ _, new_nil _ _⟩
  unfold giveR
  by_cases hf : (spaceF b us fs).1 = 0
  · rw [if_neg (by simpa using hf)]
    have hz := spaceF_zero hf
    by_cases hp : placeN s us < us.length ∧ (aAt us (placeN s us)).1 = s
    · rw [if_pos hp]
      obtain ⟨x, hx⟩ : ∃ x, aAt us (placeN s us) = x := ⟨_, rfl⟩
      rw [hx] at hp ⊢
      have e : x = (s, x.2) := by rw [← hp.2]
      refine (give_ok w v b us fs s x.2 h hn hm hb1 hb2 hz hp.1 (hx.trans e)).mono ?_
      rintro e' w' ⟨sv, rfl, h1, hb⟩
      rw [← e] at h1
      exact ⟨sv, rfl, h1, hb⟩
    · rw [if_neg hp]
      refine (give_none w v b us fs s h hn hm hb1 hb2 hz hp).mono ?_
      rintro e' w' ⟨rfl, hb⟩
      exact ⟨_, rfl, hnil w', hb⟩
  · rw [if_pos hf]
    refine (give_fault w v b us fs s h hn hm hb1 hb2 hf).mono ?_
    rintro e' w' ⟨rfl, hb⟩
    exact ⟨_, rfl, hnil w', hb⟩
theorem takeR_zero {b : Int} {us fs : List Bl} {z : Int} (h : (takeR b us fs z).1.1 = 0) : spaceF b us fs = (0, 0) ∧ 1 ≤ z ∧ ∃ x, leastL (asks z) fs = some x ∧ us.length + fs.length + (halves z x.1 31 x.2).2.length ≤ 5000 ∧ takeR b us fs z = ((0, 0), x.1, b, takeUs z us x, takeFs z fs x) := by
  unfold takeR at h ⊢
  by_cases hf : (spaceF b us fs).1 = 0
  · rw [if_neg (by simpa using hf)] at h ⊢
    by_cases hr : z < 1 ∨ 1073741824 < z
    · rw [if_pos hr] at h; simp at h
    · rw [if_neg hr] at h ⊢
      cases hl : leastL (asks z) fs with
      | none => rw [hl] at h; simp at h
      | some x =>
        rw [hl] at h
        simp only at h ⊢
        by_cases hq : 5000 < us.length + fs.length + (halves z x.1 31 x.2).2.length
        · rw [if_pos hq] at h; simp at h
        · rw [if_neg hq]
          exact ⟨spaceF_zero hf, by omega, x, rfl, by omega, rfl⟩
  · rw [if_pos hf] at h
    exact absurd h hf
theorem bnd_good {b : Int} {us fs : List Bl} (h : spaceF b us fs = (0, 0)) : Bnd us ∧ Bnd fs := by
  obtain ⟨hg1, hg2, hg3, hg4, hg5, hg6⟩ := spaceF_good h
  exact ⟨fun x hx => by have := pw_le (fit_parts (hg3.1 x hx)).1; omega, fun x hx => by have := pw_le (fit_parts (hg4.1 x hx)).1; omega⟩
theorem NewS.put2 {base R : Nat} {w : World} {v : Value} {b : Int} {us fs : List Bl} (h : NewS base w v b us fs) (hR : R < base) {y0 y1 : Value} : NewS base (put2 w R y0 y1) v b us fs := by
  obtain ⟨a, c, a', c', rfl, h1, h2⟩ := h
  exact ⟨a, c, a', c', rfl, (h1.set kb hR).set kb hR, (h2.set kb hR).set kb hR⟩

set_option maxRecDepth 100000 in
set_option maxHeartbeats 4000000 in
theorem back_walk (w : World) (v : Value) (b : Int) (us fs : List Bl) (z : Int) (h : IsS w v b us fs) (hn : us.length ≤ 1000000000000000) (hm : fs.length ≤ 1000000000000000) (hb1 : Bnd us) (hb2 : Bnd fs) :
    Calls Try.prog 5 #[v, .int .i64 z] w fun e w' => e = .returned (.bool true) ∧ Below w.heap.size w w' := by
  have HV := hide (fun W (hW : Below w.heap.size w W) => vastSpace_any W v b us fs (h.below hW) hn hm)
  have HBG := hide (fun W => begun_any W)
  obtain ⟨VST, eVST⟩ : ∃ X, decide (6000 < us.length + fs.length) = X := ⟨_, rfl⟩
  rw [eVST] at HV
  have HVS := hide eVST
  have HI := hide h; have HB1' := hide hb1; have HB2' := hide hb2
  obtain ⟨a0, c0, a1, c1, rfl, hu, hf⟩ := h.form
  obtain ⟨n, en⟩ : ∃ n, us.length = n := ⟨_, rfl⟩
  obtain ⟨m, em⟩ : ∃ m, fs.length = m := ⟨_, rfl⟩
  rw [en, em] at HV HI ⊢
  have HX := hide ((Below.refl w.heap.size w).alloc (Nat.le_refl _) (.cells #[.int .i64 b, .slice a0 n c0, .slice a1 m c1] 24))
  have HP := hide (new_block w (.cells #[.int .i64 b, .slice a0 n c0, .slice a1 m c1] 24))
  obtain ⟨W0, e0⟩ : ∃ W, w.alloc (.cells #[.int .i64 b, .slice a0 n c0, .slice a1 m c1] 24) = W := ⟨_, rfl⟩
  rw [e0] at HX HP
  have HE := hide e0
  clear h hu hf en em e0 hb1 hb2 eVST hn hm
  go_enter Try.func5, Try.ntmps5
  go_upto_region 1 with fail
  rw [unhide HE]
  clear HE
  go_upto_region 3 with (go_at_call 7; refine (unhide HBG _).mono ?_; rintro e w1 ⟨rfl, hb1⟩; have HX_1 := hide (Below.next (unhide HX) hb1 (by first | exact Nat.le_refl _ | (have := unhide HBA; omega))); have Kp_1 := hide (keep_below (unhide HP) hb1); clear HX HP; clear hb1)
  obtain ⟨⟨p0, p1, p2⟩, ⟨pf0, pf1, pf2⟩, pl⟩ := block3 (unhide Kp_1)
  cases VST with
  | true =>
    go_wp2_with (go_at_call 8; refine (unhide HV _ (unhide HX_1)).mono ?_; rintro e w2 ⟨rfl, hb2⟩; have HX2 := hide (Below.next (unhide HX_1) hb2 (Nat.le_refl _)); clear hb2)
    go_ret
    exact ⟨rfl, unhide HX2⟩
  | false =>
    have hv : us.length + fs.length ≤ 6000 := by have := of_decide_eq_false (unhide HVS); omega
    have HVL := hide hv
    have HTK : Hid (∀ W, Below w.heap.size w W → Calls Try.prog 11 #[.agg #[.int .i64 b, .slice a0 n c0, .slice a1 m c1], .int .i64 z] W fun e w' => ∃ au nu cu af nf cf, e = .returned (.tuple #[.agg #[.int .i64 (takeR b us fs z).2.2.1, .slice au nu cu, .slice af nf cf], .int .i64 (takeR b us fs z).2.1, .agg #[.int .i64 (takeR b us fs z).1.1, .int .i64 (takeR b us fs z).1.2]]) ∧ IsS w' (.agg #[.int .i64 (takeR b us fs z).2.2.1, .slice au nu cu, .slice af nf cf]) (takeR b us fs z).2.2.1 (takeR b us fs z).2.2.2.1 (takeR b us fs z).2.2.2.2 ∧ Below W.heap.size W w') := fun W hW => take_any W _ b us fs z ((unhide HI).below hW) (by omega) (by omega) (unhide HB1') (unhide HB2')
    obtain ⟨⟨⟨FC, FA⟩, AT, b', us', fs'⟩, eG⟩ : ∃ G, takeR b us fs z = G := ⟨_, rfl⟩
    have hT0 := fun h => @takeR_zero b us fs z h
    rw [eG] at HTK hT0
    simp only at HTK hT0
    have HT0 := hide hT0
    clear eG HB1' HB2' HVS HBG hv hT0
    go_upto_region 5 with (go_at_call 8; refine (unhide HV _ (unhide HX_1)).mono ?_; rintro e w2 ⟨rfl, hb2⟩; have HX_2 := hide (Below.next (unhide HX_1) hb2 (by first | exact Nat.le_refl _ | (have := unhide HBA; omega))); have Kp_2 := hide (keep_below (unhide Kp_1) hb2); clear HX_1 Kp_1; clear hb2 HV p0 p1 p2 pf0 pf1 pf2 pl)
    obtain ⟨⟨p0, p1, p2⟩, ⟨pf0, pf1, pf2⟩, pl⟩ := block3 (unhide Kp_2)
    go_upto_region 6 with (go_at_call 11; refine (unhide HTK _ (unhide HX_2)).mono ?_; rintro e w3 ⟨au, nu, cu, af, nf, cf, rfl, hs3, hb3⟩; have HI3 := hide hs3; have HX_3 := hide (Below.next (unhide HX_2) hb3 (by first | exact Nat.le_refl _ | (have := unhide HBA; omega))); have Kp_3 := hide (keep_below (unhide Kp_2) hb3); clear HX_2 Kp_2; clear hs3 hb3 p0 p1 p2 pf0 pf1 pf2 pl)
    obtain ⟨W4, eW4, hBW4, k0_4, k1_4⟩ := two_new w3 (.cells #[.int .i64 b', .slice au nu cu, .slice af nf cf] 24) (.cells #[.int .i64 FC, .int .i64 FA] 29)
    rw [eW4]
    clear eW4
    have hlp_t : w.heap.size < w3.heap.size := size_of (unhide Kp_3)
    (have HX_4 := hide (Below.next (unhide HX_3) hBW4 (by first | exact Nat.le_refl _ | (have := unhide HBA; omega))); have Kp_4 := hide (keep_below (unhide Kp_3) hBW4); have Ft_4 := hide ((unhide HI3).below hBW4); clear HX_3 Kp_3 HI3)
    obtain ⟨T, eT⟩ : ∃ X, w3.heap.size = X := ⟨_, rfl⟩
    rw [eT] at k0_4 k1_4 hlp_t ⊢
    have Kt_4 := hide k0_4
    have Kf_4 := hide k1_4
    clear eT hBW4 k0_4 k1_4
    obtain ⟨q0, q1, qf0, qf1, ql⟩ := block2 (unhide Kf_4)
    obtain ⟨⟨r0, r1, r2⟩, ⟨rf0, rf1, rf2⟩, rl⟩ := block3 (unhide Kt_4)
    by_cases hfc : FC = 0
    · obtain ⟨hz, hz1, x, hl, hq, hG⟩ := unhide HT0 hfc
      have hbk := takes_back hz hz1 hl hq
      have hbd := bnd_good hbk.1
      have hlens := take_lens hz hl
      cases hG
      have HBK := hide hbk.2
      have HGV : Hid (∀ W sv, IsS W sv b (takeUs z us x) (takeFs z fs x) → Calls Try.prog 17 #[sv, .int .i64 x.1] W fun e w' => ∃ au nu cu af nf cf, e = .returned (.tuple #[.agg #[.int .i64 b, .slice au nu cu, .slice af nf cf], .agg #[.int .i64 0, .int .i64 0]]) ∧ NewS W.heap.size w' (.agg #[.int .i64 b, .slice au nu cu, .slice af nf cf]) b us fs ∧ Below W.heap.size W w') := fun W sv hs => (give_new W sv b _ _ x.1 hs (by omega) (by omega) hbd.1 hbd.2).mono fun e w' ⟨sv2, h1, h2, h3⟩ => by
        rw [hbk.2] at h1 h2
        obtain ⟨a, c, a', c', rfl, h4, h5⟩ := h2
        exact ⟨a, _, c, a', _, c', h1, ⟨a, c, a', c', rfl, h4, h5⟩, h3⟩
      clear hz hl hq hbk hbd hlens HT0 HTK
      have hft : T + 1 < W4.heap.size := size_of (unhide Kf_4)
      go_upto_region 8 with fail
      go_wp2_with fail
      go_upto_region 9 with (go_at_call 17; refine (unhide HGV _ _ (unhide Ft_4)).mono ?_; rintro e w5 ⟨ag, ng, cg, ah, nh, ch, rfl, hs5, hb5⟩; have HS5 := hide hs5; have HX_5 := hide (Below.next (unhide HX_4) hb5 (by first | exact Nat.le_refl _ | (have := unhide HBA; omega))); have Kp_5 := hide (keep_below (unhide Kp_4) hb5); have Kt_5 := hide (keep_below (unhide Kt_4) hb5); have Kf_5 := hide (keep_below (unhide Kf_4) hb5); have Ft_5 := hide ((unhide Ft_4).below hb5); clear HX_4 Kp_4 Kt_4 Kf_4 Ft_4; clear hs5 hb5 q0 q1 qf0 qf1 ql r0 r1 r2 rf0 rf1 rf2 rl; obtain ⟨q0, q1, qf0, qf1, ql⟩ := block2 (unhide Kf_5))
      clear q0 q1 qf0 qf1 ql
      have hs1 : (put2 w5 (T + 1) (.int .i64 0) (.int .i64 0)).heap.size = w5.heap.size := by simp [put2, World.setCell]
      have HS6 := hide ((unhide HS5).put2 (y0 := .int .i64 0) (y1 := .int .i64 0) hft)
      have HX_6 := hide (put2_below (y0 := .int .i64 0) (y1 := .int .i64 0) (unhide HX_5) (show w.heap.size ≤ T + 1 by first | omega | (have := unhide HBA; omega)))
      have Kp_6 := hide ((put2_keep (y0 := .int .i64 0) (y1 := .int .i64 0) (show w.heap.size ≠ T + 1 by omega)).trans (unhide Kp_5))
      have Kt_6 := hide ((put2_keep (y0 := .int .i64 0) (y1 := .int .i64 0) (show T ≠ T + 1 by omega)).trans (unhide Kt_5))
      have Kf_6 := hide (put2_new (y0 := .int .i64 0) (y1 := .int .i64 0) (unhide Kf_5))
      obtain ⟨V1, eV1⟩ : ∃ X, put2 w5 (T + 1) (.int .i64 0) (.int .i64 0) = X := ⟨_, rfl⟩
      rw [eV1] at hs1 HS6 HX_6 Kp_6 Kt_6 Kf_6
      have eV12 : ((w5).setCell ⟨T + 1, 0, none⟩ (.int .i64 0)).setCell ⟨T + 1, 1, none⟩ (.int .i64 0) = V1 := eV1
      rw [eV12]
      clear eV1 eV12 HX_5 Kp_5 Kt_5 Kf_5
      have HS7 := hide ((unhide HS6).below ((Below.refl _ _).alloc (Nat.le_refl _) (.cells #[.int .i64 b, .slice ag ng cg, .slice ah nh ch] 24)))
      have HX_7 := hide ((unhide HX_6).alloc (Nat.le_trans (show w.heap.size ≤ w.heap.size from Nat.le_refl _) (unhide HX_6).size) (.cells #[.int .i64 b, .slice ag ng cg, .slice ah nh ch] 24))
      have Kp_7 := hide (keep_alloc (unhide Kp_6) (.cells #[.int .i64 b, .slice ag ng cg, .slice ah nh ch] 24))
      have Kt_7 := hide (keep_alloc (unhide Kt_6) (.cells #[.int .i64 b, .slice ag ng cg, .slice ah nh ch] 24))
      have Kf_7 := hide (keep_alloc (unhide Kf_6) (.cells #[.int .i64 b, .slice ag ng cg, .slice ah nh ch] 24))
      have Ku_7 := hide (new_block V1 (.cells #[.int .i64 b, .slice ag ng cg, .slice ah nh ch] 24))
      have hlp_u : w.heap.size < V1.heap.size := size_of (unhide Kp_6)
      have hlt_u : T < V1.heap.size := size_of (unhide Kt_6)
      have hlf_u : T + 1 < V1.heap.size := size_of (unhide Kf_6)
      obtain ⟨V2, eV2⟩ : ∃ X, V1.alloc (.cells #[.int .i64 b, .slice ag ng cg, .slice ah nh ch] 24) = X := ⟨_, rfl⟩
      rw [hs1, eV2] at Ku_7; rw [eV2] at HS7 HX_7 Kp_7 Kt_7 Kf_7; rw [hs1] at hlp_u hlt_u hlf_u; rw [eV2]
      clear eV2 hs1 HX_6 Kp_6 Kt_6 Kf_6
      obtain ⟨⟨p0, p1, p2⟩, ⟨pf0, pf1, pf2⟩, pl⟩ := block3 (unhide Kp_7)
      obtain ⟨q0, q1, qf0, qf1, ql⟩ := block2 (unhide Kf_7)
      obtain ⟨⟨r0, r1, r2⟩, ⟨rf0, rf1, rf2⟩, rl⟩ := block3 (unhide Ku_7)
      go_wp2_with (go_at_call 14; refine (sameSpace_same _ _ _ b us fs (unhide HS7).s ((unhide HI).below (unhide HX_7)) (by have := unhide HVL; omega) (by have := unhide HVL; omega)).mono ?_; rintro e wz ⟨rfl, hbz⟩; have HXZ := hide (Below.next (unhide HX_7) hbz (Nat.le_refl _)); clear hbz)
      go_ret
      exact ⟨rfl, unhide HXZ⟩
    · have hbn : (FC != 0) = true := by simpa using hfc
      go_wp2_with fail
      go_ret
      exact ⟨rfl, unhide HX_4⟩
end Go.Proofs.Ytomhfnjnmhdpkaa
