/-
  buddy.Give of a block that is there.
-/
import Derived.Test.YtomhfnjnmhdpkaaS
namespace Go.Proofs.Ytomhfnjnmhdpkaa
open Go.RowKit

theorem alloc_b {w W : World} {o : Obj} (h : Below w.heap.size w W) : Below w.heap.size w (W.alloc o) := h.alloc h.size o
theorem drew_b {w W : World} (h : Below w.heap.size w W) : Below w.heap.size w W.drew := h.drew
theorem set_b {w W : World} {g i : Nat} {y : Value} (h : Below w.heap.size w W) (hg : w.heap.size ≤ g) : Below w.heap.size w (W.setCell ⟨g, i, none⟩ y) := h.setCell hg y

set_option maxRecDepth 100000 in
set_option maxHeartbeats 4000000 in
theorem give_ok (w : World) (v : Value) (b : Int) (us fs : List Bl) (start sz : Int) (h : IsS w v b us fs) (hn : us.length ≤ 100000) (hm : fs.length ≤ 100000) (hb1 : Bnd us) (hb2 : Bnd fs) (hf : spaceF b us fs = (0, 0)) (hs : placeN start us < us.length) (hs2 : aAt us (placeN start us) = (start, sz)) :
    Calls Try.prog 17 #[v, .int .i64 start] w fun e w' => ∃ sv, e = .returned (.tuple #[sv, faultV (0, 0)]) ∧ NewS w.heap.size w' sv b (noB (start, sz) us) (joinL fs (start, sz)) ∧ Below w.heap.size w w' := by
  have HC : Hid (∀ W, Below w.heap.size w W → Calls Try.prog 10 #[v] W fun e w' => e = .returned (faultV (0, 0)) ∧ Below W.heap.size W w') := fun W hW => by
    have := check_any W v b us fs (h.below hW) hn hm hb1 hb2
    rw [hf] at this; exact this
  obtain ⟨hg1, hg2, hg3, hg4, hg5, hg6⟩ := spaceF_good hf
  obtain ⟨a0, c0, a1, c1, rfl, hu, hfr⟩ := h.form
  obtain ⟨p, ep⟩ : ∃ p, placeN start us = p := ⟨_, rfl⟩
  rw [ep] at hs hs2
  have hmem : (start, sz) ∈ us := by rw [← hs2]; exact aAt_mem hs
  have hfit := hg3.1 _ hmem
  obtain ⟨hp1, hp2⟩ := pow30 hg1.1 hg1.2
  have HPL : Hid (∀ W, Below w.heap.size w W → Calls Try.prog 35 #[.slice a0 us.length c0, .int .i64 start] W fun e w' => e = .returned (.int .i64 (p : Int)) ∧ Below W.heap.size W w') := fun W hW => by
    have := placeOf_any W _ us start (hu.below hW) hn hg3.2
    rw [ep] at this; exact this
  have HWO : Hid (∀ W, Below w.heap.size w W → Calls Try.prog 29 #[.slice a0 us.length c0, .agg #[.int .i64 start, .int .i64 sz]] W fun e w' => ∃ a c, e = .returned (.slice a (noB (start, sz) us).length c) ∧ Own KB W.heap.size w' (.slice a (noB (start, sz) us).length c) (noB (start, sz) us) ∧ Below W.heap.size W w') := fun W hW => without_any W _ us start sz (hu.below hW) hn
  have HJO : Hid (∀ W, Below w.heap.size w W → Calls Try.prog 36 #[.slice a1 fs.length c1, .agg #[.int .i64 start, .int .i64 sz]] W fun e w' => ∃ a c, e = .returned (.slice a (joinL fs (start, sz)).length c) ∧ Own KB W.heap.size w' (.slice a (joinL fs (start, sz)).length c) (joinL fs (start, sz)) ∧ Below W.heap.size W w') := fun W hW => joined_any W _ fs start sz _ (hfr.below hW) (by omega) hg4.2 hg4.1 hfit hp2
  have HU := hide (hu.opens kb rfl)
  have HCL := hide (fun (W : World) (b0 o0 : Nat) (hL : Lies KB W b0 o0 us) => hL.block hs hs2)
  obtain ⟨nl, enl⟩ : ∃ X, noB (start, sz) us = X := ⟨_, rfl⟩
  obtain ⟨jl, ejl⟩ : ∃ X, joinL fs (start, sz) = X := ⟨_, rfl⟩
  rw [enl] at HWO ⊢
  rw [ejl] at HJO ⊢
  obtain ⟨nk, enk⟩ : ∃ X, nl.length = X := ⟨_, rfl⟩
  obtain ⟨jk, ejk⟩ : ∃ X, jl.length = X := ⟨_, rfl⟩
  rw [enk] at HWO
  rw [ejk] at HJO
  have HNK := hide enk; have HJK := hide ejk
  obtain ⟨n, en⟩ : ∃ n, us.length = n := ⟨_, rfl⟩
  obtain ⟨m, em⟩ : ∃ m, fs.length = m := ⟨_, rfl⟩
  rw [en] at HC HPL HU HWO hs hn ⊢
  rw [em] at HC HJO hm ⊢
  have hq : ∀ w, (Op.equalIn 10000 29 (.agg #[.int .i64 0, .int .i64 0]) (.agg #[.int .i64 0, .int .i64 0])).run Try.prog w = .ok true w := fun w => by rw [flt_eq]; rfl
  have hpn : ((p : Int) == (n : Int)) = false := by simp; omega
  have hpn2 : ¬ (p : Int) = (n : Int) := by omega
  have hx2 : (start != start) = false := by simp
  have i0 : (0 : Int) ≤ (p : Int) := by omega
  have i1 : (p : Int) < (n : Int) := by omega
  clear h hf hb1 hb2 hu hfr ep en em hg1 hg2 hg3 hg4 hg5 hg6 hmem hfit hp1 hp2 hs2 enl ejl enk ejk
  obtain ⟨W0, e0, hB, k0, k1, k2⟩ := three_new w (.cells #[.int .i64 b, .slice a0 n c0, .slice a1 m c1] 24) (.cells #[.int .i64 0, .slice none 0 0, .slice none 0 0] 24) (.cells #[.int .i64 0, .int .i64 0] 29)
  have HX := hide hB; have HP := hide k0; have HQ := hide k1; have HG := hide k2; have HE := hide e0
  clear hB k0 k1 k2 e0
  go_enter Try.func17, Try.ntmps17
  go_upto_region 1 with fail
  rw [unhide HE]
  clear HE
  obtain ⟨⟨p0, p1, p2⟩, ⟨pf0, pf1, pf2⟩, pl⟩ := block3 (unhide HP)
  go_upto_region 2 with (go_at_call 10; refine (unhide HC _ (unhide HX)).mono ?_; rintro e w1 ⟨he, hb1⟩; obtain rfl : e = .returned (.agg #[.int .i64 0, .int .i64 0]) := he; have HX_1 := hide (Below.next (unhide HX) hb1 (by first | exact Nat.le_refl _ | (have := unhide HBA; omega))); have Kp_1 := hide (keep_below (unhide HP) hb1); have Kq_1 := hide (keep_below (unhide HQ) hb1); have Kg_1 := hide (keep_below (unhide HG) hb1); clear HX HP HQ HG; clear hb1 p0 p1 p2 pf0 pf1 pf2 pl)
  have HX_2 := hide ((unhide HX_1).alloc (Nat.le_trans (show w.heap.size ≤ w.heap.size from Nat.le_refl _) (unhide HX_1).size) (.cells #[.int .i64 0, .int .i64 0] 29))
  have Kp_2 := hide (keep_alloc (unhide Kp_1) (.cells #[.int .i64 0, .int .i64 0] 29))
  have Kq_2 := hide (keep_alloc (unhide Kq_1) (.cells #[.int .i64 0, .int .i64 0] 29))
  have Kg_2 := hide (keep_alloc (unhide Kg_1) (.cells #[.int .i64 0, .int .i64 0] 29))
  have Kf_2 := hide (new_block w1 (.cells #[.int .i64 0, .int .i64 0] 29))
  have hlp_f : w.heap.size < w1.heap.size := size_of (unhide Kp_1)
  have hlq_f : w.heap.size + 1 < w1.heap.size := size_of (unhide Kq_1)
  have hlg_f : w.heap.size + 1 + 1 < w1.heap.size := size_of (unhide Kg_1)
  obtain ⟨T, eT⟩ : ∃ X, w1.heap.size = X := ⟨_, rfl⟩
  obtain ⟨W2, eW2⟩ : ∃ X, w1.alloc (.cells #[.int .i64 0, .int .i64 0] 29) = X := ⟨_, rfl⟩
  rw [eT, eW2] at Kf_2; rw [eW2] at HX_2 Kp_2 Kq_2 Kg_2; rw [eT] at hlp_f hlq_f hlg_f; rw [eT, eW2]
  clear eT eW2 HX_1 Kp_1 Kq_1 Kg_1
  obtain ⟨f0, f1, ff0, ff1, fl⟩ := block2 (unhide Kf_2)
  obtain ⟨⟨p0, p1, p2⟩, ⟨pf0, pf1, pf2⟩, pl⟩ := block3 (unhide Kp_2)
  have HCS := hide (unhide HX_2)
  go_upto_region 5 with (go_at_call 35; refine (unhide HPL _ (unhide HCS)).mono ?_; rintro e w5 ⟨rfl, hb5⟩; have HX_3 := hide (Below.next (unhide HX_2) hb5 (by first | exact Nat.le_refl _ | (have := unhide HBA; omega))); have Kp_3 := hide (keep_below (unhide Kp_2) hb5); have Kq_3 := hide (keep_below (unhide Kq_2) hb5); have Kg_3 := hide (keep_below (unhide Kg_2) hb5); have Kf_3 := hide (keep_below (unhide Kf_2) hb5); clear HX_2 Kp_2 Kq_2 Kg_2 Kf_2; clear HCS hb5 p0 p1 p2 pf0 pf1 pf2 pl f0 f1 ff0 ff1 fl)
  obtain ⟨⟨p0, p1, p2⟩, ⟨pf0, pf1, pf2⟩, pl⟩ := block3 (unhide Kp_3)
  obtain ⟨b0, o0, rfl, hb0, l0⟩ := unhide HU (by omega)
  obtain ⟨k0, k1⟩ := unhide HCL _ b0 o0 (l0.below (unhide HX_3) hb0)
  clear l0 hb0 HU HCL
  go_upto_region 8 with fail
  clear k0 k1 p0 p1 p2 pf0 pf1 pf2 pl
  have HX_4 := hide ((unhide HX_3).alloc (Nat.le_trans (show w.heap.size ≤ w.heap.size from Nat.le_refl _) (unhide HX_3).size) (.cells #[.int .i64 start, .int .i64 sz] 38))
  have Kp_4 := hide (keep_alloc (unhide Kp_3) (.cells #[.int .i64 start, .int .i64 sz] 38))
  have Kq_4 := hide (keep_alloc (unhide Kq_3) (.cells #[.int .i64 start, .int .i64 sz] 38))
  have Kg_4 := hide (keep_alloc (unhide Kg_3) (.cells #[.int .i64 start, .int .i64 sz] 38))
  have Kf_4 := hide (keep_alloc (unhide Kf_3) (.cells #[.int .i64 start, .int .i64 sz] 38))
  have Ko_4 := hide (new_block w5 (.cells #[.int .i64 start, .int .i64 sz] 38))
  have hlp_o : w.heap.size < w5.heap.size := size_of (unhide Kp_3)
  have hlq_o : w.heap.size + 1 < w5.heap.size := size_of (unhide Kq_3)
  have hlg_o : w.heap.size + 1 + 1 < w5.heap.size := size_of (unhide Kg_3)
  have hlf_o : T < w5.heap.size := size_of (unhide Kf_3)
  obtain ⟨T2, eT2⟩ : ∃ X, w5.heap.size = X := ⟨_, rfl⟩
  obtain ⟨W4, eW4⟩ : ∃ X, w5.alloc (.cells #[.int .i64 start, .int .i64 sz] 38) = X := ⟨_, rfl⟩
  rw [eT2, eW4] at Ko_4; rw [eW4] at HX_4 Kp_4 Kq_4 Kg_4 Kf_4; rw [eT2] at hlp_o hlq_o hlg_o hlf_o; rw [eT2, eW4]
  clear eT2 eW4 HX_3 Kp_3 Kq_3 Kg_3 Kf_3
  obtain ⟨⟨p0, p1, p2⟩, ⟨pf0, pf1, pf2⟩, pl⟩ := block3 (unhide Kp_4)
  obtain ⟨z0, z1, zf0, zf1, zl⟩ := block2 (unhide Ko_4)
  have HSS : Hid (∀ W, Below W4.heap.size W4 W → (W.cell? ⟨w.heap.size, 0, none⟩ = some (.int .i64 b) ∧ W.cell? ⟨w.heap.size, 1, none⟩ = some (.slice (some ⟨b0, o0, none⟩) n c0) ∧ W.cell? ⟨w.heap.size, 2, none⟩ = some (.slice a1 m c1)) ∧ W.cell? ⟨T2, 0, none⟩ = some (.int .i64 start) ∧ W.cell? ⟨T2, 1, none⟩ = some (.int .i64 sz)) := fun W hW => ⟨(block3 (keep_below (unhide Kp_4) hW)).1, (block2 (keep_below (unhide Ko_4) hW)).1, (block2 (keep_below (unhide Ko_4) hW)).2.1⟩
  have HWX : Hid (∀ W, Below W4.heap.size W4 W → Below w.heap.size w W) := fun W hW => Below.next (unhide HX_4) hW (Nat.le_refl _)
  have hT2l : T2 < W4.heap.size := size_of (unhide Ko_4)
  go_region_held3 (fun W => (W.cell? ⟨w.heap.size, 0, none⟩ = some (.int .i64 b) ∧ W.cell? ⟨w.heap.size, 1, none⟩ = some (.slice (some ⟨b0, o0, none⟩) n c0) ∧ W.cell? ⟨w.heap.size, 2, none⟩ = some (.slice a1 m c1)) ∧ W.cell? ⟨T2, 0, none⟩ = some (.int .i64 start) ∧ W.cell? ⟨T2, 1, none⟩ = some (.int .i64 sz))
    (first | with_reducible exact unhide HSS _ (Below.refl _ _).drew | with_reducible exact unhide HSS _ ((Below.refl W4.heap.size W4).alloc (Nat.le_refl _) _).drew | with_reducible exact unhide HSS _ (unhide HY5) | with_reducible exact unhide HSS _ (unhide HY6) | (refine unhide HSS _ ?_; repeat (first | with_reducible exact Below.refl _ _ | with_reducible exact unhide HY6 | with_reducible exact unhide HY5 | with_reducible refine drew_b ?_ | with_reducible refine alloc_b ?_ | (with_reducible refine set_b ?_ (by first | exact Nat.le_refl _ | exact (unhide HY6).size | exact (unhide HY5).size | (simp; done) | (have := (unhide HY6).size; simp; omega) | (have := (unhide HY5).size; simp; omega) | (simp; omega))))))
    (first
      | (go_at_call 29; refine (unhide HWO _ (by first | exact unhide HWX _ (Below.refl _ _).drew | exact unhide HWX _ ((Below.refl W4.heap.size W4).alloc (Nat.le_refl _) _).drew)).mono ?_; rintro e w5 ⟨a5, c5, rfl, ho5, hb5⟩; have HY5 : Hid (Below W4.heap.size W4 w5) := Below.next (by first | exact (Below.refl _ _).drew | exact ((Below.refl W4.heap.size W4).alloc (Nat.le_refl _) _).drew) hb5 (Nat.le_refl _); (try (have h8 : w5.heap[W4.heap.size]? = some (.cells #[.int .i64 0, .slice none 0 0, .slice none 0 0] 24 (0, 0)) := keep_below (w := (W4.alloc (.cells #[.int .i64 0, .slice none 0 0, .slice none 0 0] 24)).drew) (new_block W4 (.cells #[.int .i64 0, .slice none 0 0, .slice none 0 0] 24)) hb5; have HT5 := hide h8; clear h8)); have HO5 := hide (ho5.base (base' := W4.heap.size) (by first | exact Nat.le_refl _ | (simp; done) | (simp; omega))); clear ho5 hb5)
      | (go_at_call 36; refine (unhide HJO _ (unhide HWX _ (by first | exact unhide HY5 | exact alloc_b (unhide HY5)))).mono ?_; rintro e w6 ⟨a6, c6, rfl, ho6, hb6⟩; have HY6 : Hid (Below W4.heap.size W4 w6) := Below.next (by first | exact unhide HY5 | exact alloc_b (unhide HY5)) hb6 (Nat.le_refl _); (try (have h8 : w6.heap[W4.heap.size]? = some (.cells #[.int .i64 0, .slice none 0 0, .slice none 0 0] 24 (0, 0)) := (by with_reducible exact keep_below (unhide HT5) hb6); obtain ⟨⟨t0, t1, t2⟩, ⟨tf0, tf1, tf2⟩, tl⟩ := block3 h8; have HT6 := hide h8; clear h8)); (try (have h8 : w6.heap[w5.heap.size]? = some (.cells #[.int .i64 0, .slice none 0 0, .slice none 0 0] 24 (0, 0)) := (by with_reducible exact keep_below (new_block w5 (.cells #[.int .i64 0, .slice none 0 0, .slice none 0 0] 24)) hb6); obtain ⟨⟨t0, t1, t2⟩, ⟨tf0, tf1, tf2⟩, tl⟩ := block3 h8; have HT6 := hide h8; clear h8)); have HO6 := hide (ho6.base (base' := W4.heap.size) (by first | exact (unhide HY5).size | (have := (unhide HY5).size; simp; omega))); have HP6 := hide ((unhide HO5).below (w' := w6) (by first | exact hb6 | exact Below.next ((Below.refl _ _).alloc (Nat.le_refl _) _) hb6 (Nat.le_refl _))); have HS5 := hide (unhide HY5).size; clear ho6 hb6))
  all_goals first
    | (have HX6 := hide (unhide HWX _ (unhide HY6))
       have HQ6 := hide (keep_below (unhide Kq_4) (unhide HY6))
       have HG6 := hide (keep_below (unhide Kg_4) (unhide HY6))
       have hw4 : w.heap.size + 1 + 1 < W4.heap.size := size_of (unhide Kg_4)
       have hw5 := unhide HS5
       have hw6 := (unhide HY6).size
       have HX_L1 := hide (putL_below (y0 := .int .i64 b) (y1 := .slice a5 nk c5) (y2 := .slice a6 jk c6) (unhide HX6) (show w.heap.size ≤ W4.heap.size by first | omega | (have := unhide HBA; omega)))
       have Kq_L1 := hide ((putL_keep (y0 := .int .i64 b) (y1 := .slice a5 nk c5) (y2 := .slice a6 jk c6) (show w.heap.size + 1 ≠ W4.heap.size by omega)).trans (unhide HQ6))
       have Kg_L1 := hide ((putL_keep (y0 := .int .i64 b) (y1 := .slice a5 nk c5) (y2 := .slice a6 jk c6) (show w.heap.size + 1 + 1 ≠ W4.heap.size by omega)).trans (unhide HG6))
       have Kt_L1 := hide (putL_new (y0 := .int .i64 b) (y1 := .slice a5 nk c5) (y2 := .slice a6 jk c6) (unhide HT6))
       have Ou_L1 := hide ((unhide HP6).keep (fun k hk => putL_keep (y0 := .int .i64 b) (y1 := .slice a5 nk c5) (y2 := .slice a6 jk c6) (Own.ne (unhide HP6) (unhide HT6) (by decide) k hk)))
       have Oj_L1 := hide ((unhide HO6).keep (fun k hk => putL_keep (y0 := .int .i64 b) (y1 := .slice a5 nk c5) (y2 := .slice a6 jk c6) (Own.ne (unhide HO6) (unhide HT6) (by decide) k hk)))
       obtain ⟨V0, eV0⟩ : ∃ X, putL w6 (W4.heap.size) (.int .i64 b) (.slice a5 nk c5) (.slice a6 jk c6) = X := ⟨_, rfl⟩
       rw [eV0] at HX_L1 Kq_L1 Kg_L1 Kt_L1 Ou_L1 Oj_L1
       have eV02 : (((w6).setCell ⟨W4.heap.size, 0, none⟩ (.int .i64 b)).setCell ⟨W4.heap.size, 1, none⟩ (.slice a5 nk c5)).setCell ⟨W4.heap.size, 2, none⟩ (.slice a6 jk c6) = V0 := eV0
       rw [eV02]
       clear eV0 eV02 HX6 HQ6 HG6 HT6 HP6 HO6
       obtain ⟨⟨q0, q1, q2⟩, ⟨qf0, qf1, qf2⟩, ql⟩ := block3 (unhide Kq_L1)
       obtain ⟨g0, g1, gf0, gf1, gl⟩ := block2 (unhide Kg_L1)
       obtain ⟨⟨r0, r1, r2⟩, ⟨rf0, rf1, rf2⟩, rl⟩ := block3 (unhide Kt_L1)
       go_wp2_with fail
       have HX_L2 := hide (putL_below (y0 := .int .i64 b) (y1 := .slice a5 nk c5) (y2 := .slice a6 jk c6) (unhide HX_L1) (show w.heap.size ≤ w.heap.size + 1 by first | omega | (have := unhide HBA; omega)))
       have Kq_L2 := hide (putL_new (y0 := .int .i64 b) (y1 := .slice a5 nk c5) (y2 := .slice a6 jk c6) (unhide Kq_L1))
       have Kg_L2 := hide ((putL_keep (y0 := .int .i64 b) (y1 := .slice a5 nk c5) (y2 := .slice a6 jk c6) (show w.heap.size + 1 + 1 ≠ w.heap.size + 1 by omega)).trans (unhide Kg_L1))
       have Kt_L2 := hide ((putL_keep (y0 := .int .i64 b) (y1 := .slice a5 nk c5) (y2 := .slice a6 jk c6) (show W4.heap.size ≠ w.heap.size + 1 by omega)).trans (unhide Kt_L1))
       have Ou_L2 := hide ((unhide Ou_L1).keep (fun k hk => putL_keep (y0 := .int .i64 b) (y1 := .slice a5 nk c5) (y2 := .slice a6 jk c6) (Own.ne (unhide Ou_L1) (unhide Kq_L1) (by decide) k hk)))
       have Oj_L2 := hide ((unhide Oj_L1).keep (fun k hk => putL_keep (y0 := .int .i64 b) (y1 := .slice a5 nk c5) (y2 := .slice a6 jk c6) (Own.ne (unhide Oj_L1) (unhide Kq_L1) (by decide) k hk)))
       obtain ⟨V1, eV1⟩ : ∃ X, putL V0 (w.heap.size + 1) (.int .i64 b) (.slice a5 nk c5) (.slice a6 jk c6) = X := ⟨_, rfl⟩
       rw [eV1] at HX_L2 Kq_L2 Kg_L2 Kt_L2 Ou_L2 Oj_L2
       have eV12 : (((V0).setCell ⟨w.heap.size + 1, 0, none⟩ (.int .i64 b)).setCell ⟨w.heap.size + 1, 1, none⟩ (.slice a5 nk c5)).setCell ⟨w.heap.size + 1, 2, none⟩ (.slice a6 jk c6) = V1 := eV1
       rw [eV12]
       clear eV1 eV12 HX_L1 Kq_L1 Kg_L1 Kt_L1 Ou_L1 Oj_L1
       have HX_L3 := hide (put2_below (y0 := .int .i64 0) (y1 := .int .i64 0) (unhide HX_L2) (show w.heap.size ≤ w.heap.size + 1 + 1 by first | omega | (have := unhide HBA; omega)))
       have Kq_L3 := hide ((put2_keep (y0 := .int .i64 0) (y1 := .int .i64 0) (show w.heap.size + 1 ≠ w.heap.size + 1 + 1 by omega)).trans (unhide Kq_L2))
       have Kg_L3 := hide (put2_new (y0 := .int .i64 0) (y1 := .int .i64 0) (unhide Kg_L2))
       have Kt_L3 := hide ((put2_keep (y0 := .int .i64 0) (y1 := .int .i64 0) (show W4.heap.size ≠ w.heap.size + 1 + 1 by omega)).trans (unhide Kt_L2))
       have Ou_L3 := hide ((unhide Ou_L2).keep (fun k hk => put2_keep (y0 := .int .i64 0) (y1 := .int .i64 0) (Own.ne (unhide Ou_L2) (unhide Kg_L2) (by decide) k hk)))
       have Oj_L3 := hide ((unhide Oj_L2).keep (fun k hk => put2_keep (y0 := .int .i64 0) (y1 := .int .i64 0) (Own.ne (unhide Oj_L2) (unhide Kg_L2) (by decide) k hk)))
       obtain ⟨V2, eV2⟩ : ∃ X, put2 V1 (w.heap.size + 1 + 1) (.int .i64 0) (.int .i64 0) = X := ⟨_, rfl⟩
       rw [eV2] at HX_L3 Kq_L3 Kg_L3 Kt_L3 Ou_L3 Oj_L3
       have eV22 : ((V1).setCell ⟨w.heap.size + 1 + 1, 0, none⟩ (.int .i64 0)).setCell ⟨w.heap.size + 1 + 1, 1, none⟩ (.int .i64 0) = V2 := eV2
       rw [eV22]
       clear eV2 eV22 HX_L2 Kq_L2 Kg_L2 Kt_L2 Ou_L2 Oj_L2
       clear q0 q1 q2 qf0 qf1 qf2 ql g0 g1 gf0 gf1 gl
       obtain ⟨⟨q0, q1, q2⟩, ⟨qf0, qf1, qf2⟩, ql⟩ := block3 (unhide Kq_L3)
       obtain ⟨g0, g1, gf0, gf1, gl⟩ := block2 (unhide Kg_L3)
       refine bodyPost_ret (v := .tuple #[.agg #[.int .i64 b, .slice a5 nk c5, .slice a6 jk c6], .agg #[.int .i64 0, .int .i64 0]]) (by simp [results, Try.results17, go_sem, q0, q1, q2, g0, g1]) rfl ⟨_, rfl, ⟨a5, c5, a6, c6, ?_, ?_, ?_⟩, unhide HX_L3⟩
       · rw [unhide HNK, unhide HJK]
       · rw [unhide HNK]; exact (unhide Ou_L3).new.base (by omega)
       · rw [unhide HJK]; exact (unhide Oj_L3).new.base (by omega))
    | (have HX6 := hide (unhide HWX _ (unhide HY6))
       have HQ6 := hide (keep_below (unhide Kq_4) (unhide HY6))
       have HG6 := hide (keep_below (unhide Kg_4) (unhide HY6))
       have hw4 : w.heap.size + 1 + 1 < W4.heap.size := size_of (unhide Kg_4)
       have hw5 := unhide HS5
       have hw6 := (unhide HY6).size
       have HX_L1 := hide (putL_below (y0 := .int .i64 b) (y1 := .slice a5 nk c5) (y2 := .slice a6 jk c6) (unhide HX6) (show w.heap.size ≤ w5.heap.size by first | omega | (have := unhide HBA; omega)))
       have Kq_L1 := hide ((putL_keep (y0 := .int .i64 b) (y1 := .slice a5 nk c5) (y2 := .slice a6 jk c6) (show w.heap.size + 1 ≠ w5.heap.size by omega)).trans (unhide HQ6))
       have Kg_L1 := hide ((putL_keep (y0 := .int .i64 b) (y1 := .slice a5 nk c5) (y2 := .slice a6 jk c6) (show w.heap.size + 1 + 1 ≠ w5.heap.size by omega)).trans (unhide HG6))
       have Kt_L1 := hide (putL_new (y0 := .int .i64 b) (y1 := .slice a5 nk c5) (y2 := .slice a6 jk c6) (unhide HT6))
       have Ou_L1 := hide ((unhide HP6).keep (fun k hk => putL_keep (y0 := .int .i64 b) (y1 := .slice a5 nk c5) (y2 := .slice a6 jk c6) (Own.ne (unhide HP6) (unhide HT6) (by decide) k hk)))
       have Oj_L1 := hide ((unhide HO6).keep (fun k hk => putL_keep (y0 := .int .i64 b) (y1 := .slice a5 nk c5) (y2 := .slice a6 jk c6) (Own.ne (unhide HO6) (unhide HT6) (by decide) k hk)))
       obtain ⟨V0, eV0⟩ : ∃ X, putL w6 (w5.heap.size) (.int .i64 b) (.slice a5 nk c5) (.slice a6 jk c6) = X := ⟨_, rfl⟩
       rw [eV0] at HX_L1 Kq_L1 Kg_L1 Kt_L1 Ou_L1 Oj_L1
       have eV02 : (((w6).setCell ⟨w5.heap.size, 0, none⟩ (.int .i64 b)).setCell ⟨w5.heap.size, 1, none⟩ (.slice a5 nk c5)).setCell ⟨w5.heap.size, 2, none⟩ (.slice a6 jk c6) = V0 := eV0
       rw [eV02]
       clear eV0 eV02 HX6 HQ6 HG6 HT6 HP6 HO6
       obtain ⟨⟨q0, q1, q2⟩, ⟨qf0, qf1, qf2⟩, ql⟩ := block3 (unhide Kq_L1)
       obtain ⟨g0, g1, gf0, gf1, gl⟩ := block2 (unhide Kg_L1)
       obtain ⟨⟨r0, r1, r2⟩, ⟨rf0, rf1, rf2⟩, rl⟩ := block3 (unhide Kt_L1)
       go_wp2_with fail
       have HX_L2 := hide (putL_below (y0 := .int .i64 b) (y1 := .slice a5 nk c5) (y2 := .slice a6 jk c6) (unhide HX_L1) (show w.heap.size ≤ w.heap.size + 1 by first | omega | (have := unhide HBA; omega)))
       have Kq_L2 := hide (putL_new (y0 := .int .i64 b) (y1 := .slice a5 nk c5) (y2 := .slice a6 jk c6) (unhide Kq_L1))
       have Kg_L2 := hide ((putL_keep (y0 := .int .i64 b) (y1 := .slice a5 nk c5) (y2 := .slice a6 jk c6) (show w.heap.size + 1 + 1 ≠ w.heap.size + 1 by omega)).trans (unhide Kg_L1))
       have Kt_L2 := hide ((putL_keep (y0 := .int .i64 b) (y1 := .slice a5 nk c5) (y2 := .slice a6 jk c6) (show w5.heap.size ≠ w.heap.size + 1 by omega)).trans (unhide Kt_L1))
       have Ou_L2 := hide ((unhide Ou_L1).keep (fun k hk => putL_keep (y0 := .int .i64 b) (y1 := .slice a5 nk c5) (y2 := .slice a6 jk c6) (Own.ne (unhide Ou_L1) (unhide Kq_L1) (by decide) k hk)))
       have Oj_L2 := hide ((unhide Oj_L1).keep (fun k hk => putL_keep (y0 := .int .i64 b) (y1 := .slice a5 nk c5) (y2 := .slice a6 jk c6) (Own.ne (unhide Oj_L1) (unhide Kq_L1) (by decide) k hk)))
       obtain ⟨V1, eV1⟩ : ∃ X, putL V0 (w.heap.size + 1) (.int .i64 b) (.slice a5 nk c5) (.slice a6 jk c6) = X := ⟨_, rfl⟩
       rw [eV1] at HX_L2 Kq_L2 Kg_L2 Kt_L2 Ou_L2 Oj_L2
       have eV12 : (((V0).setCell ⟨w.heap.size + 1, 0, none⟩ (.int .i64 b)).setCell ⟨w.heap.size + 1, 1, none⟩ (.slice a5 nk c5)).setCell ⟨w.heap.size + 1, 2, none⟩ (.slice a6 jk c6) = V1 := eV1
       rw [eV12]
       clear eV1 eV12 HX_L1 Kq_L1 Kg_L1 Kt_L1 Ou_L1 Oj_L1
       have HX_L3 := hide (put2_below (y0 := .int .i64 0) (y1 := .int .i64 0) (unhide HX_L2) (show w.heap.size ≤ w.heap.size + 1 + 1 by first | omega | (have := unhide HBA; omega)))
       have Kq_L3 := hide ((put2_keep (y0 := .int .i64 0) (y1 := .int .i64 0) (show w.heap.size + 1 ≠ w.heap.size + 1 + 1 by omega)).trans (unhide Kq_L2))
       have Kg_L3 := hide (put2_new (y0 := .int .i64 0) (y1 := .int .i64 0) (unhide Kg_L2))
       have Kt_L3 := hide ((put2_keep (y0 := .int .i64 0) (y1 := .int .i64 0) (show w5.heap.size ≠ w.heap.size + 1 + 1 by omega)).trans (unhide Kt_L2))
       have Ou_L3 := hide ((unhide Ou_L2).keep (fun k hk => put2_keep (y0 := .int .i64 0) (y1 := .int .i64 0) (Own.ne (unhide Ou_L2) (unhide Kg_L2) (by decide) k hk)))
       have Oj_L3 := hide ((unhide Oj_L2).keep (fun k hk => put2_keep (y0 := .int .i64 0) (y1 := .int .i64 0) (Own.ne (unhide Oj_L2) (unhide Kg_L2) (by decide) k hk)))
       obtain ⟨V2, eV2⟩ : ∃ X, put2 V1 (w.heap.size + 1 + 1) (.int .i64 0) (.int .i64 0) = X := ⟨_, rfl⟩
       rw [eV2] at HX_L3 Kq_L3 Kg_L3 Kt_L3 Ou_L3 Oj_L3
       have eV22 : ((V1).setCell ⟨w.heap.size + 1 + 1, 0, none⟩ (.int .i64 0)).setCell ⟨w.heap.size + 1 + 1, 1, none⟩ (.int .i64 0) = V2 := eV2
       rw [eV22]
       clear eV2 eV22 HX_L2 Kq_L2 Kg_L2 Kt_L2 Ou_L2 Oj_L2
       clear q0 q1 q2 qf0 qf1 qf2 ql g0 g1 gf0 gf1 gl
       obtain ⟨⟨q0, q1, q2⟩, ⟨qf0, qf1, qf2⟩, ql⟩ := block3 (unhide Kq_L3)
       obtain ⟨g0, g1, gf0, gf1, gl⟩ := block2 (unhide Kg_L3)
       refine bodyPost_ret (v := .tuple #[.agg #[.int .i64 b, .slice a5 nk c5, .slice a6 jk c6], .agg #[.int .i64 0, .int .i64 0]]) (by simp [results, Try.results17, go_sem, q0, q1, q2, g0, g1]) rfl ⟨_, rfl, ⟨a5, c5, a6, c6, ?_, ?_, ?_⟩, unhide HX_L3⟩
       · rw [unhide HNK, unhide HJK]
       · rw [unhide HNK]; exact (unhide Ou_L3).new.base (by omega)
       · rw [unhide HJK]; exact (unhide Oj_L3).new.base (by omega))
    | (have HX6 := hide (unhide HWX _ (unhide HY6))
       have HQ6 := hide (keep_below (unhide Kq_4) (unhide HY6))
       have HG6 := hide (keep_below (unhide Kg_4) (unhide HY6))
       have hw4 : w.heap.size + 1 + 1 < W4.heap.size := size_of (unhide Kg_4)
       have hw5 := unhide HS5
       have hw6 := (unhide HY6).size
       have HX_L1 := hide ((unhide HX6).alloc (Nat.le_trans (show w.heap.size ≤ w.heap.size from Nat.le_refl _) (unhide HX6).size) (.cells #[.int .i64 b, .slice a5 nk c5, .slice a6 jk c6] 24))
       have Kq_L1 := hide (keep_alloc (unhide HQ6) (.cells #[.int .i64 b, .slice a5 nk c5, .slice a6 jk c6] 24))
       have Kg_L1 := hide (keep_alloc (unhide HG6) (.cells #[.int .i64 b, .slice a5 nk c5, .slice a6 jk c6] 24))
       have Ou_L1 := hide ((unhide HP6).below ((Below.refl _ _).alloc (Nat.le_refl _) (.cells #[.int .i64 b, .slice a5 nk c5, .slice a6 jk c6] 24)))
       have Oj_L1 := hide ((unhide HO6).below ((Below.refl _ _).alloc (Nat.le_refl _) (.cells #[.int .i64 b, .slice a5 nk c5, .slice a6 jk c6] 24)))
       have Kt_L1 := hide (new_block w6 (.cells #[.int .i64 b, .slice a5 nk c5, .slice a6 jk c6] 24))
       have hlq_t : w.heap.size + 1 < w6.heap.size := size_of (unhide HQ6)
       have hlg_t : w.heap.size + 1 + 1 < w6.heap.size := size_of (unhide HG6)
       obtain ⟨T9, eT9⟩ : ∃ X, w6.heap.size = X := ⟨_, rfl⟩
       obtain ⟨V0, eV0⟩ : ∃ X, w6.alloc (.cells #[.int .i64 b, .slice a5 nk c5, .slice a6 jk c6] 24) = X := ⟨_, rfl⟩
       rw [eT9, eV0] at Kt_L1; rw [eV0] at HX_L1 Kq_L1 Kg_L1 Ou_L1 Oj_L1; rw [eT9] at hlq_t hlg_t; rw [eT9, eV0]
       clear eT9 eV0 HX6 HQ6 HG6 HP6 HO6
       obtain ⟨⟨q0, q1, q2⟩, ⟨qf0, qf1, qf2⟩, ql⟩ := block3 (unhide Kq_L1)
       obtain ⟨g0, g1, gf0, gf1, gl⟩ := block2 (unhide Kg_L1)
       obtain ⟨⟨r0, r1, r2⟩, ⟨rf0, rf1, rf2⟩, rl⟩ := block3 (unhide Kt_L1)
       go_wp2_with fail
       have HX_L2 := hide (putL_below (y0 := .int .i64 b) (y1 := .slice a5 nk c5) (y2 := .slice a6 jk c6) (unhide HX_L1) (show w.heap.size ≤ w.heap.size + 1 by first | omega | (have := unhide HBA; omega)))
       have Kq_L2 := hide (putL_new (y0 := .int .i64 b) (y1 := .slice a5 nk c5) (y2 := .slice a6 jk c6) (unhide Kq_L1))
       have Kg_L2 := hide ((putL_keep (y0 := .int .i64 b) (y1 := .slice a5 nk c5) (y2 := .slice a6 jk c6) (show w.heap.size + 1 + 1 ≠ w.heap.size + 1 by omega)).trans (unhide Kg_L1))
       have Kt_L2 := hide ((putL_keep (y0 := .int .i64 b) (y1 := .slice a5 nk c5) (y2 := .slice a6 jk c6) (show T9 ≠ w.heap.size + 1 by omega)).trans (unhide Kt_L1))
       have Ou_L2 := hide ((unhide Ou_L1).keep (fun k hk => putL_keep (y0 := .int .i64 b) (y1 := .slice a5 nk c5) (y2 := .slice a6 jk c6) (Own.ne (unhide Ou_L1) (unhide Kq_L1) (by decide) k hk)))
       have Oj_L2 := hide ((unhide Oj_L1).keep (fun k hk => putL_keep (y0 := .int .i64 b) (y1 := .slice a5 nk c5) (y2 := .slice a6 jk c6) (Own.ne (unhide Oj_L1) (unhide Kq_L1) (by decide) k hk)))
       obtain ⟨V1, eV1⟩ : ∃ X, putL V0 (w.heap.size + 1) (.int .i64 b) (.slice a5 nk c5) (.slice a6 jk c6) = X := ⟨_, rfl⟩
       rw [eV1] at HX_L2 Kq_L2 Kg_L2 Kt_L2 Ou_L2 Oj_L2
       have eV12 : (((V0).setCell ⟨w.heap.size + 1, 0, none⟩ (.int .i64 b)).setCell ⟨w.heap.size + 1, 1, none⟩ (.slice a5 nk c5)).setCell ⟨w.heap.size + 1, 2, none⟩ (.slice a6 jk c6) = V1 := eV1
       rw [eV12]
       clear eV1 eV12 HX_L1 Kq_L1 Kg_L1 Kt_L1 Ou_L1 Oj_L1
       have HX_L3 := hide (put2_below (y0 := .int .i64 0) (y1 := .int .i64 0) (unhide HX_L2) (show w.heap.size ≤ w.heap.size + 1 + 1 by first | omega | (have := unhide HBA; omega)))
       have Kq_L3 := hide ((put2_keep (y0 := .int .i64 0) (y1 := .int .i64 0) (show w.heap.size + 1 ≠ w.heap.size + 1 + 1 by omega)).trans (unhide Kq_L2))
       have Kg_L3 := hide (put2_new (y0 := .int .i64 0) (y1 := .int .i64 0) (unhide Kg_L2))
       have Kt_L3 := hide ((put2_keep (y0 := .int .i64 0) (y1 := .int .i64 0) (show T9 ≠ w.heap.size + 1 + 1 by omega)).trans (unhide Kt_L2))
       have Ou_L3 := hide ((unhide Ou_L2).keep (fun k hk => put2_keep (y0 := .int .i64 0) (y1 := .int .i64 0) (Own.ne (unhide Ou_L2) (unhide Kg_L2) (by decide) k hk)))
       have Oj_L3 := hide ((unhide Oj_L2).keep (fun k hk => put2_keep (y0 := .int .i64 0) (y1 := .int .i64 0) (Own.ne (unhide Oj_L2) (unhide Kg_L2) (by decide) k hk)))
       obtain ⟨V2, eV2⟩ : ∃ X, put2 V1 (w.heap.size + 1 + 1) (.int .i64 0) (.int .i64 0) = X := ⟨_, rfl⟩
       rw [eV2] at HX_L3 Kq_L3 Kg_L3 Kt_L3 Ou_L3 Oj_L3
       have eV22 : ((V1).setCell ⟨w.heap.size + 1 + 1, 0, none⟩ (.int .i64 0)).setCell ⟨w.heap.size + 1 + 1, 1, none⟩ (.int .i64 0) = V2 := eV2
       rw [eV22]
       clear eV2 eV22 HX_L2 Kq_L2 Kg_L2 Kt_L2 Ou_L2 Oj_L2
       clear q0 q1 q2 qf0 qf1 qf2 ql g0 g1 gf0 gf1 gl
       obtain ⟨⟨q0, q1, q2⟩, ⟨qf0, qf1, qf2⟩, ql⟩ := block3 (unhide Kq_L3)
       obtain ⟨g0, g1, gf0, gf1, gl⟩ := block2 (unhide Kg_L3)
       refine bodyPost_ret (v := .tuple #[.agg #[.int .i64 b, .slice a5 nk c5, .slice a6 jk c6], .agg #[.int .i64 0, .int .i64 0]]) (by simp [results, Try.results17, go_sem, q0, q1, q2, g0, g1]) rfl ⟨_, rfl, ⟨a5, c5, a6, c6, ?_, ?_, ?_⟩, unhide HX_L3⟩
       · rw [unhide HNK, unhide HJK]
       · rw [unhide HNK]; exact (unhide Ou_L3).new.base (by omega)
       · rw [unhide HJK]; exact (unhide Oj_L3).new.base (by omega))

end Go.Proofs.Ytomhfnjnmhdpkaa
