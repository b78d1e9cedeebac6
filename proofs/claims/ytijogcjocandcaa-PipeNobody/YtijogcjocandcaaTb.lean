/-
  taskmillref.Taken where somebody waits to send, and whatever comes.
-/
import Derived.Test.YtijogcjocandcaaTa
namespace Go.Proofs.Ytijogcjocandcaa
open Go.RowKit

set_option maxRecDepth 100000 in
set_option maxHeartbeats 1000000 in
theorem taken_sender (w : World) (v : Value) (P : Pp) (t u : Int) (h : IsPipe w v P) (hc : countP P ≤ 6000) (hz2 : 0 < P.ss.length) :
    Calls Try.prog 21 #[v, .agg #[.int .i64 t, .int .i64 0, .int .i64 u]] w fun e w' => ∃ v1 v2, e = .returned (.tuple #[v1, v2]) ∧ IsPipe w' v1 { P with items := (P.items ++ [(pAt P.ss 0).2.2]).drop 1, ss := P.ss.drop 1 } ∧ IsAns w' v2 ⟨true, false, true, (P.items ++ [(pAt P.ss 0).2.2]).getD 0 0, 0, [((pAt P.ss 0).1, (pAt P.ss 0).2.1, 0, false, false)]⟩ ∧ Below w.heap.size w w' := by
  obtain ⟨cap, items, closed, ss, gs⟩ := P
  obtain ⟨a1, c1, a2, c2, a3, c3, rfl, hI, hS, hG⟩ := h.form
  have hc' : items.length + ss.length + gs.length ≤ 6000 := hc
  simp only at hI hS hG h hz2 ⊢
  clear hc h
  obtain ⟨b0, o0, c2', ev, hb0, hl0⟩ := hS.at kp hz2
  cases ev
  obtain ⟨⟨t0, c0, w0'⟩, hx⟩ : ∃ x, pAt ss 0 = x := ⟨_, rfl⟩
  rw [hx]
  have HPF := hide (post_first hl0 hz2 hx); have HCF := hide hS.fits
  clear hx hl0
  obtain ⟨iz, hiz⟩ : ∃ z, (items ++ [w0']).getD 0 0 = z := ⟨_, rfl⟩
  rw [hiz]
  have HIZ := hide hiz
  clear hiz
  have HI := hide hI; have HS := hide hS; have HG := hide hG
  clear hI hS hG
  obtain ⟨n1, en1⟩ : ∃ n, items.length = n := ⟨_, rfl⟩
  obtain ⟨n2, en2⟩ : ∃ n, ss.length = n := ⟨_, rfl⟩
  obtain ⟨n3, en3⟩ : ∃ n, gs.length = n := ⟨_, rfl⟩
  rw [en1] at HI; rw [en2] at HS; rw [en3] at HG
  rw [en1, en2, en3] at hc'
  rw [en1, en2, en3]
  have HN1 := hide en1; have HN2 := hide en2; have HN3 := hide en3
  rw [en2] at hz2 HCF
  have z2 : (0 : Int) < (n2 : Int) := by omega
  clear en1 en2 en3
  obtain ⟨W0, e0, hB, k0, k1, k2, k3⟩ := four_new w (.cells #[.int .i64 cap, .slice a1 n1 c1, .bool closed, .slice (some ⟨b0, o0, none⟩) n2 c2, .slice a3 n3 c3] 25) (.cells #[.int .i64 t, .int .i64 0, .int .i64 u] 39) (.cells #[.int .i64 0, .slice none 0 0, .bool false, .slice none 0 0, .slice none 0 0] 25) (.cells #[.bool false, .bool false, .bool false, .int .i64 0, .int .i64 0, .slice none 0 0] 34)
  have HB := hide hB; have Kp := hide k0; have Kx := hide k1; have Kr := hide k2; have Ks := hide k3; have HE := hide e0
  clear hB k0 k1 k2 k3 e0
  go_enter Try.func21, Try.ntmps21
  go_upto_region 1 with fail
  rw [unhide HE]
  clear HE
  obtain ⟨⟨m0, m1, m2⟩, ⟨mf0, mf1, mf2⟩, ml⟩ := block3 (unhide Kx)
  go_upto_region 2 with fail
  clear m0 m1 m2 mf0 mf1 mf2 ml
  have HX_1 := hide ((unhide HB).alloc (Nat.le_trans (show w.heap.size ≤ w.heap.size from Nat.le_refl _) (unhide HB).size) (.cells #[.bool true, .bool false, .bool false, .int .i64 0, .int .i64 0, .slice none 0 0] 34))
  have Kp_1 := hide (keep_alloc (unhide Kp) (.cells #[.bool true, .bool false, .bool false, .int .i64 0, .int .i64 0, .slice none 0 0] 34))
  have Kx_1 := hide (keep_alloc (unhide Kx) (.cells #[.bool true, .bool false, .bool false, .int .i64 0, .int .i64 0, .slice none 0 0] 34))
  have Kr_1 := hide (keep_alloc (unhide Kr) (.cells #[.bool true, .bool false, .bool false, .int .i64 0, .int .i64 0, .slice none 0 0] 34))
  have Ks_1 := hide (keep_alloc (unhide Ks) (.cells #[.bool true, .bool false, .bool false, .int .i64 0, .int .i64 0, .slice none 0 0] 34))
  have KT_1 := hide (new_block W0 (.cells #[.bool true, .bool false, .bool false, .int .i64 0, .int .i64 0, .slice none 0 0] 34))
  have hlp_T : w.heap.size < W0.heap.size := size_of (unhide Kp)
  have hlx_T : w.heap.size + 1 < W0.heap.size := size_of (unhide Kx)
  have hlr_T : w.heap.size + 1 + 1 < W0.heap.size := size_of (unhide Kr)
  have hls_T : w.heap.size + 1 + 1 + 1 < W0.heap.size := size_of (unhide Ks)
  obtain ⟨T, eT⟩ : ∃ X, W0.heap.size = X := ⟨_, rfl⟩
  obtain ⟨W1, eW1⟩ : ∃ X, W0.alloc (.cells #[.bool true, .bool false, .bool false, .int .i64 0, .int .i64 0, .slice none 0 0] 34) = X := ⟨_, rfl⟩
  rw [eT, eW1] at KT_1; rw [eW1] at HX_1 Kp_1 Kx_1 Kr_1 Ks_1; rw [eT] at hlp_T hlx_T hlr_T hls_T; rw [eT, eW1]
  clear eT eW1 HB Kp Kx Kr Ks
  obtain ⟨⟨p0, p1, p2, p3, p4⟩, ⟨pf0, pf1, pf2, pf3, pf4⟩, pl⟩ := block5 (unhide Kp_1)
  have HI1 := hide (IsL.below (unhide HI) (unhide HX_1))
  have HB1 := hide (size_of (unhide KT_1))
  obtain ⟨B1, eB1⟩ : ∃ X, W1.heap.size = X := ⟨_, rfl⟩
  rw [eB1] at HB1
  go_upto_region 3 with (at_builtin; refine wpList_append ki rfl (.const (.slice none 0 0)) (.tmp 13) rfl W1.heap.size _ [] rfl (own_nil _ _) _ items rfl (unhide HI1) n1 (by rw [unhide HN1]; simp) (by show n1 * 8 ≤ 140737488355328; omega) (Nat.le_refl _) ?_; intro b1 d1 w2 ho hg; have hb2 : Below W1.heap.size W1 w2 := (Below.refl _ _).grown hg (Nat.le_refl _) (fun k hk => by cases hk); have OL := hide (own_nil_append ho); rw [eB1] at OL; have HS2 : Hid (B1 ≤ w2.heap.size) := (by rw [← eB1]; exact hb2.size); have HX_2 := hide (Below.next (unhide HX_1) hb2 (by first | exact Nat.le_refl _ | (have := unhide HBA; omega))); have Kp_2 := hide (keep_below (unhide Kp_1) hb2); have Kx_2 := hide (keep_below (unhide Kx_1) hb2); have Kr_2 := hide (keep_below (unhide Kr_1) hb2); have Ks_2 := hide (keep_below (unhide Ks_1) hb2); have KT_2 := hide (keep_below (unhide KT_1) hb2); clear HX_1 Kp_1 Kx_1 Kr_1 Ks_1 KT_1; clear ho hg hb2 eB1 HI1 p0 p1 p2 p3 p4 pf0 pf1 pf2 pf3 pf4 pl)
  obtain ⟨⟨p0, p1, p2, p3, p4⟩, ⟨pf0, pf1, pf2, pf3, pf4⟩, pl⟩ := block5 (unhide Kp_2)
  obtain ⟨h0, h1, h2⟩ := unhide HPF
  have j0 : w2.cell? ⟨b0, o0, none⟩ = some (.int .i64 t0) := ((unhide HX_2).cell (p := ⟨b0, o0, none⟩) hb0).trans h0
  have j1 : w2.cell? ⟨b0, o0 + 1, none⟩ = some (.int .i64 c0) := ((unhide HX_2).cell (p := ⟨b0, o0 + 1, none⟩) hb0).trans h1
  have j2 : w2.cell? ⟨b0, o0 + 2, none⟩ = some (.int .i64 w0') := ((unhide HX_2).cell (p := ⟨b0, o0 + 2, none⟩) hb0).trans h2
  clear h0 h1 h2
  go_upto_region 5 with fail
  clear p0 p1 p2 p3 p4 pf0 pf1 pf2 pf3 pf4 pl
  clear j0 j1 j2
  have HX_3 := hide ((unhide HX_2).alloc (Nat.le_trans (show w.heap.size ≤ w.heap.size from Nat.le_refl _) (unhide HX_2).size) (.cells #[.int .i64 t0, .int .i64 c0, .int .i64 w0'] 39))
  have Kp_3 := hide (keep_alloc (unhide Kp_2) (.cells #[.int .i64 t0, .int .i64 c0, .int .i64 w0'] 39))
  have Kx_3 := hide (keep_alloc (unhide Kx_2) (.cells #[.int .i64 t0, .int .i64 c0, .int .i64 w0'] 39))
  have Kr_3 := hide (keep_alloc (unhide Kr_2) (.cells #[.int .i64 t0, .int .i64 c0, .int .i64 w0'] 39))
  have Ks_3 := hide (keep_alloc (unhide Ks_2) (.cells #[.int .i64 t0, .int .i64 c0, .int .i64 w0'] 39))
  have KT_3 := hide (keep_alloc (unhide KT_2) (.cells #[.int .i64 t0, .int .i64 c0, .int .i64 w0'] 39))
  have OL_3 := hide ((unhide OL).below ((Below.refl _ _).alloc (Nat.le_refl _) (.cells #[.int .i64 t0, .int .i64 c0, .int .i64 w0'] 39)))
  have KG_3 := hide (new_block w2 (.cells #[.int .i64 t0, .int .i64 c0, .int .i64 w0'] 39))
  have hlp_G : w.heap.size < w2.heap.size := size_of (unhide Kp_2)
  have hlx_G : w.heap.size + 1 < w2.heap.size := size_of (unhide Kx_2)
  have hlr_G : w.heap.size + 1 + 1 < w2.heap.size := size_of (unhide Kr_2)
  have hls_G : w.heap.size + 1 + 1 + 1 < w2.heap.size := size_of (unhide Ks_2)
  have hlT_G : T < w2.heap.size := size_of (unhide KT_2)
  obtain ⟨G, eG⟩ : ∃ X, w2.heap.size = X := ⟨_, rfl⟩
  obtain ⟨W3, eW3⟩ : ∃ X, w2.alloc (.cells #[.int .i64 t0, .int .i64 c0, .int .i64 w0'] 39) = X := ⟨_, rfl⟩
  rw [eG, eW3] at KG_3; rw [eW3] at HX_3 Kp_3 Kx_3 Kr_3 Ks_3 KT_3 OL_3; rw [eG] at hlp_G hlx_G hlr_G hls_G hlT_G HS2; rw [eG, eW3]
  clear eG eW3 HX_2 Kp_2 Kx_2 Kr_2 Ks_2 KT_2 OL
  obtain ⟨⟨v0, v1, v2⟩, ⟨vf0, vf1, vf2⟩, vl⟩ := block3 (unhide KG_3)
  have HB3 : Hid (B1 ≤ W3.heap.size) := (by have h1 := unhide HS2; have h2 := size_of (unhide KG_3); show B1 ≤ W3.heap.size; omega)
  go_upto_region 6 with (at_builtin; refine wpList_append ki rfl (.tmp 23) (.tmp 26) rfl B1 _ items rfl ((unhide OL_3).below ((Below.refl _ _).alloc (Nat.le_refl _) _)) _ [w0'] rfl (isl_one ki W3 w0') (n1 + 1) (by rw [unhide HN1]; rfl) (by show (n1 + 1) * 8 ≤ 140737488355328; omega) (by have := unhide HB3; simp only [World.size_alloc]; omega) ?_; intro b6 d6 w4 ho6 hg6; have OM := hide ho6; have HX_4 := hide (((unhide HX_3).alloc (unhide HX_3).size (.cells #[.int .i64 w0'] 3)).grown hg6 ((unhide HX_3).alloc (unhide HX_3).size (.cells #[.int .i64 w0'] 3)).size (fun k hk => by have := ((unhide OL_3).lt k hk).1; have := unhide HB1; omega)); have Kp_4 := hide (keep_grown (keep_alloc (unhide Kp_3) (.cells #[.int .i64 w0'] 3)) hg6 (fun j hj => Own.ne ((unhide OL_3).below ((Below.refl _ _).alloc (Nat.le_refl _) (.cells #[.int .i64 w0'] 3))) (keep_alloc (unhide Kp_3) (.cells #[.int .i64 w0'] 3)) (by decide) j hj)); have Kx_4 := hide (keep_grown (keep_alloc (unhide Kx_3) (.cells #[.int .i64 w0'] 3)) hg6 (fun j hj => Own.ne ((unhide OL_3).below ((Below.refl _ _).alloc (Nat.le_refl _) (.cells #[.int .i64 w0'] 3))) (keep_alloc (unhide Kx_3) (.cells #[.int .i64 w0'] 3)) (by decide) j hj)); have Kr_4 := hide (keep_grown (keep_alloc (unhide Kr_3) (.cells #[.int .i64 w0'] 3)) hg6 (fun j hj => Own.ne ((unhide OL_3).below ((Below.refl _ _).alloc (Nat.le_refl _) (.cells #[.int .i64 w0'] 3))) (keep_alloc (unhide Kr_3) (.cells #[.int .i64 w0'] 3)) (by decide) j hj)); have Ks_4 := hide (keep_grown (keep_alloc (unhide Ks_3) (.cells #[.int .i64 w0'] 3)) hg6 (fun j hj => Own.ne ((unhide OL_3).below ((Below.refl _ _).alloc (Nat.le_refl _) (.cells #[.int .i64 w0'] 3))) (keep_alloc (unhide Ks_3) (.cells #[.int .i64 w0'] 3)) (by decide) j hj)); have KT_4 := hide (keep_grown (keep_alloc (unhide KT_3) (.cells #[.int .i64 w0'] 3)) hg6 (fun j hj => Own.ne ((unhide OL_3).below ((Below.refl _ _).alloc (Nat.le_refl _) (.cells #[.int .i64 w0'] 3))) (keep_alloc (unhide KT_3) (.cells #[.int .i64 w0'] 3)) (by decide) j hj)); have KG_4 := hide (keep_grown (keep_alloc (unhide KG_3) (.cells #[.int .i64 w0'] 3)) hg6 (fun j hj => Own.ne ((unhide OL_3).below ((Below.refl _ _).alloc (Nat.le_refl _) (.cells #[.int .i64 w0'] 3))) (keep_alloc (unhide KG_3) (.cells #[.int .i64 w0'] 3)) (by decide) j hj)); clear HX_3 Kp_3 Kx_3 Kr_3 Ks_3 KT_3 KG_3; clear ho6 hg6 OL_3 v0 v1 v2 vf0 vf1 vf2 vl)
  obtain ⟨g, d2, ev, hgB, hgl, -⟩ := (unhide OM).at ki (by simp)
  injection ev with ev1 ev2 ev3
  subst ev1
  subst ev3
  clear ev2
  obtain ⟨m1, em1⟩ : ∃ m, n1 + 1 = m := ⟨_, rfl⟩
  have hm1 : 0 < m1 := by omega
  rw [em1] at OM ⊢
  clear em1
  have i1 : (1 : Int) ≤ (n2 : Int) := by omega
  have i2 : (n2 : Int) ≤ (c2 : Int) := by have := unhide HCF; omega
  obtain ⟨⟨p0, p1, p2, p3, p4⟩, ⟨pf0, pf1, pf2, pf3, pf4⟩, pl⟩ := block5 (unhide Kp_4)
  go_upto_region 7 with fail
  clear p0 p1 p2 p3 p4 pf0 pf1 pf2 pf3 pf4 pl
  obtain ⟨A2, hA2⟩ : ∃ A, A = (if c2 = 1 then some ⟨b0, o0, none⟩ else some ⟨b0, o0 + 3, none⟩ : Option Addr) := ⟨_, rfl⟩
  rw [← hA2]
  have HNS : Hid (∀ W, Below w.heap.size w W → IsL KP W (.slice A2 (n2 - 1) (c2 - 1)) (ss.drop 1)) := fun W hW => IsL.drop_if kp ((unhide HS).below hW) (p := 1) (by omega) hA2
  obtain ⟨n5, e4⟩ : ∃ n, n2 - 1 = n := ⟨_, rfl⟩
  obtain ⟨c5, e5⟩ : ∃ n, c2 - 1 = n := ⟨_, rfl⟩
  rw [e4, e5] at HNS ⊢
  clear e4 e5 hA2 i1 i2
  have HX_5 := hide (below_set (i := 3) (unhide HX_4) (show w.heap.size ≤ w.heap.size by first | omega | (have := unhide HBA; omega)) (.slice A2 n5 c5))
  have Kp_5 := hide (set_block5 (i := 3) (y := .slice A2 n5 c5) (unhide Kp_4))
  have Kx_5 := hide (keep_set (g := w.heap.size) (o := 3) (v := .slice A2 n5 c5) (unhide Kx_4) (by omega))
  have Kr_5 := hide (keep_set (g := w.heap.size) (o := 3) (v := .slice A2 n5 c5) (unhide Kr_4) (by omega))
  have Ks_5 := hide (keep_set (g := w.heap.size) (o := 3) (v := .slice A2 n5 c5) (unhide Ks_4) (by omega))
  have KT_5 := hide (keep_set (g := w.heap.size) (o := 3) (v := .slice A2 n5 c5) (unhide KT_4) (by omega))
  have KG_5 := hide (keep_set (g := w.heap.size) (o := 3) (v := .slice A2 n5 c5) (unhide KG_4) (by omega))
  have OL_5 := hide ((unhide OM).keep (fun k hk => Below.heap_setCell w4 ⟨w.heap.size, 3, none⟩ (.slice A2 n5 c5) k (by have := Own.ne (unhide OM) (unhide Kp_4) (by decide) k hk; simpa using this)))
  obtain ⟨W5, eW5⟩ : ∃ X, w4.setCell ⟨w.heap.size, 3, none⟩ (.slice A2 n5 c5) = X := ⟨_, rfl⟩
  rw [eW5] at HX_5 Kp_5 Kx_5 Kr_5 Ks_5 KT_5 KG_5 OL_5 ⊢
  clear eW5 HX_4 Kp_4 Kx_4 Kr_4 Ks_4 KT_4 KG_4 OM
  simp only [List.setIfInBounds_toArray, List.set_cons_zero, List.set_cons_succ] at Kp_5
  obtain ⟨⟨v0, v1, v2⟩, ⟨vf0, vf1, vf2⟩, vl⟩ := block3 (unhide KG_5)
  obtain ⟨⟨x0, x1, x2, x3, x4, x5⟩, ⟨xf0, xf1, xf2, xf3, xf4, xf5⟩, xl⟩ := block6 (unhide KT_5)
  have o5 : T ≠ W5.heap.size := by omega
  go_upto_region 8 with fail
  clear o5
  clear v0 v1 v2 vf0 vf1 vf2 vl x0 x1 x2 x3 x4 x5 xf0 xf1 xf2 xf3 xf4 xf5 xl
  obtain ⟨S, eS⟩ : ∃ X, W5.heap.size = X := ⟨_, rfl⟩
  rw [eS]
  have hsz : (W5.setCell ⟨T, 5, none⟩ (.slice (some ⟨S, 0, none⟩) 1 1)).heap.size = S := by rw [← eS]; simp [World.setCell]
  have HX_6 := hide (below_set (i := 5) (unhide HX_5) (show w.heap.size ≤ T by first | omega | (have := unhide HBA; omega)) (.slice (some ⟨S, 0, none⟩) 1 1))
  have Kp_6 := hide (keep_set (g := T) (o := 5) (v := .slice (some ⟨S, 0, none⟩) 1 1) (unhide Kp_5) (by omega))
  have Kx_6 := hide (keep_set (g := T) (o := 5) (v := .slice (some ⟨S, 0, none⟩) 1 1) (unhide Kx_5) (by omega))
  have Kr_6 := hide (keep_set (g := T) (o := 5) (v := .slice (some ⟨S, 0, none⟩) 1 1) (unhide Kr_5) (by omega))
  have Ks_6 := hide (keep_set (g := T) (o := 5) (v := .slice (some ⟨S, 0, none⟩) 1 1) (unhide Ks_5) (by omega))
  have KT_6 := hide (set_block6 (i := 5) (y := .slice (some ⟨S, 0, none⟩) 1 1) (unhide KT_5))
  have KG_6 := hide (keep_set (g := T) (o := 5) (v := .slice (some ⟨S, 0, none⟩) 1 1) (unhide KG_5) (by omega))
  have OL_6 := hide ((unhide OL_5).keep (fun k hk => Below.heap_setCell W5 ⟨T, 5, none⟩ (.slice (some ⟨S, 0, none⟩) 1 1) k (by have := Own.ne (unhide OL_5) (unhide KT_5) (by decide) k hk; simpa using this)))
  obtain ⟨W6, eW6⟩ : ∃ X, W5.setCell ⟨T, 5, none⟩ (.slice (some ⟨S, 0, none⟩) 1 1) = X := ⟨_, rfl⟩
  rw [eW6] at HX_6 Kp_6 Kx_6 Kr_6 Ks_6 KT_6 KG_6 OL_6 hsz ⊢
  clear eW6 HX_5 Kp_5 Kx_5 Kr_5 Ks_5 KT_5 KG_5 OL_5
  simp only [List.setIfInBounds_toArray, List.set_cons_zero, List.set_cons_succ] at KT_6
  clear eS
  have HX_7 := hide ((unhide HX_6).alloc (Nat.le_trans (show w.heap.size ≤ w.heap.size from Nat.le_refl _) (unhide HX_6).size) (.cells #[.int .i64 t0, .int .i64 c0, .int .i64 0, .bool false, .bool false] 64))
  have Kp_7 := hide (keep_alloc (unhide Kp_6) (.cells #[.int .i64 t0, .int .i64 c0, .int .i64 0, .bool false, .bool false] 64))
  have Kx_7 := hide (keep_alloc (unhide Kx_6) (.cells #[.int .i64 t0, .int .i64 c0, .int .i64 0, .bool false, .bool false] 64))
  have Kr_7 := hide (keep_alloc (unhide Kr_6) (.cells #[.int .i64 t0, .int .i64 c0, .int .i64 0, .bool false, .bool false] 64))
  have Ks_7 := hide (keep_alloc (unhide Ks_6) (.cells #[.int .i64 t0, .int .i64 c0, .int .i64 0, .bool false, .bool false] 64))
  have KT_7 := hide (keep_alloc (unhide KT_6) (.cells #[.int .i64 t0, .int .i64 c0, .int .i64 0, .bool false, .bool false] 64))
  have KG_7 := hide (keep_alloc (unhide KG_6) (.cells #[.int .i64 t0, .int .i64 c0, .int .i64 0, .bool false, .bool false] 64))
  have OL_7 := hide ((unhide OL_6).below ((Below.refl _ _).alloc (Nat.le_refl _) (.cells #[.int .i64 t0, .int .i64 c0, .int .i64 0, .bool false, .bool false] 64)))
  have KS_7 := hide (new_block W6 (.cells #[.int .i64 t0, .int .i64 c0, .int .i64 0, .bool false, .bool false] 64))
  have hlp_S : w.heap.size < W6.heap.size := size_of (unhide Kp_6)
  have hlx_S : w.heap.size + 1 < W6.heap.size := size_of (unhide Kx_6)
  have hlr_S : w.heap.size + 1 + 1 < W6.heap.size := size_of (unhide Kr_6)
  have hls_S : w.heap.size + 1 + 1 + 1 < W6.heap.size := size_of (unhide Ks_6)
  have hlT_S : T < W6.heap.size := size_of (unhide KT_6)
  have hlG_S : G < W6.heap.size := size_of (unhide KG_6)
  obtain ⟨W7, eW7⟩ : ∃ X, W6.alloc (.cells #[.int .i64 t0, .int .i64 c0, .int .i64 0, .bool false, .bool false] 64) = X := ⟨_, rfl⟩
  rw [hsz, eW7] at KS_7; rw [eW7] at HX_7 Kp_7 Kx_7 Kr_7 Ks_7 KT_7 KG_7 OL_7; rw [hsz] at hlp_S hlx_S hlr_S hls_S hlT_S hlG_S; rw [eW7]
  clear eW7 hsz HX_6 Kp_6 Kx_6 Kr_6 Ks_6 KT_6 KG_6 OL_6
  have z3 : (0 : Int) < (m1 : Int) := by omega
  go_upto_region 9 with fail
  clear z3
  have jz : W7.cell? ⟨g, 0, none⟩ = some (.int .i64 iz) := by rw [← unhide HIZ]; exact own_first (unhide OL_7) (by simp)
  have i1 : (0 : Int) < (m1 : Int) := by omega
  obtain ⟨⟨x0, x1, x2, x3, x4, x5⟩, ⟨xf0, xf1, xf2, xf3, xf4, xf5⟩, xl⟩ := block6 (unhide KT_7)
  go_upto_region 10 with fail
  clear x0 x1 x2 x3 x4 x5 xf0 xf1 xf2 xf3 xf4 xf5 xl
  clear jz
  have HX_8 := hide (below_set (i := 3) (unhide HX_7) (show w.heap.size ≤ T by first | omega | (have := unhide HBA; omega)) (.int .i64 iz))
  have Kp_8 := hide (keep_set (g := T) (o := 3) (v := .int .i64 iz) (unhide Kp_7) (by omega))
  have Kx_8 := hide (keep_set (g := T) (o := 3) (v := .int .i64 iz) (unhide Kx_7) (by omega))
  have Kr_8 := hide (keep_set (g := T) (o := 3) (v := .int .i64 iz) (unhide Kr_7) (by omega))
  have Ks_8 := hide (keep_set (g := T) (o := 3) (v := .int .i64 iz) (unhide Ks_7) (by omega))
  have KT_8 := hide (set_block6 (i := 3) (y := .int .i64 iz) (unhide KT_7))
  have KG_8 := hide (keep_set (g := T) (o := 3) (v := .int .i64 iz) (unhide KG_7) (by omega))
  have KS_8 := hide (keep_set (g := T) (o := 3) (v := .int .i64 iz) (unhide KS_7) (by omega))
  have OL_8 := hide ((unhide OL_7).keep (fun k hk => Below.heap_setCell W7 ⟨T, 3, none⟩ (.int .i64 iz) k (by have := Own.ne (unhide OL_7) (unhide KT_7) (by decide) k hk; simpa using this)))
  obtain ⟨W8, eW8⟩ : ∃ X, W7.setCell ⟨T, 3, none⟩ (.int .i64 iz) = X := ⟨_, rfl⟩
  rw [eW8] at HX_8 Kp_8 Kx_8 Kr_8 Ks_8 KT_8 KG_8 KS_8 OL_8 ⊢
  clear eW8 HX_7 Kp_7 Kx_7 Kr_7 Ks_7 KT_7 KG_7 KS_7 OL_7
  simp only [List.setIfInBounds_toArray, List.set_cons_zero, List.set_cons_succ] at KT_8
  obtain ⟨⟨x0, x1, x2, x3, x4, x5⟩, ⟨xf0, xf1, xf2, xf3, xf4, xf5⟩, xl⟩ := block6 (unhide KT_8)
  go_upto_region 11 with fail
  clear x0 x1 x2 x3 x4 x5 xf0 xf1 xf2 xf3 xf4 xf5 xl
  have HX_9 := hide (below_set (i := 2) (unhide HX_8) (show w.heap.size ≤ T by first | omega | (have := unhide HBA; omega)) (.bool true))
  have Kp_9 := hide (keep_set (g := T) (o := 2) (v := .bool true) (unhide Kp_8) (by omega))
  have Kx_9 := hide (keep_set (g := T) (o := 2) (v := .bool true) (unhide Kx_8) (by omega))
  have Kr_9 := hide (keep_set (g := T) (o := 2) (v := .bool true) (unhide Kr_8) (by omega))
  have Ks_9 := hide (keep_set (g := T) (o := 2) (v := .bool true) (unhide Ks_8) (by omega))
  have KT_9 := hide (set_block6 (i := 2) (y := .bool true) (unhide KT_8))
  have KG_9 := hide (keep_set (g := T) (o := 2) (v := .bool true) (unhide KG_8) (by omega))
  have KS_9 := hide (keep_set (g := T) (o := 2) (v := .bool true) (unhide KS_8) (by omega))
  have OL_9 := hide ((unhide OL_8).keep (fun k hk => Below.heap_setCell W8 ⟨T, 2, none⟩ (.bool true) k (by have := Own.ne (unhide OL_8) (unhide KT_8) (by decide) k hk; simpa using this)))
  obtain ⟨W9, eW9⟩ : ∃ X, W8.setCell ⟨T, 2, none⟩ (.bool true) = X := ⟨_, rfl⟩
  rw [eW9] at HX_9 Kp_9 Kx_9 Kr_9 Ks_9 KT_9 KG_9 KS_9 OL_9 ⊢
  clear eW9 HX_8 Kp_8 Kx_8 Kr_8 Ks_8 KT_8 KG_8 KS_8 OL_8
  simp only [List.setIfInBounds_toArray, List.set_cons_zero, List.set_cons_succ] at KT_9
  have i2 : (1 : Int) ≤ (m1 : Int) := by omega
  have i3 : (m1 : Int) ≤ (d6 : Int) := by have := (unhide OL_9).isl.fits; omega
  obtain ⟨⟨p0, p1, p2, p3, p4⟩, ⟨pf0, pf1, pf2, pf3, pf4⟩, pl⟩ := block5 (unhide Kp_9)
  go_upto_region 12 with fail
  clear p0 p1 p2 p3 p4 pf0 pf1 pf2 pf3 pf4 pl
  obtain ⟨A, hA⟩ : ∃ A, A = (if d6 = 1 then some ⟨g, 0, none⟩ else some ⟨g, 1, none⟩ : Option Addr) := ⟨_, rfl⟩
  rw [← hA]
  have HNW : Hid (∀ W, Own KI B1 W (.slice (some ⟨g, 0, none⟩) m1 d6) (items ++ [w0']) → IsL KI W (.slice A (m1 - 1) (d6 - 1)) ((items ++ [w0']).drop 1)) := fun W hW => IsL.drop_if ki hW.isl (p := 1) (by omega) (by rw [hA]; rfl)
  obtain ⟨n4, e4⟩ : ∃ n, m1 - 1 = n := ⟨_, rfl⟩
  obtain ⟨c4, e5⟩ : ∃ n, d6 - 1 = n := ⟨_, rfl⟩
  rw [e4, e5] at HNW ⊢
  clear e4 e5 hA i1 i2 i3
  have HX_10 := hide (below_set (i := 1) (unhide HX_9) (show w.heap.size ≤ w.heap.size by first | omega | (have := unhide HBA; omega)) (.slice A n4 c4))
  have Kp_10 := hide (set_block5 (i := 1) (y := .slice A n4 c4) (unhide Kp_9))
  have Kx_10 := hide (keep_set (g := w.heap.size) (o := 1) (v := .slice A n4 c4) (unhide Kx_9) (by omega))
  have Kr_10 := hide (keep_set (g := w.heap.size) (o := 1) (v := .slice A n4 c4) (unhide Kr_9) (by omega))
  have Ks_10 := hide (keep_set (g := w.heap.size) (o := 1) (v := .slice A n4 c4) (unhide Ks_9) (by omega))
  have KT_10 := hide (keep_set (g := w.heap.size) (o := 1) (v := .slice A n4 c4) (unhide KT_9) (by omega))
  have KG_10 := hide (keep_set (g := w.heap.size) (o := 1) (v := .slice A n4 c4) (unhide KG_9) (by omega))
  have KS_10 := hide (keep_set (g := w.heap.size) (o := 1) (v := .slice A n4 c4) (unhide KS_9) (by omega))
  have OL_10 := hide ((unhide OL_9).keep (fun k hk => Below.heap_setCell W9 ⟨w.heap.size, 1, none⟩ (.slice A n4 c4) k (by have := Own.ne (unhide OL_9) (unhide Kp_9) (by decide) k hk; simpa using this)))
  obtain ⟨W10, eW10⟩ : ∃ X, W9.setCell ⟨w.heap.size, 1, none⟩ (.slice A n4 c4) = X := ⟨_, rfl⟩
  rw [eW10] at HX_10 Kp_10 Kx_10 Kr_10 Ks_10 KT_10 KG_10 KS_10 OL_10 ⊢
  clear eW10 HX_9 Kp_9 Kx_9 Kr_9 Ks_9 KT_9 KG_9 KS_9 OL_9
  simp only [List.setIfInBounds_toArray, List.set_cons_zero, List.set_cons_succ] at Kp_10
  have u0 : T ≠ w.heap.size + 1 + 1 := by omega
  have u1 : w.heap.size + 1 + 1 ≠ T := by omega
  have u2 : T ≠ w.heap.size + 1 + 1 + 1 := by omega
  have u3 : w.heap.size + 1 + 1 + 1 ≠ T := by omega
  have u4 : T ≠ w.heap.size := by omega
  have u5 : w.heap.size ≠ T := by omega
  obtain ⟨⟨p0, p1, p2, p3, p4⟩, ⟨pf0, pf1, pf2, pf3, pf4⟩, pl⟩ := block5 (unhide Kp_10)
  obtain ⟨⟨q0, q1, q2, q3, q4⟩, ⟨qf0, qf1, qf2, qf3, qf4⟩, ql⟩ := block5 (unhide Kr_10)
  obtain ⟨⟨s0, s1, s2, s3, s4, s5⟩, ⟨sf0, sf1, sf2, sf3, sf4, sf5⟩, sl⟩ := block6 (unhide Ks_10)
  obtain ⟨⟨x0, x1, x2, x3, x4, x5⟩, ⟨xf0, xf1, xf2, xf3, xf4, xf5⟩, xl⟩ := block6 (unhide KT_10)
  go_wp2_with fail
  go_region
  obtain ⟨Wf, ef⟩ : ∃ W, (put6 (put5 W10 (w.heap.size + 1 + 1) (.int .i64 cap) (.slice A n4 c4) (.bool closed) (.slice A2 n5 c5) (.slice a3 n3 c3)) (w.heap.size + 1 + 1 + 1) (.bool true) (.bool false) (.bool true) (.int .i64 iz) (.int .i64 0) (.slice (some ⟨S, 0, none⟩) 1 1)).drew = W := ⟨_, rfl⟩
  have H5 := hide (keep_below ((put6_keep (y0 := .bool true) (y1 := .bool false) (y2 := .bool true) (y3 := .int .i64 iz) (y4 := .int .i64 0) (y5 := .slice (some ⟨S, 0, none⟩) 1 1) (show w.heap.size + 1 + 1 ≠ w.heap.size + 1 + 1 + 1 by omega)).trans (put5_new (y0 := .int .i64 cap) (y1 := .slice A n4 c4) (y2 := .bool closed) (y3 := .slice A2 n5 c5) (y4 := .slice a3 n3 c3) (unhide Kr_10))) (Below.refl _ _).drew)
  have H6 := hide (keep_below (put6_new (y0 := .bool true) (y1 := .bool false) (y2 := .bool true) (y3 := .int .i64 iz) (y4 := .int .i64 0) (y5 := .slice (some ⟨S, 0, none⟩) 1 1) ((put5_keep (y0 := .int .i64 cap) (y1 := .slice A n4 c4) (y2 := .bool closed) (y3 := .slice A2 n5 c5) (y4 := .slice a3 n3 c3) (show w.heap.size + 1 + 1 + 1 ≠ w.heap.size + 1 + 1 by omega)).trans (unhide Ks_10))) (Below.refl _ _).drew)
  have HBf : Hid (Below w.heap.size w (put6 (put5 W10 (w.heap.size + 1 + 1) (.int .i64 cap) (.slice A n4 c4) (.bool closed) (.slice A2 n5 c5) (.slice a3 n3 c3)) (w.heap.size + 1 + 1 + 1) (.bool true) (.bool false) (.bool true) (.int .i64 iz) (.int .i64 0) (.slice (some ⟨S, 0, none⟩) 1 1)).drew) := (put6_below (put5_below (unhide HX_10) (by omega)) (by omega)).drew
  have HKf : Hid (∀ k, k ≠ w.heap.size + 1 + 1 → k ≠ w.heap.size + 1 + 1 + 1 → ((put6 (put5 W10 (w.heap.size + 1 + 1) (.int .i64 cap) (.slice A n4 c4) (.bool closed) (.slice A2 n5 c5) (.slice a3 n3 c3)) (w.heap.size + 1 + 1 + 1) (.bool true) (.bool false) (.bool true) (.int .i64 iz) (.int .i64 0) (.slice (some ⟨S, 0, none⟩) 1 1)).drew).heap[k]? = W10.heap[k]?) := fun k h5 h6 => (drew_at _ k).trans ((put6_keep h6).trans (put5_keep h5))
  rw [ef] at H5 H6 HBf HKf
  have ef2 : ((((((((((((W10).setCell ⟨w.heap.size + 1 + 1, 0, none⟩ (.int .i64 cap)).setCell ⟨w.heap.size + 1 + 1, 1, none⟩ (.slice A n4 c4)).setCell ⟨w.heap.size + 1 + 1, 2, none⟩ (.bool closed)).setCell ⟨w.heap.size + 1 + 1, 3, none⟩ (.slice A2 n5 c5)).setCell ⟨w.heap.size + 1 + 1, 4, none⟩ (.slice a3 n3 c3)).setCell ⟨w.heap.size + 1 + 1 + 1, 0, none⟩ (.bool true)).setCell ⟨w.heap.size + 1 + 1 + 1, 1, none⟩ (.bool false)).setCell ⟨w.heap.size + 1 + 1 + 1, 2, none⟩ (.bool true)).setCell ⟨w.heap.size + 1 + 1 + 1, 3, none⟩ (.int .i64 iz)).setCell ⟨w.heap.size + 1 + 1 + 1, 4, none⟩ (.int .i64 0)).setCell ⟨w.heap.size + 1 + 1 + 1, 5, none⟩ (.slice (some ⟨S, 0, none⟩) 1 1)).drew = Wf := ef
  rw [ef2]
  clear ef ef2
  clear p0 p1 p2 p3 p4 pf0 pf1 pf2 pf3 pf4 pl q0 q1 q2 q3 q4 qf0 qf1 qf2 qf3 qf4 ql s0 s1 s2 s3 s4 s5 sf0 sf1 sf2 sf3 sf4 sf5 sl x0 x1 x2 x3 x4 x5 xf0 xf1 xf2 xf3 xf4 xf5 xl
  obtain ⟨⟨q0, q1, q2, q3, q4⟩, -, -⟩ := block5 (unhide H5)
  obtain ⟨⟨s0, s1, s2, s3, s4, s5⟩, -, -⟩ := block6 (unhide H6)
  go_wp2_with fail
  refine bodyPost_ret (v := .tuple #[.agg #[.int .i64 cap, .slice A n4 c4, .bool closed, .slice A2 n5 c5, .slice a3 n3 c3], .agg #[.bool true, .bool false, .bool true, .int .i64 iz, .int .i64 0, .slice (some ⟨S, 0, none⟩) 1 1]]) (by simp [results, Try.results21, go_sem, q0, q1, q2, q3, q4, s0, s1, s2, s3, s4, s5]) rfl ⟨_, _, rfl, ⟨_, _, _, rfl, unhide HNW _ ((unhide OL_10).keep (fun k hk => unhide HKf k (Own.ne (unhide OL_10) (unhide Kr_10) (by decide) k hk) (Own.ne (unhide OL_10) (unhide Ks_10) (by decide) k hk))), unhide HNS _ (unhide HBf), (unhide HG).below (unhide HBf)⟩, ⟨_, rfl, isl_block kw (x := (t0, c0, 0, false, false)) ((unhide HKf S (by omega) (by omega)).trans (unhide KS_10))⟩, unhide HBf⟩

theorem taken_any (w : World) (v : Value) (P : Pp) (t u : Int) (h : IsPipe w v P) (hc : countP P ≤ 6000) :
    Calls Try.prog 21 #[v, .agg #[.int .i64 t, .int .i64 0, .int .i64 u]] w fun e w' => ∃ v1 v2, e = .returned (.tuple #[v1, v2]) ∧ IsPipe w' v1 (takenL P).1 ∧ IsAns w' v2 (takenL P).2 ∧ Below w.heap.size w w' := by
  by_cases h2 : 0 < P.ss.length
  · have e : takenL P = ({ P with items := (P.items ++ [(pAt P.ss 0).2.2]).drop 1, ss := P.ss.drop 1 }, ⟨true, false, true, (P.items ++ [(pAt P.ss 0).2.2]).getD 0 0, 0, [((pAt P.ss 0).1, (pAt P.ss 0).2.1, 0, false, false)]⟩) := by unfold takenL firstL; rw [if_pos (by omega), if_pos h2]
    rw [e]
    exact taken_sender w v P t u h hc h2
  · by_cases h1 : 0 < P.items.length
    · have e : takenL P = ({ P with items := P.items.drop 1 }, ⟨true, false, true, P.items.getD 0 0, 0, []⟩) := by unfold takenL firstL; rw [if_pos (by omega), if_neg h2]
      rw [e]
      exact taken_items w v P t u h hc h1 h2
    · cases h3 : P.closed with
      | true =>
        have e : takenL P = (P, ⟨true, false, false, 0, 0, []⟩) := by unfold takenL; rw [if_neg (by omega), if_pos h3]
        rw [e]
        exact taken_closed w v P t u h hc h3 h1 h2
      | false =>
        have e : takenL P = (P, zeroA) := by unfold takenL; rw [if_neg (by omega), if_neg (by rw [h3]; simp)]
        rw [e]
        exact taken_none w v P t u h hc h3 h1 h2
end Go.Proofs.Ytijogcjocandcaa
