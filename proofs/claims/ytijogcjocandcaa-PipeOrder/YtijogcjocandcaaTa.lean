/-
  taskmillref.Taken.
-/
import Derived.Test.YtijogcjocandcaaGd
namespace Go.Proofs.Ytijogcjocandcaa
open Go.RowKit

theorem size_of {w : World} {k : Nat} {o : Obj} (h : w.heap[k]? = some o) : k < w.heap.size := (Array.getElem?_eq_some_iff.1 h).1
theorem isl_block {α : Type} {K : Kind α} (hK : K.Ok) {w : World} {S : Nat} {x : α} (h : w.heap[S]? = some (.cells (K.f x).toArray K.e)) : IsL K w (.slice (some ⟨S, 0, none⟩) 1 1) [x] := by
  refine Lies.isl hK (fun j i u hj hu => ?_) rfl (Nat.le_refl _)
  have e : j = 0 := by simp at hj; omega
  subst e
  simp only [World.cell?, h]
  simpa using hu
theorem own_first {base : Nat} {w : World} {g n c : Nat} {xs : List Int} (h : Own KI base w (.slice (some ⟨g, 0, none⟩) n c) xs) (hn : 0 < xs.length) : w.cell? ⟨g, 0, none⟩ = some (.int .i64 (xs.getD 0 0)) := by
  obtain ⟨g', c', ev, _, _, hl⟩ := h.at ki hn
  cases ev
  exact hl.ints hn

set_option maxRecDepth 100000 in
set_option maxHeartbeats 1000000 in
theorem taken_closed (w : World) (v : Value) (P : Pp) (t u : Int) (h : IsPipe w v P) (hc : countP P ≤ 6000) (hy : P.closed = true) (hz1 : ¬ 0 < P.items.length) (hz2 : ¬ 0 < P.ss.length) :
    Calls Try.prog 21 #[v, .agg #[.int .i64 t, .int .i64 0, .int .i64 u]] w fun e w' => ∃ v1 v2, e = .returned (.tuple #[v1, v2]) ∧ IsPipe w' v1 P ∧ IsAns w' v2 ⟨true, false, false, 0, 0, []⟩ ∧ Below w.heap.size w w' := by
  obtain ⟨cap, items, closed, ss, gs⟩ := P
  obtain ⟨a1, c1, a2, c2, a3, c3, rfl, hI, hS, hG⟩ := h.form
  have hc' : items.length + ss.length + gs.length ≤ 6000 := hc
  simp only at hI hS hG h hy hz1 hz2 ⊢
  clear hc h
  subst hy
  have HI := hide hI; have HS := hide hS; have HG := hide hG
  clear hI hS hG
  obtain ⟨n1, en1⟩ : ∃ n, items.length = n := ⟨_, rfl⟩
  obtain ⟨n2, en2⟩ : ∃ n, ss.length = n := ⟨_, rfl⟩
  obtain ⟨n3, en3⟩ : ∃ n, gs.length = n := ⟨_, rfl⟩
  rw [en1] at HI; rw [en2] at HS; rw [en3] at HG
  rw [en1, en2, en3] at hc'
  rw [en1, en2, en3]
  have HN1 := hide en1; have HN2 := hide en2; have HN3 := hide en3
  rw [en1] at hz1; rw [en2] at hz2
  have z2 : ¬ (0 : Int) < (n2 : Int) := by omega
  have z1 : ¬ (0 : Int) < (n1 : Int) := by omega
  clear hz1 hz2
  clear en1 en2 en3
  obtain ⟨W0, e0, hB, k0, k1, k2, k3⟩ := four_new w (.cells #[.int .i64 cap, .slice a1 n1 c1, .bool true, .slice a2 n2 c2, .slice a3 n3 c3] 25) (.cells #[.int .i64 t, .int .i64 0, .int .i64 u] 39) (.cells #[.int .i64 0, .slice none 0 0, .bool false, .slice none 0 0, .slice none 0 0] 25) (.cells #[.bool false, .bool false, .bool false, .int .i64 0, .int .i64 0, .slice none 0 0] 34)
  have HB := hide hB; have Kp := hide k0; have Kx := hide k1; have Kr := hide k2; have Ks := hide k3; have HE := hide e0
  clear hB k0 k1 k2 k3 e0
  go_enter Try.func21, Try.ntmps21
  go_upto_region 1 with fail
  rw [unhide HE]
  clear HE
  obtain ⟨⟨m0, m1, m2⟩, ⟨mf0, mf1, mf2⟩, ml⟩ := block3 (unhide Kx)
  go_upto_region 2 with fail
  clear m0 m1 m2 mf0 mf1 mf2 ml
  have HX_1 := hide ((unhide HB).alloc (Nat.le_trans (show w.heap.size ≤ w.heap.size from Nat.le_refl _) (unhide HB).size) (.cells #[.bool true, .bool false, .bool false, .int .i64 0, .int .i64 0, .slice none 0 0] 34))
  have Kp_1 := hide (keep_alloc (unhide Kp) (.cells #[.bool true, .bool false, .bool false, .int .i64 0, .int .i64 0, .slice none 0 0] 34))
  have Kx_1 := hide (keep_alloc (unhide Kx) (.cells #[.bool true, .bool false, .bool false, .int .i64 0, .int .i64 0, .slice none 0 0] 34))
  have Kr_1 := hide (keep_alloc (unhide Kr) (.cells #[.bool true, .bool false, .bool false, .int .i64 0, .int .i64 0, .slice none 0 0] 34))
  have Ks_1 := hide (keep_alloc (unhide Ks) (.cells #[.bool true, .bool false, .bool false, .int .i64 0, .int .i64 0, .slice none 0 0] 34))
  have KT_1 := hide (new_block W0 (.cells #[.bool true, .bool false, .bool false, .int .i64 0, .int .i64 0, .slice none 0 0] 34))
  have hlp_T : w.heap.size < W0.heap.size := size_of (unhide Kp)
  have hlx_T : w.heap.size + 1 < W0.heap.size := size_of (unhide Kx)
  have hlr_T : w.heap.size + 1 + 1 < W0.heap.size := size_of (unhide Kr)
  have hls_T : w.heap.size + 1 + 1 + 1 < W0.heap.size := size_of (unhide Ks)
  obtain ⟨T, eT⟩ : ∃ X, W0.heap.size = X := ⟨_, rfl⟩
  obtain ⟨W1, eW1⟩ : ∃ X, W0.alloc (.cells #[.bool true, .bool false, .bool false, .int .i64 0, .int .i64 0, .slice none 0 0] 34) = X := ⟨_, rfl⟩
  rw [eT, eW1] at KT_1; rw [eW1] at HX_1 Kp_1 Kx_1 Kr_1 Ks_1; rw [eT] at hlp_T hlx_T hlr_T hls_T; rw [eT, eW1]
  clear eT eW1 HB Kp Kx Kr Ks
  obtain ⟨⟨p0, p1, p2, p3, p4⟩, ⟨pf0, pf1, pf2, pf3, pf4⟩, pl⟩ := block5 (unhide Kp_1)
  have HI1 := hide (IsL.below (unhide HI) (unhide HX_1))
  have HB1 := hide (size_of (unhide KT_1))
  obtain ⟨B1, eB1⟩ : ∃ X, W1.heap.size = X := ⟨_, rfl⟩
  rw [eB1] at HB1
  go_upto_region 3 with (at_builtin; refine wpList_append ki rfl (.const (.slice none 0 0)) (.tmp 13) rfl W1.heap.size _ [] rfl (own_nil _ _) _ items rfl (unhide HI1) n1 (by rw [unhide HN1]; simp) (by show n1 * 8 ≤ 140737488355328; omega) (Nat.le_refl _) ?_; intro b1 d1 w2 ho hg; have hb2 : Below W1.heap.size W1 w2 := (Below.refl _ _).grown hg (Nat.le_refl _) (fun k hk => by cases hk); have OL := hide (own_nil_append ho); rw [eB1] at OL; have HS2 : Hid (B1 ≤ w2.heap.size) := (by rw [← eB1]; exact hb2.size); have HX_2 := hide (Below.next (unhide HX_1) hb2 (by first | exact Nat.le_refl _ | (have := unhide HBA; omega))); have Kp_2 := hide (keep_below (unhide Kp_1) hb2); have Kx_2 := hide (keep_below (unhide Kx_1) hb2); have Kr_2 := hide (keep_below (unhide Kr_1) hb2); have Ks_2 := hide (keep_below (unhide Ks_1) hb2); have KT_2 := hide (keep_below (unhide KT_1) hb2); clear HX_1 Kp_1 Kx_1 Kr_1 Ks_1 KT_1; clear ho hg hb2 eB1 HI1 p0 p1 p2 p3 p4 pf0 pf1 pf2 pf3 pf4 pl)
  obtain ⟨⟨p0, p1, p2, p3, p4⟩, ⟨pf0, pf1, pf2, pf3, pf4⟩, pl⟩ := block5 (unhide Kp_2)
  go_upto_region 14 with fail
  clear p0 p1 p2 p3 p4 pf0 pf1 pf2 pf3 pf4 pl
  have u0 : T ≠ w.heap.size + 1 + 1 := by omega
  have u1 : w.heap.size + 1 + 1 ≠ T := by omega
  have u2 : T ≠ w.heap.size + 1 + 1 + 1 := by omega
  have u3 : w.heap.size + 1 + 1 + 1 ≠ T := by omega
  have u4 : T ≠ w.heap.size := by omega
  have u5 : w.heap.size ≠ T := by omega
  obtain ⟨⟨p0, p1, p2, p3, p4⟩, ⟨pf0, pf1, pf2, pf3, pf4⟩, pl⟩ := block5 (unhide Kp_2)
  obtain ⟨⟨q0, q1, q2, q3, q4⟩, ⟨qf0, qf1, qf2, qf3, qf4⟩, ql⟩ := block5 (unhide Kr_2)
  obtain ⟨⟨s0, s1, s2, s3, s4, s5⟩, ⟨sf0, sf1, sf2, sf3, sf4, sf5⟩, sl⟩ := block6 (unhide Ks_2)
  obtain ⟨⟨x0, x1, x2, x3, x4, x5⟩, ⟨xf0, xf1, xf2, xf3, xf4, xf5⟩, xl⟩ := block6 (unhide KT_2)
  go_wp2_with fail
  go_region
  obtain ⟨Wf, ef⟩ : ∃ W, (put6 (put5 w2 (w.heap.size + 1 + 1) (.int .i64 cap) (.slice a1 n1 c1) (.bool true) (.slice a2 n2 c2) (.slice a3 n3 c3)) (w.heap.size + 1 + 1 + 1) (.bool true) (.bool false) (.bool false) (.int .i64 0) (.int .i64 0) (.slice none 0 0)).drew = W := ⟨_, rfl⟩
  have H5 := hide (keep_below ((put6_keep (y0 := .bool true) (y1 := .bool false) (y2 := .bool false) (y3 := .int .i64 0) (y4 := .int .i64 0) (y5 := .slice none 0 0) (show w.heap.size + 1 + 1 ≠ w.heap.size + 1 + 1 + 1 by omega)).trans (put5_new (y0 := .int .i64 cap) (y1 := .slice a1 n1 c1) (y2 := .bool true) (y3 := .slice a2 n2 c2) (y4 := .slice a3 n3 c3) (unhide Kr_2))) (Below.refl _ _).drew)
  have H6 := hide (keep_below (put6_new (y0 := .bool true) (y1 := .bool false) (y2 := .bool false) (y3 := .int .i64 0) (y4 := .int .i64 0) (y5 := .slice none 0 0) ((put5_keep (y0 := .int .i64 cap) (y1 := .slice a1 n1 c1) (y2 := .bool true) (y3 := .slice a2 n2 c2) (y4 := .slice a3 n3 c3) (show w.heap.size + 1 + 1 + 1 ≠ w.heap.size + 1 + 1 by omega)).trans (unhide Ks_2))) (Below.refl _ _).drew)
  have HBf : Hid (Below w.heap.size w (put6 (put5 w2 (w.heap.size + 1 + 1) (.int .i64 cap) (.slice a1 n1 c1) (.bool true) (.slice a2 n2 c2) (.slice a3 n3 c3)) (w.heap.size + 1 + 1 + 1) (.bool true) (.bool false) (.bool false) (.int .i64 0) (.int .i64 0) (.slice none 0 0)).drew) := (put6_below (put5_below (unhide HX_2) (by omega)) (by omega)).drew
  have HKf : Hid (∀ k, k ≠ w.heap.size + 1 + 1 → k ≠ w.heap.size + 1 + 1 + 1 → ((put6 (put5 w2 (w.heap.size + 1 + 1) (.int .i64 cap) (.slice a1 n1 c1) (.bool true) (.slice a2 n2 c2) (.slice a3 n3 c3)) (w.heap.size + 1 + 1 + 1) (.bool true) (.bool false) (.bool false) (.int .i64 0) (.int .i64 0) (.slice none 0 0)).drew).heap[k]? = w2.heap[k]?) := fun k h5 h6 => (drew_at _ k).trans ((put6_keep h6).trans (put5_keep h5))
  rw [ef] at H5 H6 HBf HKf
  have ef2 : ((((((((((((w2).setCell ⟨w.heap.size + 1 + 1, 0, none⟩ (.int .i64 cap)).setCell ⟨w.heap.size + 1 + 1, 1, none⟩ (.slice a1 n1 c1)).setCell ⟨w.heap.size + 1 + 1, 2, none⟩ (.bool true)).setCell ⟨w.heap.size + 1 + 1, 3, none⟩ (.slice a2 n2 c2)).setCell ⟨w.heap.size + 1 + 1, 4, none⟩ (.slice a3 n3 c3)).setCell ⟨w.heap.size + 1 + 1 + 1, 0, none⟩ (.bool true)).setCell ⟨w.heap.size + 1 + 1 + 1, 1, none⟩ (.bool false)).setCell ⟨w.heap.size + 1 + 1 + 1, 2, none⟩ (.bool false)).setCell ⟨w.heap.size + 1 + 1 + 1, 3, none⟩ (.int .i64 0)).setCell ⟨w.heap.size + 1 + 1 + 1, 4, none⟩ (.int .i64 0)).setCell ⟨w.heap.size + 1 + 1 + 1, 5, none⟩ (.slice none 0 0)).drew = Wf := ef
  rw [ef2]
  clear ef ef2
  clear p0 p1 p2 p3 p4 pf0 pf1 pf2 pf3 pf4 pl q0 q1 q2 q3 q4 qf0 qf1 qf2 qf3 qf4 ql s0 s1 s2 s3 s4 s5 sf0 sf1 sf2 sf3 sf4 sf5 sl x0 x1 x2 x3 x4 x5 xf0 xf1 xf2 xf3 xf4 xf5 xl
  obtain ⟨⟨q0, q1, q2, q3, q4⟩, -, -⟩ := block5 (unhide H5)
  obtain ⟨⟨s0, s1, s2, s3, s4, s5⟩, -, -⟩ := block6 (unhide H6)
  go_wp2_with fail
  refine bodyPost_ret (v := .tuple #[.agg #[.int .i64 cap, .slice a1 n1 c1, .bool true, .slice a2 n2 c2, .slice a3 n3 c3], .agg #[.bool true, .bool false, .bool false, .int .i64 0, .int .i64 0, .slice none 0 0]]) (by simp [results, Try.results21, go_sem, q0, q1, q2, q3, q4, s0, s1, s2, s3, s4, s5]) rfl ⟨_, _, rfl, ⟨_, _, _, rfl, (unhide HI).below (unhide HBf), (unhide HS).below (unhide HBf), (unhide HG).below (unhide HBf)⟩, ⟨_, rfl, isl_nil _⟩, unhide HBf⟩

set_option maxRecDepth 100000 in
set_option maxHeartbeats 1000000 in
theorem taken_none (w : World) (v : Value) (P : Pp) (t u : Int) (h : IsPipe w v P) (hc : countP P ≤ 6000) (hy : P.closed = false) (hz1 : ¬ 0 < P.items.length) (hz2 : ¬ 0 < P.ss.length) :
    Calls Try.prog 21 #[v, .agg #[.int .i64 t, .int .i64 0, .int .i64 u]] w fun e w' => ∃ v1 v2, e = .returned (.tuple #[v1, v2]) ∧ IsPipe w' v1 P ∧ IsAns w' v2 zeroA ∧ Below w.heap.size w w' := by
  obtain ⟨cap, items, closed, ss, gs⟩ := P
  obtain ⟨a1, c1, a2, c2, a3, c3, rfl, hI, hS, hG⟩ := h.form
  have hc' : items.length + ss.length + gs.length ≤ 6000 := hc
  simp only at hI hS hG h hy hz1 hz2 ⊢
  clear hc h
  subst hy
  have HI := hide hI; have HS := hide hS; have HG := hide hG
  clear hI hS hG
  obtain ⟨n1, en1⟩ : ∃ n, items.length = n := ⟨_, rfl⟩
  obtain ⟨n2, en2⟩ : ∃ n, ss.length = n := ⟨_, rfl⟩
  obtain ⟨n3, en3⟩ : ∃ n, gs.length = n := ⟨_, rfl⟩
  rw [en1] at HI; rw [en2] at HS; rw [en3] at HG
  rw [en1, en2, en3] at hc'
  rw [en1, en2, en3]
  have HN1 := hide en1; have HN2 := hide en2; have HN3 := hide en3
  rw [en1] at hz1; rw [en2] at hz2
  have z2 : ¬ (0 : Int) < (n2 : Int) := by omega
  have z1 : ¬ (0 : Int) < (n1 : Int) := by omega
  clear hz1 hz2
  clear en1 en2 en3
  obtain ⟨W0, e0, hB, k0, k1, k2, k3⟩ := four_new w (.cells #[.int .i64 cap, .slice a1 n1 c1, .bool false, .slice a2 n2 c2, .slice a3 n3 c3] 25) (.cells #[.int .i64 t, .int .i64 0, .int .i64 u] 39) (.cells #[.int .i64 0, .slice none 0 0, .bool false, .slice none 0 0, .slice none 0 0] 25) (.cells #[.bool false, .bool false, .bool false, .int .i64 0, .int .i64 0, .slice none 0 0] 34)
  have HB := hide hB; have Kp := hide k0; have Kx := hide k1; have Kr := hide k2; have Ks := hide k3; have HE := hide e0
  clear hB k0 k1 k2 k3 e0
  go_enter Try.func21, Try.ntmps21
  go_upto_region 1 with fail
  rw [unhide HE]
  clear HE
  obtain ⟨⟨m0, m1, m2⟩, ⟨mf0, mf1, mf2⟩, ml⟩ := block3 (unhide Kx)
  go_upto_region 2 with fail
  clear m0 m1 m2 mf0 mf1 mf2 ml
  have HX_1 := hide ((unhide HB).alloc (Nat.le_trans (show w.heap.size ≤ w.heap.size from Nat.le_refl _) (unhide HB).size) (.cells #[.bool true, .bool false, .bool false, .int .i64 0, .int .i64 0, .slice none 0 0] 34))
  have Kp_1 := hide (keep_alloc (unhide Kp) (.cells #[.bool true, .bool false, .bool false, .int .i64 0, .int .i64 0, .slice none 0 0] 34))
  have Kx_1 := hide (keep_alloc (unhide Kx) (.cells #[.bool true, .bool false, .bool false, .int .i64 0, .int .i64 0, .slice none 0 0] 34))
  have Kr_1 := hide (keep_alloc (unhide Kr) (.cells #[.bool true, .bool false, .bool false, .int .i64 0, .int .i64 0, .slice none 0 0] 34))
  have Ks_1 := hide (keep_alloc (unhide Ks) (.cells #[.bool true, .bool false, .bool false, .int .i64 0, .int .i64 0, .slice none 0 0] 34))
  have KT_1 := hide (new_block W0 (.cells #[.bool true, .bool false, .bool false, .int .i64 0, .int .i64 0, .slice none 0 0] 34))
  have hlp_T : w.heap.size < W0.heap.size := size_of (unhide Kp)
  have hlx_T : w.heap.size + 1 < W0.heap.size := size_of (unhide Kx)
  have hlr_T : w.heap.size + 1 + 1 < W0.heap.size := size_of (unhide Kr)
  have hls_T : w.heap.size + 1 + 1 + 1 < W0.heap.size := size_of (unhide Ks)
  obtain ⟨T, eT⟩ : ∃ X, W0.heap.size = X := ⟨_, rfl⟩
  obtain ⟨W1, eW1⟩ : ∃ X, W0.alloc (.cells #[.bool true, .bool false, .bool false, .int .i64 0, .int .i64 0, .slice none 0 0] 34) = X := ⟨_, rfl⟩
  rw [eT, eW1] at KT_1; rw [eW1] at HX_1 Kp_1 Kx_1 Kr_1 Ks_1; rw [eT] at hlp_T hlx_T hlr_T hls_T; rw [eT, eW1]
  clear eT eW1 HB Kp Kx Kr Ks
  obtain ⟨⟨p0, p1, p2, p3, p4⟩, ⟨pf0, pf1, pf2, pf3, pf4⟩, pl⟩ := block5 (unhide Kp_1)
  have HI1 := hide (IsL.below (unhide HI) (unhide HX_1))
  have HB1 := hide (size_of (unhide KT_1))
  obtain ⟨B1, eB1⟩ : ∃ X, W1.heap.size = X := ⟨_, rfl⟩
  rw [eB1] at HB1
  go_upto_region 3 with (at_builtin; refine wpList_append ki rfl (.const (.slice none 0 0)) (.tmp 13) rfl W1.heap.size _ [] rfl (own_nil _ _) _ items rfl (unhide HI1) n1 (by rw [unhide HN1]; simp) (by show n1 * 8 ≤ 140737488355328; omega) (Nat.le_refl _) ?_; intro b1 d1 w2 ho hg; have hb2 : Below W1.heap.size W1 w2 := (Below.refl _ _).grown hg (Nat.le_refl _) (fun k hk => by cases hk); have OL := hide (own_nil_append ho); rw [eB1] at OL; have HS2 : Hid (B1 ≤ w2.heap.size) := (by rw [← eB1]; exact hb2.size); have HX_2 := hide (Below.next (unhide HX_1) hb2 (by first | exact Nat.le_refl _ | (have := unhide HBA; omega))); have Kp_2 := hide (keep_below (unhide Kp_1) hb2); have Kx_2 := hide (keep_below (unhide Kx_1) hb2); have Kr_2 := hide (keep_below (unhide Kr_1) hb2); have Ks_2 := hide (keep_below (unhide Ks_1) hb2); have KT_2 := hide (keep_below (unhide KT_1) hb2); clear HX_1 Kp_1 Kx_1 Kr_1 Ks_1 KT_1; clear ho hg hb2 eB1 HI1 p0 p1 p2 p3 p4 pf0 pf1 pf2 pf3 pf4 pl)
  obtain ⟨⟨p0, p1, p2, p3, p4⟩, ⟨pf0, pf1, pf2, pf3, pf4⟩, pl⟩ := block5 (unhide Kp_2)
  go_upto_region 15 with fail
  clear p0 p1 p2 p3 p4 pf0 pf1 pf2 pf3 pf4 pl
  have u0 : T ≠ w.heap.size + 1 + 1 := by omega
  have u1 : w.heap.size + 1 + 1 ≠ T := by omega
  have u2 : T ≠ w.heap.size + 1 + 1 + 1 := by omega
  have u3 : w.heap.size + 1 + 1 + 1 ≠ T := by omega
  have u4 : T ≠ w.heap.size := by omega
  have u5 : w.heap.size ≠ T := by omega
  obtain ⟨⟨p0, p1, p2, p3, p4⟩, ⟨pf0, pf1, pf2, pf3, pf4⟩, pl⟩ := block5 (unhide Kp_2)
  obtain ⟨⟨q0, q1, q2, q3, q4⟩, ⟨qf0, qf1, qf2, qf3, qf4⟩, ql⟩ := block5 (unhide Kr_2)
  obtain ⟨⟨s0, s1, s2, s3, s4, s5⟩, ⟨sf0, sf1, sf2, sf3, sf4, sf5⟩, sl⟩ := block6 (unhide Ks_2)
  obtain ⟨⟨x0, x1, x2, x3, x4, x5⟩, ⟨xf0, xf1, xf2, xf3, xf4, xf5⟩, xl⟩ := block6 (unhide KT_2)
  go_wp2_with fail
  obtain ⟨Wf, ef⟩ : ∃ W, (put6 (put5 w2 (w.heap.size + 1 + 1) (.int .i64 cap) (.slice a1 n1 c1) (.bool false) (.slice a2 n2 c2) (.slice a3 n3 c3)) (w.heap.size + 1 + 1 + 1) (.bool false) (.bool false) (.bool false) (.int .i64 0) (.int .i64 0) (.slice none 0 0)) = W := ⟨_, rfl⟩
  have H5 := hide (keep_below ((put6_keep (y0 := .bool false) (y1 := .bool false) (y2 := .bool false) (y3 := .int .i64 0) (y4 := .int .i64 0) (y5 := .slice none 0 0) (show w.heap.size + 1 + 1 ≠ w.heap.size + 1 + 1 + 1 by omega)).trans (put5_new (y0 := .int .i64 cap) (y1 := .slice a1 n1 c1) (y2 := .bool false) (y3 := .slice a2 n2 c2) (y4 := .slice a3 n3 c3) (unhide Kr_2))) (Below.refl _ _))
  have H6 := hide (keep_below (put6_new (y0 := .bool false) (y1 := .bool false) (y2 := .bool false) (y3 := .int .i64 0) (y4 := .int .i64 0) (y5 := .slice none 0 0) ((put5_keep (y0 := .int .i64 cap) (y1 := .slice a1 n1 c1) (y2 := .bool false) (y3 := .slice a2 n2 c2) (y4 := .slice a3 n3 c3) (show w.heap.size + 1 + 1 + 1 ≠ w.heap.size + 1 + 1 by omega)).trans (unhide Ks_2))) (Below.refl _ _))
  have HBf : Hid (Below w.heap.size w (put6 (put5 w2 (w.heap.size + 1 + 1) (.int .i64 cap) (.slice a1 n1 c1) (.bool false) (.slice a2 n2 c2) (.slice a3 n3 c3)) (w.heap.size + 1 + 1 + 1) (.bool false) (.bool false) (.bool false) (.int .i64 0) (.int .i64 0) (.slice none 0 0))) := (put6_below (put5_below (unhide HX_2) (by omega)) (by omega))
  have HKf : Hid (∀ k, k ≠ w.heap.size + 1 + 1 → k ≠ w.heap.size + 1 + 1 + 1 → ((put6 (put5 w2 (w.heap.size + 1 + 1) (.int .i64 cap) (.slice a1 n1 c1) (.bool false) (.slice a2 n2 c2) (.slice a3 n3 c3)) (w.heap.size + 1 + 1 + 1) (.bool false) (.bool false) (.bool false) (.int .i64 0) (.int .i64 0) (.slice none 0 0))).heap[k]? = w2.heap[k]?) := fun k h5 h6 => ((put6_keep h6).trans (put5_keep h5))
  rw [ef] at H5 H6 HBf HKf
  have ef2 : (((((((((((w2).setCell ⟨w.heap.size + 1 + 1, 0, none⟩ (.int .i64 cap)).setCell ⟨w.heap.size + 1 + 1, 1, none⟩ (.slice a1 n1 c1)).setCell ⟨w.heap.size + 1 + 1, 2, none⟩ (.bool false)).setCell ⟨w.heap.size + 1 + 1, 3, none⟩ (.slice a2 n2 c2)).setCell ⟨w.heap.size + 1 + 1, 4, none⟩ (.slice a3 n3 c3)).setCell ⟨w.heap.size + 1 + 1 + 1, 0, none⟩ (.bool false)).setCell ⟨w.heap.size + 1 + 1 + 1, 1, none⟩ (.bool false)).setCell ⟨w.heap.size + 1 + 1 + 1, 2, none⟩ (.bool false)).setCell ⟨w.heap.size + 1 + 1 + 1, 3, none⟩ (.int .i64 0)).setCell ⟨w.heap.size + 1 + 1 + 1, 4, none⟩ (.int .i64 0)).setCell ⟨w.heap.size + 1 + 1 + 1, 5, none⟩ (.slice none 0 0) = Wf := ef
  rw [ef2]
  clear ef ef2
  clear p0 p1 p2 p3 p4 pf0 pf1 pf2 pf3 pf4 pl q0 q1 q2 q3 q4 qf0 qf1 qf2 qf3 qf4 ql s0 s1 s2 s3 s4 s5 sf0 sf1 sf2 sf3 sf4 sf5 sl x0 x1 x2 x3 x4 x5 xf0 xf1 xf2 xf3 xf4 xf5 xl
  obtain ⟨⟨q0, q1, q2, q3, q4⟩, -, -⟩ := block5 (unhide H5)
  obtain ⟨⟨s0, s1, s2, s3, s4, s5⟩, -, -⟩ := block6 (unhide H6)
  refine bodyPost_ret (v := .tuple #[.agg #[.int .i64 cap, .slice a1 n1 c1, .bool false, .slice a2 n2 c2, .slice a3 n3 c3], .agg #[.bool false, .bool false, .bool false, .int .i64 0, .int .i64 0, .slice none 0 0]]) (by simp [results, Try.results21, go_sem, q0, q1, q2, q3, q4, s0, s1, s2, s3, s4, s5]) rfl ⟨_, _, rfl, ⟨_, _, _, rfl, (unhide HI).below (unhide HBf), (unhide HS).below (unhide HBf), (unhide HG).below (unhide HBf)⟩, ⟨_, rfl, isl_nil _⟩, unhide HBf⟩

set_option maxRecDepth 100000 in
set_option maxHeartbeats 1000000 in
theorem taken_items (w : World) (v : Value) (P : Pp) (t u : Int) (h : IsPipe w v P) (hc : countP P ≤ 6000) (hz1 : 0 < P.items.length) (hz2 : ¬ 0 < P.ss.length) :
    Calls Try.prog 21 #[v, .agg #[.int .i64 t, .int .i64 0, .int .i64 u]] w fun e w' => ∃ v1 v2, e = .returned (.tuple #[v1, v2]) ∧ IsPipe w' v1 { P with items := P.items.drop 1 } ∧ IsAns w' v2 ⟨true, false, true, P.items.getD 0 0, 0, []⟩ ∧ Below w.heap.size w w' := by
  obtain ⟨cap, items, closed, ss, gs⟩ := P
  obtain ⟨a1, c1, a2, c2, a3, c3, rfl, hI, hS, hG⟩ := h.form
  have hc' : items.length + ss.length + gs.length ≤ 6000 := hc
  simp only at hI hS hG h hz1 hz2 ⊢
  clear hc h
  obtain ⟨iz, hiz⟩ : ∃ z, items.getD 0 0 = z := ⟨_, rfl⟩
  rw [hiz]
  have HIZ := hide hiz
  clear hiz
  have HI := hide hI; have HS := hide hS; have HG := hide hG
  clear hI hS hG
  obtain ⟨n1, en1⟩ : ∃ n, items.length = n := ⟨_, rfl⟩
  obtain ⟨n2, en2⟩ : ∃ n, ss.length = n := ⟨_, rfl⟩
  obtain ⟨n3, en3⟩ : ∃ n, gs.length = n := ⟨_, rfl⟩
  rw [en1] at HI; rw [en2] at HS; rw [en3] at HG
  rw [en1, en2, en3] at hc'
  rw [en1, en2, en3]
  have HN1 := hide en1; have HN2 := hide en2; have HN3 := hide en3
  have HZ1 := hide hz1
  rw [en1] at hz1; rw [en2] at hz2
  have z2 : ¬ (0 : Int) < (n2 : Int) := by omega
  have z1 : (0 : Int) < (n1 : Int) := by omega
  clear hz2
  clear en1 en2 en3
  obtain ⟨W0, e0, hB, k0, k1, k2, k3⟩ := four_new w (.cells #[.int .i64 cap, .slice a1 n1 c1, .bool closed, .slice a2 n2 c2, .slice a3 n3 c3] 25) (.cells #[.int .i64 t, .int .i64 0, .int .i64 u] 39) (.cells #[.int .i64 0, .slice none 0 0, .bool false, .slice none 0 0, .slice none 0 0] 25) (.cells #[.bool false, .bool false, .bool false, .int .i64 0, .int .i64 0, .slice none 0 0] 34)
  have HB := hide hB; have Kp := hide k0; have Kx := hide k1; have Kr := hide k2; have Ks := hide k3; have HE := hide e0
  clear hB k0 k1 k2 k3 e0
  go_enter Try.func21, Try.ntmps21
  go_upto_region 1 with fail
  rw [unhide HE]
  clear HE
  obtain ⟨⟨m0, m1, m2⟩, ⟨mf0, mf1, mf2⟩, ml⟩ := block3 (unhide Kx)
  go_upto_region 2 with fail
  clear m0 m1 m2 mf0 mf1 mf2 ml
  have HX_1 := hide ((unhide HB).alloc (Nat.le_trans (show w.heap.size ≤ w.heap.size from Nat.le_refl _) (unhide HB).size) (.cells #[.bool true, .bool false, .bool false, .int .i64 0, .int .i64 0, .slice none 0 0] 34))
  have Kp_1 := hide (keep_alloc (unhide Kp) (.cells #[.bool true, .bool false, .bool false, .int .i64 0, .int .i64 0, .slice none 0 0] 34))
  have Kx_1 := hide (keep_alloc (unhide Kx) (.cells #[.bool true, .bool false, .bool false, .int .i64 0, .int .i64 0, .slice none 0 0] 34))
  have Kr_1 := hide (keep_alloc (unhide Kr) (.cells #[.bool true, .bool false, .bool false, .int .i64 0, .int .i64 0, .slice none 0 0] 34))
  have Ks_1 := hide (keep_alloc (unhide Ks) (.cells #[.bool true, .bool false, .bool false, .int .i64 0, .int .i64 0, .slice none 0 0] 34))
  have KT_1 := hide (new_block W0 (.cells #[.bool true, .bool false, .bool false, .int .i64 0, .int .i64 0, .slice none 0 0] 34))
  have hlp_T : w.heap.size < W0.heap.size := size_of (unhide Kp)
  have hlx_T : w.heap.size + 1 < W0.heap.size := size_of (unhide Kx)
  have hlr_T : w.heap.size + 1 + 1 < W0.heap.size := size_of (unhide Kr)
  have hls_T : w.heap.size + 1 + 1 + 1 < W0.heap.size := size_of (unhide Ks)
  obtain ⟨T, eT⟩ : ∃ X, W0.heap.size = X := ⟨_, rfl⟩
  obtain ⟨W1, eW1⟩ : ∃ X, W0.alloc (.cells #[.bool true, .bool false, .bool false, .int .i64 0, .int .i64 0, .slice none 0 0] 34) = X := ⟨_, rfl⟩
  rw [eT, eW1] at KT_1; rw [eW1] at HX_1 Kp_1 Kx_1 Kr_1 Ks_1; rw [eT] at hlp_T hlx_T hlr_T hls_T; rw [eT, eW1]
  clear eT eW1 HB Kp Kx Kr Ks
  obtain ⟨⟨p0, p1, p2, p3, p4⟩, ⟨pf0, pf1, pf2, pf3, pf4⟩, pl⟩ := block5 (unhide Kp_1)
  have HI1 := hide (IsL.below (unhide HI) (unhide HX_1))
  have HB1 := hide (size_of (unhide KT_1))
  obtain ⟨B1, eB1⟩ : ∃ X, W1.heap.size = X := ⟨_, rfl⟩
  rw [eB1] at HB1
  go_upto_region 3 with (at_builtin; refine wpList_append ki rfl (.const (.slice none 0 0)) (.tmp 13) rfl W1.heap.size _ [] rfl (own_nil _ _) _ items rfl (unhide HI1) n1 (by rw [unhide HN1]; simp) (by show n1 * 8 ≤ 140737488355328; omega) (Nat.le_refl _) ?_; intro b1 d1 w2 ho hg; have hb2 : Below W1.heap.size W1 w2 := (Below.refl _ _).grown hg (Nat.le_refl _) (fun k hk => by cases hk); have OL := hide (own_nil_append ho); rw [eB1] at OL; have HS2 : Hid (B1 ≤ w2.heap.size) := (by rw [← eB1]; exact hb2.size); have HX_2 := hide (Below.next (unhide HX_1) hb2 (by first | exact Nat.le_refl _ | (have := unhide HBA; omega))); have Kp_2 := hide (keep_below (unhide Kp_1) hb2); have Kx_2 := hide (keep_below (unhide Kx_1) hb2); have Kr_2 := hide (keep_below (unhide Kr_1) hb2); have Ks_2 := hide (keep_below (unhide Ks_1) hb2); have KT_2 := hide (keep_below (unhide KT_1) hb2); clear HX_1 Kp_1 Kx_1 Kr_1 Ks_1 KT_1; clear ho hg hb2 eB1 HI1 p0 p1 p2 p3 p4 pf0 pf1 pf2 pf3 pf4 pl)
  obtain ⟨⟨p0, p1, p2, p3, p4⟩, ⟨pf0, pf1, pf2, pf3, pf4⟩, pl⟩ := block5 (unhide Kp_2)
  go_upto_region 9 with fail
  clear p0 p1 p2 p3 p4 pf0 pf1 pf2 pf3 pf4 pl
  obtain ⟨g, d2, ev, hgB, hgl, -⟩ := (unhide OL).at ki (unhide HZ1)
  rw [unhide HN1] at ev
  injection ev with ev1 ev2 ev3
  subst ev1
  subst ev3
  clear z1
  have jz : w2.cell? ⟨g, 0, none⟩ = some (.int .i64 iz) := by rw [← unhide HIZ]; exact own_first (unhide OL) (unhide HZ1)
  have i1 : (0 : Int) < (n1 : Int) := by omega
  obtain ⟨⟨x0, x1, x2, x3, x4, x5⟩, ⟨xf0, xf1, xf2, xf3, xf4, xf5⟩, xl⟩ := block6 (unhide KT_2)
  go_upto_region 10 with fail
  clear x0 x1 x2 x3 x4 x5 xf0 xf1 xf2 xf3 xf4 xf5 xl
  clear jz
  have HX_3 := hide (below_set (i := 3) (unhide HX_2) (show w.heap.size ≤ T by first | omega | (have := unhide HBA; omega)) (.int .i64 iz))
  have Kp_3 := hide (keep_set (g := T) (o := 3) (v := .int .i64 iz) (unhide Kp_2) (by omega))
  have Kx_3 := hide (keep_set (g := T) (o := 3) (v := .int .i64 iz) (unhide Kx_2) (by omega))
  have Kr_3 := hide (keep_set (g := T) (o := 3) (v := .int .i64 iz) (unhide Kr_2) (by omega))
  have Ks_3 := hide (keep_set (g := T) (o := 3) (v := .int .i64 iz) (unhide Ks_2) (by omega))
  have KT_3 := hide (set_block6 (i := 3) (y := .int .i64 iz) (unhide KT_2))
  have OL_3 := hide ((unhide OL).keep (fun k hk => Below.heap_setCell w2 ⟨T, 3, none⟩ (.int .i64 iz) k (by have := Own.ne (unhide OL) (unhide KT_2) (by decide) k hk; simpa using this)))
  obtain ⟨W8, eW8⟩ : ∃ X, w2.setCell ⟨T, 3, none⟩ (.int .i64 iz) = X := ⟨_, rfl⟩
  rw [eW8] at HX_3 Kp_3 Kx_3 Kr_3 Ks_3 KT_3 OL_3 ⊢
  clear eW8 HX_2 Kp_2 Kx_2 Kr_2 Ks_2 KT_2 OL
  simp only [List.setIfInBounds_toArray, List.set_cons_zero, List.set_cons_succ] at KT_3
  obtain ⟨⟨x0, x1, x2, x3, x4, x5⟩, ⟨xf0, xf1, xf2, xf3, xf4, xf5⟩, xl⟩ := block6 (unhide KT_3)
  go_upto_region 11 with fail
  clear x0 x1 x2 x3 x4 x5 xf0 xf1 xf2 xf3 xf4 xf5 xl
  have HX_4 := hide (below_set (i := 2) (unhide HX_3) (show w.heap.size ≤ T by first | omega | (have := unhide HBA; omega)) (.bool true))
  have Kp_4 := hide (keep_set (g := T) (o := 2) (v := .bool true) (unhide Kp_3) (by omega))
  have Kx_4 := hide (keep_set (g := T) (o := 2) (v := .bool true) (unhide Kx_3) (by omega))
  have Kr_4 := hide (keep_set (g := T) (o := 2) (v := .bool true) (unhide Kr_3) (by omega))
  have Ks_4 := hide (keep_set (g := T) (o := 2) (v := .bool true) (unhide Ks_3) (by omega))
  have KT_4 := hide (set_block6 (i := 2) (y := .bool true) (unhide KT_3))
  have OL_4 := hide ((unhide OL_3).keep (fun k hk => Below.heap_setCell W8 ⟨T, 2, none⟩ (.bool true) k (by have := Own.ne (unhide OL_3) (unhide KT_3) (by decide) k hk; simpa using this)))
  obtain ⟨W9, eW9⟩ : ∃ X, W8.setCell ⟨T, 2, none⟩ (.bool true) = X := ⟨_, rfl⟩
  rw [eW9] at HX_4 Kp_4 Kx_4 Kr_4 Ks_4 KT_4 OL_4 ⊢
  clear eW9 HX_3 Kp_3 Kx_3 Kr_3 Ks_3 KT_3 OL_3
  simp only [List.setIfInBounds_toArray, List.set_cons_zero, List.set_cons_succ] at KT_4
  have i2 : (1 : Int) ≤ (n1 : Int) := by omega
  have i3 : (n1 : Int) ≤ (d1 : Int) := by have := (unhide OL_4).isl.fits; omega
  obtain ⟨⟨p0, p1, p2, p3, p4⟩, ⟨pf0, pf1, pf2, pf3, pf4⟩, pl⟩ := block5 (unhide Kp_4)
  go_upto_region 12 with fail
  clear p0 p1 p2 p3 p4 pf0 pf1 pf2 pf3 pf4 pl
  obtain ⟨A, hA⟩ : ∃ A, A = (if d1 = 1 then some ⟨g, 0, none⟩ else some ⟨g, 1, none⟩ : Option Addr) := ⟨_, rfl⟩
  rw [← hA]
  have HNW : Hid (∀ W, Own KI B1 W (.slice (some ⟨g, 0, none⟩) n1 d1) (items) → IsL KI W (.slice A (n1 - 1) (d1 - 1)) ((items).drop 1)) := fun W hW => IsL.drop_if ki hW.isl (p := 1) (by omega) (by rw [hA]; rfl)
  obtain ⟨n4, e4⟩ : ∃ n, n1 - 1 = n := ⟨_, rfl⟩
  obtain ⟨c4, e5⟩ : ∃ n, d1 - 1 = n := ⟨_, rfl⟩
  rw [e4, e5] at HNW ⊢
  clear e4 e5 hA i1 i2 i3
  have HX_5 := hide (below_set (i := 1) (unhide HX_4) (show w.heap.size ≤ w.heap.size by first | omega | (have := unhide HBA; omega)) (.slice A n4 c4))
  have Kp_5 := hide (set_block5 (i := 1) (y := .slice A n4 c4) (unhide Kp_4))
  have Kx_5 := hide (keep_set (g := w.heap.size) (o := 1) (v := .slice A n4 c4) (unhide Kx_4) (by omega))
  have Kr_5 := hide (keep_set (g := w.heap.size) (o := 1) (v := .slice A n4 c4) (unhide Kr_4) (by omega))
  have Ks_5 := hide (keep_set (g := w.heap.size) (o := 1) (v := .slice A n4 c4) (unhide Ks_4) (by omega))
  have KT_5 := hide (keep_set (g := w.heap.size) (o := 1) (v := .slice A n4 c4) (unhide KT_4) (by omega))
  have OL_5 := hide ((unhide OL_4).keep (fun k hk => Below.heap_setCell W9 ⟨w.heap.size, 1, none⟩ (.slice A n4 c4) k (by have := Own.ne (unhide OL_4) (unhide Kp_4) (by decide) k hk; simpa using this)))
  obtain ⟨W10, eW10⟩ : ∃ X, W9.setCell ⟨w.heap.size, 1, none⟩ (.slice A n4 c4) = X := ⟨_, rfl⟩
  rw [eW10] at HX_5 Kp_5 Kx_5 Kr_5 Ks_5 KT_5 OL_5 ⊢
  clear eW10 HX_4 Kp_4 Kx_4 Kr_4 Ks_4 KT_4 OL_4
  simp only [List.setIfInBounds_toArray, List.set_cons_zero, List.set_cons_succ] at Kp_5
  have u0 : T ≠ w.heap.size + 1 + 1 := by omega
  have u1 : w.heap.size + 1 + 1 ≠ T := by omega
  have u2 : T ≠ w.heap.size + 1 + 1 + 1 := by omega
  have u3 : w.heap.size + 1 + 1 + 1 ≠ T := by omega
  have u4 : T ≠ w.heap.size := by omega
  have u5 : w.heap.size ≠ T := by omega
  obtain ⟨⟨p0, p1, p2, p3, p4⟩, ⟨pf0, pf1, pf2, pf3, pf4⟩, pl⟩ := block5 (unhide Kp_5)
  obtain ⟨⟨q0, q1, q2, q3, q4⟩, ⟨qf0, qf1, qf2, qf3, qf4⟩, ql⟩ := block5 (unhide Kr_5)
  obtain ⟨⟨s0, s1, s2, s3, s4, s5⟩, ⟨sf0, sf1, sf2, sf3, sf4, sf5⟩, sl⟩ := block6 (unhide Ks_5)
  obtain ⟨⟨x0, x1, x2, x3, x4, x5⟩, ⟨xf0, xf1, xf2, xf3, xf4, xf5⟩, xl⟩ := block6 (unhide KT_5)
  go_wp2_with fail
  go_region
  obtain ⟨Wf, ef⟩ : ∃ W, (put6 (put5 W10 (w.heap.size + 1 + 1) (.int .i64 cap) (.slice A n4 c4) (.bool closed) (.slice a2 n2 c2) (.slice a3 n3 c3)) (w.heap.size + 1 + 1 + 1) (.bool true) (.bool false) (.bool true) (.int .i64 iz) (.int .i64 0) (.slice none 0 0)).drew = W := ⟨_, rfl⟩
  have H5 := hide (keep_below ((put6_keep (y0 := .bool true) (y1 := .bool false) (y2 := .bool true) (y3 := .int .i64 iz) (y4 := .int .i64 0) (y5 := .slice none 0 0) (show w.heap.size + 1 + 1 ≠ w.heap.size + 1 + 1 + 1 by omega)).trans (put5_new (y0 := .int .i64 cap) (y1 := .slice A n4 c4) (y2 := .bool closed) (y3 := .slice a2 n2 c2) (y4 := .slice a3 n3 c3) (unhide Kr_5))) (Below.refl _ _).drew)
  have H6 := hide (keep_below (put6_new (y0 := .bool true) (y1 := .bool false) (y2 := .bool true) (y3 := .int .i64 iz) (y4 := .int .i64 0) (y5 := .slice none 0 0) ((put5_keep (y0 := .int .i64 cap) (y1 := .slice A n4 c4) (y2 := .bool closed) (y3 := .slice a2 n2 c2) (y4 := .slice a3 n3 c3) (show w.heap.size + 1 + 1 + 1 ≠ w.heap.size + 1 + 1 by omega)).trans (unhide Ks_5))) (Below.refl _ _).drew)
  have HBf : Hid (Below w.heap.size w (put6 (put5 W10 (w.heap.size + 1 + 1) (.int .i64 cap) (.slice A n4 c4) (.bool closed) (.slice a2 n2 c2) (.slice a3 n3 c3)) (w.heap.size + 1 + 1 + 1) (.bool true) (.bool false) (.bool true) (.int .i64 iz) (.int .i64 0) (.slice none 0 0)).drew) := (put6_below (put5_below (unhide HX_5) (by omega)) (by omega)).drew
  have HKf : Hid (∀ k, k ≠ w.heap.size + 1 + 1 → k ≠ w.heap.size + 1 + 1 + 1 → ((put6 (put5 W10 (w.heap.size + 1 + 1) (.int .i64 cap) (.slice A n4 c4) (.bool closed) (.slice a2 n2 c2) (.slice a3 n3 c3)) (w.heap.size + 1 + 1 + 1) (.bool true) (.bool false) (.bool true) (.int .i64 iz) (.int .i64 0) (.slice none 0 0)).drew).heap[k]? = W10.heap[k]?) := fun k h5 h6 => (drew_at _ k).trans ((put6_keep h6).trans (put5_keep h5))
  rw [ef] at H5 H6 HBf HKf
  have ef2 : ((((((((((((W10).setCell ⟨w.heap.size + 1 + 1, 0, none⟩ (.int .i64 cap)).setCell ⟨w.heap.size + 1 + 1, 1, none⟩ (.slice A n4 c4)).setCell ⟨w.heap.size + 1 + 1, 2, none⟩ (.bool closed)).setCell ⟨w.heap.size + 1 + 1, 3, none⟩ (.slice a2 n2 c2)).setCell ⟨w.heap.size + 1 + 1, 4, none⟩ (.slice a3 n3 c3)).setCell ⟨w.heap.size + 1 + 1 + 1, 0, none⟩ (.bool true)).setCell ⟨w.heap.size + 1 + 1 + 1, 1, none⟩ (.bool false)).setCell ⟨w.heap.size + 1 + 1 + 1, 2, none⟩ (.bool true)).setCell ⟨w.heap.size + 1 + 1 + 1, 3, none⟩ (.int .i64 iz)).setCell ⟨w.heap.size + 1 + 1 + 1, 4, none⟩ (.int .i64 0)).setCell ⟨w.heap.size + 1 + 1 + 1, 5, none⟩ (.slice none 0 0)).drew = Wf := ef
  rw [ef2]
  clear ef ef2
  clear p0 p1 p2 p3 p4 pf0 pf1 pf2 pf3 pf4 pl q0 q1 q2 q3 q4 qf0 qf1 qf2 qf3 qf4 ql s0 s1 s2 s3 s4 s5 sf0 sf1 sf2 sf3 sf4 sf5 sl x0 x1 x2 x3 x4 x5 xf0 xf1 xf2 xf3 xf4 xf5 xl
  obtain ⟨⟨q0, q1, q2, q3, q4⟩, -, -⟩ := block5 (unhide H5)
  obtain ⟨⟨s0, s1, s2, s3, s4, s5⟩, -, -⟩ := block6 (unhide H6)
  go_wp2_with fail
  refine bodyPost_ret (v := .tuple #[.agg #[.int .i64 cap, .slice A n4 c4, .bool closed, .slice a2 n2 c2, .slice a3 n3 c3], .agg #[.bool true, .bool false, .bool true, .int .i64 iz, .int .i64 0, .slice none 0 0]]) (by simp [results, Try.results21, go_sem, q0, q1, q2, q3, q4, s0, s1, s2, s3, s4, s5]) rfl ⟨_, _, rfl, ⟨_, _, _, rfl, unhide HNW _ ((unhide OL_5).keep (fun k hk => unhide HKf k (Own.ne (unhide OL_5) (unhide Kr_5) (by decide) k hk) (Own.ne (unhide OL_5) (unhide Ks_5) (by decide) k hk))), (unhide HS).below (unhide HBf), (unhide HG).below (unhide HBf)⟩, ⟨_, rfl, isl_nil _⟩, unhide HBf⟩

end Go.Proofs.Ytijogcjocandcaa
