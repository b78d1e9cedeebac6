/-
  taskmillref.Sent.
-/
import Derived.Test.YtijogcjocandcaaS
import Derived.Test.YtijogcjocandcaaT
namespace Go.Proofs.Ytijogcjocandcaa
open Go.RowKit

theorem set_block6 {w : World} {R i : Nat} {x0 x1 x2 x3 x4 x5 y : Value} {t : TypeId} (h : w.heap[R]? = some (.cells #[x0, x1, x2, x3, x4, x5] t (0, 0))) : (w.setCell ⟨R, i, none⟩ y).heap[R]? = some (.cells (#[x0, x1, x2, x3, x4, x5].setIfInBounds i y) t (0, 0)) := by
  simp [World.setCell, Array.getElem?_modify, h]

set_option maxRecDepth 100000 in
set_option maxHeartbeats 1000000 in
theorem sent_closed (w : World) (v : Value) (P : Pp) (t u : Int) (h : IsPipe w v P) (hc : countP P ≤ 6000) (hy : P.closed = true) :
    Calls Try.prog 16 #[v, .agg #[.int .i64 t, .int .i64 0, .int .i64 u]] w fun e w' => ∃ v1 v2, e = .returned (.tuple #[v1, v2]) ∧ IsPipe w' v1 P ∧ IsAns w' v2 ⟨true, true, false, 0, 0, []⟩ ∧ Below w.heap.size w w' := by
  obtain ⟨cap, items, closed, ss, gs⟩ := P
  obtain ⟨a1, c1, a2, c2, a3, c3, rfl, hI, hS, hG⟩ := h.form
  have hc' : items.length + ss.length + gs.length ≤ 6000 := hc
  simp only at hI hS hG h hy ⊢
  subst hy
  clear hc h
  have HI := hide hI; have HS := hide hS; have HG := hide hG
  clear hI hS hG
  obtain ⟨n1, en1⟩ : ∃ n, items.length = n := ⟨_, rfl⟩
  obtain ⟨n2, en2⟩ : ∃ n, ss.length = n := ⟨_, rfl⟩
  obtain ⟨n3, en3⟩ : ∃ n, gs.length = n := ⟨_, rfl⟩
  rw [en1] at HI; rw [en2] at HS; rw [en3] at HG
  rw [en1, en2, en3] at hc'
  rw [en1, en2, en3]
  have HN1 := hide en1; have HN2 := hide en2; have HN3 := hide en3
  clear en1 en2 en3
  obtain ⟨W0, e0, hB, k0, k1, k2, k3⟩ := four_new w (.cells #[.int .i64 cap, .slice a1 n1 c1, .bool true, .slice a2 n2 c2, .slice a3 n3 c3] 25) (.cells #[.int .i64 t, .int .i64 0, .int .i64 u] 39) (.cells #[.int .i64 0, .slice none 0 0, .bool false, .slice none 0 0, .slice none 0 0] 25) (.cells #[.bool false, .bool false, .bool false, .int .i64 0, .int .i64 0, .slice none 0 0] 34)
  have HB := hide hB; have HK0 := hide k0; have HK1 := hide k1; have HK2 := hide k2; have HK3 := hide k3; have HE := hide e0
  clear hB k0 k1 k2 k3 e0
  go_enter Try.func16, Try.ntmps16
  go_upto_region 1 with fail
  rw [unhide HE]
  clear HE
  obtain ⟨⟨m0, m1, m2⟩, -, ml⟩ := block3 (unhide HK1)
  go_upto_region 2 with fail
  clear m0 m1 m2 ml
  have HX := hide ((unhide HB).alloc (unhide HB).size (.cells #[.bool true, .bool false, .bool false, .int .i64 0, .int .i64 0, .slice none 0 0] 34))
  have HJ0 := hide (keep_alloc (unhide HK0) (.cells #[.bool true, .bool false, .bool false, .int .i64 0, .int .i64 0, .slice none 0 0] 34))
  have HJ1 := hide (keep_alloc (unhide HK1) (.cells #[.bool true, .bool false, .bool false, .int .i64 0, .int .i64 0, .slice none 0 0] 34))
  have HJ2 := hide (keep_alloc (unhide HK2) (.cells #[.bool true, .bool false, .bool false, .int .i64 0, .int .i64 0, .slice none 0 0] 34))
  have HJ3 := hide (keep_alloc (unhide HK3) (.cells #[.bool true, .bool false, .bool false, .int .i64 0, .int .i64 0, .slice none 0 0] 34))
  have HT := hide (new_block W0 (.cells #[.bool true, .bool false, .bool false, .int .i64 0, .int .i64 0, .slice none 0 0] 34))
  have hTl : w.heap.size + 1 + 1 + 1 < W0.heap.size := (block6 (unhide HK3)).2.2
  obtain ⟨T, eT⟩ : ∃ T, W0.heap.size = T := ⟨_, rfl⟩
  obtain ⟨W1, eW⟩ : ∃ W, W0.alloc (.cells #[.bool true, .bool false, .bool false, .int .i64 0, .int .i64 0, .slice none 0 0] 34) = W := ⟨_, rfl⟩
  rw [eT, eW] at HT; rw [eW] at HX HJ0 HJ1 HJ2 HJ3; rw [eT] at hTl; rw [eT, eW]
  clear eT eW HK0 HK1 HK2 HK3 HB
  obtain ⟨⟨p0, p1, p2, p3, p4⟩, ⟨y0, y1, y2, y3, y4⟩, pl⟩ := block5 (unhide HJ0)
  obtain ⟨⟨q0, q1, q2, q3, q4⟩, ⟨f0, f1, f2, f3, f4⟩, ql⟩ := block5 (unhide HJ2)
  obtain ⟨⟨s0, s1, s2, s3, s4, s5⟩, ⟨g0, g1, g2, g3, g4, g5⟩, sl⟩ := block6 (unhide HJ3)
  obtain ⟨⟨x0, x1, x2, x3, x4, x5⟩, ⟨z0, z1, z2, z3', z4, z5⟩, xl⟩ := block6 (unhide HT)
  go_upto_region 4 with fail
  clear p0 p1 p2 p3 p4 y0 y1 y2 y3 y4 pl q0 q1 q2 q3 q4 f0 f1 f2 f3 f4 ql s0 s1 s2 s3 s4 s5 g0 g1 g2 g3 g4 g5 sl x0 x1 x2 x3 x4 x5 z0 z1 z2 z3' z4 z5 xl
  have hTn : T ≠ w.heap.size := by omega
  have M0 := hide (keep_set (g := T) (o := 1) (v := .bool true) (unhide HJ0) (Ne.symm hTn)); have M2 := hide (keep_set (g := T) (o := 1) (v := .bool true) (unhide HJ2) (by omega)); have M3 := hide (keep_set (g := T) (o := 1) (v := .bool true) (unhide HJ3) (by omega))
  have MT := hide (set_block6 (i := 1) (y := .bool true) (unhide HT))
  have HX2 := hide (below_set (i := 1) (unhide HX) (show w.heap.size ≤ T by omega) (.bool true))
  obtain ⟨W2, e2⟩ : ∃ W, W1.setCell ⟨T, 1, none⟩ (.bool true) = W := ⟨_, rfl⟩
  rw [e2] at M0 M2 M3 MT HX2 ⊢
  clear e2 hTn
  simp only [List.setIfInBounds_toArray, List.set_cons_zero, List.set_cons_succ] at MT
  obtain ⟨⟨p0, p1, p2, p3, p4⟩, ⟨y0, y1, y2, y3, y4⟩, pl⟩ := block5 (unhide M0)
  obtain ⟨⟨q0, q1, q2, q3, q4⟩, ⟨f0, f1, f2, f3, f4⟩, ql⟩ := block5 (unhide M2)
  obtain ⟨⟨s0, s1, s2, s3, s4, s5⟩, ⟨g0, g1, g2, g3, g4, g5⟩, sl⟩ := block6 (unhide M3)
  obtain ⟨⟨x0, x1, x2, x3, x4, x5⟩, ⟨z0, z1, z2, z3', z4, z5⟩, xl⟩ := block6 (unhide MT)
  have u0 : T ≠ w.heap.size + 1 + 1 := by omega
  have u1 : w.heap.size + 1 + 1 ≠ T := by omega
  have u2 : T ≠ w.heap.size + 1 + 1 + 1 := by omega
  have u3 : w.heap.size + 1 + 1 + 1 ≠ T := by omega
  have u4 : T ≠ w.heap.size := by omega
  have u5 : w.heap.size ≠ T := by omega
  go_wp2_with fail
  go_region
  obtain ⟨Wf, ef⟩ : ∃ W, (put6 (put5 W2 (w.heap.size + 1 + 1) (.int .i64 cap) (.slice a1 n1 c1) (.bool true) (.slice a2 n2 c2) (.slice a3 n3 c3)) (w.heap.size + 1 + 1 + 1) (.bool true) (.bool true) (.bool false) (.int .i64 0) (.int .i64 0) (.slice none 0 0)).drew = W := ⟨_, rfl⟩
  have H5 := hide (keep_below ((put6_keep (y0 := .bool true) (y1 := .bool true) (y2 := .bool false) (y3 := .int .i64 0) (y4 := .int .i64 0) (y5 := .slice none 0 0) (show w.heap.size + 1 + 1 ≠ w.heap.size + 1 + 1 + 1 by omega)).trans (put5_new (y0 := .int .i64 cap) (y1 := .slice a1 n1 c1) (y2 := .bool true) (y3 := .slice a2 n2 c2) (y4 := .slice a3 n3 c3) (unhide M2))) (Below.refl _ _).drew)
  have H6 := hide (keep_below (put6_new (y0 := .bool true) (y1 := .bool true) (y2 := .bool false) (y3 := .int .i64 0) (y4 := .int .i64 0) (y5 := .slice none 0 0) ((put5_keep (y0 := .int .i64 cap) (y1 := .slice a1 n1 c1) (y2 := .bool true) (y3 := .slice a2 n2 c2) (y4 := .slice a3 n3 c3) (show w.heap.size + 1 + 1 + 1 ≠ w.heap.size + 1 + 1 by omega)).trans (unhide M3))) (Below.refl _ _).drew)
  have HBf : Hid (Below w.heap.size w (put6 (put5 W2 (w.heap.size + 1 + 1) (.int .i64 cap) (.slice a1 n1 c1) (.bool true) (.slice a2 n2 c2) (.slice a3 n3 c3)) (w.heap.size + 1 + 1 + 1) (.bool true) (.bool true) (.bool false) (.int .i64 0) (.int .i64 0) (.slice none 0 0)).drew) := (put6_below (put5_below (unhide HX2) (by omega)) (by omega)).drew
  have HKf : Hid (∀ k, k ≠ w.heap.size + 1 + 1 → k ≠ w.heap.size + 1 + 1 + 1 → ((put6 (put5 W2 (w.heap.size + 1 + 1) (.int .i64 cap) (.slice a1 n1 c1) (.bool true) (.slice a2 n2 c2) (.slice a3 n3 c3)) (w.heap.size + 1 + 1 + 1) (.bool true) (.bool true) (.bool false) (.int .i64 0) (.int .i64 0) (.slice none 0 0)).drew).heap[k]? = W2.heap[k]?) := fun k h5 h6 => (drew_at _ k).trans ((put6_keep h6).trans (put5_keep h5))
  rw [ef] at H5 H6 HBf HKf
  have ef2 : ((((((((((((W2).setCell ⟨w.heap.size + 1 + 1, 0, none⟩ (.int .i64 cap)).setCell ⟨w.heap.size + 1 + 1, 1, none⟩ (.slice a1 n1 c1)).setCell ⟨w.heap.size + 1 + 1, 2, none⟩ (.bool true)).setCell ⟨w.heap.size + 1 + 1, 3, none⟩ (.slice a2 n2 c2)).setCell ⟨w.heap.size + 1 + 1, 4, none⟩ (.slice a3 n3 c3)).setCell ⟨w.heap.size + 1 + 1 + 1, 0, none⟩ (.bool true)).setCell ⟨w.heap.size + 1 + 1 + 1, 1, none⟩ (.bool true)).setCell ⟨w.heap.size + 1 + 1 + 1, 2, none⟩ (.bool false)).setCell ⟨w.heap.size + 1 + 1 + 1, 3, none⟩ (.int .i64 0)).setCell ⟨w.heap.size + 1 + 1 + 1, 4, none⟩ (.int .i64 0)).setCell ⟨w.heap.size + 1 + 1 + 1, 5, none⟩ (.slice none 0 0)).drew = Wf := ef
  rw [ef2]
  clear ef ef2
  clear p0 p1 p2 p3 p4 y0 y1 y2 y3 y4 pl q0 q1 q2 q3 q4 f0 f1 f2 f3 f4 ql s0 s1 s2 s3 s4 s5 g0 g1 g2 g3 g4 g5 sl x0 x1 x2 x3 x4 x5 z0 z1 z2 z3' z4 z5 xl
  obtain ⟨⟨q0, q1, q2, q3, q4⟩, -, -⟩ := block5 (unhide H5)
  obtain ⟨⟨s0, s1, s2, s3, s4, s5⟩, -, -⟩ := block6 (unhide H6)
  go_wp2_with fail
  refine bodyPost_ret (v := .tuple #[.agg #[.int .i64 cap, .slice a1 n1 c1, .bool true, .slice a2 n2 c2, .slice a3 n3 c3], .agg #[.bool true, .bool true, .bool false, .int .i64 0, .int .i64 0, .slice none 0 0]]) (by simp [results, Try.results16, go_sem, q0, q1, q2, q3, q4, s0, s1, s2, s3, s4, s5]) rfl ⟨_, _, rfl, ⟨_, _, _, rfl, (unhide HI).below (unhide HBf), (unhide HS).below (unhide HBf), (unhide HG).below (unhide HBf)⟩, ⟨_, rfl, isl_nil _⟩, unhide HBf⟩

set_option maxRecDepth 100000 in
set_option maxHeartbeats 1000000 in
theorem sent_none (w : World) (v : Value) (P : Pp) (t u : Int) (h : IsPipe w v P) (hc : countP P ≤ 6000) (hy : P.closed = false) (hz3 : ¬ 0 < P.gs.length) (hz4 : ¬ (P.items.length : Int) < P.cap) :
    Calls Try.prog 16 #[v, .agg #[.int .i64 t, .int .i64 0, .int .i64 u]] w fun e w' => ∃ v1 v2, e = .returned (.tuple #[v1, v2]) ∧ IsPipe w' v1 P ∧ IsAns w' v2 zeroA ∧ Below w.heap.size w w' := by
  obtain ⟨cap, items, closed, ss, gs⟩ := P
  obtain ⟨a1, c1, a2, c2, a3, c3, rfl, hI, hS, hG⟩ := h.form
  have hc' : items.length + ss.length + gs.length ≤ 6000 := hc
  simp only at hI hS hG h hy hz3 hz4 ⊢
  subst hy
  clear hc h
  have HI := hide hI; have HS := hide hS; have HG := hide hG
  clear hI hS hG
  obtain ⟨n1, en1⟩ : ∃ n, items.length = n := ⟨_, rfl⟩
  obtain ⟨n2, en2⟩ : ∃ n, ss.length = n := ⟨_, rfl⟩
  obtain ⟨n3, en3⟩ : ∃ n, gs.length = n := ⟨_, rfl⟩
  rw [en1] at HI; rw [en2] at HS; rw [en3] at HG
  rw [en1, en2, en3] at hc'
  rw [en1, en2, en3]
  have HN1 := hide en1; have HN2 := hide en2; have HN3 := hide en3
  rw [en3] at hz3; rw [en1] at hz4
  have HZ3 := hide hz3; have z3 : ¬ (0 : Int) < (n3 : Int) := by omega
  clear hz3
  clear en1 en2 en3
  obtain ⟨W0, e0, hB, k0, k1, k2, k3⟩ := four_new w (.cells #[.int .i64 cap, .slice a1 n1 c1, .bool false, .slice a2 n2 c2, .slice a3 n3 c3] 25) (.cells #[.int .i64 t, .int .i64 0, .int .i64 u] 39) (.cells #[.int .i64 0, .slice none 0 0, .bool false, .slice none 0 0, .slice none 0 0] 25) (.cells #[.bool false, .bool false, .bool false, .int .i64 0, .int .i64 0, .slice none 0 0] 34)
  have HB := hide hB; have HK0 := hide k0; have HK1 := hide k1; have HK2 := hide k2; have HK3 := hide k3; have HE := hide e0
  clear hB k0 k1 k2 k3 e0
  go_enter Try.func16, Try.ntmps16
  go_upto_region 1 with fail
  rw [unhide HE]
  clear HE
  obtain ⟨⟨m0, m1, m2⟩, -, ml⟩ := block3 (unhide HK1)
  go_upto_region 2 with fail
  clear m0 m1 m2 ml
  have HX := hide ((unhide HB).alloc (unhide HB).size (.cells #[.bool true, .bool false, .bool false, .int .i64 0, .int .i64 0, .slice none 0 0] 34))
  have HJ0 := hide (keep_alloc (unhide HK0) (.cells #[.bool true, .bool false, .bool false, .int .i64 0, .int .i64 0, .slice none 0 0] 34))
  have HJ1 := hide (keep_alloc (unhide HK1) (.cells #[.bool true, .bool false, .bool false, .int .i64 0, .int .i64 0, .slice none 0 0] 34))
  have HJ2 := hide (keep_alloc (unhide HK2) (.cells #[.bool true, .bool false, .bool false, .int .i64 0, .int .i64 0, .slice none 0 0] 34))
  have HJ3 := hide (keep_alloc (unhide HK3) (.cells #[.bool true, .bool false, .bool false, .int .i64 0, .int .i64 0, .slice none 0 0] 34))
  have HT := hide (new_block W0 (.cells #[.bool true, .bool false, .bool false, .int .i64 0, .int .i64 0, .slice none 0 0] 34))
  have hTl : w.heap.size + 1 + 1 + 1 < W0.heap.size := (block6 (unhide HK3)).2.2
  obtain ⟨T, eT⟩ : ∃ T, W0.heap.size = T := ⟨_, rfl⟩
  obtain ⟨W1, eW⟩ : ∃ W, W0.alloc (.cells #[.bool true, .bool false, .bool false, .int .i64 0, .int .i64 0, .slice none 0 0] 34) = W := ⟨_, rfl⟩
  rw [eT, eW] at HT; rw [eW] at HX HJ0 HJ1 HJ2 HJ3; rw [eT] at hTl; rw [eT, eW]
  clear eT eW HK0 HK1 HK2 HK3 HB
  obtain ⟨⟨p0, p1, p2, p3, p4⟩, ⟨y0, y1, y2, y3, y4⟩, pl⟩ := block5 (unhide HJ0)
  obtain ⟨⟨q0, q1, q2, q3, q4⟩, ⟨f0, f1, f2, f3, f4⟩, ql⟩ := block5 (unhide HJ2)
  obtain ⟨⟨s0, s1, s2, s3, s4, s5⟩, ⟨g0, g1, g2, g3, g4, g5⟩, sl⟩ := block6 (unhide HJ3)
  obtain ⟨⟨x0, x1, x2, x3, x4, x5⟩, ⟨z0, z1, z2, z3', z4, z5⟩, xl⟩ := block6 (unhide HT)
  have u0 : T ≠ w.heap.size + 1 + 1 := by omega
  have u1 : w.heap.size + 1 + 1 ≠ T := by omega
  have u2 : T ≠ w.heap.size + 1 + 1 + 1 := by omega
  have u3 : w.heap.size + 1 + 1 + 1 ≠ T := by omega
  have u4 : T ≠ w.heap.size := by omega
  have u5 : w.heap.size ≠ T := by omega
  go_wp2_with fail
  obtain ⟨Wf, ef⟩ : ∃ W, (put6 (put5 W1 (w.heap.size + 1 + 1) (.int .i64 cap) (.slice a1 n1 c1) (.bool false) (.slice a2 n2 c2) (.slice a3 n3 c3)) (w.heap.size + 1 + 1 + 1) (.bool false) (.bool false) (.bool false) (.int .i64 0) (.int .i64 0) (.slice none 0 0)) = W := ⟨_, rfl⟩
  have H5 := hide (keep_below ((put6_keep (y0 := .bool false) (y1 := .bool false) (y2 := .bool false) (y3 := .int .i64 0) (y4 := .int .i64 0) (y5 := .slice none 0 0) (show w.heap.size + 1 + 1 ≠ w.heap.size + 1 + 1 + 1 by omega)).trans (put5_new (y0 := .int .i64 cap) (y1 := .slice a1 n1 c1) (y2 := .bool false) (y3 := .slice a2 n2 c2) (y4 := .slice a3 n3 c3) (unhide HJ2))) (Below.refl _ _))
  have H6 := hide (keep_below (put6_new (y0 := .bool false) (y1 := .bool false) (y2 := .bool false) (y3 := .int .i64 0) (y4 := .int .i64 0) (y5 := .slice none 0 0) ((put5_keep (y0 := .int .i64 cap) (y1 := .slice a1 n1 c1) (y2 := .bool false) (y3 := .slice a2 n2 c2) (y4 := .slice a3 n3 c3) (show w.heap.size + 1 + 1 + 1 ≠ w.heap.size + 1 + 1 by omega)).trans (unhide HJ3))) (Below.refl _ _))
  have HBf : Hid (Below w.heap.size w (put6 (put5 W1 (w.heap.size + 1 + 1) (.int .i64 cap) (.slice a1 n1 c1) (.bool false) (.slice a2 n2 c2) (.slice a3 n3 c3)) (w.heap.size + 1 + 1 + 1) (.bool false) (.bool false) (.bool false) (.int .i64 0) (.int .i64 0) (.slice none 0 0))) := (put6_below (put5_below (unhide HX) (by omega)) (by omega))
  have HKf : Hid (∀ k, k ≠ w.heap.size + 1 + 1 → k ≠ w.heap.size + 1 + 1 + 1 → ((put6 (put5 W1 (w.heap.size + 1 + 1) (.int .i64 cap) (.slice a1 n1 c1) (.bool false) (.slice a2 n2 c2) (.slice a3 n3 c3)) (w.heap.size + 1 + 1 + 1) (.bool false) (.bool false) (.bool false) (.int .i64 0) (.int .i64 0) (.slice none 0 0))).heap[k]? = W1.heap[k]?) := fun k h5 h6 => ((put6_keep h6).trans (put5_keep h5))
  rw [ef] at H5 H6 HBf HKf
  have ef2 : (((((((((((W1).setCell ⟨w.heap.size + 1 + 1, 0, none⟩ (.int .i64 cap)).setCell ⟨w.heap.size + 1 + 1, 1, none⟩ (.slice a1 n1 c1)).setCell ⟨w.heap.size + 1 + 1, 2, none⟩ (.bool false)).setCell ⟨w.heap.size + 1 + 1, 3, none⟩ (.slice a2 n2 c2)).setCell ⟨w.heap.size + 1 + 1, 4, none⟩ (.slice a3 n3 c3)).setCell ⟨w.heap.size + 1 + 1 + 1, 0, none⟩ (.bool false)).setCell ⟨w.heap.size + 1 + 1 + 1, 1, none⟩ (.bool false)).setCell ⟨w.heap.size + 1 + 1 + 1, 2, none⟩ (.bool false)).setCell ⟨w.heap.size + 1 + 1 + 1, 3, none⟩ (.int .i64 0)).setCell ⟨w.heap.size + 1 + 1 + 1, 4, none⟩ (.int .i64 0)).setCell ⟨w.heap.size + 1 + 1 + 1, 5, none⟩ (.slice none 0 0) = Wf := ef
  rw [ef2]
  clear ef ef2
  clear p0 p1 p2 p3 p4 y0 y1 y2 y3 y4 pl q0 q1 q2 q3 q4 f0 f1 f2 f3 f4 ql s0 s1 s2 s3 s4 s5 g0 g1 g2 g3 g4 g5 sl x0 x1 x2 x3 x4 x5 z0 z1 z2 z3' z4 z5 xl
  obtain ⟨⟨q0, q1, q2, q3, q4⟩, -, -⟩ := block5 (unhide H5)
  obtain ⟨⟨s0, s1, s2, s3, s4, s5⟩, -, -⟩ := block6 (unhide H6)
  refine bodyPost_ret (v := .tuple #[.agg #[.int .i64 cap, .slice a1 n1 c1, .bool false, .slice a2 n2 c2, .slice a3 n3 c3], .agg #[.bool false, .bool false, .bool false, .int .i64 0, .int .i64 0, .slice none 0 0]]) (by simp [results, Try.results16, go_sem, q0, q1, q2, q3, q4, s0, s1, s2, s3, s4, s5]) rfl ⟨_, _, rfl, ⟨_, _, _, rfl, (unhide HI).below (unhide HBf), (unhide HS).below (unhide HBf), (unhide HG).below (unhide HBf)⟩, ⟨_, rfl, isl_nil _⟩, unhide HBf⟩

end Go.Proofs.Ytijogcjocandcaa
