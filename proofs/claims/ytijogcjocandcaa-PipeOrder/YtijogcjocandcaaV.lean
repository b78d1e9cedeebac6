/-
  taskmillref.Sent to a getter, and where there is room.
-/
import Derived.Test.YtijogcjocandcaaU
namespace Go.Proofs.Ytijogcjocandcaa
open Go.RowKit

set_option maxRecDepth 100000 in
set_option maxHeartbeats 1000000 in
theorem sent_getter (w : World) (v : Value) (P : Pp) (t u : Int) (h : IsPipe w v P) (hc : countP P ≤ 6000) (hy : P.closed = false) (hz3 : 0 < P.gs.length) :
    Calls Try.prog 16 #[v, .agg #[.int .i64 t, .int .i64 0, .int .i64 u]] w fun e w' => ∃ v1 v2, e = .returned (.tuple #[v1, v2]) ∧ IsPipe w' v1 { P with gs := P.gs.drop 1 } ∧ IsAns w' v2 ⟨true, false, false, 0, 0, [((pAt P.gs 0).1, (pAt P.gs 0).2.1, u, true, false)]⟩ ∧ Below w.heap.size w w' := by
  obtain ⟨cap, items, closed, ss, gs⟩ := P
  obtain ⟨a1, c1, a2, c2, a3, c3, rfl, hI, hS, hG⟩ := h.form
  have hc' : items.length + ss.length + gs.length ≤ 6000 := hc
  simp only at hI hS hG h hy hz3 ⊢
  subst hy
  clear hc h
  obtain ⟨b0, o0, c3', ev, hb0, hl0⟩ := hG.at kp hz3
  cases ev
  obtain ⟨⟨t0, c0, w0'⟩, hx⟩ : ∃ x, pAt gs 0 = x := ⟨_, rfl⟩
  rw [hx]
  have HPF := hide (post_first hl0 hz3 hx); have HCF := hide hG.fits
  clear hx hl0
  have HI := hide hI; have HS := hide hS; have HG := hide hG
  clear hI hS hG
  obtain ⟨n1, en1⟩ : ∃ n, items.length = n := ⟨_, rfl⟩
  obtain ⟨n2, en2⟩ : ∃ n, ss.length = n := ⟨_, rfl⟩
  obtain ⟨n3, en3⟩ : ∃ n, gs.length = n := ⟨_, rfl⟩
  rw [en1] at HI; rw [en2] at HS; rw [en3] at HG
  rw [en1, en2, en3] at hc'
  rw [en1, en2, en3]
  have HN1 := hide en1; have HN2 := hide en2; have HN3 := hide en3
  rw [en3] at hz3 HCF
  have z3 : (0 : Int) < (n3 : Int) := by omega
  clear en1 en2 en3
  obtain ⟨W0, e0, hB, k0, k1, k2, k3⟩ := four_new w (.cells #[.int .i64 cap, .slice a1 n1 c1, .bool false, .slice a2 n2 c2, .slice (some ⟨b0, o0, none⟩) n3 c3] 25) (.cells #[.int .i64 t, .int .i64 0, .int .i64 u] 39) (.cells #[.int .i64 0, .slice none 0 0, .bool false, .slice none 0 0, .slice none 0 0] 25) (.cells #[.bool false, .bool false, .bool false, .int .i64 0, .int .i64 0, .slice none 0 0] 34)
  have HB := hide hB; have HK0 := hide k0; have HK1 := hide k1; have HK2 := hide k2; have HK3 := hide k3; have HE := hide e0
  clear hB k0 k1 k2 k3 e0
  go_enter Try.func16, Try.ntmps16
  go_upto_region 1 with fail
  rw [unhide HE]
  clear HE
  obtain ⟨⟨m0, m1, m2⟩, -, ml⟩ := block3 (unhide HK1)
  go_upto_region 2 with fail
  clear m0 m1 m2 ml
  have HX := hide ((unhide HB).alloc (unhide HB).size (.cells #[.bool true, .bool false, .bool false, .int .i64 0, .int .i64 0, .slice none 0 0] 34))
  have HJ0 := hide (keep_alloc (unhide HK0) (.cells #[.bool true, .bool false, .bool false, .int .i64 0, .int .i64 0, .slice none 0 0] 34))
  have HJ1 := hide (keep_alloc (unhide HK1) (.cells #[.bool true, .bool false, .bool false, .int .i64 0, .int .i64 0, .slice none 0 0] 34))
  have HJ2 := hide (keep_alloc (unhide HK2) (.cells #[.bool true, .bool false, .bool false, .int .i64 0, .int .i64 0, .slice none 0 0] 34))
  have HJ3 := hide (keep_alloc (unhide HK3) (.cells #[.bool true, .bool false, .bool false, .int .i64 0, .int .i64 0, .slice none 0 0] 34))
  have HT := hide (new_block W0 (.cells #[.bool true, .bool false, .bool false, .int .i64 0, .int .i64 0, .slice none 0 0] 34))
  have hTl : w.heap.size + 1 + 1 + 1 < W0.heap.size := (block6 (unhide HK3)).2.2
  obtain ⟨T, eT⟩ : ∃ T, W0.heap.size = T := ⟨_, rfl⟩
  obtain ⟨W1, eW⟩ : ∃ W, W0.alloc (.cells #[.bool true, .bool false, .bool false, .int .i64 0, .int .i64 0, .slice none 0 0] 34) = W := ⟨_, rfl⟩
  rw [eT, eW] at HT; rw [eW] at HX HJ0 HJ1 HJ2 HJ3; rw [eT] at hTl; rw [eT, eW]
  clear eT eW HK0 HK1 HK2 HK3 HB
  obtain ⟨⟨p0, p1, p2, p3, p4⟩, ⟨y0, y1, y2, y3, y4⟩, pl⟩ := block5 (unhide HJ0)
  obtain ⟨⟨q0, q1, q2, q3, q4⟩, ⟨f0, f1, f2, f3, f4⟩, ql⟩ := block5 (unhide HJ2)
  obtain ⟨⟨s0, s1, s2, s3, s4, s5⟩, ⟨g0, g1, g2, g3, g4, g5⟩, sl⟩ := block6 (unhide HJ3)
  obtain ⟨⟨x0, x1, x2, x3, x4, x5⟩, ⟨z0, z1, z2, z3', z4, z5⟩, xl⟩ := block6 (unhide HT)
  obtain ⟨h0, h1, h2⟩ := unhide HPF
  have j0 : W1.cell? ⟨b0, o0, none⟩ = some (.int .i64 t0) := ((unhide HX).cell (p := ⟨b0, o0, none⟩) hb0).trans h0
  have j1 : W1.cell? ⟨b0, o0 + 1, none⟩ = some (.int .i64 c0) := ((unhide HX).cell (p := ⟨b0, o0 + 1, none⟩) hb0).trans h1
  have j2 : W1.cell? ⟨b0, o0 + 2, none⟩ = some (.int .i64 w0') := ((unhide HX).cell (p := ⟨b0, o0 + 2, none⟩) hb0).trans h2
  clear h0 h1 h2
  go_upto_region 7 with fail
  clear p0 p1 p2 p3 p4 y0 y1 y2 y3 y4 pl q0 q1 q2 q3 q4 f0 f1 f2 f3 f4 ql s0 s1 s2 s3 s4 s5 g0 g1 g2 g3 g4 g5 sl x0 x1 x2 x3 x4 x5 z0 z1 z2 z3' z4 z5 xl j0 j1 j2
  have HX2 := hide ((unhide HX).alloc (unhide HX).size (.cells #[.int .i64 t0, .int .i64 c0, .int .i64 w0'] 39))
  have M0 := hide (keep_alloc (unhide HJ0) (.cells #[.int .i64 t0, .int .i64 c0, .int .i64 w0'] 39))
  have M1 := hide (keep_alloc (unhide HJ1) (.cells #[.int .i64 t0, .int .i64 c0, .int .i64 w0'] 39))
  have M2 := hide (keep_alloc (unhide HJ2) (.cells #[.int .i64 t0, .int .i64 c0, .int .i64 w0'] 39))
  have M3 := hide (keep_alloc (unhide HJ3) (.cells #[.int .i64 t0, .int .i64 c0, .int .i64 w0'] 39))
  have MT := hide (keep_alloc (unhide HT) (.cells #[.int .i64 t0, .int .i64 c0, .int .i64 w0'] 39)); have MG := hide (new_block W1 (.cells #[.int .i64 t0, .int .i64 c0, .int .i64 w0'] 39))
  have hG1 : T < W1.heap.size := (block6 (unhide HT)).2.2
  obtain ⟨G, eG⟩ : ∃ G, W1.heap.size = G := ⟨_, rfl⟩
  obtain ⟨W2, e2⟩ : ∃ W, W1.alloc (.cells #[.int .i64 t0, .int .i64 c0, .int .i64 w0'] 39) = W := ⟨_, rfl⟩
  rw [eG, e2] at MG; rw [e2] at M0 M1 M2 M3 MT HX2; rw [eG] at hG1; rw [eG, e2]
  clear eG e2
  obtain ⟨⟨p0, p1, p2, p3, p4⟩, ⟨y0, y1, y2, y3, y4⟩, pl⟩ := block5 (unhide M0)
  have i1 : (1 : Int) ≤ (n3 : Int) := by omega
  have i2 : (n3 : Int) ≤ (c3 : Int) := by have := unhide HCF; omega
  go_upto_region 8 with fail
  obtain ⟨A, hA⟩ : ∃ A, A = (if c3 = 1 then some ⟨b0, o0, none⟩ else some ⟨b0, o0 + 3, none⟩ : Option Addr) := ⟨_, rfl⟩
  rw [← hA]
  have HNW : Hid (∀ W, Below w.heap.size w W → IsL KP W (.slice A (n3 - 1) (c3 - 1)) (gs.drop 1)) := fun W hW => IsL.drop_if kp ((unhide HG).below hW) (p := 1) (by omega) hA
  have L0 := hide (set_block5 (i := 4) (y := .slice A (n3 - 1) (c3 - 1)) (unhide M0))
  have L1 := hide (keep_set (g := w.heap.size) (o := 4) (v := .slice A (n3 - 1) (c3 - 1)) (unhide M1) (by omega)); have L2 := hide (keep_set (g := w.heap.size) (o := 4) (v := .slice A (n3 - 1) (c3 - 1)) (unhide M2) (by omega)); have L3 := hide (keep_set (g := w.heap.size) (o := 4) (v := .slice A (n3 - 1) (c3 - 1)) (unhide M3) (by omega))
  have LT := hide (keep_set (g := w.heap.size) (o := 4) (v := .slice A (n3 - 1) (c3 - 1)) (unhide MT) (by omega)); have LG := hide (keep_set (g := w.heap.size) (o := 4) (v := .slice A (n3 - 1) (c3 - 1)) (unhide MG) (by omega))
  have HX3 := hide (below_set (i := 4) (unhide HX2) (Nat.le_refl _) (.slice A (n3 - 1) (c3 - 1)))
  obtain ⟨W3, e3⟩ : ∃ W, W2.setCell ⟨w.heap.size, 4, none⟩ (.slice A (n3 - 1) (c3 - 1)) = W := ⟨_, rfl⟩
  rw [e3] at L0 L1 L2 L3 LT LG HX3 ⊢
  clear e3 hA i1 i2 p0 p1 p2 p3 p4 y0 y1 y2 y3 y4 pl M0 M1 M2 M3 MT MG HX2 HX HJ0 HJ1 HJ2 HJ3 HT
  simp only [List.setIfInBounds_toArray, List.set_cons_zero, List.set_cons_succ] at L0
  obtain ⟨n4, e4⟩ : ∃ n, n3 - 1 = n := ⟨_, rfl⟩
  obtain ⟨c4, e5⟩ : ∃ n, c3 - 1 = n := ⟨_, rfl⟩
  rw [e4, e5] at HNW L0 ⊢
  clear e4 e5
  obtain ⟨⟨v0, v1, v2⟩, -, vl⟩ := block3 (unhide LG)
  obtain ⟨⟨m0, m1, m2⟩, -, ml⟩ := block3 (unhide L1)
  obtain ⟨⟨x0, x1, x2, x3, x4, x5⟩, ⟨z0, z1, z2, z3', z4, z5⟩, xl⟩ := block6 (unhide LT)
  have o5 : T ≠ W3.heap.size := by omega
  go_upto_region 9 with fail
  clear v0 v1 v2 vl m0 m1 m2 ml x0 x1 x2 x3 x4 x5 z0 z1 z2 z3' z4 z5
  have hsz : (W3.setCell ⟨T, 5, none⟩ (.slice (some ⟨W3.heap.size, 0, none⟩) 1 1)).heap.size = W3.heap.size := by simp [World.setCell]
  have HIO : Hid (New KW W3.heap.size ((W3.setCell ⟨T, 5, none⟩ (.slice (some ⟨W3.heap.size, 0, none⟩) 1 1)).alloc (.cells #[.int .i64 t0, .int .i64 c0, .int .i64 u, .bool true, .bool false] 64)) (.slice (some ⟨W3.heap.size, 0, none⟩) 1 1) [(t0, c0, u, true, false)]) := ⟨by
    have := isl_one kw (W3.setCell ⟨T, 5, none⟩ (.slice (some ⟨W3.heap.size, 0, none⟩) 1 1)) (t0, c0, u, true, false)
    rw [hsz] at this
    exact this, fun k hk => by cases hk; exact Nat.le_refl _⟩
  have N0 := hide (keep_alloc (keep_set (g := T) (o := 5) (v := .slice (some ⟨W3.heap.size, 0, none⟩) 1 1) (unhide L0) (by omega)) (.cells #[.int .i64 t0, .int .i64 c0, .int .i64 u, .bool true, .bool false] 64))
  have N2 := hide (keep_alloc (keep_set (g := T) (o := 5) (v := .slice (some ⟨W3.heap.size, 0, none⟩) 1 1) (unhide L2) (by omega)) (.cells #[.int .i64 t0, .int .i64 c0, .int .i64 u, .bool true, .bool false] 64))
  have N3 := hide (keep_alloc (keep_set (g := T) (o := 5) (v := .slice (some ⟨W3.heap.size, 0, none⟩) 1 1) (unhide L3) (by omega)) (.cells #[.int .i64 t0, .int .i64 c0, .int .i64 u, .bool true, .bool false] 64))
  have NT := hide (keep_alloc (set_block6 (i := 5) (y := .slice (some ⟨W3.heap.size, 0, none⟩) 1 1) (unhide LT)) (.cells #[.int .i64 t0, .int .i64 c0, .int .i64 u, .bool true, .bool false] 64))
  have HX4 := hide ((below_set (i := 5) (unhide HX3) (show w.heap.size ≤ T by omega) (.slice (some ⟨W3.heap.size, 0, none⟩) 1 1)).alloc (by rw [hsz]; exact (unhide HX3).size) (.cells #[.int .i64 t0, .int .i64 c0, .int .i64 u, .bool true, .bool false] 64))
  obtain ⟨W4, e4⟩ : ∃ W, (W3.setCell ⟨T, 5, none⟩ (.slice (some ⟨W3.heap.size, 0, none⟩) 1 1)).alloc (.cells #[.int .i64 t0, .int .i64 c0, .int .i64 u, .bool true, .bool false] 64) = W := ⟨_, rfl⟩
  rw [e4] at N0 N2 N3 NT HIO HX4 ⊢
  clear e4 hsz o5
  simp only [List.setIfInBounds_toArray, List.set_cons_zero, List.set_cons_succ] at NT
  have hS1 : T < W3.heap.size := xl
  obtain ⟨S, eS⟩ : ∃ S, W3.heap.size = S := ⟨_, rfl⟩
  rw [eS] at NT HIO hS1 ⊢
  clear eS L0 L1 L2 L3 LT LG HX3 xl
  obtain ⟨⟨p0, p1, p2, p3, p4⟩, ⟨y0, y1, y2, y3, y4⟩, pl⟩ := block5 (unhide N0)
  obtain ⟨⟨q0, q1, q2, q3, q4⟩, ⟨f0, f1, f2, f3, f4⟩, ql⟩ := block5 (unhide N2)
  obtain ⟨⟨s0, s1, s2, s3, s4, s5⟩, ⟨g0, g1, g2, g3, g4, g5⟩, sl⟩ := block6 (unhide N3)
  obtain ⟨⟨x0, x1, x2, x3, x4, x5⟩, ⟨z0, z1, z2, z3', z4, z5⟩, xl⟩ := block6 (unhide NT)
  have u0 : T ≠ w.heap.size + 1 + 1 := by omega
  have u1 : w.heap.size + 1 + 1 ≠ T := by omega
  have u2 : T ≠ w.heap.size + 1 + 1 + 1 := by omega
  have u3 : w.heap.size + 1 + 1 + 1 ≠ T := by omega
  have u4 : T ≠ w.heap.size := by omega
  have u5 : w.heap.size ≠ T := by omega
  go_wp2_with fail
  go_region
  obtain ⟨Wf, ef⟩ : ∃ W, (put6 (put5 W4 (w.heap.size + 1 + 1) (.int .i64 cap) (.slice a1 n1 c1) (.bool false) (.slice a2 n2 c2) (.slice A n4 c4)) (w.heap.size + 1 + 1 + 1) (.bool true) (.bool false) (.bool false) (.int .i64 0) (.int .i64 0) (.slice (some ⟨S, 0, none⟩) 1 1)).drew = W := ⟨_, rfl⟩
  have H5 := hide (keep_below ((put6_keep (y0 := .bool true) (y1 := .bool false) (y2 := .bool false) (y3 := .int .i64 0) (y4 := .int .i64 0) (y5 := .slice (some ⟨S, 0, none⟩) 1 1) (show w.heap.size + 1 + 1 ≠ w.heap.size + 1 + 1 + 1 by omega)).trans (put5_new (y0 := .int .i64 cap) (y1 := .slice a1 n1 c1) (y2 := .bool false) (y3 := .slice a2 n2 c2) (y4 := .slice A n4 c4) (unhide N2))) (Below.refl _ _).drew)
  have H6 := hide (keep_below (put6_new (y0 := .bool true) (y1 := .bool false) (y2 := .bool false) (y3 := .int .i64 0) (y4 := .int .i64 0) (y5 := .slice (some ⟨S, 0, none⟩) 1 1) ((put5_keep (y0 := .int .i64 cap) (y1 := .slice a1 n1 c1) (y2 := .bool false) (y3 := .slice a2 n2 c2) (y4 := .slice A n4 c4) (show w.heap.size + 1 + 1 + 1 ≠ w.heap.size + 1 + 1 by omega)).trans (unhide N3))) (Below.refl _ _).drew)
  have HBf : Hid (Below w.heap.size w (put6 (put5 W4 (w.heap.size + 1 + 1) (.int .i64 cap) (.slice a1 n1 c1) (.bool false) (.slice a2 n2 c2) (.slice A n4 c4)) (w.heap.size + 1 + 1 + 1) (.bool true) (.bool false) (.bool false) (.int .i64 0) (.int .i64 0) (.slice (some ⟨S, 0, none⟩) 1 1)).drew) := (put6_below (put5_below (unhide HX4) (by omega)) (by omega)).drew
  have HKf : Hid (∀ k, k ≠ w.heap.size + 1 + 1 → k ≠ w.heap.size + 1 + 1 + 1 → ((put6 (put5 W4 (w.heap.size + 1 + 1) (.int .i64 cap) (.slice a1 n1 c1) (.bool false) (.slice a2 n2 c2) (.slice A n4 c4)) (w.heap.size + 1 + 1 + 1) (.bool true) (.bool false) (.bool false) (.int .i64 0) (.int .i64 0) (.slice (some ⟨S, 0, none⟩) 1 1)).drew).heap[k]? = W4.heap[k]?) := fun k h5 h6 => (drew_at _ k).trans ((put6_keep h6).trans (put5_keep h5))
  rw [ef] at H5 H6 HBf HKf
  have ef2 : ((((((((((((W4).setCell ⟨w.heap.size + 1 + 1, 0, none⟩ (.int .i64 cap)).setCell ⟨w.heap.size + 1 + 1, 1, none⟩ (.slice a1 n1 c1)).setCell ⟨w.heap.size + 1 + 1, 2, none⟩ (.bool false)).setCell ⟨w.heap.size + 1 + 1, 3, none⟩ (.slice a2 n2 c2)).setCell ⟨w.heap.size + 1 + 1, 4, none⟩ (.slice A n4 c4)).setCell ⟨w.heap.size + 1 + 1 + 1, 0, none⟩ (.bool true)).setCell ⟨w.heap.size + 1 + 1 + 1, 1, none⟩ (.bool false)).setCell ⟨w.heap.size + 1 + 1 + 1, 2, none⟩ (.bool false)).setCell ⟨w.heap.size + 1 + 1 + 1, 3, none⟩ (.int .i64 0)).setCell ⟨w.heap.size + 1 + 1 + 1, 4, none⟩ (.int .i64 0)).setCell ⟨w.heap.size + 1 + 1 + 1, 5, none⟩ (.slice (some ⟨S, 0, none⟩) 1 1)).drew = Wf := ef
  rw [ef2]
  clear ef ef2
  clear p0 p1 p2 p3 p4 y0 y1 y2 y3 y4 pl q0 q1 q2 q3 q4 f0 f1 f2 f3 f4 ql s0 s1 s2 s3 s4 s5 g0 g1 g2 g3 g4 g5 sl x0 x1 x2 x3 x4 x5 z0 z1 z2 z3' z4 z5 xl
  obtain ⟨⟨q0, q1, q2, q3, q4⟩, -, -⟩ := block5 (unhide H5)
  obtain ⟨⟨s0, s1, s2, s3, s4, s5⟩, -, -⟩ := block6 (unhide H6)
  go_wp2_with fail
  refine bodyPost_ret (v := .tuple #[.agg #[.int .i64 cap, .slice a1 n1 c1, .bool false, .slice a2 n2 c2, .slice A n4 c4], .agg #[.bool true, .bool false, .bool false, .int .i64 0, .int .i64 0, .slice (some ⟨S, 0, none⟩) 1 1]]) (by simp [results, Try.results16, go_sem, q0, q1, q2, q3, q4, s0, s1, s2, s3, s4, s5]) rfl ⟨_, _, rfl, ⟨_, _, _, rfl, (unhide HI).below (unhide HBf), (unhide HS).below (unhide HBf), unhide HNW _ (unhide HBf)⟩, ⟨_, rfl, ((unhide HIO).keep kw (fun k hk _ => unhide HKf k (by omega) (by omega))).1⟩, unhide HBf⟩

end Go.Proofs.Ytijogcjocandcaa
