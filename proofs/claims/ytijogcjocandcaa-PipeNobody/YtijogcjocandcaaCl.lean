/-
  taskmillref.Closing and taskmillref.Gone.
-/
import Derived.Test.YtijogcjocandcaaLa
namespace Go.Proofs.Ytijogcjocandcaa
open Go.RowKit

theorem size_drew_alloc (w : World) (o : Obj) : w.heap.size ≤ (w.drew.alloc o).heap.size := by
  have h : (w.drew.alloc o).heap.size = w.drew.heap.size + 1 := World.size_alloc _ _
  rw [h]
  exact Nat.le_succ w.heap.size

set_option maxRecDepth 100000 in
set_option maxHeartbeats 1000000 in
theorem closing_closed (w : World) (v : Value) (P : Pp) (h : IsPipe w v P) (hc : countP P ≤ 6000) (hy : P.closed = true) :
    Calls Try.prog 24 #[v] w fun e w' => ∃ v1 v2, e = .returned (.tuple #[v1, v2]) ∧ IsPipe w' v1 P ∧ IsAns w' v2 ⟨true, true, false, 0, 0, []⟩ ∧ Below w.heap.size w w' := by
  obtain ⟨cap, items, closed, ss, gs⟩ := P
  obtain ⟨a1, c1, a2, c2, a3, c3, rfl, hI, hS, hG⟩ := h.form
  have hc' : items.length + ss.length + gs.length ≤ 6000 := hc
  simp only at hI hS hG h hy ⊢
  subst hy
  clear hc h
  have H2 := hide (hS.opens kp rfl); have H3 := hide (hG.opens kp rfl)
  have HI := hide hI; have HS := hide hS; have HG := hide hG
  clear hI hS hG
  obtain ⟨n1, en1⟩ : ∃ n, items.length = n := ⟨_, rfl⟩
  obtain ⟨n2, en2⟩ : ∃ n, ss.length = n := ⟨_, rfl⟩
  obtain ⟨n3, en3⟩ : ∃ n, gs.length = n := ⟨_, rfl⟩
  rw [en1] at HI; rw [en2] at HS H2; rw [en3] at HG H3
  rw [en1, en2, en3] at hc'
  rw [en1, en2, en3]
  have HN1 := hide en1; have HN2 := hide en2; have HN3 := hide en3
  clear en1 en2 en3
  obtain ⟨W0, e0, hB, k0, k1, k2⟩ := three_new w (.cells #[.int .i64 cap, .slice a1 n1 c1, .bool true, .slice a2 n2 c2, .slice a3 n3 c3] 25) (.cells #[.int .i64 0, .slice none 0 0, .bool false, .slice none 0 0, .slice none 0 0] 25) (.cells #[.bool false, .bool false, .bool false, .int .i64 0, .int .i64 0, .slice none 0 0] 34)
  have HB := hide hB; have Kp := hide k0; have Kr := hide k1; have Ks := hide k2; have HE := hide e0
  clear hB k0 k1 k2 e0
  go_enter Try.func24, Try.ntmps24
  go_upto_region 1 with fail
  rw [unhide HE]
  clear HE
  go_upto_region 2 with fail
  have HX_1 := hide ((unhide HB).alloc (Nat.le_trans (show w.heap.size ≤ w.heap.size from Nat.le_refl _) (unhide HB).size) (.cells #[.bool true, .bool false, .bool false, .int .i64 0, .int .i64 0, .slice none 0 0] 34))
  have Kp_1 := hide (keep_alloc (unhide Kp) (.cells #[.bool true, .bool false, .bool false, .int .i64 0, .int .i64 0, .slice none 0 0] 34))
  have Kr_1 := hide (keep_alloc (unhide Kr) (.cells #[.bool true, .bool false, .bool false, .int .i64 0, .int .i64 0, .slice none 0 0] 34))
  have Ks_1 := hide (keep_alloc (unhide Ks) (.cells #[.bool true, .bool false, .bool false, .int .i64 0, .int .i64 0, .slice none 0 0] 34))
  have KT_1 := hide (new_block W0 (.cells #[.bool true, .bool false, .bool false, .int .i64 0, .int .i64 0, .slice none 0 0] 34))
  have hlp_T : w.heap.size < W0.heap.size := size_of (unhide Kp)
  have hlr_T : w.heap.size + 1 < W0.heap.size := size_of (unhide Kr)
  have hls_T : w.heap.size + 1 + 1 < W0.heap.size := size_of (unhide Ks)
  obtain ⟨T, eT⟩ : ∃ X, W0.heap.size = X := ⟨_, rfl⟩
  obtain ⟨W1, eW1⟩ : ∃ X, W0.alloc (.cells #[.bool true, .bool false, .bool false, .int .i64 0, .int .i64 0, .slice none 0 0] 34) = X := ⟨_, rfl⟩
  rw [eT, eW1] at KT_1; rw [eW1] at HX_1 Kp_1 Kr_1 Ks_1; rw [eT] at hlp_T hlr_T hls_T; rw [eT, eW1]
  clear eT eW1 HB Kp Kr Ks
  obtain ⟨⟨p0, p1, p2, p3, p4⟩, ⟨pf0, pf1, pf2, pf3, pf4⟩, pl⟩ := block5 (unhide Kp_1)
  obtain ⟨⟨x0, x1, x2, x3, x4, x5⟩, ⟨xf0, xf1, xf2, xf3, xf4, xf5⟩, xl⟩ := block6 (unhide KT_1)
  go_upto_region 4 with fail
  clear p0 p1 p2 p3 p4 pf0 pf1 pf2 pf3 pf4 pl x0 x1 x2 x3 x4 x5 xf0 xf1 xf2 xf3 xf4 xf5 xl
  have HX_2 := hide (below_set (i := 1) (unhide HX_1) (show w.heap.size ≤ T by first | omega | (have := unhide HBA; omega)) (.bool true))
  have Kp_2 := hide (keep_set (g := T) (o := 1) (v := .bool true) (unhide Kp_1) (by omega))
  have Kr_2 := hide (keep_set (g := T) (o := 1) (v := .bool true) (unhide Kr_1) (by omega))
  have Ks_2 := hide (keep_set (g := T) (o := 1) (v := .bool true) (unhide Ks_1) (by omega))
  have KT_2 := hide (set_block6 (i := 1) (y := .bool true) (unhide KT_1))
  obtain ⟨W2, eW2⟩ : ∃ X, W1.setCell ⟨T, 1, none⟩ (.bool true) = X := ⟨_, rfl⟩
  rw [eW2] at HX_2 Kp_2 Kr_2 Ks_2 KT_2 ⊢
  clear eW2 HX_1 Kp_1 Kr_1 Ks_1 KT_1
  simp only [List.setIfInBounds_toArray, List.set_cons_zero, List.set_cons_succ] at KT_2
  have u0 : T ≠ w.heap.size + 1 := by omega
  have u1 : w.heap.size + 1 ≠ T := by omega
  have u2 : T ≠ w.heap.size + 1 + 1 := by omega
  have u3 : w.heap.size + 1 + 1 ≠ T := by omega
  have u4 : T ≠ w.heap.size := by omega
  have u5 : w.heap.size ≠ T := by omega
  obtain ⟨⟨p0, p1, p2, p3, p4⟩, ⟨pf0, pf1, pf2, pf3, pf4⟩, pl⟩ := block5 (unhide Kp_2)
  obtain ⟨⟨q0, q1, q2, q3, q4⟩, ⟨qf0, qf1, qf2, qf3, qf4⟩, ql⟩ := block5 (unhide Kr_2)
  obtain ⟨⟨s0, s1, s2, s3, s4, s5⟩, ⟨sf0, sf1, sf2, sf3, sf4, sf5⟩, sl⟩ := block6 (unhide Ks_2)
  obtain ⟨⟨x0, x1, x2, x3, x4, x5⟩, ⟨xf0, xf1, xf2, xf3, xf4, xf5⟩, xl⟩ := block6 (unhide KT_2)
  go_wp2_with fail
  go_region
  obtain ⟨Wf, ef⟩ : ∃ W, (put6 (put5 W2 (w.heap.size + 1) (.int .i64 cap) (.slice a1 n1 c1) (.bool true) (.slice a2 n2 c2) (.slice a3 n3 c3)) (w.heap.size + 1 + 1) (.bool true) (.bool true) (.bool false) (.int .i64 0) (.int .i64 0) (.slice none 0 0)).drew = W := ⟨_, rfl⟩
  have H5 := hide (keep_below ((put6_keep (y0 := .bool true) (y1 := .bool true) (y2 := .bool false) (y3 := .int .i64 0) (y4 := .int .i64 0) (y5 := .slice none 0 0) (show w.heap.size + 1 ≠ w.heap.size + 1 + 1 by omega)).trans (put5_new (y0 := .int .i64 cap) (y1 := .slice a1 n1 c1) (y2 := .bool true) (y3 := .slice a2 n2 c2) (y4 := .slice a3 n3 c3) (unhide Kr_2))) (Below.refl _ _).drew)
  have H6 := hide (keep_below (put6_new (y0 := .bool true) (y1 := .bool true) (y2 := .bool false) (y3 := .int .i64 0) (y4 := .int .i64 0) (y5 := .slice none 0 0) ((put5_keep (y0 := .int .i64 cap) (y1 := .slice a1 n1 c1) (y2 := .bool true) (y3 := .slice a2 n2 c2) (y4 := .slice a3 n3 c3) (show w.heap.size + 1 + 1 ≠ w.heap.size + 1 by omega)).trans (unhide Ks_2))) (Below.refl _ _).drew)
  have HBf : Hid (Below w.heap.size w (put6 (put5 W2 (w.heap.size + 1) (.int .i64 cap) (.slice a1 n1 c1) (.bool true) (.slice a2 n2 c2) (.slice a3 n3 c3)) (w.heap.size + 1 + 1) (.bool true) (.bool true) (.bool false) (.int .i64 0) (.int .i64 0) (.slice none 0 0)).drew) := (put6_below (put5_below (unhide HX_2) (by omega)) (by omega)).drew
  have HKf : Hid (∀ k, k ≠ w.heap.size + 1 → k ≠ w.heap.size + 1 + 1 → ((put6 (put5 W2 (w.heap.size + 1) (.int .i64 cap) (.slice a1 n1 c1) (.bool true) (.slice a2 n2 c2) (.slice a3 n3 c3)) (w.heap.size + 1 + 1) (.bool true) (.bool true) (.bool false) (.int .i64 0) (.int .i64 0) (.slice none 0 0)).drew).heap[k]? = W2.heap[k]?) := fun k h5 h6 => (drew_at _ k).trans ((put6_keep h6).trans (put5_keep h5))
  rw [ef] at H5 H6 HBf HKf
  have ef2 : ((((((((((((W2).setCell ⟨w.heap.size + 1, 0, none⟩ (.int .i64 cap)).setCell ⟨w.heap.size + 1, 1, none⟩ (.slice a1 n1 c1)).setCell ⟨w.heap.size + 1, 2, none⟩ (.bool true)).setCell ⟨w.heap.size + 1, 3, none⟩ (.slice a2 n2 c2)).setCell ⟨w.heap.size + 1, 4, none⟩ (.slice a3 n3 c3)).setCell ⟨w.heap.size + 1 + 1, 0, none⟩ (.bool true)).setCell ⟨w.heap.size + 1 + 1, 1, none⟩ (.bool true)).setCell ⟨w.heap.size + 1 + 1, 2, none⟩ (.bool false)).setCell ⟨w.heap.size + 1 + 1, 3, none⟩ (.int .i64 0)).setCell ⟨w.heap.size + 1 + 1, 4, none⟩ (.int .i64 0)).setCell ⟨w.heap.size + 1 + 1, 5, none⟩ (.slice none 0 0)).drew = Wf := ef
  rw [ef2]
  clear ef ef2
  clear p0 p1 p2 p3 p4 pf0 pf1 pf2 pf3 pf4 pl q0 q1 q2 q3 q4 qf0 qf1 qf2 qf3 qf4 ql s0 s1 s2 s3 s4 s5 sf0 sf1 sf2 sf3 sf4 sf5 sl x0 x1 x2 x3 x4 x5 xf0 xf1 xf2 xf3 xf4 xf5 xl
  obtain ⟨⟨q0, q1, q2, q3, q4⟩, -, -⟩ := block5 (unhide H5)
  obtain ⟨⟨s0, s1, s2, s3, s4, s5⟩, -, -⟩ := block6 (unhide H6)
  go_wp2_with fail
  refine bodyPost_ret (v := .tuple #[.agg #[.int .i64 cap, .slice a1 n1 c1, .bool true, .slice a2 n2 c2, .slice a3 n3 c3], .agg #[.bool true, .bool true, .bool false, .int .i64 0, .int .i64 0, .slice none 0 0]]) (by simp [results, Try.results24, go_sem, q0, q1, q2, q3, q4, s0, s1, s2, s3, s4, s5]) rfl ⟨_, _, rfl, ⟨_, _, _, rfl, (unhide HI).below (unhide HBf), (unhide HS).below (unhide HBf), (unhide HG).below (unhide HBf)⟩, ⟨_, rfl, isl_nil _⟩, unhide HBf⟩

set_option maxRecDepth 100000 in
set_option maxHeartbeats 1000000 in
theorem closing_open (w : World) (v : Value) (P : Pp) (h : IsPipe w v P) (hc : countP P ≤ 6000) (hy : P.closed = false) :
    Calls Try.prog 24 #[v] w fun e w' => ∃ v1 v2, e = .returned (.tuple #[v1, v2]) ∧ IsPipe w' v1 { P with closed := true, ss := [], gs := [] } ∧ IsAns w' v2 ⟨true, false, false, 0, 0, P.gs.map wkG ++ P.ss.map wkS⟩ ∧ Below w.heap.size w w' := by
  obtain ⟨cap, items, closed, ss, gs⟩ := P
  obtain ⟨a1, c1, a2, c2, a3, c3, rfl, hI, hS, hG⟩ := h.form
  have hc' : items.length + ss.length + gs.length ≤ 6000 := hc
  simp only at hI hS hG h hy ⊢
  subst hy
  clear hc h
  have H2 := hide (hS.opens kp rfl); have H3 := hide (hG.opens kp rfl)
  have HI := hide hI; have HS := hide hS; have HG := hide hG
  clear hI hS hG
  obtain ⟨n1, en1⟩ : ∃ n, items.length = n := ⟨_, rfl⟩
  obtain ⟨n2, en2⟩ : ∃ n, ss.length = n := ⟨_, rfl⟩
  obtain ⟨n3, en3⟩ : ∃ n, gs.length = n := ⟨_, rfl⟩
  rw [en1] at HI; rw [en2] at HS H2; rw [en3] at HG H3
  rw [en1, en2, en3] at hc'
  rw [en1, en2, en3]
  have HN1 := hide en1; have HN2 := hide en2; have HN3 := hide en3
  clear en1 en2 en3
  obtain ⟨W0, e0, hB, k0, k1, k2⟩ := three_new w (.cells #[.int .i64 cap, .slice a1 n1 c1, .bool false, .slice a2 n2 c2, .slice a3 n3 c3] 25) (.cells #[.int .i64 0, .slice none 0 0, .bool false, .slice none 0 0, .slice none 0 0] 25) (.cells #[.bool false, .bool false, .bool false, .int .i64 0, .int .i64 0, .slice none 0 0] 34)
  have HB := hide hB; have Kp := hide k0; have Kr := hide k1; have Ks := hide k2; have HE := hide e0
  clear hB k0 k1 k2 e0
  go_enter Try.func24, Try.ntmps24
  go_upto_region 1 with fail
  rw [unhide HE]
  clear HE
  go_upto_region 2 with fail
  obtain ⟨T, eT⟩ : ∃ X, W0.heap.size = X := ⟨_, rfl⟩
  have HLT : Hid (w.heap.size + 1 + 1 < T) := (by rw [← eT]; exact size_of (unhide Ks))
  have HX1 : Hid (Below T W0 (W0.alloc (.cells #[.bool true, .bool false, .bool false, .int .i64 0, .int .i64 0, .slice none 0 0] 34))) := (Below.refl T W0).alloc (by omega) _
  have KT1 := hide (new_block W0 (.cells #[.bool true, .bool false, .bool false, .int .i64 0, .int .i64 0, .slice none 0 0] 34))
  rw [eT] at KT1 ⊢
  have HTE := hide eT
  clear eT
  obtain ⟨W1, eW1⟩ : ∃ X, W0.alloc (.cells #[.bool true, .bool false, .bool false, .int .i64 0, .int .i64 0, .slice none 0 0] 34) = X := ⟨_, rfl⟩
  rw [eW1] at KT1 HX1 ⊢
  clear eW1
  have Kp1 := hide (keep_at (unhide Kp) (unhide HX1) (show w.heap.size < T by have := unhide HLT; omega))
  obtain ⟨⟨p0, p1, p2, p3, p4⟩, ⟨pf0, pf1, pf2, pf3, pf4⟩, pl⟩ := block5 (unhide Kp1)
  go_wp2
  clear p0 p1 p2 p3 p4 pf0 pf1 pf2 pf3 pf4 pl
  go_loopw [5] (fun i wr => ∃ (j : Nat) (a : Option Addr) (c : Nat), j ≤ n3 ∧ i = .int .i64 j ∧ Own KW T wr (.slice a (j) c) ((gs.take j).map wkG) ∧ wr.heap[T]? = some (.cells #[.bool true, .bool false, .bool false, .int .i64 0, .int .i64 0, .slice a (j) c] 34) ∧ Below T W0 wr) (fun i _ => n3 - (intOf i).toNat)
  case atStart => exact ⟨0, none, 0, Nat.zero_le _, rfl, by simpa using own_nil _ _, unhide KT1, unhide HX1⟩
  case round =>
    obtain ⟨j, a, c9, hj, rfl, ho, hkt, hnx⟩ := hrel
    have HO := hide ho; have HNX := hide hnx; have HKT := hide hkt
    clear ho hnx hkt
    by_cases hlt : j < n3
    · obtain ⟨b0, o0, rfl, hb0, l0⟩ := unhide H3 (by omega)
      obtain ⟨⟨t, c, u⟩, hx⟩ : ∃ x, gs.getD j (0, 0, 0) = x := ⟨_, rfl⟩
      have HW : Hid (Below w.heap.size w wr) := (unhide HB).trans ((unhide HNX).mono (show w.heap.size ≤ T by have := unhide HLT; omega))
      obtain ⟨k0, k1, k2⟩ := (l0.below (unhide HW) hb0).post (j := j) (by rw [unhide HN3]; exact hlt) hx
      have HM : Hid (((gs.take j).map wkG) ++ [(t, c, 0, false, false)] = (gs.take (j + 1)).map wkG) := by rw [map_take (by rw [unhide HN3]; exact hlt), hx]; rfl
      have i0 : (0 : Int) ≤ (j : Int) := by omega
      have i1 : (j : Int) < (n3 : Int) := by omega
      have HKp := hide (keep_at (unhide Kp) (unhide HNX) (show w.heap.size < T by have := unhide HLT; omega))
      obtain ⟨⟨p0, p1, p2, p3, p4⟩, -, pl⟩ := block5 (unhide HKp)
      obtain ⟨⟨x0, x1, x2, x3, x4, x5⟩, ⟨xf0, xf1, xf2, xf3, xf4, xf5⟩, xl⟩ := block6 (unhide HKT)
      have z5 := (block6 (keep_alloc (unhide HKT) (.cells #[.int .i64 t, .int .i64 c, .int .i64 0, .bool false, .bool false] 64))).1.2.2.2.2.2
      have x5d : wr.drew.cell? ⟨T, 5, none⟩ = some (.slice a (j) c9) := x5
      have z5d : (wr.drew.alloc (.cells #[.int .i64 t, .int .i64 c, .int .i64 0, .bool false, .bool false] 64)).cell? ⟨T, 5, none⟩ = some (.slice a (j) c9) := z5
      have HL0 := hide l0; have HXX := hide hx
      clear hx l0
      go_wp2_with fail
      have HSS : Hid (∀ W, Below T W0 W → (W.cell? ⟨w.heap.size, 0, none⟩ = some (.int .i64 cap) ∧ W.cell? ⟨w.heap.size, 1, none⟩ = some (.slice a1 n1 c1) ∧ W.cell? ⟨w.heap.size, 2, none⟩ = some (.bool false) ∧ W.cell? ⟨w.heap.size, 3, none⟩ = some (.slice a2 n2 c2) ∧ W.cell? ⟨w.heap.size, 4, none⟩ = some (.slice (some ⟨b0, o0, none⟩) n3 c3)) ∧ W.cell? ⟨b0, o0 + j * 3, none⟩ = some (.int .i64 t) ∧ W.cell? ⟨b0, o0 + j * 3 + 1, none⟩ = some (.int .i64 c) ∧ W.cell? ⟨b0, o0 + j * 3 + 2, none⟩ = some (.int .i64 u)) := fun W hW => (by
        have h1 := block5 (keep_at (unhide Kp) hW (show w.heap.size < T by have := unhide HLT; omega))
        have h2 := (unhide HL0).below ((unhide HB).trans (hW.mono (show w.heap.size ≤ T by have := unhide HLT; omega))) hb0
        have h3 := h2.post (j := j) (by rw [unhide HN3]; exact hlt) (unhide HXX)
        exact ⟨h1.1, h3⟩)
      refine wp_region_held_drew (S := fun W => (W.cell? ⟨w.heap.size, 0, none⟩ = some (.int .i64 cap) ∧ W.cell? ⟨w.heap.size, 1, none⟩ = some (.slice a1 n1 c1) ∧ W.cell? ⟨w.heap.size, 2, none⟩ = some (.bool false) ∧ W.cell? ⟨w.heap.size, 3, none⟩ = some (.slice a2 n2 c2) ∧ W.cell? ⟨w.heap.size, 4, none⟩ = some (.slice (some ⟨b0, o0, none⟩) n3 c3)) ∧ W.cell? ⟨b0, o0 + j * 3, none⟩ = some (.int .i64 t) ∧ W.cell? ⟨b0, o0 + j * 3 + 1, none⟩ = some (.int .i64 c) ∧ W.cell? ⟨b0, o0 + j * 3 + 2, none⟩ = some (.int .i64 u)) (by kernel_rfl) (unhide HSS _ (unhide HNX).drew) (fun hHeld => ?_)
      refine wpAnyH_take (i := 0) (oi := { dst := some 20, op := Op.fieldAddr 34 (Operand.tmp 4) 5, type := 0, pos := "pipe.go:161", after := #[], guard := none }) (v := ?v0) rfl (by kernel_rfl) (by kernel_rfl) (by kernel_rfl) (fun _ _ _ h => h) (Or.inl ⟨by rfl, ?y0⟩) (by assumption) ?r0
      case y0 => (intro w hSw; (try dsimp only at hSw); go_simp; try with_reducible rfl)
      try simp only [Act.put, List.setIfInBounds_toArray, List.set_cons_zero, List.set_cons_succ]
      refine wpAnyH_take (i := 2) (oi := { dst := some 22, op := Op.fieldAddr 25 (Operand.tmp 1) 4, type := 0, pos := "pipe.go:161", after := #[], guard := none }) (v := ?v2) rfl (by kernel_rfl) (by kernel_rfl) (by kernel_rfl) (fun _ _ _ h => h) (Or.inl ⟨by rfl, ?y2⟩) (by assumption) ?r2
      case y2 => (intro w hSw; (try dsimp only at hSw); go_simp; try with_reducible rfl)
      try simp only [Act.put, List.setIfInBounds_toArray, List.set_cons_zero, List.set_cons_succ]
      refine wpAnyH_take (i := 3) (oi := { dst := some 23, op := Op.load 23 (Operand.tmp 22), type := 23, pos := "pipe.go:161", after := #[{ on := 2, ground := Ground.data }], guard := none }) (v := ?v3) rfl (by kernel_rfl) (by kernel_rfl) (by kernel_rfl) (fun _ _ _ h => h) (Or.inl ⟨by rfl, ?y3⟩) (by assumption) ?r3
      case y3 => (intro w hSw; (try dsimp only at hSw); go_simp; try with_reducible rfl)
      try simp only [Act.put, List.setIfInBounds_toArray, List.set_cons_zero, List.set_cons_succ]
      refine wpAnyH_take (i := 4) (oi := { dst := some 24, op := Op.move (Operand.tmp 5), type := 3, pos := "pipe.go:161", after := #[], guard := none }) (v := ?v4) rfl (by kernel_rfl) (by kernel_rfl) (by kernel_rfl) (fun _ _ _ h => h) (Or.inl ⟨by rfl, ?y4⟩) (by assumption) ?r4
      case y4 => (intro w hSw; (try dsimp only at hSw); go_simp; try with_reducible rfl)
      try simp only [Act.put, List.setIfInBounds_toArray, List.set_cons_zero, List.set_cons_succ]
      refine wpAnyH_take (i := 5) (oi := { dst := some 25, op := Op.indexAddr 23 (Operand.tmp 23) (Operand.tmp 24), type := 0, pos := "pipe.go:161", after := #[{ on := 3, ground := Ground.data }, { on := 4, ground := Ground.data }], guard := none }) (v := ?v5) rfl (by kernel_rfl) (by kernel_rfl) (by kernel_rfl) (fun _ _ _ h => h) (Or.inl ⟨by rfl, ?y5⟩) (by assumption) ?r5
      case y5 => (intro w hSw; (try dsimp only at hSw); go_simp; try with_reducible rfl)
      try simp only [Act.put, List.setIfInBounds_toArray, List.set_cons_zero, List.set_cons_succ]
      refine wpAnyH_take (i := 6) (oi := { dst := some 26, op := Op.fieldAddr 39 (Operand.tmp 25) 0, type := 0, pos := "pipe.go:161", after := #[{ on := 5, ground := Ground.data }], guard := none }) (v := ?v6) rfl (by kernel_rfl) (by kernel_rfl) (by kernel_rfl) (fun _ _ _ h => h) (Or.inl ⟨by rfl, ?y6⟩) (by assumption) ?r6
      case y6 => (intro w hSw; (try dsimp only at hSw); go_simp; try with_reducible rfl)
      try simp only [Act.put, List.setIfInBounds_toArray, List.set_cons_zero, List.set_cons_succ]
      refine wpAnyH_take (i := 7) (oi := { dst := some 27, op := Op.load 3 (Operand.tmp 26), type := 3, pos := "pipe.go:161", after := #[{ on := 6, ground := Ground.data }], guard := none }) (v := ?v7) rfl (by kernel_rfl) (by kernel_rfl) (by kernel_rfl) (fun _ _ _ h => h) (Or.inl ⟨by rfl, ?y7⟩) (by assumption) ?r7
      case y7 => (intro w hSw; (try dsimp only at hSw); go_simp; try with_reducible rfl)
      try simp only [Act.put, List.setIfInBounds_toArray, List.set_cons_zero, List.set_cons_succ]
      refine wpAnyH_take (i := 8) (oi := { dst := some 28, op := Op.fieldAddr 25 (Operand.tmp 1) 4, type := 0, pos := "pipe.go:161", after := #[], guard := none }) (v := ?v8) rfl (by kernel_rfl) (by kernel_rfl) (by kernel_rfl) (fun _ _ _ h => h) (Or.inl ⟨by rfl, ?y8⟩) (by assumption) ?r8
      case y8 => (intro w hSw; (try dsimp only at hSw); go_simp; try with_reducible rfl)
      try simp only [Act.put, List.setIfInBounds_toArray, List.set_cons_zero, List.set_cons_succ]
      refine wpAnyH_take (i := 9) (oi := { dst := some 29, op := Op.load 23 (Operand.tmp 28), type := 23, pos := "pipe.go:161", after := #[{ on := 8, ground := Ground.data }], guard := none }) (v := ?v9) rfl (by kernel_rfl) (by kernel_rfl) (by kernel_rfl) (fun _ _ _ h => h) (Or.inl ⟨by rfl, ?y9⟩) (by assumption) ?r9
      case y9 => (intro w hSw; (try dsimp only at hSw); go_simp; try with_reducible rfl)
      try simp only [Act.put, List.setIfInBounds_toArray, List.set_cons_zero, List.set_cons_succ]
      refine wpAnyH_take (i := 10) (oi := { dst := some 30, op := Op.move (Operand.tmp 5), type := 3, pos := "pipe.go:161", after := #[], guard := none }) (v := ?v10) rfl (by kernel_rfl) (by kernel_rfl) (by kernel_rfl) (fun _ _ _ h => h) (Or.inl ⟨by rfl, ?y10⟩) (by assumption) ?r10
      case y10 => (intro w hSw; (try dsimp only at hSw); go_simp; try with_reducible rfl)
      try simp only [Act.put, List.setIfInBounds_toArray, List.set_cons_zero, List.set_cons_succ]
      refine wpAnyH_take (i := 11) (oi := { dst := some 31, op := Op.indexAddr 23 (Operand.tmp 29) (Operand.tmp 30), type := 0, pos := "pipe.go:161", after := #[{ on := 9, ground := Ground.data }, { on := 10, ground := Ground.data }], guard := none }) (v := ?v11) rfl (by kernel_rfl) (by kernel_rfl) (by kernel_rfl) (fun _ _ _ h => h) (Or.inl ⟨by rfl, ?y11⟩) (by assumption) ?r11
      case y11 => (intro w hSw; (try dsimp only at hSw); go_simp; try with_reducible rfl)
      try simp only [Act.put, List.setIfInBounds_toArray, List.set_cons_zero, List.set_cons_succ]
      refine wpAnyH_take (i := 12) (oi := { dst := some 32, op := Op.fieldAddr 39 (Operand.tmp 31) 1, type := 0, pos := "pipe.go:161", after := #[{ on := 11, ground := Ground.data }], guard := none }) (v := ?v12) rfl (by kernel_rfl) (by kernel_rfl) (by kernel_rfl) (fun _ _ _ h => h) (Or.inl ⟨by rfl, ?y12⟩) (by assumption) ?r12
      case y12 => (intro w hSw; (try dsimp only at hSw); go_simp; try with_reducible rfl)
      try simp only [Act.put, List.setIfInBounds_toArray, List.set_cons_zero, List.set_cons_succ]
      refine wpAnyH_take (i := 13) (oi := { dst := some 33, op := Op.load 3 (Operand.tmp 32), type := 3, pos := "pipe.go:161", after := #[{ on := 12, ground := Ground.data }], guard := none }) (v := ?v13) rfl (by kernel_rfl) (by kernel_rfl) (by kernel_rfl) (fun _ _ _ h => h) (Or.inl ⟨by rfl, ?y13⟩) (by assumption) ?r13
      case y13 => (intro w hSw; (try dsimp only at hSw); go_simp; try with_reducible rfl)
      try simp only [Act.put, List.setIfInBounds_toArray, List.set_cons_zero, List.set_cons_succ]
      refine wpAnyH_take (i := 14) (oi := { dst := some 34, op := Op.build 64 #[(0, Operand.tmp 27), (1, Operand.tmp 33)], type := 64, pos := "pipe.go:161", after := #[{ on := 7, ground := Ground.data }, { on := 13, ground := Ground.data }], guard := none }) (v := ?v14) rfl (by kernel_rfl) (by kernel_rfl) (by kernel_rfl) (fun _ _ _ h => h) (Or.inl ⟨by rfl, ?y14⟩) (by assumption) ?r14
      case y14 => (intro w hSw; (try dsimp only at hSw); go_simp; try with_reducible rfl)
      try simp only [Act.put, List.setIfInBounds_toArray, List.set_cons_zero, List.set_cons_succ]
      refine wpAnyH_ready (rs := [1, 15]) (by kernel_rfl) (by simp) ?_
      refine AllReadyH.cons (o := { dst := some 21, op := Op.load 32 (Operand.tmp 20), type := 32, pos := "pipe.go:161", after := #[{ on := 0, ground := Ground.data }], guard := none }) rfl (fun K hK => ?_) (AllReadyH.cons (o := { dst := some 35, op := Op.buildSlice 32 1 #[(0, Operand.tmp 34)], type := 32, pos := "pipe.go:161", after := #[{ on := 14, ground := Ground.data }], guard := none }) rfl (fun K hK => ?_) AllReadyH.nil)
      · go_simp
        refine hK.out _ _ (unhide HSS _ (unhide HNX).drew) (fun hHeld => ?_)
        clear hK K
        try simp only [Act.put, List.setIfInBounds_toArray, List.set_cons_zero, List.set_cons_succ]
        refine wpAnyH_ready (rs := [15]) (by kernel_rfl) (by simp) ?_
        refine AllReadyH.cons (o := { dst := some 35, op := Op.buildSlice 32 1 #[(0, Operand.tmp 34)], type := 32, pos := "pipe.go:161", after := #[{ on := 14, ground := Ground.data }], guard := none }) rfl (fun K hK => ?_) AllReadyH.nil
        go_simp
        refine hK.out _ _ (unhide HSS _ ((unhide HNX).drew.alloc (Nat.le_of_lt (size_of (unhide HKT))) (.cells #[.int .i64 t, .int .i64 c, .int .i64 0, .bool false, .bool false] 64))) (fun hHeld => ?_)
        clear hK K
        try simp only [Act.put, List.setIfInBounds_toArray, List.set_cons_zero, List.set_cons_succ]
        refine wpAnyH_ready (rs := [16]) (by kernel_rfl) (by simp) ?_
        refine AllReadyH.cons (o := { dst := some 36, op := Op.call { callee := Callee.builtin Builtin.append, args := #[Operand.tmp 21, Operand.tmp 35], argTypes := #[32, 32] }, type := 32, pos := "pipe.go:161", after := #[{ on := 1, ground := Ground.data }, { on := 15, ground := Ground.data }], guard := none }) rfl (fun K hK => ?_) AllReadyH.nil
        (refine step_append kw rfl (.tmp 21) (.tmp 35) rfl T _ ((gs.take j).map wkG) rfl (by first | exact Own.below (unhide HO) ((Below.refl _ _).alloc (Nat.le_refl _) _) | exact Own.below (unhide HO) ((Below.refl _ _).alloc (Nat.le_refl _) _).drew | exact Own.below (unhide HO) ((Below.refl _ _).drew.alloc (Nat.le_refl _) _)) _ [(t, c, 0, false, false)] rfl (by first | exact isl_one kw wr (t, c, 0, false, false) | exact isl_one kw wr.drew (t, c, 0, false, false) | exact IsL.below (isl_one kw wr (t, c, 0, false, false)) (Below.refl _ _).drew) (j + 1) (by have h1 := unhide HN3; simp only [List.length_map, List.length_take, List.length_cons, List.length_nil]; omega) (by show (j + 1) * 32 ≤ 140737488355328; omega) (Nat.le_trans (Nat.le_of_lt (size_of (unhide HKT))) (by first | exact Nat.le_refl _ | (simp only [World.size_alloc]; exact Nat.le_succ _) | exact (size_drew_alloc wr _))) ?_; intro b6 d6 w6 ho6 hg6; have HO6 := hide ho6; have HKT6 : Hid (w6.heap[T]? = some (.cells #[.bool true, .bool false, .bool false, .int .i64 0, .int .i64 0, .slice a (j) c9] 34)) := (by refine keep_grown ?_ hg6 ?_; exact keep_alloc (unhide HKT) (.cells #[.int .i64 t, .int .i64 c, .int .i64 0, .bool false, .bool false] 64); exact (fun k hk => Own.ne (unhide HO) (unhide HKT) (by decide) k hk)); have HX6 : Hid (Below T W0 w6) := (by refine Below.grown ?_ hg6 ?_ (fun k hk => ((unhide HO).lt k hk).1); (first | exact ((unhide HNX).alloc (by have := size_of (unhide HKT); omega) (.cells #[.int .i64 t, .int .i64 c, .int .i64 0, .bool false, .bool false] 64)) | exact ((unhide HNX).alloc (by have := size_of (unhide HKT); omega) (.cells #[.int .i64 t, .int .i64 c, .int .i64 0, .bool false, .bool false] 64)).drew | exact (unhide HNX).drew.alloc (Nat.le_of_lt (size_of (unhide HKT))) (.cells #[.int .i64 t, .int .i64 c, .int .i64 0, .bool false, .bool false] 64)); exact (Nat.le_trans (Nat.le_of_lt (size_of (unhide HKT))) (by first | exact Nat.le_refl _ | (simp only [World.size_alloc]; exact Nat.le_succ _) | exact (size_drew_alloc wr _)))); obtain ⟨⟨x0', x1', x2', x3', x4', x5'⟩, ⟨xf0', xf1', xf2', xf3', xf4', xf5'⟩, xl'⟩ := block6 (unhide HKT6); clear ho6 hg6)
        refine hK.out _ _ (unhide HSS _ (unhide HX6)) (fun hHeld => ?_)
        clear hK K
        try simp only [Act.put, List.setIfInBounds_toArray, List.set_cons_zero, List.set_cons_succ]
        refine wpAnyH_take (i := 17) (oi := { dst := some 37, op := Op.fieldAddr 34 (Operand.tmp 4) 5, type := 0, pos := "pipe.go:161", after := #[{ on := 0, ground := Ground.phase }, { on := 1, ground := Ground.phase }, { on := 2, ground := Ground.phase }, { on := 3, ground := Ground.phase }, { on := 4, ground := Ground.phase }, { on := 5, ground := Ground.phase }, { on := 6, ground := Ground.phase }, { on := 7, ground := Ground.phase }, { on := 8, ground := Ground.phase }, { on := 9, ground := Ground.phase }, { on := 10, ground := Ground.phase }, { on := 11, ground := Ground.phase }, { on := 12, ground := Ground.phase }, { on := 13, ground := Ground.phase }, { on := 14, ground := Ground.phase }, { on := 15, ground := Ground.phase }, { on := 16, ground := Ground.phase }], guard := none }) (v := ?v17) rfl (by kernel_rfl) (by kernel_rfl) (by kernel_rfl) (fun _ _ _ h => h) (Or.inl ⟨by rfl, ?y17⟩) (by assumption) ?r17
        case y17 => (intro w hSw; (try dsimp only at hSw); go_simp; try with_reducible rfl)
        try simp only [Act.put, List.setIfInBounds_toArray, List.set_cons_zero, List.set_cons_succ]
        refine wpAnyH_ready (rs := [18]) (by kernel_rfl) (by simp) ?_
        refine AllReadyH.cons (o := { dst := none, op := Op.store 32 (Operand.tmp 37) (Operand.tmp 36), type := 0, pos := "pipe.go:161", after := #[{ on := 17, ground := Ground.data }, { on := 16, ground := Ground.data }, { on := 16, ground := Ground.chain }, { on := 0, ground := Ground.phase }, { on := 1, ground := Ground.phase }, { on := 2, ground := Ground.phase }, { on := 3, ground := Ground.phase }, { on := 4, ground := Ground.phase }, { on := 5, ground := Ground.phase }, { on := 6, ground := Ground.phase }, { on := 7, ground := Ground.phase }, { on := 8, ground := Ground.phase }, { on := 9, ground := Ground.phase }, { on := 10, ground := Ground.phase }, { on := 11, ground := Ground.phase }, { on := 12, ground := Ground.phase }, { on := 13, ground := Ground.phase }, { on := 14, ground := Ground.phase }, { on := 15, ground := Ground.phase }, { on := 16, ground := Ground.phase }], guard := none }) rfl (fun K hK => ?_) AllReadyH.nil
        go_simp
        refine hK.out _ _ (unhide HSS _ (below_set (unhide HX6) (Nat.le_refl T) _)) (fun hHeld => ?_)
        clear hK K
        try simp only [Act.put, List.setIfInBounds_toArray, List.set_cons_zero, List.set_cons_succ]
        refine wpAnyH_done (by kernel_rfl) ?_ _
        have KT7 := hide (set_block6 (i := 5) (y := .slice b6 (j + 1) d6) (unhide HKT6)); have HX7 := hide (below_set (i := 5) (unhide HX6) (Nat.le_refl T) (.slice b6 (j + 1) d6)); have HO7 := hide ((unhide HO6).keep (fun k hk => Below.heap_setCell w6 ⟨T, 5, none⟩ (.slice b6 (j + 1) d6) k (by have := Own.ne (unhide HO6) (unhide HKT6) (by decide) k hk; simpa using this)))
        obtain ⟨W7, e7⟩ : ∃ X, w6.setCell ⟨T, 5, none⟩ (.slice b6 (j + 1) d6) = X := ⟨_, rfl⟩
        rw [e7] at KT7 HX7 HO7 ⊢
        clear e7 x0' x1' x2' x3' x4' x5' xf0' xf1' xf2' xf3' xf4' xf5' xl' x0 x1 x2 x3 x4 x5 xf0 xf1 xf2 xf3 xf4 xf5 xl p0 p1 p2 p3 p4 pl z5 x5d z5d k0 k1 k2
        simp only [List.setIfInBounds_toArray, List.set_cons_zero, List.set_cons_succ] at KT7
        go_wp2_with fail
        go_roundw
        case rel => exact ⟨j + 1, b6, d6, by omega, by go_num, by have := unhide HO7; rw [unhide HM] at this; exact this, unhide KT7, unhide HX7⟩
        case measure => simp [intOf]; omega
      · go_simp
        refine hK.out _ _ (unhide HSS _ ((unhide HNX).drew.alloc (Nat.le_of_lt (size_of (unhide HKT))) (.cells #[.int .i64 t, .int .i64 c, .int .i64 0, .bool false, .bool false] 64))) (fun hHeld => ?_)
        clear hK K
        try simp only [Act.put, List.setIfInBounds_toArray, List.set_cons_zero, List.set_cons_succ]
        refine wpAnyH_ready (rs := [1]) (by kernel_rfl) (by simp) ?_
        refine AllReadyH.cons (o := { dst := some 21, op := Op.load 32 (Operand.tmp 20), type := 32, pos := "pipe.go:161", after := #[{ on := 0, ground := Ground.data }], guard := none }) rfl (fun K hK => ?_) AllReadyH.nil
        go_simp
        refine hK.out _ _ (unhide HSS _ ((unhide HNX).drew.alloc (Nat.le_of_lt (size_of (unhide HKT))) (.cells #[.int .i64 t, .int .i64 c, .int .i64 0, .bool false, .bool false] 64))) (fun hHeld => ?_)
        clear hK K
        try simp only [Act.put, List.setIfInBounds_toArray, List.set_cons_zero, List.set_cons_succ]
        refine wpAnyH_ready (rs := [16]) (by kernel_rfl) (by simp) ?_
        refine AllReadyH.cons (o := { dst := some 36, op := Op.call { callee := Callee.builtin Builtin.append, args := #[Operand.tmp 21, Operand.tmp 35], argTypes := #[32, 32] }, type := 32, pos := "pipe.go:161", after := #[{ on := 1, ground := Ground.data }, { on := 15, ground := Ground.data }], guard := none }) rfl (fun K hK => ?_) AllReadyH.nil
        (refine step_append kw rfl (.tmp 21) (.tmp 35) rfl T _ ((gs.take j).map wkG) rfl (by first | exact Own.below (unhide HO) ((Below.refl _ _).alloc (Nat.le_refl _) _) | exact Own.below (unhide HO) ((Below.refl _ _).alloc (Nat.le_refl _) _).drew | exact Own.below (unhide HO) ((Below.refl _ _).drew.alloc (Nat.le_refl _) _)) _ [(t, c, 0, false, false)] rfl (by first | exact isl_one kw wr (t, c, 0, false, false) | exact isl_one kw wr.drew (t, c, 0, false, false) | exact IsL.below (isl_one kw wr (t, c, 0, false, false)) (Below.refl _ _).drew) (j + 1) (by have h1 := unhide HN3; simp only [List.length_map, List.length_take, List.length_cons, List.length_nil]; omega) (by show (j + 1) * 32 ≤ 140737488355328; omega) (Nat.le_trans (Nat.le_of_lt (size_of (unhide HKT))) (by first | exact Nat.le_refl _ | (simp only [World.size_alloc]; exact Nat.le_succ _) | exact (size_drew_alloc wr _))) ?_; intro b6 d6 w6 ho6 hg6; have HO6 := hide ho6; have HKT6 : Hid (w6.heap[T]? = some (.cells #[.bool true, .bool false, .bool false, .int .i64 0, .int .i64 0, .slice a (j) c9] 34)) := (by refine keep_grown ?_ hg6 ?_; exact keep_alloc (unhide HKT) (.cells #[.int .i64 t, .int .i64 c, .int .i64 0, .bool false, .bool false] 64); exact (fun k hk => Own.ne (unhide HO) (unhide HKT) (by decide) k hk)); have HX6 : Hid (Below T W0 w6) := (by refine Below.grown ?_ hg6 ?_ (fun k hk => ((unhide HO).lt k hk).1); (first | exact ((unhide HNX).alloc (by have := size_of (unhide HKT); omega) (.cells #[.int .i64 t, .int .i64 c, .int .i64 0, .bool false, .bool false] 64)) | exact ((unhide HNX).alloc (by have := size_of (unhide HKT); omega) (.cells #[.int .i64 t, .int .i64 c, .int .i64 0, .bool false, .bool false] 64)).drew | exact (unhide HNX).drew.alloc (Nat.le_of_lt (size_of (unhide HKT))) (.cells #[.int .i64 t, .int .i64 c, .int .i64 0, .bool false, .bool false] 64)); exact (Nat.le_trans (Nat.le_of_lt (size_of (unhide HKT))) (by first | exact Nat.le_refl _ | (simp only [World.size_alloc]; exact Nat.le_succ _) | exact (size_drew_alloc wr _)))); obtain ⟨⟨x0', x1', x2', x3', x4', x5'⟩, ⟨xf0', xf1', xf2', xf3', xf4', xf5'⟩, xl'⟩ := block6 (unhide HKT6); clear ho6 hg6)
        refine hK.out _ _ (unhide HSS _ (unhide HX6)) (fun hHeld => ?_)
        clear hK K
        try simp only [Act.put, List.setIfInBounds_toArray, List.set_cons_zero, List.set_cons_succ]
        refine wpAnyH_take (i := 17) (oi := { dst := some 37, op := Op.fieldAddr 34 (Operand.tmp 4) 5, type := 0, pos := "pipe.go:161", after := #[{ on := 0, ground := Ground.phase }, { on := 1, ground := Ground.phase }, { on := 2, ground := Ground.phase }, { on := 3, ground := Ground.phase }, { on := 4, ground := Ground.phase }, { on := 5, ground := Ground.phase }, { on := 6, ground := Ground.phase }, { on := 7, ground := Ground.phase }, { on := 8, ground := Ground.phase }, { on := 9, ground := Ground.phase }, { on := 10, ground := Ground.phase }, { on := 11, ground := Ground.phase }, { on := 12, ground := Ground.phase }, { on := 13, ground := Ground.phase }, { on := 14, ground := Ground.phase }, { on := 15, ground := Ground.phase }, { on := 16, ground := Ground.phase }], guard := none }) (v := ?v17b) rfl (by kernel_rfl) (by kernel_rfl) (by kernel_rfl) (fun _ _ _ h => h) (Or.inl ⟨by rfl, ?y17b⟩) (by assumption) ?r17b
        case y17b => (intro w hSw; (try dsimp only at hSw); go_simp; try with_reducible rfl)
        try simp only [Act.put, List.setIfInBounds_toArray, List.set_cons_zero, List.set_cons_succ]
        refine wpAnyH_ready (rs := [18]) (by kernel_rfl) (by simp) ?_
        refine AllReadyH.cons (o := { dst := none, op := Op.store 32 (Operand.tmp 37) (Operand.tmp 36), type := 0, pos := "pipe.go:161", after := #[{ on := 17, ground := Ground.data }, { on := 16, ground := Ground.data }, { on := 16, ground := Ground.chain }, { on := 0, ground := Ground.phase }, { on := 1, ground := Ground.phase }, { on := 2, ground := Ground.phase }, { on := 3, ground := Ground.phase }, { on := 4, ground := Ground.phase }, { on := 5, ground := Ground.phase }, { on := 6, ground := Ground.phase }, { on := 7, ground := Ground.phase }, { on := 8, ground := Ground.phase }, { on := 9, ground := Ground.phase }, { on := 10, ground := Ground.phase }, { on := 11, ground := Ground.phase }, { on := 12, ground := Ground.phase }, { on := 13, ground := Ground.phase }, { on := 14, ground := Ground.phase }, { on := 15, ground := Ground.phase }, { on := 16, ground := Ground.phase }], guard := none }) rfl (fun K hK => ?_) AllReadyH.nil
        go_simp
        refine hK.out _ _ (unhide HSS _ (below_set (unhide HX6) (Nat.le_refl T) _)) (fun hHeld => ?_)
        clear hK K
        try simp only [Act.put, List.setIfInBounds_toArray, List.set_cons_zero, List.set_cons_succ]
        refine wpAnyH_done (by kernel_rfl) ?_ _
        have KT7 := hide (set_block6 (i := 5) (y := .slice b6 (j + 1) d6) (unhide HKT6)); have HX7 := hide (below_set (i := 5) (unhide HX6) (Nat.le_refl T) (.slice b6 (j + 1) d6)); have HO7 := hide ((unhide HO6).keep (fun k hk => Below.heap_setCell w6 ⟨T, 5, none⟩ (.slice b6 (j + 1) d6) k (by have := Own.ne (unhide HO6) (unhide HKT6) (by decide) k hk; simpa using this)))
        obtain ⟨W7, e7⟩ : ∃ X, w6.setCell ⟨T, 5, none⟩ (.slice b6 (j + 1) d6) = X := ⟨_, rfl⟩
        rw [e7] at KT7 HX7 HO7 ⊢
        clear e7 x0' x1' x2' x3' x4' x5' xf0' xf1' xf2' xf3' xf4' xf5' xl' x0 x1 x2 x3 x4 x5 xf0 xf1 xf2 xf3 xf4 xf5 xl p0 p1 p2 p3 p4 pl z5 x5d z5d k0 k1 k2
        simp only [List.setIfInBounds_toArray, List.set_cons_zero, List.set_cons_succ] at KT7
        go_wp2_with fail
        go_roundw
        case rel => exact ⟨j + 1, b6, d6, by omega, by go_num, by have := unhide HO7; rw [unhide HM] at this; exact this, unhide KT7, unhide HX7⟩
        case measure => simp [intOf]; omega
    · have hjn : j = n3 := by omega
      subst hjn
      have hg : gs.take j = gs := List.take_of_length_le (by rw [unhide HN3]; exact Nat.le_refl _)
      rw [hg] at HO
      have HKp := hide (keep_at (unhide Kp) (unhide HNX) (show w.heap.size < T by have := unhide HLT; omega))
      obtain ⟨⟨p0, p1, p2, p3, p4⟩, -, pl⟩ := block5 (unhide HKp)
      clear hg H3
      go_wp2
      clear p0 p1 p2 p3 p4 pl
      obtain ⟨W2, eW2⟩ : ∃ X, wr = X := ⟨_, rfl⟩
      rw [eW2] at HO HNX HKT HKp ⊢
      clear eW2
      have HO2 := HO; have HNX2 := HNX; have HKT2 := HKT; clear HO HNX HKT
      go_loopw [6] (fun i wr => ∃ (y : Nat) (a : Option Addr) (c : Nat), y ≤ n2 ∧ i = .int .i64 y ∧ Own KW T wr (.slice a (j + y) c) (gs.map wkG ++ (ss.take y).map wkS) ∧ wr.heap[T]? = some (.cells #[.bool true, .bool false, .bool false, .int .i64 0, .int .i64 0, .slice a (j + y) c] 34) ∧ Below T W0 wr) (fun i _ => n2 - (intOf i).toNat)
      case atStart => exact ⟨0, _, _, Nat.zero_le _, rfl, by simpa using unhide HO2, unhide HKT2, unhide HNX2⟩
      case round =>
        obtain ⟨y, a, c9, hj, rfl, ho, hkt, hnx⟩ := hrel
        have HO := hide ho; have HNX := hide hnx; have HKT := hide hkt
        clear ho hnx hkt
        by_cases hlt : y < n2
        · obtain ⟨b0, o0, rfl, hb0, l0⟩ := unhide H2 (by omega)
          obtain ⟨⟨t, c, u⟩, hx⟩ : ∃ x, ss.getD y (0, 0, 0) = x := ⟨_, rfl⟩
          have HW : Hid (Below w.heap.size w wr) := (unhide HB).trans ((unhide HNX).mono (show w.heap.size ≤ T by have := unhide HLT; omega))
          obtain ⟨k0, k1, k2⟩ := (l0.below (unhide HW) hb0).post (j := y) (by rw [unhide HN2]; exact hlt) hx
          have HM : Hid ((gs.map wkG ++ (ss.take y).map wkS) ++ [(t, c, 0, false, true)] = gs.map wkG ++ (ss.take (y + 1)).map wkS) := by rw [map_take (by rw [unhide HN2]; exact hlt), hx]; rw [List.append_assoc]; rfl
          have i0 : (0 : Int) ≤ (y : Int) := by omega
          have i1 : (y : Int) < (n2 : Int) := by omega
          have HKp := hide (keep_at (unhide Kp) (unhide HNX) (show w.heap.size < T by have := unhide HLT; omega))
          obtain ⟨⟨p0, p1, p2, p3, p4⟩, -, pl⟩ := block5 (unhide HKp)
          obtain ⟨⟨x0, x1, x2, x3, x4, x5⟩, ⟨xf0, xf1, xf2, xf3, xf4, xf5⟩, xl⟩ := block6 (unhide HKT)
          have z5 := (block6 (keep_alloc (unhide HKT) (.cells #[.int .i64 t, .int .i64 c, .int .i64 0, .bool false, .bool true] 64))).1.2.2.2.2.2
          have x5d : wr.drew.cell? ⟨T, 5, none⟩ = some (.slice a (j + y) c9) := x5
          have z5d : (wr.drew.alloc (.cells #[.int .i64 t, .int .i64 c, .int .i64 0, .bool false, .bool true] 64)).cell? ⟨T, 5, none⟩ = some (.slice a (j + y) c9) := z5
          have HL0 := hide l0; have HXX := hide hx
          clear hx l0
          go_wp2_with fail
          have HSS : Hid (∀ W, Below T W0 W → (W.cell? ⟨w.heap.size, 0, none⟩ = some (.int .i64 cap) ∧ W.cell? ⟨w.heap.size, 1, none⟩ = some (.slice a1 n1 c1) ∧ W.cell? ⟨w.heap.size, 2, none⟩ = some (.bool false) ∧ W.cell? ⟨w.heap.size, 3, none⟩ = some (.slice (some ⟨b0, o0, none⟩) n2 c2) ∧ W.cell? ⟨w.heap.size, 4, none⟩ = some (.slice a3 j c3)) ∧ W.cell? ⟨b0, o0 + y * 3, none⟩ = some (.int .i64 t) ∧ W.cell? ⟨b0, o0 + y * 3 + 1, none⟩ = some (.int .i64 c) ∧ W.cell? ⟨b0, o0 + y * 3 + 2, none⟩ = some (.int .i64 u)) := fun W hW => (by
            have h1 := block5 (keep_at (unhide Kp) hW (show w.heap.size < T by have := unhide HLT; omega))
            have h2 := (unhide HL0).below ((unhide HB).trans (hW.mono (show w.heap.size ≤ T by have := unhide HLT; omega))) hb0
            have h3 := h2.post (j := y) (by rw [unhide HN2]; exact hlt) (unhide HXX)
            exact ⟨h1.1, h3⟩)
          refine wp_region_held_drew (S := fun W => (W.cell? ⟨w.heap.size, 0, none⟩ = some (.int .i64 cap) ∧ W.cell? ⟨w.heap.size, 1, none⟩ = some (.slice a1 n1 c1) ∧ W.cell? ⟨w.heap.size, 2, none⟩ = some (.bool false) ∧ W.cell? ⟨w.heap.size, 3, none⟩ = some (.slice (some ⟨b0, o0, none⟩) n2 c2) ∧ W.cell? ⟨w.heap.size, 4, none⟩ = some (.slice a3 j c3)) ∧ W.cell? ⟨b0, o0 + y * 3, none⟩ = some (.int .i64 t) ∧ W.cell? ⟨b0, o0 + y * 3 + 1, none⟩ = some (.int .i64 c) ∧ W.cell? ⟨b0, o0 + y * 3 + 2, none⟩ = some (.int .i64 u)) (by kernel_rfl) (unhide HSS _ (unhide HNX).drew) (fun hHeld => ?_)
          refine wpAnyH_take (i := 0) (oi := { dst := some 45, op := Op.fieldAddr 34 (Operand.tmp 4) 5, type := 0, pos := "pipe.go:164", after := #[], guard := none }) (v := ?v0s) rfl (by kernel_rfl) (by kernel_rfl) (by kernel_rfl) (fun _ _ _ h => h) (Or.inl ⟨by rfl, ?y0s⟩) (by assumption) ?r0s
          case y0s => (intro w hSw; (try dsimp only at hSw); go_simp; try with_reducible rfl)
          try simp only [Act.put, List.setIfInBounds_toArray, List.set_cons_zero, List.set_cons_succ]
          refine wpAnyH_take (i := 2) (oi := { dst := some 47, op := Op.fieldAddr 25 (Operand.tmp 1) 3, type := 0, pos := "pipe.go:164", after := #[], guard := none }) (v := ?v2s) rfl (by kernel_rfl) (by kernel_rfl) (by kernel_rfl) (fun _ _ _ h => h) (Or.inl ⟨by rfl, ?y2s⟩) (by assumption) ?r2s
          case y2s => (intro w hSw; (try dsimp only at hSw); go_simp; try with_reducible rfl)
          try simp only [Act.put, List.setIfInBounds_toArray, List.set_cons_zero, List.set_cons_succ]
          refine wpAnyH_take (i := 3) (oi := { dst := some 48, op := Op.load 23 (Operand.tmp 47), type := 23, pos := "pipe.go:164", after := #[{ on := 2, ground := Ground.data }], guard := none }) (v := ?v3s) rfl (by kernel_rfl) (by kernel_rfl) (by kernel_rfl) (fun _ _ _ h => h) (Or.inl ⟨by rfl, ?y3s⟩) (by assumption) ?r3s
          case y3s => (intro w hSw; (try dsimp only at hSw); go_simp; try with_reducible rfl)
          try simp only [Act.put, List.setIfInBounds_toArray, List.set_cons_zero, List.set_cons_succ]
          refine wpAnyH_take (i := 4) (oi := { dst := some 49, op := Op.move (Operand.tmp 6), type := 3, pos := "pipe.go:164", after := #[], guard := none }) (v := ?v4s) rfl (by kernel_rfl) (by kernel_rfl) (by kernel_rfl) (fun _ _ _ h => h) (Or.inl ⟨by rfl, ?y4s⟩) (by assumption) ?r4s
          case y4s => (intro w hSw; (try dsimp only at hSw); go_simp; try with_reducible rfl)
          try simp only [Act.put, List.setIfInBounds_toArray, List.set_cons_zero, List.set_cons_succ]
          refine wpAnyH_take (i := 5) (oi := { dst := some 50, op := Op.indexAddr 23 (Operand.tmp 48) (Operand.tmp 49), type := 0, pos := "pipe.go:164", after := #[{ on := 3, ground := Ground.data }, { on := 4, ground := Ground.data }], guard := none }) (v := ?v5s) rfl (by kernel_rfl) (by kernel_rfl) (by kernel_rfl) (fun _ _ _ h => h) (Or.inl ⟨by rfl, ?y5s⟩) (by assumption) ?r5s
          case y5s => (intro w hSw; (try dsimp only at hSw); go_simp; try with_reducible rfl)
          try simp only [Act.put, List.setIfInBounds_toArray, List.set_cons_zero, List.set_cons_succ]
          refine wpAnyH_take (i := 6) (oi := { dst := some 51, op := Op.fieldAddr 39 (Operand.tmp 50) 0, type := 0, pos := "pipe.go:164", after := #[{ on := 5, ground := Ground.data }], guard := none }) (v := ?v6s) rfl (by kernel_rfl) (by kernel_rfl) (by kernel_rfl) (fun _ _ _ h => h) (Or.inl ⟨by rfl, ?y6s⟩) (by assumption) ?r6s
          case y6s => (intro w hSw; (try dsimp only at hSw); go_simp; try with_reducible rfl)
          try simp only [Act.put, List.setIfInBounds_toArray, List.set_cons_zero, List.set_cons_succ]
          refine wpAnyH_take (i := 7) (oi := { dst := some 52, op := Op.load 3 (Operand.tmp 51), type := 3, pos := "pipe.go:164", after := #[{ on := 6, ground := Ground.data }], guard := none }) (v := ?v7s) rfl (by kernel_rfl) (by kernel_rfl) (by kernel_rfl) (fun _ _ _ h => h) (Or.inl ⟨by rfl, ?y7s⟩) (by assumption) ?r7s
          case y7s => (intro w hSw; (try dsimp only at hSw); go_simp; try with_reducible rfl)
          try simp only [Act.put, List.setIfInBounds_toArray, List.set_cons_zero, List.set_cons_succ]
          refine wpAnyH_take (i := 8) (oi := { dst := some 53, op := Op.fieldAddr 25 (Operand.tmp 1) 3, type := 0, pos := "pipe.go:164", after := #[], guard := none }) (v := ?v8s) rfl (by kernel_rfl) (by kernel_rfl) (by kernel_rfl) (fun _ _ _ h => h) (Or.inl ⟨by rfl, ?y8s⟩) (by assumption) ?r8s
          case y8s => (intro w hSw; (try dsimp only at hSw); go_simp; try with_reducible rfl)
          try simp only [Act.put, List.setIfInBounds_toArray, List.set_cons_zero, List.set_cons_succ]
          refine wpAnyH_take (i := 9) (oi := { dst := some 54, op := Op.load 23 (Operand.tmp 53), type := 23, pos := "pipe.go:164", after := #[{ on := 8, ground := Ground.data }], guard := none }) (v := ?v9s) rfl (by kernel_rfl) (by kernel_rfl) (by kernel_rfl) (fun _ _ _ h => h) (Or.inl ⟨by rfl, ?y9s⟩) (by assumption) ?r9s
          case y9s => (intro w hSw; (try dsimp only at hSw); go_simp; try with_reducible rfl)
          try simp only [Act.put, List.setIfInBounds_toArray, List.set_cons_zero, List.set_cons_succ]
          refine wpAnyH_take (i := 10) (oi := { dst := some 55, op := Op.move (Operand.tmp 6), type := 3, pos := "pipe.go:164", after := #[], guard := none }) (v := ?v10s) rfl (by kernel_rfl) (by kernel_rfl) (by kernel_rfl) (fun _ _ _ h => h) (Or.inl ⟨by rfl, ?y10s⟩) (by assumption) ?r10s
          case y10s => (intro w hSw; (try dsimp only at hSw); go_simp; try with_reducible rfl)
          try simp only [Act.put, List.setIfInBounds_toArray, List.set_cons_zero, List.set_cons_succ]
          refine wpAnyH_take (i := 11) (oi := { dst := some 56, op := Op.indexAddr 23 (Operand.tmp 54) (Operand.tmp 55), type := 0, pos := "pipe.go:164", after := #[{ on := 9, ground := Ground.data }, { on := 10, ground := Ground.data }], guard := none }) (v := ?v11s) rfl (by kernel_rfl) (by kernel_rfl) (by kernel_rfl) (fun _ _ _ h => h) (Or.inl ⟨by rfl, ?y11s⟩) (by assumption) ?r11s
          case y11s => (intro w hSw; (try dsimp only at hSw); go_simp; try with_reducible rfl)
          try simp only [Act.put, List.setIfInBounds_toArray, List.set_cons_zero, List.set_cons_succ]
          refine wpAnyH_take (i := 12) (oi := { dst := some 57, op := Op.fieldAddr 39 (Operand.tmp 56) 1, type := 0, pos := "pipe.go:164", after := #[{ on := 11, ground := Ground.data }], guard := none }) (v := ?v12s) rfl (by kernel_rfl) (by kernel_rfl) (by kernel_rfl) (fun _ _ _ h => h) (Or.inl ⟨by rfl, ?y12s⟩) (by assumption) ?r12s
          case y12s => (intro w hSw; (try dsimp only at hSw); go_simp; try with_reducible rfl)
          try simp only [Act.put, List.setIfInBounds_toArray, List.set_cons_zero, List.set_cons_succ]
          refine wpAnyH_take (i := 13) (oi := { dst := some 58, op := Op.load 3 (Operand.tmp 57), type := 3, pos := "pipe.go:164", after := #[{ on := 12, ground := Ground.data }], guard := none }) (v := ?v13s) rfl (by kernel_rfl) (by kernel_rfl) (by kernel_rfl) (fun _ _ _ h => h) (Or.inl ⟨by rfl, ?y13s⟩) (by assumption) ?r13s
          case y13s => (intro w hSw; (try dsimp only at hSw); go_simp; try with_reducible rfl)
          try simp only [Act.put, List.setIfInBounds_toArray, List.set_cons_zero, List.set_cons_succ]
          refine wpAnyH_take (i := 14) (oi := { dst := some 59, op := Op.build 64 #[(0, Operand.tmp 52), (1, Operand.tmp 58), (4, Operand.const (Value.bool true))], type := 64, pos := "pipe.go:164", after := #[{ on := 7, ground := Ground.data }, { on := 13, ground := Ground.data }], guard := none }) (v := ?v14s) rfl (by kernel_rfl) (by kernel_rfl) (by kernel_rfl) (fun _ _ _ h => h) (Or.inl ⟨by rfl, ?y14s⟩) (by assumption) ?r14s
          case y14s => (intro w hSw; (try dsimp only at hSw); go_simp; try with_reducible rfl)
          try simp only [Act.put, List.setIfInBounds_toArray, List.set_cons_zero, List.set_cons_succ]
          refine wpAnyH_ready (rs := [1, 15]) (by kernel_rfl) (by simp) ?_
          refine AllReadyH.cons (o := { dst := some 46, op := Op.load 32 (Operand.tmp 45), type := 32, pos := "pipe.go:164", after := #[{ on := 0, ground := Ground.data }], guard := none }) rfl (fun K hK => ?_) (AllReadyH.cons (o := { dst := some 60, op := Op.buildSlice 32 1 #[(0, Operand.tmp 59)], type := 32, pos := "pipe.go:164", after := #[{ on := 14, ground := Ground.data }], guard := none }) rfl (fun K hK => ?_) AllReadyH.nil)
          · go_simp
            refine hK.out _ _ (unhide HSS _ (unhide HNX).drew) (fun hHeld => ?_)
            clear hK K
            try simp only [Act.put, List.setIfInBounds_toArray, List.set_cons_zero, List.set_cons_succ]
            refine wpAnyH_ready (rs := [15]) (by kernel_rfl) (by simp) ?_
            refine AllReadyH.cons (o := { dst := some 60, op := Op.buildSlice 32 1 #[(0, Operand.tmp 59)], type := 32, pos := "pipe.go:164", after := #[{ on := 14, ground := Ground.data }], guard := none }) rfl (fun K hK => ?_) AllReadyH.nil
            go_simp
            refine hK.out _ _ (unhide HSS _ ((unhide HNX).drew.alloc (Nat.le_of_lt (size_of (unhide HKT))) (.cells #[.int .i64 t, .int .i64 c, .int .i64 0, .bool false, .bool true] 64))) (fun hHeld => ?_)
            clear hK K
            try simp only [Act.put, List.setIfInBounds_toArray, List.set_cons_zero, List.set_cons_succ]
            refine wpAnyH_ready (rs := [16]) (by kernel_rfl) (by simp) ?_
            refine AllReadyH.cons (o := { dst := some 61, op := Op.call { callee := Callee.builtin Builtin.append, args := #[Operand.tmp 46, Operand.tmp 60], argTypes := #[32, 32] }, type := 32, pos := "pipe.go:164", after := #[{ on := 1, ground := Ground.data }, { on := 15, ground := Ground.data }], guard := none }) rfl (fun K hK => ?_) AllReadyH.nil
            (refine step_append kw rfl (.tmp 46) (.tmp 60) rfl T _ (gs.map wkG ++ (ss.take y).map wkS) rfl (by first | exact Own.below (unhide HO) ((Below.refl _ _).alloc (Nat.le_refl _) _) | exact Own.below (unhide HO) ((Below.refl _ _).alloc (Nat.le_refl _) _).drew | exact Own.below (unhide HO) ((Below.refl _ _).drew.alloc (Nat.le_refl _) _)) _ [(t, c, 0, false, true)] rfl (by first | exact isl_one kw wr (t, c, 0, false, true) | exact isl_one kw wr.drew (t, c, 0, false, true) | exact IsL.below (isl_one kw wr (t, c, 0, false, true)) (Below.refl _ _).drew) (j + y + 1) (by have h1 := unhide HN2; have h2 := unhide HN3; simp only [List.length_append, List.length_map, List.length_take, List.length_cons, List.length_nil]; omega) (by show (j + y + 1) * 32 ≤ 140737488355328; omega) (Nat.le_trans (Nat.le_of_lt (size_of (unhide HKT))) (by first | exact Nat.le_refl _ | (simp only [World.size_alloc]; exact Nat.le_succ _) | exact (size_drew_alloc wr _))) ?_; intro b6 d6 w6 ho6 hg6; have HO6 := hide ho6; have HKT6 : Hid (w6.heap[T]? = some (.cells #[.bool true, .bool false, .bool false, .int .i64 0, .int .i64 0, .slice a (j + y) c9] 34)) := (by refine keep_grown ?_ hg6 ?_; exact keep_alloc (unhide HKT) (.cells #[.int .i64 t, .int .i64 c, .int .i64 0, .bool false, .bool true] 64); exact (fun k hk => Own.ne (unhide HO) (unhide HKT) (by decide) k hk)); have HX6 : Hid (Below T W0 w6) := (by refine Below.grown ?_ hg6 ?_ (fun k hk => ((unhide HO).lt k hk).1); (first | exact ((unhide HNX).alloc (by have := size_of (unhide HKT); omega) (.cells #[.int .i64 t, .int .i64 c, .int .i64 0, .bool false, .bool true] 64)) | exact ((unhide HNX).alloc (by have := size_of (unhide HKT); omega) (.cells #[.int .i64 t, .int .i64 c, .int .i64 0, .bool false, .bool true] 64)).drew | exact (unhide HNX).drew.alloc (Nat.le_of_lt (size_of (unhide HKT))) (.cells #[.int .i64 t, .int .i64 c, .int .i64 0, .bool false, .bool true] 64)); exact (Nat.le_trans (Nat.le_of_lt (size_of (unhide HKT))) (by first | exact Nat.le_refl _ | (simp only [World.size_alloc]; exact Nat.le_succ _) | exact (size_drew_alloc wr _)))); obtain ⟨⟨x0', x1', x2', x3', x4', x5'⟩, ⟨xf0', xf1', xf2', xf3', xf4', xf5'⟩, xl'⟩ := block6 (unhide HKT6); clear ho6 hg6)
            refine hK.out _ _ (unhide HSS _ (unhide HX6)) (fun hHeld => ?_)
            clear hK K
            try simp only [Act.put, List.setIfInBounds_toArray, List.set_cons_zero, List.set_cons_succ]
            refine wpAnyH_take (i := 17) (oi := { dst := some 62, op := Op.fieldAddr 34 (Operand.tmp 4) 5, type := 0, pos := "pipe.go:164", after := #[{ on := 0, ground := Ground.phase }, { on := 1, ground := Ground.phase }, { on := 2, ground := Ground.phase }, { on := 3, ground := Ground.phase }, { on := 4, ground := Ground.phase }, { on := 5, ground := Ground.phase }, { on := 6, ground := Ground.phase }, { on := 7, ground := Ground.phase }, { on := 8, ground := Ground.phase }, { on := 9, ground := Ground.phase }, { on := 10, ground := Ground.phase }, { on := 11, ground := Ground.phase }, { on := 12, ground := Ground.phase }, { on := 13, ground := Ground.phase }, { on := 14, ground := Ground.phase }, { on := 15, ground := Ground.phase }, { on := 16, ground := Ground.phase }], guard := none }) (v := ?v17s) rfl (by kernel_rfl) (by kernel_rfl) (by kernel_rfl) (fun _ _ _ h => h) (Or.inl ⟨by rfl, ?y17s⟩) (by assumption) ?r17s
            case y17s => (intro w hSw; (try dsimp only at hSw); go_simp; try with_reducible rfl)
            try simp only [Act.put, List.setIfInBounds_toArray, List.set_cons_zero, List.set_cons_succ]
            refine wpAnyH_ready (rs := [18]) (by kernel_rfl) (by simp) ?_
            refine AllReadyH.cons (o := { dst := none, op := Op.store 32 (Operand.tmp 62) (Operand.tmp 61), type := 0, pos := "pipe.go:164", after := #[{ on := 17, ground := Ground.data }, { on := 16, ground := Ground.data }, { on := 16, ground := Ground.chain }, { on := 0, ground := Ground.phase }, { on := 1, ground := Ground.phase }, { on := 2, ground := Ground.phase }, { on := 3, ground := Ground.phase }, { on := 4, ground := Ground.phase }, { on := 5, ground := Ground.phase }, { on := 6, ground := Ground.phase }, { on := 7, ground := Ground.phase }, { on := 8, ground := Ground.phase }, { on := 9, ground := Ground.phase }, { on := 10, ground := Ground.phase }, { on := 11, ground := Ground.phase }, { on := 12, ground := Ground.phase }, { on := 13, ground := Ground.phase }, { on := 14, ground := Ground.phase }, { on := 15, ground := Ground.phase }, { on := 16, ground := Ground.phase }], guard := none }) rfl (fun K hK => ?_) AllReadyH.nil
            go_simp
            refine hK.out _ _ (unhide HSS _ (below_set (unhide HX6) (Nat.le_refl T) _)) (fun hHeld => ?_)
            clear hK K
            try simp only [Act.put, List.setIfInBounds_toArray, List.set_cons_zero, List.set_cons_succ]
            refine wpAnyH_done (by kernel_rfl) ?_ _
            have KT7 := hide (set_block6 (i := 5) (y := .slice b6 (j + y + 1) d6) (unhide HKT6)); have HX7 := hide (below_set (i := 5) (unhide HX6) (Nat.le_refl T) (.slice b6 (j + y + 1) d6)); have HO7 := hide ((unhide HO6).keep (fun k hk => Below.heap_setCell w6 ⟨T, 5, none⟩ (.slice b6 (j + y + 1) d6) k (by have := Own.ne (unhide HO6) (unhide HKT6) (by decide) k hk; simpa using this)))
            obtain ⟨W7, e7⟩ : ∃ X, w6.setCell ⟨T, 5, none⟩ (.slice b6 (j + y + 1) d6) = X := ⟨_, rfl⟩
            rw [e7] at KT7 HX7 HO7 ⊢
            clear e7 x0' x1' x2' x3' x4' x5' xf0' xf1' xf2' xf3' xf4' xf5' xl' x0 x1 x2 x3 x4 x5 xf0 xf1 xf2 xf3 xf4 xf5 xl p0 p1 p2 p3 p4 pl z5 x5d z5d k0 k1 k2
            simp only [List.setIfInBounds_toArray, List.set_cons_zero, List.set_cons_succ] at KT7
            go_wp2_with fail
            go_roundw
            case rel => exact ⟨y + 1, b6, d6, by omega, by go_num, by have := unhide HO7; rw [unhide HM] at this; exact this, unhide KT7, unhide HX7⟩
            case measure => simp [intOf]; omega
          · go_simp
            refine hK.out _ _ (unhide HSS _ ((unhide HNX).drew.alloc (Nat.le_of_lt (size_of (unhide HKT))) (.cells #[.int .i64 t, .int .i64 c, .int .i64 0, .bool false, .bool true] 64))) (fun hHeld => ?_)
            clear hK K
            try simp only [Act.put, List.setIfInBounds_toArray, List.set_cons_zero, List.set_cons_succ]
            refine wpAnyH_ready (rs := [1]) (by kernel_rfl) (by simp) ?_
            refine AllReadyH.cons (o := { dst := some 46, op := Op.load 32 (Operand.tmp 45), type := 32, pos := "pipe.go:164", after := #[{ on := 0, ground := Ground.data }], guard := none }) rfl (fun K hK => ?_) AllReadyH.nil
            go_simp
            refine hK.out _ _ (unhide HSS _ ((unhide HNX).drew.alloc (Nat.le_of_lt (size_of (unhide HKT))) (.cells #[.int .i64 t, .int .i64 c, .int .i64 0, .bool false, .bool true] 64))) (fun hHeld => ?_)
            clear hK K
            try simp only [Act.put, List.setIfInBounds_toArray, List.set_cons_zero, List.set_cons_succ]
            refine wpAnyH_ready (rs := [16]) (by kernel_rfl) (by simp) ?_
            refine AllReadyH.cons (o := { dst := some 61, op := Op.call { callee := Callee.builtin Builtin.append, args := #[Operand.tmp 46, Operand.tmp 60], argTypes := #[32, 32] }, type := 32, pos := "pipe.go:164", after := #[{ on := 1, ground := Ground.data }, { on := 15, ground := Ground.data }], guard := none }) rfl (fun K hK => ?_) AllReadyH.nil
            (refine step_append kw rfl (.tmp 46) (.tmp 60) rfl T _ (gs.map wkG ++ (ss.take y).map wkS) rfl (by first | exact Own.below (unhide HO) ((Below.refl _ _).alloc (Nat.le_refl _) _) | exact Own.below (unhide HO) ((Below.refl _ _).alloc (Nat.le_refl _) _).drew | exact Own.below (unhide HO) ((Below.refl _ _).drew.alloc (Nat.le_refl _) _)) _ [(t, c, 0, false, true)] rfl (by first | exact isl_one kw wr (t, c, 0, false, true) | exact isl_one kw wr.drew (t, c, 0, false, true) | exact IsL.below (isl_one kw wr (t, c, 0, false, true)) (Below.refl _ _).drew) (j + y + 1) (by have h1 := unhide HN2; have h2 := unhide HN3; simp only [List.length_append, List.length_map, List.length_take, List.length_cons, List.length_nil]; omega) (by show (j + y + 1) * 32 ≤ 140737488355328; omega) (Nat.le_trans (Nat.le_of_lt (size_of (unhide HKT))) (by first | exact Nat.le_refl _ | (simp only [World.size_alloc]; exact Nat.le_succ _) | exact (size_drew_alloc wr _))) ?_; intro b6 d6 w6 ho6 hg6; have HO6 := hide ho6; have HKT6 : Hid (w6.heap[T]? = some (.cells #[.bool true, .bool false, .bool false, .int .i64 0, .int .i64 0, .slice a (j + y) c9] 34)) := (by refine keep_grown ?_ hg6 ?_; exact keep_alloc (unhide HKT) (.cells #[.int .i64 t, .int .i64 c, .int .i64 0, .bool false, .bool true] 64); exact (fun k hk => Own.ne (unhide HO) (unhide HKT) (by decide) k hk)); have HX6 : Hid (Below T W0 w6) := (by refine Below.grown ?_ hg6 ?_ (fun k hk => ((unhide HO).lt k hk).1); (first | exact ((unhide HNX).alloc (by have := size_of (unhide HKT); omega) (.cells #[.int .i64 t, .int .i64 c, .int .i64 0, .bool false, .bool true] 64)) | exact ((unhide HNX).alloc (by have := size_of (unhide HKT); omega) (.cells #[.int .i64 t, .int .i64 c, .int .i64 0, .bool false, .bool true] 64)).drew | exact (unhide HNX).drew.alloc (Nat.le_of_lt (size_of (unhide HKT))) (.cells #[.int .i64 t, .int .i64 c, .int .i64 0, .bool false, .bool true] 64)); exact (Nat.le_trans (Nat.le_of_lt (size_of (unhide HKT))) (by first | exact Nat.le_refl _ | (simp only [World.size_alloc]; exact Nat.le_succ _) | exact (size_drew_alloc wr _)))); obtain ⟨⟨x0', x1', x2', x3', x4', x5'⟩, ⟨xf0', xf1', xf2', xf3', xf4', xf5'⟩, xl'⟩ := block6 (unhide HKT6); clear ho6 hg6)
            refine hK.out _ _ (unhide HSS _ (unhide HX6)) (fun hHeld => ?_)
            clear hK K
            try simp only [Act.put, List.setIfInBounds_toArray, List.set_cons_zero, List.set_cons_succ]
            refine wpAnyH_take (i := 17) (oi := { dst := some 62, op := Op.fieldAddr 34 (Operand.tmp 4) 5, type := 0, pos := "pipe.go:164", after := #[{ on := 0, ground := Ground.phase }, { on := 1, ground := Ground.phase }, { on := 2, ground := Ground.phase }, { on := 3, ground := Ground.phase }, { on := 4, ground := Ground.phase }, { on := 5, ground := Ground.phase }, { on := 6, ground := Ground.phase }, { on := 7, ground := Ground.phase }, { on := 8, ground := Ground.phase }, { on := 9, ground := Ground.phase }, { on := 10, ground := Ground.phase }, { on := 11, ground := Ground.phase }, { on := 12, ground := Ground.phase }, { on := 13, ground := Ground.phase }, { on := 14, ground := Ground.phase }, { on := 15, ground := Ground.phase }, { on := 16, ground := Ground.phase }], guard := none }) (v := ?v17bs) rfl (by kernel_rfl) (by kernel_rfl) (by kernel_rfl) (fun _ _ _ h => h) (Or.inl ⟨by rfl, ?y17bs⟩) (by assumption) ?r17bs
            case y17bs => (intro w hSw; (try dsimp only at hSw); go_simp; try with_reducible rfl)
            try simp only [Act.put, List.setIfInBounds_toArray, List.set_cons_zero, List.set_cons_succ]
            refine wpAnyH_ready (rs := [18]) (by kernel_rfl) (by simp) ?_
            refine AllReadyH.cons (o := { dst := none, op := Op.store 32 (Operand.tmp 62) (Operand.tmp 61), type := 0, pos := "pipe.go:164", after := #[{ on := 17, ground := Ground.data }, { on := 16, ground := Ground.data }, { on := 16, ground := Ground.chain }, { on := 0, ground := Ground.phase }, { on := 1, ground := Ground.phase }, { on := 2, ground := Ground.phase }, { on := 3, ground := Ground.phase }, { on := 4, ground := Ground.phase }, { on := 5, ground := Ground.phase }, { on := 6, ground := Ground.phase }, { on := 7, ground := Ground.phase }, { on := 8, ground := Ground.phase }, { on := 9, ground := Ground.phase }, { on := 10, ground := Ground.phase }, { on := 11, ground := Ground.phase }, { on := 12, ground := Ground.phase }, { on := 13, ground := Ground.phase }, { on := 14, ground := Ground.phase }, { on := 15, ground := Ground.phase }, { on := 16, ground := Ground.phase }], guard := none }) rfl (fun K hK => ?_) AllReadyH.nil
            go_simp
            refine hK.out _ _ (unhide HSS _ (below_set (unhide HX6) (Nat.le_refl T) _)) (fun hHeld => ?_)
            clear hK K
            try simp only [Act.put, List.setIfInBounds_toArray, List.set_cons_zero, List.set_cons_succ]
            refine wpAnyH_done (by kernel_rfl) ?_ _
            have KT7 := hide (set_block6 (i := 5) (y := .slice b6 (j + y + 1) d6) (unhide HKT6)); have HX7 := hide (below_set (i := 5) (unhide HX6) (Nat.le_refl T) (.slice b6 (j + y + 1) d6)); have HO7 := hide ((unhide HO6).keep (fun k hk => Below.heap_setCell w6 ⟨T, 5, none⟩ (.slice b6 (j + y + 1) d6) k (by have := Own.ne (unhide HO6) (unhide HKT6) (by decide) k hk; simpa using this)))
            obtain ⟨W7, e7⟩ : ∃ X, w6.setCell ⟨T, 5, none⟩ (.slice b6 (j + y + 1) d6) = X := ⟨_, rfl⟩
            rw [e7] at KT7 HX7 HO7 ⊢
            clear e7 x0' x1' x2' x3' x4' x5' xf0' xf1' xf2' xf3' xf4' xf5' xl' x0 x1 x2 x3 x4 x5 xf0 xf1 xf2 xf3 xf4 xf5 xl p0 p1 p2 p3 p4 pl z5 x5d z5d k0 k1 k2
            simp only [List.setIfInBounds_toArray, List.set_cons_zero, List.set_cons_succ] at KT7
            go_wp2_with fail
            go_roundw
            case rel => exact ⟨y + 1, b6, d6, by omega, by go_num, by have := unhide HO7; rw [unhide HM] at this; exact this, unhide KT7, unhide HX7⟩
            case measure => simp [intOf]; omega
        · have hyn : y = n2 := by omega
          subst hyn
          have hg : ss.take y = ss := List.take_of_length_le (by rw [unhide HN2]; exact Nat.le_refl _)
          rw [hg] at HO
          have HKr := hide (keep_at (unhide Kr) (unhide HNX) (show w.heap.size + 1 < T by have := unhide HLT; omega)); have HKs := hide (keep_at (unhide Ks) (unhide HNX) (show w.heap.size + 1 + 1 < T by have := unhide HLT; omega)); have HKq := hide (keep_at (unhide Kp) (unhide HNX) (show w.heap.size < T by have := unhide HLT; omega))
          have HXv : Hid (Below w.heap.size w wr) := (unhide HB).trans ((unhide HNX).mono (show w.heap.size ≤ T by have := unhide HLT; omega))
          clear hg H2
          obtain ⟨m4, em4⟩ : ∃ m, j + y = m := ⟨_, rfl⟩
          rw [em4] at HO HKT
          have hLT := unhide HLT
          have u0 : T ≠ w.heap.size + 1 := by omega
          have u1 : w.heap.size + 1 ≠ T := by omega
          have u2 : T ≠ w.heap.size + 1 + 1 := by omega
          have u3 : w.heap.size + 1 + 1 ≠ T := by omega
          have u4 : T ≠ w.heap.size := by omega
          have u5 : w.heap.size ≠ T := by omega
          obtain ⟨⟨p0, p1, p2, p3, p4⟩, ⟨pf0, pf1, pf2, pf3, pf4⟩, pl⟩ := block5 (unhide HKq)
          obtain ⟨⟨q0, q1, q2, q3, q4⟩, ⟨qf0, qf1, qf2, qf3, qf4⟩, ql⟩ := block5 (unhide HKr)
          obtain ⟨⟨s0, s1, s2, s3, s4, s5⟩, ⟨sf0, sf1, sf2, sf3, sf4, sf5⟩, sl⟩ := block6 (unhide HKs)
          obtain ⟨⟨x0, x1, x2, x3, x4, x5⟩, ⟨xf0, xf1, xf2, xf3, xf4, xf5⟩, xl⟩ := block6 (unhide HKT)
          go_wp2_with fail
          go_region
          obtain ⟨Wf, ef⟩ : ∃ W, (put6 (put5 wr (w.heap.size + 1) (.int .i64 cap) (.slice a1 n1 c1) (.bool true) (.slice none 0 0) (.slice none 0 0)) (w.heap.size + 1 + 1) (.bool true) (.bool false) (.bool false) (.int .i64 0) (.int .i64 0) (.slice a m4 c9)).drew = W := ⟨_, rfl⟩
          have H5 := hide (keep_below ((put6_keep (y0 := .bool true) (y1 := .bool false) (y2 := .bool false) (y3 := .int .i64 0) (y4 := .int .i64 0) (y5 := .slice a m4 c9) (show w.heap.size + 1 ≠ w.heap.size + 1 + 1 by omega)).trans (put5_new (y0 := .int .i64 cap) (y1 := .slice a1 n1 c1) (y2 := .bool true) (y3 := .slice none 0 0) (y4 := .slice none 0 0) (unhide HKr))) (Below.refl _ _).drew)
          have H6 := hide (keep_below (put6_new (y0 := .bool true) (y1 := .bool false) (y2 := .bool false) (y3 := .int .i64 0) (y4 := .int .i64 0) (y5 := .slice a m4 c9) ((put5_keep (y0 := .int .i64 cap) (y1 := .slice a1 n1 c1) (y2 := .bool true) (y3 := .slice none 0 0) (y4 := .slice none 0 0) (show w.heap.size + 1 + 1 ≠ w.heap.size + 1 by omega)).trans (unhide HKs))) (Below.refl _ _).drew)
          have HBf : Hid (Below w.heap.size w (put6 (put5 wr (w.heap.size + 1) (.int .i64 cap) (.slice a1 n1 c1) (.bool true) (.slice none 0 0) (.slice none 0 0)) (w.heap.size + 1 + 1) (.bool true) (.bool false) (.bool false) (.int .i64 0) (.int .i64 0) (.slice a m4 c9)).drew) := (put6_below (put5_below (unhide HXv) (by omega)) (by omega)).drew
          have HKf : Hid (∀ k, k ≠ w.heap.size + 1 → k ≠ w.heap.size + 1 + 1 → ((put6 (put5 wr (w.heap.size + 1) (.int .i64 cap) (.slice a1 n1 c1) (.bool true) (.slice none 0 0) (.slice none 0 0)) (w.heap.size + 1 + 1) (.bool true) (.bool false) (.bool false) (.int .i64 0) (.int .i64 0) (.slice a m4 c9)).drew).heap[k]? = wr.heap[k]?) := fun k h5 h6 => (drew_at _ k).trans ((put6_keep h6).trans (put5_keep h5))
          rw [ef] at H5 H6 HBf HKf
          have ef2 : ((((((((((((wr).setCell ⟨w.heap.size + 1, 0, none⟩ (.int .i64 cap)).setCell ⟨w.heap.size + 1, 1, none⟩ (.slice a1 n1 c1)).setCell ⟨w.heap.size + 1, 2, none⟩ (.bool true)).setCell ⟨w.heap.size + 1, 3, none⟩ (.slice none 0 0)).setCell ⟨w.heap.size + 1, 4, none⟩ (.slice none 0 0)).setCell ⟨w.heap.size + 1 + 1, 0, none⟩ (.bool true)).setCell ⟨w.heap.size + 1 + 1, 1, none⟩ (.bool false)).setCell ⟨w.heap.size + 1 + 1, 2, none⟩ (.bool false)).setCell ⟨w.heap.size + 1 + 1, 3, none⟩ (.int .i64 0)).setCell ⟨w.heap.size + 1 + 1, 4, none⟩ (.int .i64 0)).setCell ⟨w.heap.size + 1 + 1, 5, none⟩ (.slice a m4 c9)).drew = Wf := ef
          rw [ef2]
          clear ef ef2
          clear p0 p1 p2 p3 p4 pf0 pf1 pf2 pf3 pf4 pl q0 q1 q2 q3 q4 qf0 qf1 qf2 qf3 qf4 ql s0 s1 s2 s3 s4 s5 sf0 sf1 sf2 sf3 sf4 sf5 sl x0 x1 x2 x3 x4 x5 xf0 xf1 xf2 xf3 xf4 xf5 xl
          obtain ⟨⟨q0, q1, q2, q3, q4⟩, -, -⟩ := block5 (unhide H5)
          obtain ⟨⟨s0, s1, s2, s3, s4, s5⟩, -, -⟩ := block6 (unhide H6)
          go_wp2_with fail
          refine bodyPost_ret (v := .tuple #[.agg #[.int .i64 cap, .slice a1 n1 c1, .bool true, .slice none 0 0, .slice none 0 0], .agg #[.bool true, .bool false, .bool false, .int .i64 0, .int .i64 0, .slice a m4 c9]]) (by simp [results, Try.results24, go_sem, q0, q1, q2, q3, q4, s0, s1, s2, s3, s4, s5]) rfl ⟨_, _, rfl, ⟨_, _, _, rfl, (unhide HI).below (unhide HBf), isl_nil _, isl_nil _⟩, ⟨_, rfl, ((unhide HO).keep (fun k hk => unhide HKf k (Own.ne (unhide HO) (unhide HKr) (by decide) k hk) (Own.ne (unhide HO) (unhide HKs) (by decide) k hk))).isl⟩, unhide HBf⟩

theorem closing_any (w : World) (v : Value) (P : Pp) (h : IsPipe w v P) (hc : countP P ≤ 6000) :
    Calls Try.prog 24 #[v] w fun e w' => ∃ v1 v2, e = .returned (.tuple #[v1, v2]) ∧ IsPipe w' v1 (shutL P).1 ∧ IsAns w' v2 (shutL P).2 ∧ Below w.heap.size w w' := by
  unfold shutL
  cases hy : P.closed with
  | true => exact closing_closed w v P h hc hy
  | false => exact closing_open w v P h hc hy

set_option maxRecDepth 100000 in
set_option maxHeartbeats 1000000 in
theorem gone_any (w : World) (v : Value) (xs : List Po) (x : Int) (h : IsL KP w v xs) (hn : xs.length * 24 ≤ 140737488355328) :
    Calls Try.prog 27 #[v, .int .i64 x] w fun e w' => ∃ a c, e = .returned (.slice a (leftL (isOfP x) xs).length c) ∧ IsL KP w' (.slice a (leftL (isOfP x) xs).length c) (leftL (isOfP x) xs) ∧ Below w.heap.size w w' := by
  obtain ⟨a0, c0, rfl⟩ := h.form
  have H0 := hide (h.opens kp rfl)
  obtain ⟨n, en⟩ : ∃ n, xs.length = n := ⟨_, rfl⟩
  rw [en] at H0 hn ⊢
  have HN := hide en
  clear h en
  go_enter Try.func27, Try.ntmps27
  go_wp2
  go_loopw [5, 6] (fun s i wr => ∃ (j m : Nat) (a : Option Addr) (c : Nat), j ≤ n ∧ m ≤ j ∧ s = .slice a m c ∧ i = .int .i64 j ∧ m = (leftL (isOfP x) (xs.take j)).length ∧ Own KP w.heap.size wr (.slice a m c) (leftL (isOfP x) (xs.take j)) ∧ Below w.heap.size w wr) (fun _ i _ => n - (intOf i).toNat)
  case atStart => exact ⟨0, 0, none, 0, Nat.zero_le _, Nat.le_refl _, rfl, rfl, rfl, own_nil _ _, Below.refl _ _⟩
  case round =>
    obtain ⟨j, m, a, c, hj, hmj, rfl, rfl, hm, ho, hnx⟩ := hrel
    have HO := hide ho; have HX := hide hnx; have HM := hide hm
    clear ho hm
    by_cases hlt : j < n
    · obtain ⟨b0, o0, rfl, hb0, l0⟩ := unhide H0 (by omega)
      obtain ⟨⟨t, d, u⟩, hx⟩ : ∃ y, xs.getD j (0, 0, 0) = y := ⟨_, rfl⟩
      obtain ⟨k0, k1, k2⟩ := (l0.below hnx hb0).post (j := j) (by rw [unhide HN]; exact hlt) hx
      have HL := hide (left_take (p := isOfP x) (xs := xs) (j := j) (by rw [unhide HN]; exact hlt))
      have hx' : pAt xs j = (t, d, u) := hx
      rw [hx'] at HL
      have i0 : (0 : Int) ≤ (j : Int) := by omega
      have i1 : (j : Int) < (n : Int) := by omega
      clear hx hx' l0 hnx H0
      by_cases htx : t = x
      · subst htx
        have HL2 : Hid (leftL (isOfP t) (xs.take (j + 1)) = leftL (isOfP t) (xs.take j)) := (unhide HL).trans (by rw [if_pos (by simp [isOfP]), List.append_nil])
        clear HL
        go_wp2_with fail
        go_roundw
        case rel => exact ⟨j + 1, m, a, c, by omega, by omega, rfl, by go_num, by rw [unhide HL2]; exact unhide HM, by rw [unhide HL2]; exact unhide HO, unhide HX⟩
        case measure => simp [intOf]; omega
      · have HL2 : Hid (leftL (isOfP x) (xs.take (j + 1)) = leftL (isOfP x) (xs.take j) ++ [(t, d, u)]) := (unhide HL).trans (by rw [if_neg (by simp [isOfP]; exact htx)])
        have htx1 : (t != x) = true := by simpa using htx
        clear HL
        go_wp2_with (at_builtin; refine wpList_append kp rfl (.tmp 20) (.tmp 25) rfl w.heap.size _ (leftL (isOfP x) (xs.take j)) rfl ((unhide HO).below ((Below.refl _ _).alloc (Nat.le_refl _) _)) _ [(t, d, u)] rfl (isl_one kp wr (t, d, u)) (m + 1) (by rw [← unhide HM]; rfl) (by show (m + 1) * 24 ≤ 140737488355328; omega) (by have h1 := (unhide HX).size; simp only [World.size_alloc]; omega) ?_; intro b6 d6 w4 ho6 hg6; have HO4 := hide ho6; have HX4 : Hid (Below w.heap.size w w4) := ((unhide HX).alloc (unhide HX).size (.cells #[.int .i64 t, .int .i64 d, .int .i64 u] 39)).grown hg6 ((unhide HX).alloc (unhide HX).size (.cells #[.int .i64 t, .int .i64 d, .int .i64 u] 39)).size (fun k hk => ((unhide HO).lt k hk).1); clear ho6 hg6)
        go_roundw
        case rel => exact ⟨j + 1, m + 1, b6, d6, by omega, by omega, rfl, by go_num, by rw [unhide HL2, List.length_append, ← unhide HM]; rfl, by rw [unhide HL2]; exact unhide HO4, unhide HX4⟩
        case measure => simp [intOf]; omega
    · have hjn : j = n := by omega
      subst hjn
      have hg : xs.take j = xs := List.take_of_length_le (by rw [unhide HN]; exact Nat.le_refl _)
      rw [hg] at HO HM
      have hm := unhide HM
      clear hnx
      go_wp2_with fail
      go_ret
      rw [← hm]
      exact ⟨_, _, rfl, (unhide HO).isl, unhide HX⟩
end Go.Proofs.Ytijogcjocandcaa
