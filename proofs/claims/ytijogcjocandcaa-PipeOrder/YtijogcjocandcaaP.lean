/-
  pipe.send to a getter.
-/
import Derived.Test.YtijogcjocandcaaO
namespace Go.Proofs.Ytijogcjocandcaa
open Go.RowKit

theorem put5_new {w : World} {R : Nat} {x0 x1 x2 x3 x4 y0 y1 y2 y3 y4 : Value} {t : TypeId} (h : w.heap[R]? = some (.cells #[x0, x1, x2, x3, x4] t (0, 0))) : (put5 w R y0 y1 y2 y3 y4).heap[R]? = some (.cells #[y0, y1, y2, y3, y4] t (0, 0)) := by
  unfold put5
  simp [World.setCell, Array.getElem?_modify, h]
theorem put6_new {w : World} {R : Nat} {x0 x1 x2 x3 x4 x5 y0 y1 y2 y3 y4 y5 : Value} {t : TypeId} (h : w.heap[R]? = some (.cells #[x0, x1, x2, x3, x4, x5] t (0, 0))) : (put6 w R y0 y1 y2 y3 y4 y5).heap[R]? = some (.cells #[y0, y1, y2, y3, y4, y5] t (0, 0)) := by
  unfold put6
  simp [World.setCell, Array.getElem?_modify, h]
theorem isl_put {α : Type} {K : Kind α} (hK : K.Ok) (W V : World) (S : Nat) (x : α) (hS : V.heap.size = S) (hW : S = W.heap.size) : IsL K (V.alloc (.cells (K.f x).toArray K.e)).drew (.slice (some ⟨W.heap.size, 0, none⟩) 1 1) [x] := by
  subst hW
  rw [← hS]
  exact (isl_one hK V x).below (Below.refl _ _).drew
theorem post_first {w : World} {b off : Nat} {xs : List Po} (h : Lies KP w b off xs) (hn : 0 < xs.length) {t c v : Int} (he : pAt xs 0 = (t, c, v)) :
    w.cell? ⟨b, off, none⟩ = some (.int .i64 t) ∧ w.cell? ⟨b, off + 1, none⟩ = some (.int .i64 c) ∧ w.cell? ⟨b, off + 2, none⟩ = some (.int .i64 v) := by
  have := h.post hn he
  simpa using this

set_option maxRecDepth 100000 in
set_option maxHeartbeats 1000000 in
theorem send_getter (w : World) (base : Nat) (v : Value) (P : Pp) (t c u : Int) (try_ : Bool) (h : OwnPipe base w v P) (hb : base ≤ w.heap.size) (hc : countP P ≤ 5000) (hy : P.closed = false) (hz3 : 0 < P.gs.length) :
    Calls Try.prog 38 #[v, .agg #[.int .i64 t, .int .i64 c, .int .i64 u], .bool try_] w fun e w' => ∃ v1 v2, e = .returned (.tuple #[v1, v2]) ∧ NewPipe base w' v1 { P with gs := P.gs.drop 1 } ∧ NewAns base w' v2 ⟨true, false, false, 0, 0, [((pAt P.gs 0).1, (pAt P.gs 0).2.1, u, true, false)]⟩ ∧ Below base w w' := by
  obtain ⟨cap, items, closed, ss, gs⟩ := P
  obtain ⟨vi, vs, vg, rfl, hI, hS, hG, hA1, hA2, hA3⟩ := h
  obtain ⟨a1, c1, rfl⟩ := hI.form
  obtain ⟨a2, c2, rfl⟩ := hS.form
  obtain ⟨a3, c3, rfl⟩ := hG.form
  obtain ⟨b0, o0, c3', ev, hb0, hl0⟩ := hG.isl.at kp hz3
  cases ev
  have hc' : items.length + ss.length + gs.length ≤ 5000 := hc
  clear hc
  simp only at hI hS hG hA1 hA2 hA3 hy hz3 ⊢
  have HBA := hide hb
  subst hy
  obtain ⟨⟨t0, c0, w0'⟩, hx⟩ : ∃ x, pAt gs 0 = x := ⟨_, rfl⟩
  rw [hx]
  have HPF := hide (post_first hl0 hz3 hx)
  have HCF := hide hG.isl.fits
  clear hx hl0
  have HI := hide hI; have HS := hide hS; have HG := hide hG; have HA1 := hide hA1; have HA2 := hide hA2; have HA3 := hide hA3
  clear hI hS hG hA1 hA2 hA3 hb
  obtain ⟨n1, en1⟩ : ∃ n, items.length = n := ⟨_, rfl⟩
  obtain ⟨n2, en2⟩ : ∃ n, ss.length = n := ⟨_, rfl⟩
  obtain ⟨n3, en3⟩ : ∃ n, gs.length = n := ⟨_, rfl⟩
  rw [en1] at HI HA1 HA2; rw [en2] at HS HA1 HA3; rw [en3] at HG HA2 HA3 HCF
  rw [en1, en2, en3] at hc'
  rw [en3] at hz3
  rw [en1, en2, en3]
  have HN1 := hide en1; have HN2 := hide en2; have HN3 := hide en3
  clear en1 en2 en3
  have z3 : (0 : Int) < (n3 : Int) := by omega
  obtain ⟨W0, e0, hB, k0, k1, k2, k3⟩ := four_new w (.cells #[.int .i64 cap, .slice a1 n1 c1, .bool false, .slice a2 n2 c2, .slice (some ⟨b0, o0, none⟩) n3 c3] 25) (.cells #[.int .i64 t, .int .i64 c, .int .i64 u] 39) (.cells #[.int .i64 0, .slice none 0 0, .bool false, .slice none 0 0, .slice none 0 0] 25) (.cells #[.bool false, .bool false, .bool false, .int .i64 0, .int .i64 0, .slice none 0 0] 34)
  have HB := hide hB; have HK0 := hide k0; have HK1 := hide k1; have HK2 := hide k2; have HK3 := hide k3; have HE := hide e0
  clear hB k0 k1 k2 k3 e0
  go_enter Try.func38, Try.ntmps38
  go_upto_region 1 with fail
  rw [unhide HE]
  clear HE
  obtain ⟨⟨p0, p1, p2, p3, p4⟩, ⟨y0, y1, y2, y3, y4⟩, pl⟩ := block5 (unhide HK0)
  obtain ⟨⟨m0, m1, m2⟩, -, ml⟩ := block3 (unhide HK1)
  obtain ⟨⟨q0, q1, q2, q3, q4⟩, ⟨f0, f1, f2, f3, f4⟩, ql⟩ := block5 (unhide HK2)
  obtain ⟨⟨s0, s1, s2, s3, s4, s5⟩, ⟨g0, g1, g2, g3, g4, g5⟩, sl⟩ := block6 (unhide HK3)
  obtain ⟨h0, h1, h2⟩ := unhide HPF
  have j0 : W0.cell? ⟨b0, o0, none⟩ = some (.int .i64 t0) := ((unhide HB).cell (p := ⟨b0, o0, none⟩) hb0).trans h0
  have j1 : W0.cell? ⟨b0, o0 + 1, none⟩ = some (.int .i64 c0) := ((unhide HB).cell (p := ⟨b0, o0 + 1, none⟩) hb0).trans h1
  have j2 : W0.cell? ⟨b0, o0 + 2, none⟩ = some (.int .i64 w0') := ((unhide HB).cell (p := ⟨b0, o0 + 2, none⟩) hb0).trans h2
  clear h0 h1 h2
  go_upto_region 4 with fail
  have HSS : Hid (∀ W, Below W0.heap.size W0 W → (W.cell? ⟨w.heap.size, 4, none⟩ = some (.slice (some ⟨b0, o0, none⟩) n3 c3) ∧ W.cell? ⟨w.heap.size + 1, 2, none⟩ = some (.int .i64 u) ∧ W.cell? ⟨b0, o0, none⟩ = some (.int .i64 t0) ∧ W.cell? ⟨b0, o0 + 1, none⟩ = some (.int .i64 c0) ∧ W.cell? ⟨b0, o0 + 2, none⟩ = some (.int .i64 w0')) ∧ Below W0.heap.size W0 W) := fun W hW => by
    obtain ⟨⟨-, -, -, -, k4⟩, -, -⟩ := block5 (keep_below (unhide HK0) hW)
    obtain ⟨⟨-, -, l2⟩, -, -⟩ := block3 (keep_below (unhide HK1) hW)
    have hb1 : b0 < W0.heap.size := Nat.lt_of_lt_of_le hb0 (unhide HB).size
    exact ⟨⟨k4, l2, (hW.cell (p := ⟨b0, o0, none⟩) hb1).trans j0, (hW.cell (p := ⟨b0, o0 + 1, none⟩) hb1).trans j1, (hW.cell (p := ⟨b0, o0 + 2, none⟩) hb1).trans j2⟩, hW⟩
  have HAD := hide (((Below.refl W0.heap.size W0).alloc (Nat.le_refl _) (.cells #[.int .i64 0, .int .i64 0, .int .i64 0, .bool false, .bool false] 64)).drew)
  clear p0 p1 p2 p3 p4 y0 y1 y2 y3 y4 pl m0 m1 m2 ml q0 q1 q2 q3 q4 f0 f1 f2 f3 f4 ql s0 s1 s2 s3 s4 s5 g0 g1 g2 g3 g4 g5 sl
  obtain ⟨⟨p4, m2, j0', j1', j2'⟩, -⟩ := unhide HSS _ (Below.refl _ _)
  clear j0' j1' j2'
  go_region_held3 (fun W => (W.cell? ⟨w.heap.size, 4, none⟩ = some (.slice (some ⟨b0, o0, none⟩) n3 c3) ∧ W.cell? ⟨w.heap.size + 1, 2, none⟩ = some (.int .i64 u) ∧ W.cell? ⟨b0, o0, none⟩ = some (.int .i64 t0) ∧ W.cell? ⟨b0, o0 + 1, none⟩ = some (.int .i64 c0) ∧ W.cell? ⟨b0, o0 + 2, none⟩ = some (.int .i64 w0')) ∧ Below W0.heap.size W0 W)
    (first | with_reducible exact unhide HSS _ (Below.refl _ _).drew | with_reducible exact unhide HSS _ (unhide HAD) | with_reducible exact unhide HSS _ (unhide HX5) | with_reducible exact unhide HSS _ ((unhide HX5).alloc (unhide HX5).size _) | exact unhide HSS _ (put5_below (unhide HX5) (Nat.le_refl _)) | exact unhide HSS _ (put5_below ((unhide HX5).alloc (unhide HX5).size _) (unhide HX5).size))
    (first
      | (go_at_call 51; refine (woken_any _ t0 c0 w0' 0 0 u true false).mono ?_; rintro e w5 ⟨rfl, hb5⟩; have HX5 : Hid (Below W0.heap.size W0 w5) := Below.next (by go_split_ands; assumption) hb5 (Nat.le_refl _); (first | (have hx5 : w5.heap[W0.heap.size]? = some (.cells #[.int .i64 0, .int .i64 0, .int .i64 0, .bool false, .bool false] 64) := keep_below (w := (World.alloc W0 (.cells #[.int .i64 0, .int .i64 0, .int .i64 0, .bool false, .bool false] 64)).drew) (new_block W0 (.cells #[.int .i64 0, .int .i64 0, .int .i64 0, .bool false, .bool false] 64)) hb5; obtain ⟨⟨x0, x1, x2, x3, x4⟩, ⟨z0, z1, z2, z3', z4⟩, xl⟩ := block5 hx5; have HX6 := hide hx5; clear hx5) | skip); clear hb5))
  · have HX : Hid (Below W0.heap.size W0 (w5.alloc (.cells #[.int .i64 t0, .int .i64 c0, .int .i64 u, .bool true, .bool false] 64))) := (unhide HX5).alloc (unhide HX5).size _
    have HT : Hid ((w5.alloc (.cells #[.int .i64 t0, .int .i64 c0, .int .i64 u, .bool true, .bool false] 64)).heap[w5.heap.size]? = some (.cells #[.int .i64 t0, .int .i64 c0, .int .i64 u, .bool true, .bool false] 64 (0, 0))) := new_block w5 (.cells #[.int .i64 t0, .int .i64 c0, .int .i64 u, .bool true, .bool false] 64)
    obtain ⟨W6, e6⟩ : ∃ W, w5.alloc (.cells #[.int .i64 t0, .int .i64 c0, .int .i64 u, .bool true, .bool false] 64) = W := ⟨_, rfl⟩
    have e6' : w5.alloc (.cells #[.int .i64 t0, .int .i64 c0, .int .i64 u, .bool true, .bool false] 64) = W6 := e6
    rw [e6'] at HX HT
    rw [e6]
    clear e6 e6'
    obtain ⟨T, eT⟩ : ∃ T, T = w5.heap.size := ⟨_, rfl⟩
    rw [← eT] at HT ⊢
    have HTl : Hid (W0.heap.size ≤ T) := by rw [eT]; exact (unhide HX5).size
    clear eT
    have HB6 := hide (Below.next (unhide HB) (unhide HX) (Nat.le_refl _))
    have K0 := hide (keep_below (unhide HK0) (unhide HX)); have K2 := hide (keep_below (unhide HK2) (unhide HX)); have K3 := hide (keep_below (unhide HK3) (unhide HX))
    clear p4 m2 j0 j1 j2
    obtain ⟨⟨p0, p1, p2, p3, p4⟩, ⟨y0, y1, y2, y3, y4⟩, pl⟩ := block5 (unhide K0)
    have i1 : (1 : Int) ≤ (n3 : Int) := by omega
    have i2 : (n3 : Int) ≤ (c3 : Int) := by have := unhide HCF; omega
    go_upto_region 6 with fail
    obtain ⟨A, hA⟩ : ∃ A, A = (if c3 = 1 then some ⟨b0, o0, none⟩ else some ⟨b0, o0 + 3, none⟩ : Option Addr) := ⟨_, rfl⟩
    rw [← hA]
    have HNW : Hid (∀ W, Below w.heap.size w W → New KP base W (.slice A (n3 - 1) (c3 - 1)) (gs.drop 1)) := fun W hW => ⟨IsL.drop_if kp ((unhide HG).below hW).isl (p := 1) (by omega) hA, fun k hk => by
      have hb9 := ((unhide HG).lt b0 rfl).1
      have : k = b0 := by
        rw [hA] at hk
        split at hk <;> · simp [Value.ownBlock] at hk; exact hk.symm
      omega⟩
    have hTn : T ≠ w.heap.size := by have := unhide HTl; have := (block5 (unhide HK0)).2.2; omega
    have K0b := hide (set_block5 (i := 4) (y := .slice A (n3 - 1) (c3 - 1)) (unhide K0))
    have K2b := hide (keep_set (g := w.heap.size) (o := 4) (v := .slice A (n3 - 1) (c3 - 1)) (unhide K2) (by omega))
    have K3b := hide (keep_set (g := w.heap.size) (o := 4) (v := .slice A (n3 - 1) (c3 - 1)) (unhide K3) (by omega))
    have KTb := hide (keep_set (g := w.heap.size) (o := 4) (v := .slice A (n3 - 1) (c3 - 1)) (unhide HT) hTn)
    have HB7 := hide (below_set (i := 4) (unhide HB6) (Nat.le_refl _) (.slice A (n3 - 1) (c3 - 1)))
    obtain ⟨W7, e7⟩ : ∃ W, W6.setCell ⟨w.heap.size, 4, none⟩ (.slice A (n3 - 1) (c3 - 1)) = W := ⟨_, rfl⟩
    rw [e7] at K0b K2b K3b KTb HB7 ⊢
    clear e7 hA i1 i2 p0 p1 p2 p3 p4 y0 y1 y2 y3 y4 pl K0 K2 K3 HT HX HB6 HX5 hTn
    simp only [List.setIfInBounds_toArray, List.set_cons_zero, List.set_cons_succ] at K0b
    have HIO := hide (isl_one kw W7 (t0, c0, u, true, false))
    have u0' := True.intro
    clear u0'
    have KA2 := hide (keep_alloc (unhide K2b) (.cells #[.int .i64 t0, .int .i64 c0, .int .i64 u, .bool true, .bool false] 64)); have KA3 := hide (keep_alloc (unhide K3b) (.cells #[.int .i64 t0, .int .i64 c0, .int .i64 u, .bool true, .bool false] 64))
    obtain ⟨⟨p0, p1, p2, p3, p4⟩, -, pl⟩ := block5 (unhide K0b)
    obtain ⟨⟨v0, v1, v2, v3, v4⟩, -, vl⟩ := block5 (unhide KTb)
    obtain ⟨⟨q0, q1, q2, q3, q4⟩, ⟨f0, f1, f2, f3, f4⟩, ql⟩ := block5 (unhide K2b)
    obtain ⟨⟨s0, s1, s2, s3, s4, s5⟩, ⟨g0, g1, g2, g3, g4, g5⟩, sl⟩ := block6 (unhide K3b)
    obtain ⟨n4, e4⟩ : ∃ n, n3 - 1 = n := ⟨_, rfl⟩
    rw [e4] at HNW p4 ⊢
    obtain ⟨c4, e5⟩ : ∃ n, c3 - 1 = n := ⟨_, rfl⟩
    rw [e5] at HNW p4 ⊢
    clear e4 e5
    have hT6 : w.heap.size + 1 + 1 + 1 < T := by have := unhide HTl; have := (block6 (unhide HK3)).2.2; omega
    have u0 : T ≠ w.heap.size + 1 + 1 := by omega
    have u1 : w.heap.size + 1 + 1 ≠ T := by omega
    have u2 : T ≠ w.heap.size + 1 + 1 + 1 := by omega
    have u3 : w.heap.size + 1 + 1 + 1 ≠ T := by omega
    have u4 : W7.heap.size ≠ w.heap.size + 1 + 1 := by omega
    have u5 : w.heap.size + 1 + 1 ≠ W7.heap.size := by omega
    have u6 : W7.heap.size ≠ w.heap.size + 1 + 1 + 1 := by omega
    have u7 : w.heap.size + 1 + 1 + 1 ≠ W7.heap.size := by omega
    clear hT6
    go_wp2_with fail
    go_region
    all_goals (
      obtain ⟨Wf, ef⟩ : ∃ W, ((put6 (put5 W7 (w.heap.size + 1 + 1) (.int .i64 cap) (.slice a1 n1 c1) (.bool false) (.slice a2 n2 c2) (.slice A n4 c4)) (w.heap.size + 1 + 1 + 1) (.bool true) (.bool false) (.bool false) (.int .i64 0) (.int .i64 0) (.slice (some ⟨W7.heap.size, 0, none⟩) 1 1)).alloc (.cells #[.int .i64 t0, .int .i64 c0, .int .i64 u, .bool true, .bool false] 64)).drew = W := ⟨_, rfl⟩
      have H5 := hide (keep_below (keep_alloc ((put6_keep (y0 := .bool true) (y1 := .bool false) (y2 := .bool false) (y3 := .int .i64 0) (y4 := .int .i64 0) (y5 := .slice (some ⟨W7.heap.size, 0, none⟩) 1 1) (show w.heap.size + 1 + 1 ≠ w.heap.size + 1 + 1 + 1 by omega)).trans (put5_new (y0 := .int .i64 cap) (y1 := .slice a1 n1 c1) (y2 := .bool false) (y3 := .slice a2 n2 c2) (y4 := .slice A n4 c4) (unhide K2b))) (.cells #[.int .i64 t0, .int .i64 c0, .int .i64 u, .bool true, .bool false] 64)) (Below.refl _ _).drew)
      have H6 := hide (keep_below (keep_alloc (put6_new (y0 := .bool true) (y1 := .bool false) (y2 := .bool false) (y3 := .int .i64 0) (y4 := .int .i64 0) (y5 := .slice (some ⟨W7.heap.size, 0, none⟩) 1 1) ((put5_keep (y0 := .int .i64 cap) (y1 := .slice a1 n1 c1) (y2 := .bool false) (y3 := .slice a2 n2 c2) (y4 := .slice A n4 c4) (show w.heap.size + 1 + 1 + 1 ≠ w.heap.size + 1 + 1 by omega)).trans (unhide K3b))) (.cells #[.int .i64 t0, .int .i64 c0, .int .i64 u, .bool true, .bool false] 64)) (Below.refl _ _).drew)
      have HIf := hide (isl_put kw W7 (put6 (put5 W7 (w.heap.size + 1 + 1) (.int .i64 cap) (.slice a1 n1 c1) (.bool false) (.slice a2 n2 c2) (.slice A n4 c4)) (w.heap.size + 1 + 1 + 1) (.bool true) (.bool false) (.bool false) (.int .i64 0) (.int .i64 0) (.slice (some ⟨W7.heap.size, 0, none⟩) 1 1)) W7.heap.size (t0, c0, u, true, false) (by simp [put5, put6, World.setCell]) rfl)
      have HBf : Hid (Below w.heap.size w ((put6 (put5 W7 (w.heap.size + 1 + 1) (.int .i64 cap) (.slice a1 n1 c1) (.bool false) (.slice a2 n2 c2) (.slice A n4 c4)) (w.heap.size + 1 + 1 + 1) (.bool true) (.bool false) (.bool false) (.int .i64 0) (.int .i64 0) (.slice (some ⟨W7.heap.size, 0, none⟩) 1 1)).alloc (.cells #[.int .i64 t0, .int .i64 c0, .int .i64 u, .bool true, .bool false] 64)).drew) := ((put6_below (put5_below (unhide HB7) (by omega)) (by omega)).alloc (Nat.le_trans (unhide HB7).size (by simp [put5, put6, World.setCell])) _).drew
      have HIf' : Hid (IsL KW ((put6 (put5 W7 (w.heap.size + 1 + 1) (.int .i64 cap) (.slice a1 n1 c1) (.bool false) (.slice a2 n2 c2) (.slice A n4 c4)) (w.heap.size + 1 + 1 + 1) (.bool true) (.bool false) (.bool false) (.int .i64 0) (.int .i64 0) (.slice (some ⟨W7.heap.size, 0, none⟩) 1 1)).alloc (.cells #[.int .i64 t0, .int .i64 c0, .int .i64 u, .bool true, .bool false] 64)).drew (.slice (some ⟨W7.heap.size, 0, none⟩) 1 1) [(t0, c0, u, true, false)]) := unhide HIf
      clear HIf
      rw [ef] at H5 H6 HBf HIf'
      have ef2 : (((((((((((((W7).setCell ⟨w.heap.size + 1 + 1, 0, none⟩ (.int .i64 cap)).setCell ⟨w.heap.size + 1 + 1, 1, none⟩ (.slice a1 n1 c1)).setCell ⟨w.heap.size + 1 + 1, 2, none⟩ (.bool false)).setCell ⟨w.heap.size + 1 + 1, 3, none⟩ (.slice a2 n2 c2)).setCell ⟨w.heap.size + 1 + 1, 4, none⟩ (.slice A n4 c4)).setCell ⟨w.heap.size + 1 + 1 + 1, 0, none⟩ (.bool true)).setCell ⟨w.heap.size + 1 + 1 + 1, 1, none⟩ (.bool false)).setCell ⟨w.heap.size + 1 + 1 + 1, 2, none⟩ (.bool false)).setCell ⟨w.heap.size + 1 + 1 + 1, 3, none⟩ (.int .i64 0)).setCell ⟨w.heap.size + 1 + 1 + 1, 4, none⟩ (.int .i64 0)).setCell ⟨w.heap.size + 1 + 1 + 1, 5, none⟩ (.slice (some ⟨W7.heap.size, 0, none⟩) 1 1)).alloc (.cells #[.int .i64 t0, .int .i64 c0, .int .i64 u, .bool true, .bool false] 64)).drew = Wf := ef
      rw [ef2]
      clear ef ef2 p0 p1 p2 p3 p4 pl v0 v1 v2 v3 v4 vl q0 q1 q2 q3 q4 f0 f1 f2 f3 f4 s0 s1 s2 s3 s4 s5 g0 g1 g2 g3 g4 g5
      obtain ⟨⟨q0, q1, q2, q3, q4⟩, -, -⟩ := block5 (unhide H5)
      obtain ⟨⟨s0, s1, s2, s3, s4, s5⟩, -, -⟩ := block6 (unhide H6)
      go_wp2_with fail
      exact bodyPost_ret (v := .tuple #[.agg #[.int .i64 cap, .slice a1 n1 c1, .bool false, .slice a2 n2 c2, .slice A n4 c4], .agg #[.bool true, .bool false, .bool false, .int .i64 0, .int .i64 0, .slice (some ⟨W7.heap.size, 0, none⟩) 1 1]]) (by simp [results, Try.results38, go_sem, q0, q1, q2, q3, q4, s0, s1, s2, s3, s4, s5]) rfl ⟨_, _, rfl, ⟨_, _, _, rfl, ((unhide HI).below (unhide HBf)).new, ((unhide HS).below (unhide HBf)).new, unhide HNW _ (unhide HBf)⟩, ⟨_, rfl, unhide HIf', fun k hk => by cases hk; exact Nat.le_trans (unhide HBA) (unhide HB7).size⟩, Below.mono (unhide HBf) (unhide HBA)⟩)

  · have HX : Hid (Below W0.heap.size W0 (put5 (w5) W0.heap.size (.int .i64 t0) (.int .i64 c0) (.int .i64 u) (.bool true) (.bool false))) := put5_below (unhide HX5) (Nat.le_refl _)
    have HT : Hid ((put5 (w5) W0.heap.size (.int .i64 t0) (.int .i64 c0) (.int .i64 u) (.bool true) (.bool false)).heap[W0.heap.size]? = some (.cells #[.int .i64 t0, .int .i64 c0, .int .i64 u, .bool true, .bool false] 64 (0, 0))) := put5_new (unhide HX6)
    obtain ⟨W6, e6⟩ : ∃ W, (((((w5).setCell ⟨W0.heap.size, 0, none⟩ (.int .i64 t0)).setCell ⟨W0.heap.size, 1, none⟩ (.int .i64 c0)).setCell ⟨W0.heap.size, 2, none⟩ (.int .i64 u)).setCell ⟨W0.heap.size, 3, none⟩ (.bool true)).setCell ⟨W0.heap.size, 4, none⟩ (.bool false) = W := ⟨_, rfl⟩
    have e6' : put5 (w5) W0.heap.size (.int .i64 t0) (.int .i64 c0) (.int .i64 u) (.bool true) (.bool false) = W6 := e6
    rw [e6'] at HX HT
    rw [e6]
    clear e6 e6'
    obtain ⟨T, eT⟩ : ∃ T, T = W0.heap.size := ⟨_, rfl⟩
    rw [← eT] at HT ⊢
    have HTl : Hid (W0.heap.size ≤ T) := by rw [eT]; exact Nat.le_refl _
    clear eT
    have HB6 := hide (Below.next (unhide HB) (unhide HX) (Nat.le_refl _))
    have K0 := hide (keep_below (unhide HK0) (unhide HX)); have K2 := hide (keep_below (unhide HK2) (unhide HX)); have K3 := hide (keep_below (unhide HK3) (unhide HX))
    clear p4 m2 j0 j1 j2
    obtain ⟨⟨p0, p1, p2, p3, p4⟩, ⟨y0, y1, y2, y3, y4⟩, pl⟩ := block5 (unhide K0)
    have i1 : (1 : Int) ≤ (n3 : Int) := by omega
    have i2 : (n3 : Int) ≤ (c3 : Int) := by have := unhide HCF; omega
    go_upto_region 6 with fail
    obtain ⟨A, hA⟩ : ∃ A, A = (if c3 = 1 then some ⟨b0, o0, none⟩ else some ⟨b0, o0 + 3, none⟩ : Option Addr) := ⟨_, rfl⟩
    rw [← hA]
    have HNW : Hid (∀ W, Below w.heap.size w W → New KP base W (.slice A (n3 - 1) (c3 - 1)) (gs.drop 1)) := fun W hW => ⟨IsL.drop_if kp ((unhide HG).below hW).isl (p := 1) (by omega) hA, fun k hk => by
      have hb9 := ((unhide HG).lt b0 rfl).1
      have : k = b0 := by
        rw [hA] at hk
        split at hk <;> · simp [Value.ownBlock] at hk; exact hk.symm
      omega⟩
    have hTn : T ≠ w.heap.size := by have := unhide HTl; have := (block5 (unhide HK0)).2.2; omega
    have K0b := hide (set_block5 (i := 4) (y := .slice A (n3 - 1) (c3 - 1)) (unhide K0))
    have K2b := hide (keep_set (g := w.heap.size) (o := 4) (v := .slice A (n3 - 1) (c3 - 1)) (unhide K2) (by omega))
    have K3b := hide (keep_set (g := w.heap.size) (o := 4) (v := .slice A (n3 - 1) (c3 - 1)) (unhide K3) (by omega))
    have KTb := hide (keep_set (g := w.heap.size) (o := 4) (v := .slice A (n3 - 1) (c3 - 1)) (unhide HT) hTn)
    have HB7 := hide (below_set (i := 4) (unhide HB6) (Nat.le_refl _) (.slice A (n3 - 1) (c3 - 1)))
    obtain ⟨W7, e7⟩ : ∃ W, W6.setCell ⟨w.heap.size, 4, none⟩ (.slice A (n3 - 1) (c3 - 1)) = W := ⟨_, rfl⟩
    rw [e7] at K0b K2b K3b KTb HB7 ⊢
    clear e7 hA i1 i2 p0 p1 p2 p3 p4 y0 y1 y2 y3 y4 pl K0 K2 K3 HT HX HB6 HX5 hTn
    simp only [List.setIfInBounds_toArray, List.set_cons_zero, List.set_cons_succ] at K0b
    have HIO := hide (isl_one kw W7 (t0, c0, u, true, false))
    have u0' := True.intro
    clear u0'
    have KA2 := hide (keep_alloc (unhide K2b) (.cells #[.int .i64 t0, .int .i64 c0, .int .i64 u, .bool true, .bool false] 64)); have KA3 := hide (keep_alloc (unhide K3b) (.cells #[.int .i64 t0, .int .i64 c0, .int .i64 u, .bool true, .bool false] 64))
    obtain ⟨⟨p0, p1, p2, p3, p4⟩, -, pl⟩ := block5 (unhide K0b)
    obtain ⟨⟨v0, v1, v2, v3, v4⟩, -, vl⟩ := block5 (unhide KTb)
    obtain ⟨⟨q0, q1, q2, q3, q4⟩, ⟨f0, f1, f2, f3, f4⟩, ql⟩ := block5 (unhide K2b)
    obtain ⟨⟨s0, s1, s2, s3, s4, s5⟩, ⟨g0, g1, g2, g3, g4, g5⟩, sl⟩ := block6 (unhide K3b)
    obtain ⟨n4, e4⟩ : ∃ n, n3 - 1 = n := ⟨_, rfl⟩
    rw [e4] at HNW p4 ⊢
    obtain ⟨c4, e5⟩ : ∃ n, c3 - 1 = n := ⟨_, rfl⟩
    rw [e5] at HNW p4 ⊢
    clear e4 e5
    have hT6 : w.heap.size + 1 + 1 + 1 < T := by have := unhide HTl; have := (block6 (unhide HK3)).2.2; omega
    have u0 : T ≠ w.heap.size + 1 + 1 := by omega
    have u1 : w.heap.size + 1 + 1 ≠ T := by omega
    have u2 : T ≠ w.heap.size + 1 + 1 + 1 := by omega
    have u3 : w.heap.size + 1 + 1 + 1 ≠ T := by omega
    have u4 : W7.heap.size ≠ w.heap.size + 1 + 1 := by omega
    have u5 : w.heap.size + 1 + 1 ≠ W7.heap.size := by omega
    have u6 : W7.heap.size ≠ w.heap.size + 1 + 1 + 1 := by omega
    have u7 : w.heap.size + 1 + 1 + 1 ≠ W7.heap.size := by omega
    clear hT6
    go_wp2_with fail
    go_region
    all_goals (
      obtain ⟨Wf, ef⟩ : ∃ W, ((put6 (put5 W7 (w.heap.size + 1 + 1) (.int .i64 cap) (.slice a1 n1 c1) (.bool false) (.slice a2 n2 c2) (.slice A n4 c4)) (w.heap.size + 1 + 1 + 1) (.bool true) (.bool false) (.bool false) (.int .i64 0) (.int .i64 0) (.slice (some ⟨W7.heap.size, 0, none⟩) 1 1)).alloc (.cells #[.int .i64 t0, .int .i64 c0, .int .i64 u, .bool true, .bool false] 64)).drew = W := ⟨_, rfl⟩
      have H5 := hide (keep_below (keep_alloc ((put6_keep (y0 := .bool true) (y1 := .bool false) (y2 := .bool false) (y3 := .int .i64 0) (y4 := .int .i64 0) (y5 := .slice (some ⟨W7.heap.size, 0, none⟩) 1 1) (show w.heap.size + 1 + 1 ≠ w.heap.size + 1 + 1 + 1 by omega)).trans (put5_new (y0 := .int .i64 cap) (y1 := .slice a1 n1 c1) (y2 := .bool false) (y3 := .slice a2 n2 c2) (y4 := .slice A n4 c4) (unhide K2b))) (.cells #[.int .i64 t0, .int .i64 c0, .int .i64 u, .bool true, .bool false] 64)) (Below.refl _ _).drew)
      have H6 := hide (keep_below (keep_alloc (put6_new (y0 := .bool true) (y1 := .bool false) (y2 := .bool false) (y3 := .int .i64 0) (y4 := .int .i64 0) (y5 := .slice (some ⟨W7.heap.size, 0, none⟩) 1 1) ((put5_keep (y0 := .int .i64 cap) (y1 := .slice a1 n1 c1) (y2 := .bool false) (y3 := .slice a2 n2 c2) (y4 := .slice A n4 c4) (show w.heap.size + 1 + 1 + 1 ≠ w.heap.size + 1 + 1 by omega)).trans (unhide K3b))) (.cells #[.int .i64 t0, .int .i64 c0, .int .i64 u, .bool true, .bool false] 64)) (Below.refl _ _).drew)
      have HIf := hide (isl_put kw W7 (put6 (put5 W7 (w.heap.size + 1 + 1) (.int .i64 cap) (.slice a1 n1 c1) (.bool false) (.slice a2 n2 c2) (.slice A n4 c4)) (w.heap.size + 1 + 1 + 1) (.bool true) (.bool false) (.bool false) (.int .i64 0) (.int .i64 0) (.slice (some ⟨W7.heap.size, 0, none⟩) 1 1)) W7.heap.size (t0, c0, u, true, false) (by simp [put5, put6, World.setCell]) rfl)
      have HBf : Hid (Below w.heap.size w ((put6 (put5 W7 (w.heap.size + 1 + 1) (.int .i64 cap) (.slice a1 n1 c1) (.bool false) (.slice a2 n2 c2) (.slice A n4 c4)) (w.heap.size + 1 + 1 + 1) (.bool true) (.bool false) (.bool false) (.int .i64 0) (.int .i64 0) (.slice (some ⟨W7.heap.size, 0, none⟩) 1 1)).alloc (.cells #[.int .i64 t0, .int .i64 c0, .int .i64 u, .bool true, .bool false] 64)).drew) := ((put6_below (put5_below (unhide HB7) (by omega)) (by omega)).alloc (Nat.le_trans (unhide HB7).size (by simp [put5, put6, World.setCell])) _).drew
      have HIf' : Hid (IsL KW ((put6 (put5 W7 (w.heap.size + 1 + 1) (.int .i64 cap) (.slice a1 n1 c1) (.bool false) (.slice a2 n2 c2) (.slice A n4 c4)) (w.heap.size + 1 + 1 + 1) (.bool true) (.bool false) (.bool false) (.int .i64 0) (.int .i64 0) (.slice (some ⟨W7.heap.size, 0, none⟩) 1 1)).alloc (.cells #[.int .i64 t0, .int .i64 c0, .int .i64 u, .bool true, .bool false] 64)).drew (.slice (some ⟨W7.heap.size, 0, none⟩) 1 1) [(t0, c0, u, true, false)]) := unhide HIf
      clear HIf
      rw [ef] at H5 H6 HBf HIf'
      have ef2 : (((((((((((((W7).setCell ⟨w.heap.size + 1 + 1, 0, none⟩ (.int .i64 cap)).setCell ⟨w.heap.size + 1 + 1, 1, none⟩ (.slice a1 n1 c1)).setCell ⟨w.heap.size + 1 + 1, 2, none⟩ (.bool false)).setCell ⟨w.heap.size + 1 + 1, 3, none⟩ (.slice a2 n2 c2)).setCell ⟨w.heap.size + 1 + 1, 4, none⟩ (.slice A n4 c4)).setCell ⟨w.heap.size + 1 + 1 + 1, 0, none⟩ (.bool true)).setCell ⟨w.heap.size + 1 + 1 + 1, 1, none⟩ (.bool false)).setCell ⟨w.heap.size + 1 + 1 + 1, 2, none⟩ (.bool false)).setCell ⟨w.heap.size + 1 + 1 + 1, 3, none⟩ (.int .i64 0)).setCell ⟨w.heap.size + 1 + 1 + 1, 4, none⟩ (.int .i64 0)).setCell ⟨w.heap.size + 1 + 1 + 1, 5, none⟩ (.slice (some ⟨W7.heap.size, 0, none⟩) 1 1)).alloc (.cells #[.int .i64 t0, .int .i64 c0, .int .i64 u, .bool true, .bool false] 64)).drew = Wf := ef
      rw [ef2]
      clear ef ef2 p0 p1 p2 p3 p4 pl v0 v1 v2 v3 v4 vl q0 q1 q2 q3 q4 f0 f1 f2 f3 f4 s0 s1 s2 s3 s4 s5 g0 g1 g2 g3 g4 g5
      obtain ⟨⟨q0, q1, q2, q3, q4⟩, -, -⟩ := block5 (unhide H5)
      obtain ⟨⟨s0, s1, s2, s3, s4, s5⟩, -, -⟩ := block6 (unhide H6)
      go_wp2_with fail
      exact bodyPost_ret (v := .tuple #[.agg #[.int .i64 cap, .slice a1 n1 c1, .bool false, .slice a2 n2 c2, .slice A n4 c4], .agg #[.bool true, .bool false, .bool false, .int .i64 0, .int .i64 0, .slice (some ⟨W7.heap.size, 0, none⟩) 1 1]]) (by simp [results, Try.results38, go_sem, q0, q1, q2, q3, q4, s0, s1, s2, s3, s4, s5]) rfl ⟨_, _, rfl, ⟨_, _, _, rfl, ((unhide HI).below (unhide HBf)).new, ((unhide HS).below (unhide HBf)).new, unhide HNW _ (unhide HBf)⟩, ⟨_, rfl, unhide HIf', fun k hk => by cases hk; exact Nat.le_trans (unhide HBA) (unhide HB7).size⟩, Below.mono (unhide HBf) (unhide HBA)⟩)

end Go.Proofs.Ytijogcjocandcaa
