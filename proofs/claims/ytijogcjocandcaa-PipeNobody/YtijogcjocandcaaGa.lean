/-
  pipe.first where nobody waits to send.
-/
import Derived.Test.YtijogcjocandcaaX
namespace Go.Proofs.Ytijogcjocandcaa
open Go.RowKit

/-- The slice v lies in no block that was there and is no row. -/
def Off (w : World) (v : Value) : Prop := ∀ (k : Nat) (o : Obj), w.heap[k]? = some o → (∀ cur f, o ≠ .cells cur 3 f) → (∀ cur f, o ≠ .cells cur 39 f) → v.ownBlock ≠ some k
def OffPipe (w : World) (v : Value) : Prop := ∀ x0 vi x2 vs vg, v = .agg #[x0, vi, x2, vs, vg] → Off w vi ∧ Off w vs ∧ Off w vg
def OffAns (w : World) (v : Value) : Prop := ∀ x0 x1 x2 x3 x4 vw, v = .agg #[x0, x1, x2, x3, x4, vw] → Off w vw
theorem off_nil (w : World) : Off w (.slice none 0 0) := fun k o _ _ _ h => by cases h
theorem off_new {w : World} {v : Value} (h : ∀ k, v.ownBlock = some k → w.heap.size ≤ k) : Off w v := fun k o hk _ _ hv => by
  have h1 := h k hv
  have h2 := (Array.getElem?_eq_some_iff.1 hk).1
  omega
theorem Own.other {α : Type} {K : Kind α} {base : Nat} {w : World} {v : Value} {xs : List α} (h : Own K base w v xs) {k : Nat} {o : Obj} (hk : w.heap[k]? = some o) (ho : ∀ cur f, o ≠ .cells cur K.e f) : ∀ j, v.ownBlock = some j → j ≠ k := by
  obtain ⟨_, ⟨rfl, _⟩ | ⟨g, cap, cur, rfl, hg, hh, _⟩⟩ := h
  · intro j hj; cases hj
  · intro j hj
    cases hj
    rintro rfl
    rw [hh] at hk
    cases hk
    exact ho _ _ rfl
theorem Own.offI {base : Nat} {w : World} {v v' : Value} {xs : List Int} (h : Own KI base w v xs) (he : v'.ownBlock = v.ownBlock) : Off w v' := fun k _ hk h3 _ hv => Own.other h hk h3 k (he ▸ hv) rfl
theorem Own.offP {base : Nat} {w : World} {v v' : Value} {xs : List Po} (h : Own KP base w v xs) (he : v'.ownBlock = v.ownBlock) : Off w v' := fun k _ hk _ h39 hv => Own.other h hk h39 k (he ▸ hv) rfl
theorem Own.at {α : Type} {K : Kind α} (hK : K.Ok) {base : Nat} {w : World} {v : Value} {xs : List α} (h : Own K base w v xs) (hn : 0 < xs.length) : ∃ g c, v = .slice (some ⟨g, 0, none⟩) xs.length c ∧ base ≤ g ∧ g < w.heap.size ∧ Lies K w g 0 xs := by
  have h0 := h
  obtain ⟨_, ⟨h1, h2⟩ | ⟨g, cap, cur, h1, hg, hh, _⟩⟩ := h
  · omega
  · subst h1
    obtain ⟨b, off, c', hv, hb, hl⟩ := h0.isl.at hK hn
    cases hv
    exact ⟨g, cap, rfl, hg, hb, hl⟩

set_option maxRecDepth 100000 in
set_option maxHeartbeats 1000000 in
theorem first_items (w : World) (base : Nat) (v : Value) (P : Pp) (h : OwnPipe base w v P) (hb : base ≤ w.heap.size) (hc : countP P ≤ 5000) (hz1 : 0 < P.items.length) (hz2 : ¬ 0 < P.ss.length) :
    Calls Try.prog 52 #[v] w fun e w' => ∃ v1 v2, e = .returned (.tuple #[v1, v2]) ∧ NewPipe base w' v1 { P with items := P.items.drop 1 } ∧ NewAns base w' v2 ⟨true, false, true, P.items.getD 0 0, 0, []⟩ ∧ Below base w w' ∧ (∀ (k : Nat) (o : Obj), w.heap[k]? = some o → (∀ cur f, o ≠ .cells cur 3 f) → w'.heap[k]? = some o) ∧ OffPipe w v1 ∧ OffAns w v2 := by
  obtain ⟨cap, items, closed, ss, gs⟩ := P
  obtain ⟨vi, vs, vg, rfl, hI, hS, hG, hA1, hA2, hA3⟩ := h
  obtain ⟨a3, c3, rfl⟩ := hG.form
  have hc' : items.length + ss.length + gs.length ≤ 5000 := hc
  clear hc
  simp only at hI hS hG hA1 hA2 hA3 hz1 hz2 ⊢
  have HBA := hide hb
  obtain ⟨a2, c2, rfl⟩ := hS.form
  obtain ⟨ib, c1, rfl, hg1, hg2, hl1⟩ := hI.at ki hz1
  obtain ⟨iz, hz0⟩ : ∃ z, items.getD 0 0 = z := ⟨_, rfl⟩
  have HC0 := hide (hl1.ints hz1)
  rw [hz0] at HC0 ⊢
  have HCF := hide hI.isl.fits
  clear hz0 hl1
  have HI := hide hI; have HS := hide hS; have HG := hide hG; have HA1 := hide hA1; have HA2 := hide hA2; have HA3 := hide hA3
  clear hI hS hG hA1 hA2 hA3 hb
  obtain ⟨n1, en1⟩ : ∃ n, items.length = n := ⟨_, rfl⟩
  obtain ⟨n2, en2⟩ : ∃ n, ss.length = n := ⟨_, rfl⟩
  obtain ⟨n3, en3⟩ : ∃ n, gs.length = n := ⟨_, rfl⟩
  rw [en1] at HI HA1 HA2; rw [en2] at HS HA1 HA3; rw [en3] at HG HA2 HA3
  rw [en1, en2, en3] at hc'
  rw [en1, en2, en3]
  have HN1 := hide en1; have HN2 := hide en2; have HN3 := hide en3
  rw [en1] at hz1 HCF; rw [en2] at hz2
  have z2 : ¬ (0 : Int) < (n2 : Int) := by omega
  clear hz2
  clear en1 en2 en3
  obtain ⟨W0, e0, hB, k0, k1, k2⟩ := three_new w (.cells #[.int .i64 cap, .slice (some ⟨ib, 0, none⟩) n1 c1, .bool closed, .slice a2 n2 c2, .slice a3 n3 c3] 25) (.cells #[.int .i64 0, .slice none 0 0, .bool false, .slice none 0 0, .slice none 0 0] 25) (.cells #[.bool false, .bool false, .bool false, .int .i64 0, .int .i64 0, .slice none 0 0] 34)
  have HB := hide hB; have HK0 := hide k0; have HK2 := hide k1; have HK3 := hide k2; have HE := hide e0
  clear hB k0 k1 k2 e0
  go_enter Try.func52, Try.ntmps52
  go_upto_region 1 with fail
  rw [unhide HE]
  clear HE
  go_upto_region 2 with fail
  have HX := hide ((unhide HB).alloc (unhide HB).size (.cells #[.bool true, .bool false, .bool true, .int .i64 0, .int .i64 0, .slice none 0 0] 34))
  have HJ0 := hide (keep_alloc (unhide HK0) (.cells #[.bool true, .bool false, .bool true, .int .i64 0, .int .i64 0, .slice none 0 0] 34))
  have HJ2 := hide (keep_alloc (unhide HK2) (.cells #[.bool true, .bool false, .bool true, .int .i64 0, .int .i64 0, .slice none 0 0] 34))
  have HJ3 := hide (keep_alloc (unhide HK3) (.cells #[.bool true, .bool false, .bool true, .int .i64 0, .int .i64 0, .slice none 0 0] 34))
  have HT := hide (new_block W0 (.cells #[.bool true, .bool false, .bool true, .int .i64 0, .int .i64 0, .slice none 0 0] 34))
  have hTl : w.heap.size + 1 + 1 < W0.heap.size := (block6 (unhide HK3)).2.2
  obtain ⟨T, eT⟩ : ∃ T, W0.heap.size = T := ⟨_, rfl⟩
  obtain ⟨W1, eW⟩ : ∃ W, W0.alloc (.cells #[.bool true, .bool false, .bool true, .int .i64 0, .int .i64 0, .slice none 0 0] 34) = W := ⟨_, rfl⟩
  rw [eT, eW] at HT; rw [eW] at HX HJ0 HJ2 HJ3; rw [eT] at hTl; rw [eT, eW]
  clear eT eW HK0 HK2 HK3 HB
  obtain ⟨⟨p0, p1, p2, p3, p4⟩, ⟨y0, y1, y2, y3, y4⟩, pl⟩ := block5 (unhide HJ0)
  obtain ⟨⟨q0, q1, q2, q3, q4⟩, ⟨f0, f1, f2, f3, f4⟩, ql⟩ := block5 (unhide HJ2)
  obtain ⟨⟨s0, s1, s2, s3, s4, s5⟩, ⟨g0, g1, g2, g3, g4, g5⟩, sl⟩ := block6 (unhide HJ3)
  obtain ⟨⟨x0, x1, x2, x3, x4, x5⟩, ⟨z0, z1, z2, z3', z4, z5⟩, xl⟩ := block6 (unhide HT)
  have j0 : W1.cell? ⟨ib, 0, none⟩ = some (.int .i64 iz) := ((unhide HX).cell (p := ⟨ib, 0, none⟩) hg2).trans (unhide HC0)
  have i1 : (0 : Int) < (n1 : Int) := by omega
  go_upto_region 7 with fail
  clear p0 p1 p2 p3 p4 y0 y1 y2 y3 y4 pl q0 q1 q2 q3 q4 f0 f1 f2 f3 f4 ql s0 s1 s2 s3 s4 s5 g0 g1 g2 g3 g4 g5 sl x0 x1 x2 x3 x4 x5 z0 z1 z2 z3' z4 z5 xl j0
  have M0 := hide (keep_set (g := T) (o := 3) (v := .int .i64 iz) (unhide HJ0) (by omega)); have M2 := hide (keep_set (g := T) (o := 3) (v := .int .i64 iz) (unhide HJ2) (by omega)); have M3 := hide (keep_set (g := T) (o := 3) (v := .int .i64 iz) (unhide HJ3) (by omega))
  have MT := hide (set_block6 (i := 3) (y := .int .i64 iz) (unhide HT))
  have HX2 := hide (below_set (i := 3) (unhide HX) (show w.heap.size ≤ T by omega) (.int .i64 iz))
  obtain ⟨W2, e2⟩ : ∃ W, W1.setCell ⟨T, 3, none⟩ (.int .i64 iz) = W := ⟨_, rfl⟩
  rw [e2] at M0 M2 M3 MT HX2 ⊢
  clear e2 HX HJ0 HJ2 HJ3 HT
  simp only [List.setIfInBounds_toArray, List.set_cons_zero, List.set_cons_succ] at MT
  obtain ⟨⟨p0, p1, p2, p3, p4⟩, ⟨y0, y1, y2, y3, y4⟩, pl⟩ := block5 (unhide M0)
  obtain ⟨⟨q0, q1, q2, q3, q4⟩, ⟨f0, f1, f2, f3, f4⟩, ql⟩ := block5 (unhide M2)
  obtain ⟨⟨s0, s1, s2, s3, s4, s5⟩, ⟨g0, g1, g2, g3, g4, g5⟩, sl⟩ := block6 (unhide M3)
  obtain ⟨⟨x0, x1, x2, x3, x4, x5⟩, ⟨z0, z1, z2, z3', z4, z5⟩, xl⟩ := block6 (unhide MT)
  have i2 : (1 : Int) ≤ (n1 : Int) := by omega
  have i3 : (n1 : Int) ≤ (c1 : Int) := by have := unhide HCF; omega
  go_upto_region 8 with fail
  clear p0 p1 p2 p3 p4 y0 y1 y2 y3 y4 pl q0 q1 q2 q3 q4 f0 f1 f2 f3 f4 ql s0 s1 s2 s3 s4 s5 g0 g1 g2 g3 g4 g5 sl x0 x1 x2 x3 x4 x5 z0 z1 z2 z3' z4 z5 xl
  obtain ⟨A, hA⟩ : ∃ A, A = (if c1 = 1 then some ⟨ib, 0, none⟩ else some ⟨ib, 1, none⟩ : Option Addr) := ⟨_, rfl⟩
  rw [← hA]
  have HNW : Hid (∀ W, Below w.heap.size w W → New KI base W (.slice A (n1 - 1) (c1 - 1)) (items.drop 1)) := fun W hW => ⟨IsL.drop_if ki ((unhide HI).below hW).isl (p := 1) (by omega) (by rw [hA]; rfl), fun k hk => by
    have : k = ib := by
      rw [hA] at hk
      split at hk <;> · simp [Value.ownBlock] at hk; exact hk.symm
    omega⟩
  have HAE : Hid ((Value.slice A (n1 - 1) (c1 - 1)).ownBlock = (Value.slice (some ⟨ib, 0, none⟩) n1 c1).ownBlock) := by rw [hA]; split <;> rfl
  have L0 := hide (set_block5 (i := 1) (y := .slice A (n1 - 1) (c1 - 1)) (unhide M0)); have L2 := hide (keep_set (g := w.heap.size) (o := 1) (v := .slice A (n1 - 1) (c1 - 1)) (unhide M2) (by omega)); have L3 := hide (keep_set (g := w.heap.size) (o := 1) (v := .slice A (n1 - 1) (c1 - 1)) (unhide M3) (by omega)); have LT := hide (keep_set (g := w.heap.size) (o := 1) (v := .slice A (n1 - 1) (c1 - 1)) (unhide MT) (by omega))
  have HX3 := hide (below_set (i := 1) (unhide HX2) (Nat.le_refl _) (.slice A (n1 - 1) (c1 - 1)))
  obtain ⟨W3, e3⟩ : ∃ W, W2.setCell ⟨w.heap.size, 1, none⟩ (.slice A (n1 - 1) (c1 - 1)) = W := ⟨_, rfl⟩
  rw [e3] at L0 L2 L3 LT HX3 ⊢
  clear e3 hA i1 i2 i3 M0 M2 M3 MT HX2
  simp only [List.setIfInBounds_toArray, List.set_cons_zero, List.set_cons_succ] at L0
  obtain ⟨n4, e4⟩ : ∃ n, n1 - 1 = n := ⟨_, rfl⟩
  obtain ⟨c4, e5⟩ : ∃ n, c1 - 1 = n := ⟨_, rfl⟩
  rw [e4, e5] at HNW L0 HAE ⊢
  clear e4 e5
  obtain ⟨⟨p0, p1, p2, p3, p4⟩, ⟨y0, y1, y2, y3, y4⟩, pl⟩ := block5 (unhide L0)
  obtain ⟨⟨q0, q1, q2, q3, q4⟩, ⟨f0, f1, f2, f3, f4⟩, ql⟩ := block5 (unhide L2)
  obtain ⟨⟨s0, s1, s2, s3, s4, s5⟩, ⟨g0, g1, g2, g3, g4, g5⟩, sl⟩ := block6 (unhide L3)
  obtain ⟨⟨x0, x1, x2, x3, x4, x5⟩, ⟨z0, z1, z2, z3', z4, z5⟩, xl⟩ := block6 (unhide LT)
  have u0 : T ≠ w.heap.size + 1 := by omega
  have u1 : w.heap.size + 1 ≠ T := by omega
  have u2 : T ≠ w.heap.size + 1 + 1 := by omega
  have u3 : w.heap.size + 1 + 1 ≠ T := by omega
  have u4 : T ≠ w.heap.size := by omega
  have u5 : w.heap.size ≠ T := by omega
  go_wp2_with fail
  go_region
  obtain ⟨Wf, ef⟩ : ∃ W, (put6 (put5 W3 (w.heap.size + 1) (.int .i64 cap) (.slice A n4 c4) (.bool closed) (.slice a2 n2 c2) (.slice a3 n3 c3)) (w.heap.size + 1 + 1) (.bool true) (.bool false) (.bool true) (.int .i64 iz) (.int .i64 0) (.slice none 0 0)).drew = W := ⟨_, rfl⟩
  have H5 := hide (keep_below ((put6_keep (y0 := .bool true) (y1 := .bool false) (y2 := .bool true) (y3 := .int .i64 iz) (y4 := .int .i64 0) (y5 := .slice none 0 0) (show w.heap.size + 1 ≠ w.heap.size + 1 + 1 by omega)).trans (put5_new (y0 := .int .i64 cap) (y1 := .slice A n4 c4) (y2 := .bool closed) (y3 := .slice a2 n2 c2) (y4 := .slice a3 n3 c3) (unhide L2))) (Below.refl _ _).drew)
  have H6 := hide (keep_below (put6_new (y0 := .bool true) (y1 := .bool false) (y2 := .bool true) (y3 := .int .i64 iz) (y4 := .int .i64 0) (y5 := .slice none 0 0) ((put5_keep (y0 := .int .i64 cap) (y1 := .slice A n4 c4) (y2 := .bool closed) (y3 := .slice a2 n2 c2) (y4 := .slice a3 n3 c3) (show w.heap.size + 1 + 1 ≠ w.heap.size + 1 by omega)).trans (unhide L3))) (Below.refl _ _).drew)
  have HBf : Hid (Below w.heap.size w (put6 (put5 W3 (w.heap.size + 1) (.int .i64 cap) (.slice A n4 c4) (.bool closed) (.slice a2 n2 c2) (.slice a3 n3 c3)) (w.heap.size + 1 + 1) (.bool true) (.bool false) (.bool true) (.int .i64 iz) (.int .i64 0) (.slice none 0 0)).drew) := (put6_below (put5_below (unhide HX3) (by omega)) (by omega)).drew
  have HKf : Hid (∀ k, k ≠ w.heap.size + 1 → k ≠ w.heap.size + 1 + 1 → ((put6 (put5 W3 (w.heap.size + 1) (.int .i64 cap) (.slice A n4 c4) (.bool closed) (.slice a2 n2 c2) (.slice a3 n3 c3)) (w.heap.size + 1 + 1) (.bool true) (.bool false) (.bool true) (.int .i64 iz) (.int .i64 0) (.slice none 0 0)).drew).heap[k]? = W3.heap[k]?) := fun k h5 h6 => (drew_at _ k).trans ((put6_keep h6).trans (put5_keep h5))
  rw [ef] at H5 H6 HBf HKf
  have ef2 : ((((((((((((W3).setCell ⟨w.heap.size + 1, 0, none⟩ (.int .i64 cap)).setCell ⟨w.heap.size + 1, 1, none⟩ (.slice A n4 c4)).setCell ⟨w.heap.size + 1, 2, none⟩ (.bool closed)).setCell ⟨w.heap.size + 1, 3, none⟩ (.slice a2 n2 c2)).setCell ⟨w.heap.size + 1, 4, none⟩ (.slice a3 n3 c3)).setCell ⟨w.heap.size + 1 + 1, 0, none⟩ (.bool true)).setCell ⟨w.heap.size + 1 + 1, 1, none⟩ (.bool false)).setCell ⟨w.heap.size + 1 + 1, 2, none⟩ (.bool true)).setCell ⟨w.heap.size + 1 + 1, 3, none⟩ (.int .i64 iz)).setCell ⟨w.heap.size + 1 + 1, 4, none⟩ (.int .i64 0)).setCell ⟨w.heap.size + 1 + 1, 5, none⟩ (.slice none 0 0)).drew = Wf := ef
  rw [ef2]
  clear ef ef2
  clear p0 p1 p2 p3 p4 y0 y1 y2 y3 y4 pl q0 q1 q2 q3 q4 f0 f1 f2 f3 f4 ql s0 s1 s2 s3 s4 s5 g0 g1 g2 g3 g4 g5 sl x0 x1 x2 x3 x4 x5 z0 z1 z2 z3' z4 z5 xl
  obtain ⟨⟨q0, q1, q2, q3, q4⟩, -, -⟩ := block5 (unhide H5)
  obtain ⟨⟨s0, s1, s2, s3, s4, s5⟩, -, -⟩ := block6 (unhide H6)
  go_wp2_with fail
  refine bodyPost_ret (v := .tuple #[.agg #[.int .i64 cap, .slice A n4 c4, .bool closed, .slice a2 n2 c2, .slice a3 n3 c3], .agg #[.bool true, .bool false, .bool true, .int .i64 iz, .int .i64 0, .slice none 0 0]]) (by simp [results, Try.results52, go_sem, q0, q1, q2, q3, q4, s0, s1, s2, s3, s4, s5]) rfl ⟨_, _, rfl, ⟨_, _, _, rfl, unhide HNW _ (unhide HBf), ((unhide HS).below (unhide HBf)).new, ((unhide HG).below (unhide HBf)).new⟩, ⟨_, rfl, new_nil _ _⟩, (unhide HBf).mono (unhide HBA), fun k o hk _ => keep_below hk (unhide HBf), fun _ _ _ _ _ e => by cases e; exact ⟨(unhide HI).offI (unhide HAE), (unhide HS).offP rfl, (unhide HG).offP rfl⟩, fun _ _ _ _ _ _ e => by cases e; exact off_nil _⟩

end Go.Proofs.Ytijogcjocandcaa
