/-
  pipe.first where somebody waits to send.
-/
import Derived.Test.YtijogcjocandcaaGa
namespace Go.Proofs.Ytijogcjocandcaa
open Go.RowKit

theorem grown_block {w w' : World} {k : Nat} {row : Option Nat} (hg : w.grownBy w' row) (h : k < w.heap.size) (hk : ∀ j, row = some j → j ≠ k) : w'.heap[k]? = w.heap[k]? := by
  obtain ⟨_, _, _, _, hb⟩ := hg
  exact hb k h (by cases row with | none => simp | some j => have := hk j rfl; simp; omega)

set_option maxRecDepth 100000 in
set_option maxHeartbeats 1000000 in
theorem first_sender (w : World) (base : Nat) (v : Value) (P : Pp) (h : OwnPipe base w v P) (hb : base ≤ w.heap.size) (hc : countP P ≤ 5000) (hz2 : 0 < P.ss.length) :
    Calls Try.prog 52 #[v] w fun e w' => ∃ v1 v2, e = .returned (.tuple #[v1, v2]) ∧ NewPipe base w' v1 { P with items := (P.items ++ [(pAt P.ss 0).2.2]).drop 1, ss := P.ss.drop 1 } ∧ NewAns base w' v2 ⟨true, false, true, (P.items ++ [(pAt P.ss 0).2.2]).getD 0 0, 0, [((pAt P.ss 0).1, (pAt P.ss 0).2.1, 0, false, false)]⟩ ∧ Below base w w' ∧ (∀ (k : Nat) (o : Obj), w.heap[k]? = some o → (∀ cur f, o ≠ .cells cur 3 f) → w'.heap[k]? = some o) ∧ OffPipe w v1 ∧ OffAns w v2 := by
  obtain ⟨cap, items, closed, ss, gs⟩ := P
  obtain ⟨vi, vs, vg, rfl, hI, hS, hG, hA1, hA2, hA3⟩ := h
  obtain ⟨a3, c3, rfl⟩ := hG.form
  have hc' : items.length + ss.length + gs.length ≤ 5000 := hc
  clear hc
  simp only at hI hS hG hA1 hA2 hA3 hz2 ⊢
  have HBA := hide hb
  obtain ⟨a1, c1, rfl⟩ := hI.form
  obtain ⟨sb, c2, rfl, hsb1, hsb2, hl2⟩ := hS.at kp hz2
  obtain ⟨⟨ta, ca, ua⟩, hx⟩ : ∃ x, pAt ss 0 = x := ⟨_, rfl⟩
  rw [hx]
  have HPF := hide (post_first hl2 hz2 hx); have HCF := hide hS.isl.fits
  obtain ⟨line, hline⟩ : ∃ l, items ++ [ua] = l := ⟨_, rfl⟩
  simp only
  rw [hline]
  have HLI := hide hline
  obtain ⟨iz, hiz⟩ : ∃ z, line.getD 0 0 = z := ⟨_, rfl⟩
  rw [hiz]
  have HIZ := hide hiz
  clear hx hl2 hline hiz
  have HI := hide hI; have HS := hide hS; have HG := hide hG; have HA1 := hide hA1; have HA2 := hide hA2; have HA3 := hide hA3
  clear hI hS hG hA1 hA2 hA3 hb
  obtain ⟨n1, en1⟩ : ∃ n, items.length = n := ⟨_, rfl⟩
  obtain ⟨n2, en2⟩ : ∃ n, ss.length = n := ⟨_, rfl⟩
  obtain ⟨n3, en3⟩ : ∃ n, gs.length = n := ⟨_, rfl⟩
  rw [en1] at HI HA1 HA2; rw [en2] at HS HA1 HA3; rw [en3] at HG HA2 HA3
  rw [en1, en2, en3] at hc'
  rw [en1, en2, en3]
  have HN1 := hide en1; have HN2 := hide en2; have HN3 := hide en3
  rw [en2] at hz2 HCF
  have z2 : (0 : Int) < (n2 : Int) := by omega
  clear en1 en2 en3
  obtain ⟨W0, e0, hB, k0, k1, k2⟩ := three_new w (.cells #[.int .i64 cap, .slice a1 n1 c1, .bool closed, .slice (some ⟨sb, 0, none⟩) n2 c2, .slice a3 n3 c3] 25) (.cells #[.int .i64 0, .slice none 0 0, .bool false, .slice none 0 0, .slice none 0 0] 25) (.cells #[.bool false, .bool false, .bool false, .int .i64 0, .int .i64 0, .slice none 0 0] 34)
  have HB := hide hB; have HK0 := hide k0; have HK2 := hide k1; have HK3 := hide k2; have HE := hide e0
  clear hB k0 k1 k2 e0
  go_enter Try.func52, Try.ntmps52
  go_upto_region 1 with fail
  rw [unhide HE]
  clear HE
  go_upto_region 2 with fail
  have HX := hide ((unhide HB).alloc (unhide HB).size (.cells #[.bool true, .bool false, .bool true, .int .i64 0, .int .i64 0, .slice none 0 0] 34))
  have HJ0 := hide (keep_alloc (unhide HK0) (.cells #[.bool true, .bool false, .bool true, .int .i64 0, .int .i64 0, .slice none 0 0] 34))
  have HJ2 := hide (keep_alloc (unhide HK2) (.cells #[.bool true, .bool false, .bool true, .int .i64 0, .int .i64 0, .slice none 0 0] 34))
  have HJ3 := hide (keep_alloc (unhide HK3) (.cells #[.bool true, .bool false, .bool true, .int .i64 0, .int .i64 0, .slice none 0 0] 34))
  have HT := hide (new_block W0 (.cells #[.bool true, .bool false, .bool true, .int .i64 0, .int .i64 0, .slice none 0 0] 34))
  have hTl : w.heap.size + 1 + 1 < W0.heap.size := (block6 (unhide HK3)).2.2
  obtain ⟨T, eT⟩ : ∃ T, W0.heap.size = T := ⟨_, rfl⟩
  obtain ⟨W1, eW⟩ : ∃ W, W0.alloc (.cells #[.bool true, .bool false, .bool true, .int .i64 0, .int .i64 0, .slice none 0 0] 34) = W := ⟨_, rfl⟩
  rw [eT, eW] at HT; rw [eW] at HX HJ0 HJ2 HJ3; rw [eT] at hTl; rw [eT, eW]
  clear eT eW HK0 HK2 HK3 HB
  obtain ⟨⟨p0, p1, p2, p3, p4⟩, ⟨y0, y1, y2, y3, y4⟩, pl⟩ := block5 (unhide HJ0)
  obtain ⟨⟨q0, q1, q2, q3, q4⟩, ⟨f0, f1, f2, f3, f4⟩, ql⟩ := block5 (unhide HJ2)
  obtain ⟨⟨s0, s1, s2, s3, s4, s5⟩, ⟨g0, g1, g2, g3, g4, g5⟩, sl⟩ := block6 (unhide HJ3)
  obtain ⟨⟨x0, x1, x2, x3, x4, x5⟩, ⟨z0, z1, z2, z3', z4, z5⟩, xl⟩ := block6 (unhide HT)
  obtain ⟨h0, h1, h2⟩ := unhide HPF
  have j0 : W1.cell? ⟨sb, 0, none⟩ = some (.int .i64 ta) := ((unhide HX).cell (p := ⟨sb, 0, none⟩) hsb2).trans h0
  have j1 : W1.cell? ⟨sb, 1, none⟩ = some (.int .i64 ca) := ((unhide HX).cell (p := ⟨sb, 1, none⟩) hsb2).trans h1
  have j2 : W1.cell? ⟨sb, 2, none⟩ = some (.int .i64 ua) := ((unhide HX).cell (p := ⟨sb, 2, none⟩) hsb2).trans h2
  have HU := hide h2
  clear h0 h1 h2
  go_upto_region 4 with (go_at_call 51; refine (woken_any _ ta ca ua 0 0 0 false false).mono ?_; rintro e w5 ⟨rfl, hb5⟩; have HX5 := hide hb5; clear p0 p1 p2 p3 p4 y0 y1 y2 y3 y4 pl q0 q1 q2 q3 q4 f0 f1 f2 f3 f4 ql s0 s1 s2 s3 s4 s5 g0 g1 g2 g3 g4 g5 sl x0 x1 x2 x3 x4 x5 z0 z1 z2 z3' z4 z5 xl j0 j1 j2; obtain ⟨⟨x0, x1, x2, x3, x4, x5⟩, ⟨z0, z1, z2', z3', z4, z5⟩, xl⟩ := block6 (keep_below (unhide HT) hb5); have o5 : T ≠ w5.heap.size := (Nat.ne_of_lt xl); clear hb5)
  clear x0 x1 x2 x3 x4 x5 z0 z1 z2' z3' z4 z5 o5
  have hsz : (w5.setCell ⟨T, 5, none⟩ (.slice (some ⟨w5.heap.size, 0, none⟩) 1 1)).heap.size = w5.heap.size := by simp [World.setCell]
  have HIO : Hid (New KW w5.heap.size ((w5.setCell ⟨T, 5, none⟩ (.slice (some ⟨w5.heap.size, 0, none⟩) 1 1)).alloc (.cells #[.int .i64 ta, .int .i64 ca, .int .i64 0, .bool false, .bool false] 64)) (.slice (some ⟨w5.heap.size, 0, none⟩) 1 1) [(ta, ca, 0, false, false)]) := ⟨by
    have := isl_one kw (w5.setCell ⟨T, 5, none⟩ (.slice (some ⟨w5.heap.size, 0, none⟩) 1 1)) (ta, ca, 0, false, false)
    rw [hsz] at this
    exact this, fun k hk => by cases hk; exact Nat.le_refl _⟩
  have N0 := hide (keep_alloc (keep_set (g := T) (o := 5) (v := .slice (some ⟨w5.heap.size, 0, none⟩) 1 1) (keep_below (unhide HJ0) (unhide HX5)) (by omega)) (.cells #[.int .i64 ta, .int .i64 ca, .int .i64 0, .bool false, .bool false] 64))
  have N2 := hide (keep_alloc (keep_set (g := T) (o := 5) (v := .slice (some ⟨w5.heap.size, 0, none⟩) 1 1) (keep_below (unhide HJ2) (unhide HX5)) (by omega)) (.cells #[.int .i64 ta, .int .i64 ca, .int .i64 0, .bool false, .bool false] 64))
  have N3 := hide (keep_alloc (keep_set (g := T) (o := 5) (v := .slice (some ⟨w5.heap.size, 0, none⟩) 1 1) (keep_below (unhide HJ3) (unhide HX5)) (by omega)) (.cells #[.int .i64 ta, .int .i64 ca, .int .i64 0, .bool false, .bool false] 64))
  have NT := hide (keep_alloc (set_block6 (i := 5) (y := .slice (some ⟨w5.heap.size, 0, none⟩) 1 1) (keep_below (unhide HT) (unhide HX5))) (.cells #[.int .i64 ta, .int .i64 ca, .int .i64 0, .bool false, .bool false] 64))
  have HX4 := hide ((below_set (i := 5) (Below.next (unhide HX) (unhide HX5) (Nat.le_refl _)) (show w.heap.size ≤ T by omega) (.slice (some ⟨w5.heap.size, 0, none⟩) 1 1)).alloc (by rw [hsz]; exact (Below.next (unhide HX) (unhide HX5) (Nat.le_refl _)).size) (.cells #[.int .i64 ta, .int .i64 ca, .int .i64 0, .bool false, .bool false] 64))
  obtain ⟨W4, e4⟩ : ∃ W, (w5.setCell ⟨T, 5, none⟩ (.slice (some ⟨w5.heap.size, 0, none⟩) 1 1)).alloc (.cells #[.int .i64 ta, .int .i64 ca, .int .i64 0, .bool false, .bool false] 64) = W := ⟨_, rfl⟩
  rw [e4] at N0 N2 N3 NT HIO HX4 ⊢
  clear e4 hsz
  simp only [List.setIfInBounds_toArray, List.set_cons_zero, List.set_cons_succ] at NT
  have hS1 : T < w5.heap.size := xl
  obtain ⟨S, eS⟩ : ∃ S, w5.heap.size = S := ⟨_, rfl⟩
  rw [eS] at NT HIO hS1 ⊢
  clear eS xl HX5 HJ0 HJ2 HJ3 HT HX
  have HI4 := hide ((unhide HI).below (unhide HX4)); have HS4 := hide ((unhide HS).below (unhide HX4)); have HG4 := hide ((unhide HG).below (unhide HX4))
  obtain ⟨⟨p0, p1, p2, p3, p4⟩, ⟨y0, y1, y2, y3, y4⟩, pl⟩ := block5 (unhide N0)
  have j2 : W4.cell? ⟨sb, 2, none⟩ = some (.int .i64 ua) := ((unhide HX4).cell (p := ⟨sb, 2, none⟩) hsb2).trans (unhide HU)
  have o1 := (block5 (keep_alloc (unhide N0) (.cells #[.int .i64 ua] 3))).1.2.1
  go_region_law (refine step_append ki rfl (.tmp 19) (.tmp 25) rfl base _ items rfl (Own.below (unhide HI4) (by first | exact (Below.refl _ _).drew | exact ((Below.refl _ _).alloc (Nat.le_refl _) _).drew | exact (Below.refl _ _).drew.alloc (Nat.le_refl _) _)) _ [ua] rfl (by first | exact isl_one ki W4.drew ua | exact IsL.below (isl_one ki W4 ua) (Below.refl _ _).drew) (n1 + 1) (by rw [unhide HN1]; rfl) (by show (n1 + 1) * 8 ≤ 140737488355328; omega) (Nat.le_trans (unhide HBA) (Nat.le_trans (unhide HX4).size (by simp [World.drew]))) ?_; intro b6 d6 w6 ho6 hg6; have HO6 := hide ho6; have HKE : Hid (∀ k, w.heap.size ≤ k → k < W4.heap.size → w6.heap[k]? = W4.heap[k]?) := (fun k hle hlt => (grown_block hg6 (Nat.lt_of_lt_of_le hlt (by simp [World.drew])) (fun j hj => by have := ((unhide HI).lt j hj).2; omega)).trans ((Below.block (by first | exact (Below.refl _ _).drew | exact ((Below.refl _ _).alloc (Nat.le_refl _) _).drew | exact (Below.refl _ _).drew.alloc (Nat.le_refl _) _) k hlt))); have HKZ : Hid (∀ (k : Nat) (o : Obj), W4.heap[k]? = some o → (∀ cur f, o ≠ .cells cur 3 f) → w6.heap[k]? = some o) := (fun k o hk ho => (grown_block hg6 (Nat.lt_of_lt_of_le (Array.getElem?_eq_some_iff.1 hk).1 (by simp [World.drew])) (Own.other (unhide HI4) hk ho)).trans ((Below.block (by first | exact (Below.refl _ _).drew | exact ((Below.refl _ _).alloc (Nat.le_refl _) _).drew | exact (Below.refl _ _).drew.alloc (Nat.le_refl _) _) k (Array.getElem?_eq_some_iff.1 hk).1).trans hk)); have HB6 : Hid (Below base w w6) := Below.grown (Below.trans ((unhide HX4).mono (unhide HBA)) (Below.mono (by first | exact (Below.refl _ _).drew | exact ((Below.refl _ _).alloc (Nat.le_refl _) _).drew | exact (Below.refl _ _).drew.alloc (Nat.le_refl _) _) (Nat.le_trans (unhide HBA) (unhide HX4).size))) hg6 (Nat.le_trans (unhide HBA) (Nat.le_trans (unhide HX4).size (by simp [World.drew]))) (fun k hk => ((unhide HI).lt k hk).1); have HS6 := hide (Own.grown (Own.below (unhide HS4) (by first | exact (Below.refl _ _).drew | exact ((Below.refl _ _).alloc (Nat.le_refl _) _).drew | exact (Below.refl _ _).drew.alloc (Nat.le_refl _) _)) hg6 (unhide HA1)); have HG6 := hide (Own.grown (Own.below (unhide HG4) (by first | exact (Below.refl _ _).drew | exact ((Below.refl _ _).alloc (Nat.le_refl _) _).drew | exact (Below.refl _ _).drew.alloc (Nat.le_refl _) _)) hg6 (unhide HA2)); obtain ⟨⟨p0', p1', p2', p3', p4'⟩, ⟨y0', y1', y2', y3', y4'⟩, pl'⟩ := block5 ((unhide HKE w.heap.size (Nat.le_refl _) pl).trans (unhide N0)); clear ho6 hg6)
  all_goals (
    obtain ⟨W7, e7⟩ : ∃ W, w6.setCell ⟨w.heap.size, 1, none⟩ (.slice b6 (n1 + 1) d6) = W := ⟨_, rfl⟩
    have hSS : S < W4.heap.size := by have h9 := (unhide HIO).1.old kw (by simp) S rfl; exact h9
    have hR6 : w.heap.size + 1 + 1 < W4.heap.size := (block6 (unhide N3)).2.2
    have hTT : T < W4.heap.size := (block6 (unhide NT)).2.2
    have B6 := hide ((unhide HKE w.heap.size (Nat.le_refl _) pl).trans (unhide N0))
    have Q7 := hide (set_block5 (i := 1) (y := .slice b6 (n1 + 1) d6) (unhide B6))
    have R7 := hide (keep_set (g := w.heap.size) (o := 1) (v := .slice b6 (n1 + 1) d6) ((unhide HKE (w.heap.size + 1) (by omega) (by omega)).trans (unhide N2)) (by omega))
    have V7 := hide (keep_set (g := w.heap.size) (o := 1) (v := .slice b6 (n1 + 1) d6) ((unhide HKE (w.heap.size + 1 + 1) (by omega) hR6).trans (unhide N3)) (by omega))
    have T7 := hide (keep_set (g := w.heap.size) (o := 1) (v := .slice b6 (n1 + 1) d6) ((unhide HKE T (by omega) hTT).trans (unhide NT)) (by omega))
    have HB7 := hide (below_set (i := 1) (unhide HB6) (unhide HBA) (.slice b6 (n1 + 1) d6))
    have HZ7 : Hid (∀ (k : Nat) (o : Obj), w.heap[k]? = some o → (∀ cur f, o ≠ .cells cur 3 f) → (w6.setCell ⟨w.heap.size, 1, none⟩ (.slice b6 (n1 + 1) d6)).heap[k]? = some o) := fun k o hk ho => by
      have hk1 := (Array.getElem?_eq_some_iff.1 hk).1
      exact (Below.heap_setCell _ _ _ _ (by simp; omega)).trans (unhide HKZ k o (keep_below hk (unhide HX4)) ho)
    have HO7 : Hid (Own KI base (w6.setCell ⟨w.heap.size, 1, none⟩ (.slice b6 (n1 + 1) d6)) (.slice b6 (n1 + 1) d6) line) := by
      rw [← unhide HLI]
      exact (unhide HO6).keep (fun k hk => Below.heap_setCell _ _ _ _ (by have := (unhide HO6).ne (unhide B6) (by decide) k hk; simpa using this))
    have HS7 := hide ((unhide HS6).keep (w' := w6.setCell ⟨w.heap.size, 1, none⟩ (.slice b6 (n1 + 1) d6)) (fun k hk => Below.heap_setCell _ _ _ _ (by have := (unhide HS6).ne (unhide B6) (by decide) k hk; simpa using this)))
    have HG7 := hide ((unhide HG6).keep (w' := w6.setCell ⟨w.heap.size, 1, none⟩ (.slice b6 (n1 + 1) d6)) (fun k hk => Below.heap_setCell _ _ _ _ (by have := (unhide HG6).ne (unhide B6) (by decide) k hk; simpa using this)))
    have HW7 := hide (((unhide HIO).keep kw (w' := w6) (fun k hk hlt => unhide HKE k (by omega) hlt)).keep kw (w' := w6.setCell ⟨w.heap.size, 1, none⟩ (.slice b6 (n1 + 1) d6)) (fun k hk _ => Below.heap_setCell _ _ _ _ (by simp; omega)))
    rw [e7] at Q7 R7 V7 T7 HB7 HO7 HS7 HG7 HW7 HZ7 ⊢
    clear e7 HKZ B6 HO6 HS6 HG6 HB6 HKE HIO N0 N2 N3 NT HI4 HS4 HG4 HX4 p0 p1 p2 p3 p4 y0 y1 y2 y3 y4 pl p0' p1' p2' p3' p4' y0' y1' y2' y3' y4' pl' j2 o1
    simp only [List.setIfInBounds_toArray, List.set_cons_zero, List.set_cons_succ] at Q7
    have hll : line.length = n1 + 1 := by rw [← unhide HLI, List.length_append, unhide HN1]; rfl
    obtain ⟨ib, dd, ev, hib1, hib2, hlib⟩ := (unhide HO7).at ki (by omega)
    rw [hll] at ev
    cases ev
    have HLB := hide hlib
    have HC0 : Hid (W7.cell? ⟨ib, 0, none⟩ = some (.int .i64 iz)) := by have := hlib.ints (j := 0) (by omega); rw [unhide HIZ] at this; exact hide (by simpa using this)
    have HF6 := hide (unhide HO7).isl.fits
    have hibS : ib ≠ w.heap.size := (unhide HO7).ne (unhide Q7) (by decide) ib rfl
    have hibT : ib ≠ T := (unhide HO7).ne (unhide T7) (by decide) ib rfl
    clear hlib
    obtain ⟨⟨p0, p1, p2, p3, p4⟩, ⟨y0, y1, y2, y3, y4⟩, pl⟩ := block5 (unhide Q7)
    have i1 : (1 : Int) ≤ (n2 : Int) := by omega
    have i2 : (n2 : Int) ≤ (c2 : Int) := by have := unhide HCF; omega
    go_upto_region 6 with fail
    clear p0 p1 p2 p3 p4 y0 y1 y2 y3 y4 pl i1 i2
    obtain ⟨AS, hAS⟩ : ∃ A, A = (if c2 = 1 then some ⟨sb, 0, none⟩ else some ⟨sb, 3, none⟩ : Option Addr) := ⟨_, rfl⟩
    rw [← hAS]
    have HNS : Hid (∀ W, Own KP base W (.slice (some ⟨sb, 0, none⟩) n2 c2) ss → New KP base W (.slice AS (n2 - 1) (c2 - 1)) (ss.drop 1)) := fun W hW => ⟨IsL.drop_if kp hW.isl (p := 1) (by omega) (by rw [hAS]; rfl), fun k hk => by
      have : k = sb := by
        rw [hAS] at hk
        split at hk <;> · simp [Value.ownBlock] at hk; exact hk.symm
      omega⟩
    have HASE : Hid ((Value.slice AS (n2 - 1) (c2 - 1)).ownBlock = (Value.slice (some ⟨sb, 0, none⟩) n2 c2).ownBlock) := by rw [hAS]; split <;> rfl
    clear hAS
    have Q8 := hide (set_block5 (i := 3) (y := .slice AS (n2 - 1) (c2 - 1)) (unhide Q7)); have R8 := hide (keep_set (g := w.heap.size) (o := 3) (v := .slice AS (n2 - 1) (c2 - 1)) (unhide R7) (by omega)); have V8 := hide (keep_set (g := w.heap.size) (o := 3) (v := .slice AS (n2 - 1) (c2 - 1)) (unhide V7) (by omega)); have T8 := hide (keep_set (g := w.heap.size) (o := 3) (v := .slice AS (n2 - 1) (c2 - 1)) (unhide T7) (by omega))
    have HB8 := hide (below_set (i := 3) (unhide HB7) (unhide HBA) (.slice AS (n2 - 1) (c2 - 1)))
    have HE8 : Hid (∀ k, k ≠ w.heap.size → (W7.setCell ⟨w.heap.size, 3, none⟩ (.slice AS (n2 - 1) (c2 - 1))).heap[k]? = W7.heap[k]?) := fun k hk => Below.heap_setCell _ _ _ _ (by simpa using hk)
    obtain ⟨W8, e8⟩ : ∃ W, W7.setCell ⟨w.heap.size, 3, none⟩ (.slice AS (n2 - 1) (c2 - 1)) = W := ⟨_, rfl⟩
    rw [e8] at Q8 R8 V8 T8 HB8 HE8 ⊢
    clear e8 HB7
    simp only [List.setIfInBounds_toArray, List.set_cons_zero, List.set_cons_succ] at Q8
    have j0 : W8.cell? ⟨ib, 0, none⟩ = some (.int .i64 iz) := (World.cell?_of_block (w := W7) (a := ⟨ib, 0, none⟩) (unhide HE8 ib hibS)).trans (unhide HC0)
    obtain ⟨⟨p0, p1, p2, p3, p4⟩, ⟨y0, y1, y2, y3, y4⟩, pl⟩ := block5 (unhide Q8)
    obtain ⟨⟨x0, x1, x2, x3, x4, x5⟩, ⟨w0, w1', w2, w3, w4, w5'⟩, xl⟩ := block6 (unhide T8)
    have i3 : (0 : Int) < ((n1 + 1 : Nat) : Int) := by omega
    have i4 : (0 : Int) < (n1 : Int) + 1 := by omega
    go_upto_region 7 with fail
    clear p0 p1 p2 p3 p4 y0 y1 y2 y3 y4 pl x0 x1 x2 x3 x4 x5 w0 w1' w2 w3 w4 w5' xl j0
    have Q9 := hide (keep_set (g := T) (o := 3) (v := .int .i64 iz) (unhide Q8) (by omega)); have R9 := hide (keep_set (g := T) (o := 3) (v := .int .i64 iz) (unhide R8) (by omega)); have V9 := hide (keep_set (g := T) (o := 3) (v := .int .i64 iz) (unhide V8) (by omega)); have T9 := hide (set_block6 (i := 3) (y := .int .i64 iz) (unhide T8))
    have HB9 := hide (below_set (i := 3) (unhide HB8) (show base ≤ T by have := unhide HBA; omega) (.int .i64 iz))
    have HE9 : Hid (∀ k, k ≠ w.heap.size → k ≠ T → (W8.setCell ⟨T, 3, none⟩ (.int .i64 iz)).heap[k]? = W7.heap[k]?) := fun k hk ht => (Below.heap_setCell _ _ _ _ (by simpa using ht)).trans (unhide HE8 k hk)
    obtain ⟨W9, e9⟩ : ∃ W, W8.setCell ⟨T, 3, none⟩ (.int .i64 iz) = W := ⟨_, rfl⟩
    rw [e9] at Q9 R9 V9 T9 HB9 HE9 ⊢
    clear e9 Q8 R8 V8 T8 HB8 HE8
    simp only [List.setIfInBounds_toArray, List.set_cons_zero, List.set_cons_succ] at T9
    obtain ⟨⟨p0, p1, p2, p3, p4⟩, ⟨y0, y1, y2, y3, y4⟩, pl⟩ := block5 (unhide Q9)
    have i5 : (1 : Int) ≤ ((n1 + 1 : Nat) : Int) := by omega
    have i6 : ((n1 + 1 : Nat) : Int) ≤ (d6 : Int) := by have := unhide HF6; omega
    have i7 : (n1 : Int) + 1 ≤ (d6 : Int) := by omega
    have i8 : (1 : Int) ≤ (n1 : Int) + 1 := by omega
    go_upto_region 8 with fail
    clear p0 p1 p2 p3 p4 y0 y1 y2 y3 y4 pl i3 i4 i5 i6 i7 i8
    obtain ⟨AI, hAI⟩ : ∃ A, A = (if d6 = 1 then some ⟨ib, 0, none⟩ else some ⟨ib, 1, none⟩ : Option Addr) := ⟨_, rfl⟩
    rw [← hAI]
    have HNI : Hid (∀ W, Own KI base W (.slice (some ⟨ib, 0, none⟩) (n1 + 1) d6) line → New KI base W (.slice AI n1 (d6 - 1)) (line.drop 1)) := fun W hW => ⟨by
      have := IsL.drop_if ki hW.isl (p := 1) (by omega) (A := AI) (by rw [hAI]; rfl)
      rw [Nat.add_sub_cancel] at this
      exact this, fun k hk => by
      have : k = ib := by
        rw [hAI] at hk
        split at hk <;> · simp [Value.ownBlock] at hk; exact hk.symm
      omega⟩
    have HAIE : Hid ((Value.slice AI n1 (d6 - 1)).ownBlock = (Value.slice (some ⟨ib, 0, none⟩) (n1 + 1) d6).ownBlock) := by rw [hAI]; split <;> rfl
    clear hAI
    have Q10 := hide (set_block5 (i := 1) (y := .slice AI n1 (d6 - 1)) (unhide Q9)); have R10 := hide (keep_set (g := w.heap.size) (o := 1) (v := .slice AI n1 (d6 - 1)) (unhide R9) (by omega)); have V10 := hide (keep_set (g := w.heap.size) (o := 1) (v := .slice AI n1 (d6 - 1)) (unhide V9) (by omega)); have T10 := hide (keep_set (g := w.heap.size) (o := 1) (v := .slice AI n1 (d6 - 1)) (unhide T9) (by omega))
    have HB10 := hide (below_set (i := 1) (unhide HB9) (unhide HBA) (.slice AI n1 (d6 - 1)))
    have HE10 : Hid (∀ k, k ≠ w.heap.size → k ≠ T → (W9.setCell ⟨w.heap.size, 1, none⟩ (.slice AI n1 (d6 - 1))).heap[k]? = W7.heap[k]?) := fun k hk ht => (Below.heap_setCell _ _ _ _ (by simpa using hk)).trans (unhide HE9 k hk ht)
    obtain ⟨W10, e10⟩ : ∃ W, W9.setCell ⟨w.heap.size, 1, none⟩ (.slice AI n1 (d6 - 1)) = W := ⟨_, rfl⟩
    rw [e10] at Q10 R10 V10 T10 HB10 HE10 ⊢
    clear e10 Q9 R9 V9 T9 HB9 HE9
    simp only [List.setIfInBounds_toArray, List.set_cons_zero, List.set_cons_succ] at Q10
    obtain ⟨n5, e5⟩ : ∃ n, n2 - 1 = n := ⟨_, rfl⟩
    obtain ⟨c5, e6⟩ : ∃ n, c2 - 1 = n := ⟨_, rfl⟩
    obtain ⟨d7, e7⟩ : ∃ n, d6 - 1 = n := ⟨_, rfl⟩
    rw [e5, e6] at HNS Q10 HASE; rw [e7] at HNI Q10 HAIE; rw [e5, e6, e7]
    clear e5 e6 e7
    obtain ⟨⟨p0, p1, p2, p3, p4⟩, ⟨y0, y1, y2, y3, y4⟩, pl⟩ := block5 (unhide Q10)
    obtain ⟨⟨q0, q1, q2, q3, q4⟩, ⟨f0, f1, f2, f3, f4⟩, ql⟩ := block5 (unhide R10)
    obtain ⟨⟨s0, s1, s2, s3, s4, s5⟩, ⟨g0, g1, g2, g3, g4, g5⟩, sl⟩ := block6 (unhide V10)
    obtain ⟨⟨x0, x1, x2, x3, x4, x5⟩, ⟨z0, z1, z2, z3', z4, z5⟩, xl⟩ := block6 (unhide T10)
    have u0 : T ≠ w.heap.size + 1 := by omega
    have u1 : w.heap.size + 1 ≠ T := by omega
    have u2 : T ≠ w.heap.size + 1 + 1 := by omega
    have u3 : w.heap.size + 1 + 1 ≠ T := by omega
    have u4 : T ≠ w.heap.size := by omega
    have u5 : w.heap.size ≠ T := by omega
    go_wp2_with fail
    go_region
    obtain ⟨Wf, ef⟩ : ∃ W, (put6 (put5 W10 (w.heap.size + 1) (.int .i64 cap) (.slice AI n1 d7) (.bool closed) (.slice AS n5 c5) (.slice a3 n3 c3)) (w.heap.size + 1 + 1) (.bool true) (.bool false) (.bool true) (.int .i64 iz) (.int .i64 0) (.slice (some ⟨S, 0, none⟩) 1 1)).drew = W := ⟨_, rfl⟩
    have H5 := hide (keep_below ((put6_keep (y0 := .bool true) (y1 := .bool false) (y2 := .bool true) (y3 := .int .i64 iz) (y4 := .int .i64 0) (y5 := .slice (some ⟨S, 0, none⟩) 1 1) (show w.heap.size + 1 ≠ w.heap.size + 1 + 1 by omega)).trans (put5_new (y0 := .int .i64 cap) (y1 := .slice AI n1 d7) (y2 := .bool closed) (y3 := .slice AS n5 c5) (y4 := .slice a3 n3 c3) (unhide R10))) (Below.refl _ _).drew)
    have H6 := hide (keep_below (put6_new (y0 := .bool true) (y1 := .bool false) (y2 := .bool true) (y3 := .int .i64 iz) (y4 := .int .i64 0) (y5 := .slice (some ⟨S, 0, none⟩) 1 1) ((put5_keep (y0 := .int .i64 cap) (y1 := .slice AI n1 d7) (y2 := .bool closed) (y3 := .slice AS n5 c5) (y4 := .slice a3 n3 c3) (show w.heap.size + 1 + 1 ≠ w.heap.size + 1 by omega)).trans (unhide V10))) (Below.refl _ _).drew)
    have HBf : Hid (Below base w (put6 (put5 W10 (w.heap.size + 1) (.int .i64 cap) (.slice AI n1 d7) (.bool closed) (.slice AS n5 c5) (.slice a3 n3 c3)) (w.heap.size + 1 + 1) (.bool true) (.bool false) (.bool true) (.int .i64 iz) (.int .i64 0) (.slice (some ⟨S, 0, none⟩) 1 1)).drew) := (put6_below (put5_below (unhide HB10) (by have := unhide HBA; omega)) (by have := unhide HBA; omega)).drew
    have HKf : Hid (∀ k, k ≠ w.heap.size + 1 → k ≠ w.heap.size + 1 + 1 → ((put6 (put5 W10 (w.heap.size + 1) (.int .i64 cap) (.slice AI n1 d7) (.bool closed) (.slice AS n5 c5) (.slice a3 n3 c3)) (w.heap.size + 1 + 1) (.bool true) (.bool false) (.bool true) (.int .i64 iz) (.int .i64 0) (.slice (some ⟨S, 0, none⟩) 1 1)).drew).heap[k]? = W10.heap[k]?) := fun k h5 h6 => (drew_at _ k).trans ((put6_keep h6).trans (put5_keep h5))
    rw [ef] at H5 H6 HBf HKf
    have ef2 : ((((((((((((W10).setCell ⟨w.heap.size + 1, 0, none⟩ (.int .i64 cap)).setCell ⟨w.heap.size + 1, 1, none⟩ (.slice AI n1 d7)).setCell ⟨w.heap.size + 1, 2, none⟩ (.bool closed)).setCell ⟨w.heap.size + 1, 3, none⟩ (.slice AS n5 c5)).setCell ⟨w.heap.size + 1, 4, none⟩ (.slice a3 n3 c3)).setCell ⟨w.heap.size + 1 + 1, 0, none⟩ (.bool true)).setCell ⟨w.heap.size + 1 + 1, 1, none⟩ (.bool false)).setCell ⟨w.heap.size + 1 + 1, 2, none⟩ (.bool true)).setCell ⟨w.heap.size + 1 + 1, 3, none⟩ (.int .i64 iz)).setCell ⟨w.heap.size + 1 + 1, 4, none⟩ (.int .i64 0)).setCell ⟨w.heap.size + 1 + 1, 5, none⟩ (.slice (some ⟨S, 0, none⟩) 1 1)).drew = Wf := ef
    rw [ef2]
    clear ef ef2
    clear p0 p1 p2 p3 p4 y0 y1 y2 y3 y4 pl q0 q1 q2 q3 q4 f0 f1 f2 f3 f4 ql s0 s1 s2 s3 s4 s5 g0 g1 g2 g3 g4 g5 sl x0 x1 x2 x3 x4 x5 z0 z1 z2 z3' z4 z5 xl
    obtain ⟨⟨q0, q1, q2, q3, q4⟩, -, -⟩ := block5 (unhide H5)
    obtain ⟨⟨s0, s1, s2, s3, s4, s5⟩, -, -⟩ := block6 (unhide H6)
    go_wp2_with fail
    refine bodyPost_ret (v := .tuple #[.agg #[.int .i64 cap, .slice AI n1 d7, .bool closed, .slice AS n5 c5, .slice a3 n3 c3], .agg #[.bool true, .bool false, .bool true, .int .i64 iz, .int .i64 0, .slice (some ⟨S, 0, none⟩) 1 1]]) (by simp [results, Try.results52, go_sem, q0, q1, q2, q3, q4, s0, s1, s2, s3, s4, s5]) rfl ⟨_, _, rfl, ⟨_, _, _, rfl, unhide HNI _ ((unhide HO7).keep (fun k hk => (unhide HKf k ((unhide HO7).ne (unhide R7) (by decide) k hk) ((unhide HO7).ne (unhide V7) (by decide) k hk)).trans (unhide HE10 k ((unhide HO7).ne (unhide Q7) (by decide) k hk) ((unhide HO7).ne (unhide T7) (by decide) k hk)))), unhide HNS _ ((unhide HS7).keep (fun k hk => (unhide HKf k ((unhide HS7).ne (unhide R7) (by decide) k hk) ((unhide HS7).ne (unhide V7) (by decide) k hk)).trans (unhide HE10 k ((unhide HS7).ne (unhide Q7) (by decide) k hk) ((unhide HS7).ne (unhide T7) (by decide) k hk)))), ((unhide HG7).keep (fun k hk => (unhide HKf k ((unhide HG7).ne (unhide R7) (by decide) k hk) ((unhide HG7).ne (unhide V7) (by decide) k hk)).trans (unhide HE10 k ((unhide HG7).ne (unhide Q7) (by decide) k hk) ((unhide HG7).ne (unhide T7) (by decide) k hk)))).new⟩, ⟨_, rfl, ((unhide HW7).keep kw (fun k hk _ => (unhide HKf k (by omega) (by omega)).trans (unhide HE10 k (by omega) (by omega)))).base (by have := unhide HBA; omega)⟩, unhide HBf, fun k o hk ho => by have hk1 := (Array.getElem?_eq_some_iff.1 hk).1; exact ((unhide HKf k (by omega) (by omega)).trans (unhide HE10 k (by omega) (by omega))).trans (unhide HZ7 k o hk ho), fun _ _ _ _ _ e => by cases e; exact ⟨fun k o hk h3 _ hv => Own.other (unhide HO7) (unhide HZ7 k o hk h3) h3 k ((unhide HAIE).symm.trans hv) rfl, (unhide HS).offP (unhide HASE), (unhide HG).offP rfl⟩, fun _ _ _ _ _ _ e => by cases e; exact off_new (fun k hk => by cases hk; show w.heap.size ≤ S; omega)⟩
  )

/-- What is got at once of a pipe that has something. -/
def firstL (P : Pp) : Pp × An :=
  if 0 < P.ss.length then ({ P with items := (P.items ++ [(pAt P.ss 0).2.2]).drop 1, ss := P.ss.drop 1 }, ⟨true, false, true, (P.items ++ [(pAt P.ss 0).2.2]).getD 0 0, 0, [((pAt P.ss 0).1, (pAt P.ss 0).2.1, 0, false, false)]⟩)
  else ({ P with items := P.items.drop 1 }, ⟨true, false, true, P.items.getD 0 0, 0, []⟩)
theorem first_any (w : World) (base : Nat) (v : Value) (P : Pp) (h : OwnPipe base w v P) (hb : base ≤ w.heap.size) (hc : countP P ≤ 5000) (hz : 0 < P.items.length + P.ss.length) :
    Calls Try.prog 52 #[v] w fun e w' => ∃ v1 v2, e = .returned (.tuple #[v1, v2]) ∧ NewPipe base w' v1 (firstL P).1 ∧ NewAns base w' v2 (firstL P).2 ∧ Below base w w' ∧ (∀ (k : Nat) (o : Obj), w.heap[k]? = some o → (∀ cur f, o ≠ .cells cur 3 f) → w'.heap[k]? = some o) ∧ OffPipe w v1 ∧ OffAns w v2 := by
  unfold firstL
  by_cases h2 : 0 < P.ss.length
  · rw [if_pos h2]
    exact first_sender w base v P h hb hc h2
  · rw [if_neg h2]
    exact first_items w base v P h hb hc (by omega) h2
end Go.Proofs.Ytijogcjocandcaa
