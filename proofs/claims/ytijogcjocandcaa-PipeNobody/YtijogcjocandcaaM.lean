/-
  pipe.fresh.
-/
import Derived.Test.YtijogcjocandcaaL
namespace Go.Proofs.Ytijogcjocandcaa
open Go.RowKit

/-- Two slices that lie in no one block. -/
def Apart (v v' : Value) : Prop := ∀ k, v.ownBlock = some k → v'.ownBlock ≠ some k
/-- The value v is the pipe P in rows of its own, from the block base on. -/
def OwnPipe (base : Nat) (w : World) (v : Value) (P : Pp) : Prop := ∃ vi vs vg, v = .agg #[.int .i64 P.cap, vi, .bool P.closed, vs, vg] ∧ Own KI base w vi P.items ∧ Own KP base w vs P.ss ∧ Own KP base w vg P.gs ∧ Apart vi vs ∧ Apart vi vg ∧ Apart vs vg
theorem OwnPipe.pipe {base : Nat} {w : World} {v : Value} {P : Pp} (h : OwnPipe base w v P) : IsPipe w v P := by
  obtain ⟨vi, vs, vg, rfl, h1, h2, h3, -⟩ := h
  exact ⟨vi, vs, vg, rfl, h1.isl, h2.isl, h3.isl⟩
/-- The value v reads as the pipe P, whose lists lie from the block base on. -/
def NewPipe (base : Nat) (w : World) (v : Value) (P : Pp) : Prop := ∃ vi vs vg, v = .agg #[.int .i64 P.cap, vi, .bool P.closed, vs, vg] ∧ New KI base w vi P.items ∧ New KP base w vs P.ss ∧ New KP base w vg P.gs
def NewAns (base : Nat) (w : World) (v : Value) (A : An) : Prop := ∃ vw, v = .agg #[.bool A.done, .bool A.panic, .bool A.ok, .int .i64 A.value, .int .i64 A.case, vw] ∧ New KW base w vw A.wakes
theorem OwnPipe.new {base : Nat} {w : World} {v : Value} {P : Pp} (h : OwnPipe base w v P) : NewPipe base w v P := by
  obtain ⟨vi, vs, vg, rfl, h1, h2, h3, -⟩ := h
  exact ⟨vi, vs, vg, rfl, h1.new, h2.new, h3.new⟩
theorem NewPipe.pipe {base : Nat} {w : World} {v : Value} {P : Pp} (h : NewPipe base w v P) : IsPipe w v P := by
  obtain ⟨vi, vs, vg, rfl, h1, h2, h3⟩ := h
  exact ⟨vi, vs, vg, rfl, h1.1, h2.1, h3.1⟩
theorem NewAns.ans {base : Nat} {w : World} {v : Value} {A : An} (h : NewAns base w v A) : IsAns w v A := by
  obtain ⟨vw, rfl, h1⟩ := h
  exact ⟨vw, rfl, h1.1⟩

theorem set_block5 {w : World} {R i : Nat} {x0 x1 x2 x3 x4 y : Value} {t : TypeId} (h : w.heap[R]? = some (.cells #[x0, x1, x2, x3, x4] t (0, 0))) : (w.setCell ⟨R, i, none⟩ y).heap[R]? = some (.cells (#[x0, x1, x2, x3, x4].setIfInBounds i y) t (0, 0)) := by
  simp [World.setCell, Array.getElem?_modify, h]
theorem Own.set {α : Type} {K : Kind α} {base R i : Nat} {w : World} {v y : Value} {xs : List α} (h : Own K base w v xs) (hR : R < base) : Own K base (w.setCell ⟨R, i, none⟩ y) v xs := h.keep fun k hk => Below.heap_setCell _ _ _ _ (by have := (h.lt k hk).1; simp; omega)
theorem New.set {α : Type} {K : Kind α} (hK : K.Ok) {base R i : Nat} {w : World} {v y : Value} {xs : List α} (h : New K base w v xs) (hR : R < base) : New K base (w.setCell ⟨R, i, none⟩ y) v xs := h.keep hK fun k hk _ => Below.heap_setCell _ _ _ _ (by simp; omega)
theorem below_set {B R i : Nat} {w w' : World} (h : Below B w w') (hR : B ≤ R) (y : Value) : Below B w (w'.setCell ⟨R, i, none⟩ y) := h.setCell hR y

theorem set5_below {B R : Nat} {w w' : World} (h : Below B w w') (hR : B ≤ R) (y0 y1 y2 y3 y4 : Value) : Below B w (((((w'.setCell ⟨R, 0, none⟩ y0).setCell ⟨R, 1, none⟩ y1).setCell ⟨R, 2, none⟩ y2).setCell ⟨R, 3, none⟩ y3).setCell ⟨R, 4, none⟩ y4) := ((((h.setCell hR y0).setCell hR y1).setCell hR y2).setCell hR y3).setCell hR y4
theorem Own.set5 {α : Type} {K : Kind α} {base R : Nat} {w : World} {v : Value} {xs : List α} (h : Own K base w v xs) (hR : R < base) (y0 y1 y2 y3 y4 : Value) : Own K base (((((w.setCell ⟨R, 0, none⟩ y0).setCell ⟨R, 1, none⟩ y1).setCell ⟨R, 2, none⟩ y2).setCell ⟨R, 3, none⟩ y3).setCell ⟨R, 4, none⟩ y4) v xs := ((((h.set hR).set hR).set hR).set hR).set hR
theorem New.set5 {α : Type} {K : Kind α} (hK : K.Ok) {base R : Nat} {w : World} {v : Value} {xs : List α} (h : New K base w v xs) (hR : R < base) (y0 y1 y2 y3 y4 : Value) : New K base (((((w.setCell ⟨R, 0, none⟩ y0).setCell ⟨R, 1, none⟩ y1).setCell ⟨R, 2, none⟩ y2).setCell ⟨R, 3, none⟩ y3).setCell ⟨R, 4, none⟩ y4) v xs := ((((h.set hK hR).set hK hR).set hK hR).set hK hR).set hK hR

theorem apart_of {α β : Type} {K : Kind α} {L : Kind β} {base base' : Nat} {w w' : World} {v v' : Value} {xs : List α} {ys : List β} (h : Own K base w v xs) (h' : Own L base' w' v' ys) (hb : w.heap.size ≤ base') : Apart v v' := fun k hk hk' => by
  have h1 := (h.lt k hk).2
  have h2 := (h'.lt k hk').1
  omega

set_option maxRecDepth 100000 in
set_option maxHeartbeats 1000000 in
theorem fresh_any (w : World) (v : Value) (P : Pp) (h : IsPipe w v P) (hs : Short P) :
    Calls Try.prog 39 #[v] w fun e w' => ∃ v', e = .returned v' ∧ OwnPipe w.heap.size w' v' P ∧ Below w.heap.size w w' := by
  obtain ⟨cap, items, closed, ss, gs⟩ := P
  obtain ⟨a1, c1, a2, c2, a3, c3, rfl, hI, hS, hG⟩ := h.form
  obtain ⟨h1, h2, h3⟩ := hs
  simp only at h1 h2 h3 h hI hS hG ⊢
  have HI := hide hI; have HS := hide hS; have HG := hide hG
  obtain ⟨n1, en1⟩ : ∃ n, items.length = n := ⟨_, rfl⟩
  obtain ⟨n2, en2⟩ : ∃ n, ss.length = n := ⟨_, rfl⟩
  obtain ⟨n3, en3⟩ : ∃ n, gs.length = n := ⟨_, rfl⟩
  rw [en1] at h1 HI; rw [en2] at h2 HS; rw [en3] at h3 HG; rw [en1, en2, en3]
  have HN1 := hide en1; have HN2 := hide en2; have HN3 := hide en3
  clear h hI hS hG en1 en2 en3
  have HB := hide ((Below.refl w.heap.size w).alloc (Nat.le_refl _) (.cells #[.int .i64 cap, .slice a1 n1 c1, .bool closed, .slice a2 n2 c2, .slice a3 n3 c3] 25) |>.alloc (by simp) (.cells #[.int .i64 0, .slice none 0 0, .bool false, .slice none 0 0, .slice none 0 0] 25))
  have HQ := hide (keep_alloc (new_block w (.cells #[.int .i64 cap, .slice a1 n1 c1, .bool closed, .slice a2 n2 c2, .slice a3 n3 c3] 25)) (.cells #[.int .i64 0, .slice none 0 0, .bool false, .slice none 0 0, .slice none 0 0] 25))
  have HR := hide (new_block (w.alloc (.cells #[.int .i64 cap, .slice a1 n1 c1, .bool closed, .slice a2 n2 c2, .slice a3 n3 c3] 25)) (.cells #[.int .i64 0, .slice none 0 0, .bool false, .slice none 0 0, .slice none 0 0] 25))
  rw [World.size_alloc] at HR
  go_enter Try.func39, Try.ntmps39
  go_upto_region 1 with fail
  obtain ⟨W0, eW⟩ : ∃ W, (w.alloc (.cells #[.int .i64 cap, .slice a1 n1 c1, .bool closed, .slice a2 n2 c2, .slice a3 n3 c3] 25)).alloc (.cells #[.int .i64 0, .slice none 0 0, .bool false, .slice none 0 0, .slice none 0 0] 25) = W := ⟨_, rfl⟩
  rw [eW] at HB HQ HR ⊢
  clear eW
  have HZ0 := hide (block5 (unhide HR)).2.2
  have HE := hide (own_empty (K := KI) W0)
  obtain ⟨⟨p0, p1, p2, p3, p4⟩, ⟨f0, f1, f2, f3, f4⟩, pl⟩ := block5 (keep_alloc (unhide HQ) (.cells #[] 3))
  go_upto_region 2 with (at_builtin; refine wpList_append ki rfl (.tmp 3) (.tmp 5) rfl W0.heap.size _ [] rfl (unhide HE) _ items rfl (IsL.below (unhide HI) ((unhide HB).alloc (unhide HB).size _)) n1 (by simp [unhide HN1]) h1 (by simp) ?_; intro b1 d1 w1 ho1 hg1; have HO1 := hide (own_nil_append ho1); have HX1 := hide (((Below.refl W0.heap.size W0).alloc (Nat.le_refl _) _).grown hg1 (by simp) (fun k hk => by cases hk; exact Nat.le_refl _)); clear ho1 hg1 p0 p1 p2 p3 p4 pl f0 f1 f2 f3 f4; obtain ⟨⟨p0, p1, p2, p3, p4⟩, ⟨f0, f1, f2, f3, f4⟩, pl⟩ := block5 (keep_below (unhide HQ) (unhide HX1)))
  have HQ1 := hide (set_block5 (i := 1) (y := .slice b1 n1 d1) (keep_below (unhide HQ) (unhide HX1)))
  have HR1 := hide (keep_set (o := 1) (v := .slice b1 n1 d1) (keep_below (unhide HR) (unhide HX1)) (Nat.succ_ne_self w.heap.size))
  have HB1 := hide (below_set (i := 1) (Below.next (unhide HB) (unhide HX1) (Nat.le_refl _)) (Nat.le_refl _) (.slice b1 n1 d1))
  have HO1b := hide ((unhide HO1).set (i := 1) (y := .slice b1 n1 d1) (show w.heap.size < W0.heap.size by have := unhide HZ0; omega))
  have HZ1 := hide (unhide HX1).size
  clear HO1 HX1 HQ HR HB HE p0 p1 p2 p3 p4 pl f0 f1 f2 f3 f4
  obtain ⟨W1, eW1⟩ : ∃ W, w1.setCell ⟨w.heap.size, 1, none⟩ (.slice b1 n1 d1) = W := ⟨_, rfl⟩
  have hs1 : W1.heap.size = w1.heap.size := by rw [← eW1]; simp [World.setCell]
  rw [← hs1] at HZ1
  rw [eW1] at HQ1 HR1 HB1 HO1b ⊢
  clear eW1 hs1
  simp only [List.setIfInBounds_toArray, List.set_cons_zero, List.set_cons_succ] at HQ1
  have HE := hide (own_empty (K := KP) W1)
  obtain ⟨⟨p0, p1, p2, p3, p4⟩, ⟨f0, f1, f2, f3, f4⟩, pl⟩ := block5 (keep_alloc (unhide HQ1) (.cells #[] 39))
  go_upto_region 3 with (at_builtin; refine wpList_append kp rfl (.tmp 8) (.tmp 10) rfl W1.heap.size _ [] rfl (unhide HE) _ ss rfl (IsL.below (unhide HS) ((unhide HB1).alloc (unhide HB1).size _)) n2 (by simp [unhide HN2]) h2 (by simp) ?_; intro b2 d2 w2 ho1 hg1; have HO2 := hide (own_nil_append ho1); have HX1 := hide (((Below.refl W1.heap.size W1).alloc (Nat.le_refl _) _).grown hg1 (by simp) (fun k hk => by cases hk; exact Nat.le_refl _)); clear ho1 hg1 p0 p1 p2 p3 p4 pl f0 f1 f2 f3 f4; obtain ⟨⟨p0, p1, p2, p3, p4⟩, ⟨f0, f1, f2, f3, f4⟩, pl⟩ := block5 (keep_below (unhide HQ1) (unhide HX1)))
  have HQ2 := hide (set_block5 (i := 3) (y := .slice b2 n2 d2) (keep_below (unhide HQ1) (unhide HX1)))
  have HR2 := hide (keep_set (o := 3) (v := .slice b2 n2 d2) (keep_below (unhide HR1) (unhide HX1)) (Nat.succ_ne_self w.heap.size))
  have HB2 := hide (below_set (i := 3) (Below.next (unhide HB1) (unhide HX1) (Nat.le_refl _)) (Nat.le_refl _) (.slice b2 n2 d2))
  have HO2b := hide ((unhide HO2).set (i := 3) (y := .slice b2 n2 d2) (show w.heap.size < W1.heap.size by have := unhide HZ0; have := unhide HZ1; omega))
  have HO1c := hide (((unhide HO1b).below (unhide HX1)).set (i := 3) (y := .slice b2 n2 d2) (show w.heap.size < W0.heap.size by have := unhide HZ0; omega))
  have HA12 := hide (apart_of (unhide HO1b) (unhide HO2) (Nat.le_refl _))
  have HZ2 := hide (unhide HX1).size
  clear HO1b HO2 HX1 HQ1 HR1 HB1 HE p0 p1 p2 p3 p4 pl f0 f1 f2 f3 f4
  obtain ⟨W2, eW2⟩ : ∃ W, w2.setCell ⟨w.heap.size, 3, none⟩ (.slice b2 n2 d2) = W := ⟨_, rfl⟩
  have hs2 : W2.heap.size = w2.heap.size := by rw [← eW2]; simp [World.setCell]
  rw [← hs2] at HZ2
  rw [eW2] at HQ2 HR2 HB2 HO2b HO1c ⊢
  clear eW2 hs2
  simp only [List.setIfInBounds_toArray, List.set_cons_zero, List.set_cons_succ] at HQ2
  have HE := hide (own_empty (K := KP) W2)
  obtain ⟨⟨p0, p1, p2, p3, p4⟩, ⟨f0, f1, f2, f3, f4⟩, pl⟩ := block5 (keep_alloc (unhide HQ2) (.cells #[] 39))
  go_upto_region 4 with (at_builtin; refine wpList_append kp rfl (.tmp 13) (.tmp 15) rfl W2.heap.size _ [] rfl (unhide HE) _ gs rfl (IsL.below (unhide HG) ((unhide HB2).alloc (unhide HB2).size _)) n3 (by simp [unhide HN3]) h3 (by simp) ?_; intro b3 d3 w3 ho1 hg1; have HO3 := hide (own_nil_append ho1); have HX1 := hide (((Below.refl W2.heap.size W2).alloc (Nat.le_refl _) _).grown hg1 (by simp) (fun k hk => by cases hk; exact Nat.le_refl _)); clear ho1 hg1 p0 p1 p2 p3 p4 pl f0 f1 f2 f3 f4; obtain ⟨⟨p0, p1, p2, p3, p4⟩, ⟨f0, f1, f2, f3, f4⟩, pl⟩ := block5 (keep_below (unhide HQ2) (unhide HX1)))
  have HQ3 := hide (set_block5 (i := 4) (y := .slice b3 n3 d3) (keep_below (unhide HQ2) (unhide HX1)))
  have HR3 := hide (keep_set (o := 4) (v := .slice b3 n3 d3) (keep_below (unhide HR2) (unhide HX1)) (Nat.succ_ne_self w.heap.size))
  have HB3 := hide (below_set (i := 4) (Below.next (unhide HB2) (unhide HX1) (Nat.le_refl _)) (Nat.le_refl _) (.slice b3 n3 d3))
  have HO3b := hide ((unhide HO3).set (i := 4) (y := .slice b3 n3 d3) (show w.heap.size < W2.heap.size by have := unhide HZ0; have := unhide HZ1; have := unhide HZ2; omega))
  have HO1d := hide (((unhide HO1c).below (unhide HX1)).set (i := 4) (y := .slice b3 n3 d3) (show w.heap.size < W0.heap.size by have := unhide HZ0; omega))
  have HO2c := hide (((unhide HO2b).below (unhide HX1)).set (i := 4) (y := .slice b3 n3 d3) (show w.heap.size < W1.heap.size by have := unhide HZ0; have := unhide HZ1; omega))
  have HA13 := hide (apart_of (unhide HO1c) (unhide HO3) (Nat.le_refl _))
  have HA23 := hide (apart_of (unhide HO2b) (unhide HO3) (Nat.le_refl _))
  clear HO1c HO2b HO3 HX1 HQ2 HR2 HB2 HE p0 p1 p2 p3 p4 pl f0 f1 f2 f3 f4
  obtain ⟨W3, eW3⟩ : ∃ W, w3.setCell ⟨w.heap.size, 4, none⟩ (.slice b3 n3 d3) = W := ⟨_, rfl⟩
  rw [eW3] at HQ3 HR3 HB3 HO3b HO1d HO2c ⊢
  clear eW3
  simp only [List.setIfInBounds_toArray, List.set_cons_zero, List.set_cons_succ] at HQ3
  obtain ⟨⟨p0, p1, p2, p3, p4⟩, -, pl⟩ := block5 (unhide HQ3)
  obtain ⟨⟨q0, q1, q2, q3, q4⟩, ⟨f0, f1, f2, f3, f4⟩, ql⟩ := block5 (unhide HR3)
  go_wp2_with fail
  refine bodyPost_ret (v := .agg #[.int .i64 cap, .slice b1 n1 d1, .bool closed, .slice b2 n2 d2, .slice b3 n3 d3]) (by simp [results, Try.results39, go_sem, q0, q1, q2, q3, q4]) rfl ⟨_, rfl, ⟨_, _, _, rfl, ?_, ?_, ?_, unhide HA12, unhide HA13, unhide HA23⟩, set5_below (unhide HB3) (Nat.le_succ _) _ _ _ _ _⟩
  · exact ((unhide HO1d).set5 (show w.heap.size + 1 < W0.heap.size from unhide HZ0) _ _ _ _ _).base (by have := unhide HZ0; omega)
  · exact ((unhide HO2c).set5 (show w.heap.size + 1 < W1.heap.size by have := unhide HZ0; have := unhide HZ1; omega) _ _ _ _ _).base (by have := unhide HZ0; have := unhide HZ1; omega)
  · exact ((unhide HO3b).set5 (show w.heap.size + 1 < W2.heap.size by have := unhide HZ0; have := unhide HZ1; have := unhide HZ2; omega) _ _ _ _ _).base (by have := unhide HZ0; have := unhide HZ1; have := unhide HZ2; omega)
end Go.Proofs.Ytijogcjocandcaa
