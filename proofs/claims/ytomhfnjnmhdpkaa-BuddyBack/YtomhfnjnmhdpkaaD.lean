/-
  Blocks of variables; what stays.
-/
import Derived.Test.YtomhfnjnmhdpkaaA
namespace Go.Proofs.Ytomhfnjnmhdpkaa
open Go.RowKit

theorem new_block (w : World) (o : Obj) : (w.alloc o).heap[w.heap.size]? = some o := (MapKept.heap_alloc w o).1
theorem keep_below {w w' : World} {k : Nat} {x : Obj} (h : w.heap[k]? = some x) (hb : Below w.heap.size w w') : w'.heap[k]? = some x := (hb.block k (Array.getElem?_eq_some_iff.1 h).1).trans h
theorem keep_at {w w' : World} {k B : Nat} {x : Obj} (h : w.heap[k]? = some x) (hb : Below B w w') (hk : k < B) : w'.heap[k]? = some x := (hb.block k hk).trans h
theorem keep_alloc {w : World} {k : Nat} {x : Obj} (h : w.heap[k]? = some x) (o : Obj) : (w.alloc o).heap[k]? = some x := (Below.heap_alloc _ _ _ (Array.getElem?_eq_some_iff.1 h).1).trans h
theorem keep_set {w : World} {k g o : Nat} {x : Obj} {v : Value} (h : w.heap[k]? = some x) (hk : k ≠ g) : (w.setCell ⟨g, o, none⟩ v).heap[k]? = some x := (Below.heap_setCell _ _ _ _ (by simpa using hk)).trans h
theorem block1 {w : World} {R : Nat} {x : Value} {t : TypeId} (h : w.heap[R]? = some (.cells #[x] t (0, 0))) : w.cell? ⟨R, 0, none⟩ = some x ∧ w.frozen? ⟨R, 0, none⟩ = false ∧ R < w.heap.size := by
  refine ⟨?_, ?_, (Array.getElem?_eq_some_iff.1 h).1⟩
  · simp only [World.cell?, h]; rfl
  · simp [World.frozen?, h]
theorem block2 {w : World} {R : Nat} {x y : Value} {t : TypeId} (h : w.heap[R]? = some (.cells #[x, y] t (0, 0))) : w.cell? ⟨R, 0, none⟩ = some x ∧ w.cell? ⟨R, 1, none⟩ = some y ∧ w.frozen? ⟨R, 0, none⟩ = false ∧ w.frozen? ⟨R, 1, none⟩ = false ∧ R < w.heap.size := by
  refine ⟨?_, ?_, ?_, ?_, (Array.getElem?_eq_some_iff.1 h).1⟩
  · simp only [World.cell?, h]; rfl
  · simp only [World.cell?, h]; rfl
  · simp only [World.frozen?, h]; rfl
  · simp only [World.frozen?, h]; rfl
theorem block3 {w : World} {R : Nat} {x y z : Value} {t : TypeId} (h : w.heap[R]? = some (.cells #[x, y, z] t (0, 0))) : (w.cell? ⟨R, 0, none⟩ = some x ∧ w.cell? ⟨R, 1, none⟩ = some y ∧ w.cell? ⟨R, 2, none⟩ = some z) ∧ (w.frozen? ⟨R, 0, none⟩ = false ∧ w.frozen? ⟨R, 1, none⟩ = false ∧ w.frozen? ⟨R, 2, none⟩ = false) ∧ R < w.heap.size := by
  refine ⟨⟨?_, ?_, ?_⟩, ⟨?_, ?_, ?_⟩, (Array.getElem?_eq_some_iff.1 h).1⟩
  all_goals first | (simp only [World.cell?, h]; rfl) | (simp only [World.frozen?, h]; rfl)
theorem block4 {w : World} {R : Nat} {x y z v : Value} {t : TypeId} (h : w.heap[R]? = some (.cells #[x, y, z, v] t (0, 0))) : (w.cell? ⟨R, 0, none⟩ = some x ∧ w.cell? ⟨R, 1, none⟩ = some y ∧ w.cell? ⟨R, 2, none⟩ = some z ∧ w.cell? ⟨R, 3, none⟩ = some v) ∧ (w.frozen? ⟨R, 0, none⟩ = false ∧ w.frozen? ⟨R, 1, none⟩ = false ∧ w.frozen? ⟨R, 2, none⟩ = false ∧ w.frozen? ⟨R, 3, none⟩ = false) ∧ R < w.heap.size := by
  refine ⟨⟨?_, ?_, ?_, ?_⟩, ⟨?_, ?_, ?_, ?_⟩, (Array.getElem?_eq_some_iff.1 h).1⟩
  all_goals first | (simp only [World.cell?, h]; rfl) | (simp only [World.frozen?, h]; rfl)
theorem wrapi {x : Int} (h0 : -9223372036854775808 ≤ x) (h1 : x ≤ 9223372036854775807) : IntKind.i64.wrap x = x := by
  simp [IntKind.wrap, IntKind.bits, IntKind.signed]; omega
/-- Two slices that lie in no one block. -/
def Apart (v v' : Value) : Prop := ∀ k, v.ownBlock = some k → v'.ownBlock ≠ some k
theorem Own.set {α : Type} {K : Kind α} {base R i : Nat} {w : World} {v y : Value} {xs : List α} (h : Own K base w v xs) (hR : R < base) : Own K base (w.setCell ⟨R, i, none⟩ y) v xs := h.keep fun k hk => Below.heap_setCell _ _ _ _ (by have := (h.lt k hk).1; simp; omega)
theorem New.set {α : Type} {K : Kind α} (hK : K.Ok) {base R i : Nat} {w : World} {v y : Value} {xs : List α} (h : New K base w v xs) (hR : R < base) : New K base (w.setCell ⟨R, i, none⟩ y) v xs := h.keep hK fun k hk _ => Below.heap_setCell _ _ _ _ (by simp; omega)
theorem below_set {B R i : Nat} {w w' : World} (h : Below B w w') (hR : B ≤ R) (y : Value) : Below B w (w'.setCell ⟨R, i, none⟩ y) := h.setCell hR y
theorem apart_of {α β : Type} {K : Kind α} {L : Kind β} {base base' : Nat} {w w' : World} {v v' : Value} {xs : List α} {ys : List β} (h : Own K base w v xs) (h' : Own L base' w' v' ys) (hb : w.heap.size ≤ base') : Apart v v' := fun k hk hk' => by
  have h1 := (h.lt k hk).2
  have h2 := (h'.lt k hk').1
  omega
theorem Own.ne {α : Type} {K : Kind α} {base : Nat} {w : World} {v : Value} {xs : List α} (h : Own K base w v xs) {R : Nat} {arr : Array Value} {t : TypeId} {f : Nat × Nat} (hR : w.heap[R]? = some (.cells arr t f)) (ht : t ≠ K.e) : ∀ k, v.ownBlock = some k → k ≠ R := by
  obtain ⟨_, ⟨rfl, _⟩ | ⟨g, cap, cur, rfl, hg, hh, _⟩⟩ := h
  · intro k hk; cases hk
  · intro k hk
    cases hk
    rintro rfl
    rw [hh] at hR
    cases hR
    exact ht rfl
theorem keep_grown {w w' : World} {k : Nat} {x : Obj} {row : Option Nat} (h : w.heap[k]? = some x) (hg : w.grownBy w' row) (hk : ∀ j, row = some j → j ≠ k) : w'.heap[k]? = some x := by
  obtain ⟨_, _, _, _, hb⟩ := hg
  rw [hb k (Array.getElem?_eq_some_iff.1 h).1 (by cases row with | none => simp | some j => have := hk j rfl; simp; omega)]
  exact h
theorem Own.grown {α : Type} {K : Kind α} {base : Nat} {w w' : World} {v v' : Value} {xs : List α} (h : Own K base w v xs) (hg : w.grownBy w' v'.ownBlock) (ha : Apart v' v) : Own K base w' v xs := h.keep fun k hk => by
  obtain ⟨_, _, _, _, hb⟩ := hg
  exact hb k (h.lt k hk).2 (by
    cases e : v'.ownBlock with
    | none => simp
    | some j => have := ha j e; rw [hk] at this; simp at this ⊢; omega)
theorem isl_one {α : Type} {K : Kind α} (hK : K.Ok) (w : World) (x : α) : IsL K (w.alloc (.cells (K.f x).toArray K.e)) (.slice (some ⟨w.heap.size, 0, none⟩) 1 1) [x] := by
  refine Lies.isl hK (fun j i u hj hu => ?_) rfl (Nat.le_refl _)
  have e : j = 0 := by simp at hj; omega
  subst e
  have hh := new_block w (.cells (K.f x).toArray K.e)
  simp only [World.cell?, hh]
  simpa using hu
theorem four_new (w : World) (o0 o1 o2 o3 : Obj) : ∃ W, (((w.alloc o0).alloc o1).alloc o2).alloc o3 = W ∧ Below w.heap.size w W ∧ W.heap[w.heap.size]? = some o0 ∧ W.heap[w.heap.size + 1]? = some o1 ∧ W.heap[w.heap.size + 1 + 1]? = some o2 ∧ W.heap[w.heap.size + 1 + 1 + 1]? = some o3 := by
  refine ⟨_, rfl, (((((Below.refl w.heap.size w).alloc (Nat.le_refl _) o0).alloc (by simp) o1).alloc (by simp; omega) o2).alloc (by simp; omega) o3), ?_, ?_, ?_, ?_⟩
  · exact keep_alloc (keep_alloc (keep_alloc (new_block w o0) _) _) _
  · have := new_block (w.alloc o0) o1
    rw [World.size_alloc] at this
    exact keep_alloc (keep_alloc this _) _
  · have := new_block ((w.alloc o0).alloc o1) o2
    rw [World.size_alloc, World.size_alloc] at this
    exact keep_alloc this _
  · have := new_block (((w.alloc o0).alloc o1).alloc o2) o3
    rw [World.size_alloc, World.size_alloc, World.size_alloc] at this
    exact this
theorem three_new (w : World) (o0 o1 o2 : Obj) : ∃ W, ((w.alloc o0).alloc o1).alloc o2 = W ∧ Below w.heap.size w W ∧ W.heap[w.heap.size]? = some o0 ∧ W.heap[w.heap.size + 1]? = some o1 ∧ W.heap[w.heap.size + 1 + 1]? = some o2 := by
  refine ⟨_, rfl, ((((Below.refl w.heap.size w).alloc (Nat.le_refl _) o0).alloc (by simp) o1).alloc (by simp; omega) o2), ?_, ?_, ?_⟩
  · exact keep_alloc (keep_alloc (new_block w o0) _) _
  · have := new_block (w.alloc o0) o1
    rw [World.size_alloc] at this
    exact keep_alloc this _
  · have := new_block ((w.alloc o0).alloc o1) o2
    rw [World.size_alloc, World.size_alloc] at this
    exact this
theorem two_new (w : World) (o0 o1 : Obj) : ∃ W, (w.alloc o0).alloc o1 = W ∧ Below w.heap.size w W ∧ W.heap[w.heap.size]? = some o0 ∧ W.heap[w.heap.size + 1]? = some o1 := by
  refine ⟨_, rfl, ((Below.refl w.heap.size w).alloc (Nat.le_refl _) o0).alloc (by simp) o1, keep_alloc (new_block w o0) _, ?_⟩
  have := new_block (w.alloc o0) o1
  rw [World.size_alloc] at this
  exact this
theorem size_of {w : World} {k : Nat} {o : Obj} (h : w.heap[k]? = some o) : k < w.heap.size := (Array.getElem?_eq_some_iff.1 h).1
theorem isl_block {α : Type} {K : Kind α} (hK : K.Ok) {w : World} {S : Nat} {x : α} (h : w.heap[S]? = some (.cells (K.f x).toArray K.e)) : IsL K w (.slice (some ⟨S, 0, none⟩) 1 1) [x] := by
  refine Lies.isl hK (fun j i u hj hu => ?_) rfl (Nat.le_refl _)
  have e : j = 0 := by simp at hj; omega
  subst e
  simp only [World.cell?, h]
  simpa using hu
/-- All blocks but g are as they were. -/
structure But (g : Nat) (w w' : World) : Prop where
  os : w'.os = w.os
  tape : w'.tape = w.tape
  output : w'.output = w.output
  size : w.heap.size ≤ w'.heap.size
  block : ∀ k, k < w.heap.size → k ≠ g → w'.heap[k]? = w.heap[k]?
theorem But.refl (g : Nat) (w : World) : But g w w := ⟨rfl, rfl, rfl, Nat.le_refl _, fun _ _ _ => rfl⟩
theorem But.trans {g : Nat} {a b c : World} (h : But g a b) (k : But g b c) : But g a c :=
  ⟨k.os.trans h.os, k.tape.trans h.tape, k.output.trans h.output, Nat.le_trans h.size k.size, fun i hi hg => (k.block i (Nat.lt_of_lt_of_le hi h.size) hg).trans (h.block i hi hg)⟩
theorem But.of_below {g : Nat} {w w' : World} (h : Below w.heap.size w w') : But g w w' := ⟨h.os, h.tape, h.output, h.size, fun k hk _ => h.block k hk⟩
theorem But.call {g : Nat} {a b c : World} (h : But g a b) (k : Below b.heap.size b c) : But g a c := h.trans (But.of_below k)
theorem But.below {g B : Nat} {w w' : World} (h : But g w w') (hB : B ≤ g) (hs : B ≤ w.heap.size) : Below B w w' := ⟨h.os, h.tape, h.output, h.size, fun k hk => h.block k (by omega) (by omega)⟩
theorem Lies.but {α : Type} {K : Kind α} {w w' : World} {b off g : Nat} {xs : List α} (h : Lies K w b off xs) (hb : But g w w') (hl : b < w.heap.size) (hg : b ≠ g) : Lies K w' b off xs := h.keep (hb.block b hl hg)
theorem IsL.old {α : Type} {K : Kind α} (hK : K.Ok) {w : World} {v : Value} {xs : List α} (h : IsL K w v xs) (hn : 0 < xs.length) : ∀ k, v.ownBlock = some k → k < w.heap.size := by
  obtain ⟨b, off, c, rfl, hb, -⟩ := h.at hK hn
  intro k hk
  cases hk
  exact hb
def faultV (x : Int × Int) : Value := .agg #[.int .i64 x.1, .int .i64 x.2]
theorem keep_but {w w' : World} {g k : Nat} {x : Obj} (h : w.heap[k]? = some x) (hb : But g w w') (hk : k ≠ g) : w'.heap[k]? = some x := (hb.block k (Array.getElem?_eq_some_iff.1 h).1 hk).trans h
theorem below_set2 {B R : Nat} {w w' : World} (h : Below B w w') (hR : B ≤ R) (x y : Value) : Below B w ((w'.setCell ⟨R, 0, none⟩ x).setCell ⟨R, 1, none⟩ y) := (h.setCell hR x).setCell hR y
theorem set2_block {w : World} {R : Nat} {x y x' y' : Value} {t : TypeId} (h : w.heap[R]? = some (.cells #[x, y] t (0, 0))) : ((w.setCell ⟨R, 0, none⟩ x').setCell ⟨R, 1, none⟩ y').heap[R]? = some (.cells #[x', y'] t (0, 0)) := by
  simp [World.setCell, Array.getElem?_modify, h]
def put2 (w : World) (R : Nat) (y0 y1 : Value) : World := (w.setCell ⟨R, 0, none⟩ y0).setCell ⟨R, 1, none⟩ y1
theorem put2_keep {w : World} {R k : Nat} {y0 y1 : Value} (h : k ≠ R) : (put2 w R y0 y1).heap[k]? = w.heap[k]? := by
  unfold put2
  repeat rw [Below.heap_setCell _ _ _ _ (by simpa using h)]
theorem put2_below {B R : Nat} {w w' : World} (h : Below B w w') (hR : B ≤ R) {y0 y1 : Value} : Below B w (put2 w' R y0 y1) := (h.setCell hR y0).setCell hR y1
theorem put2_new {w : World} {R : Nat} {x0 x1 y0 y1 : Value} {t : TypeId} (h : w.heap[R]? = some (.cells #[x0, x1] t (0, 0))) : (put2 w R y0 y1).heap[R]? = some (.cells #[y0, y1] t (0, 0)) := set2_block h
theorem drew_at (w : World) (k : Nat) : w.drew.heap[k]? = w.heap[k]? := rfl
theorem New.apart {α : Type} {K : Kind α} (hK : K.Ok) {base : Nat} {w w' : World} {v : Value} {xs : List α} (h : New K base w v xs) {lo : Nat} (hlo : lo ≤ base) (hk : ∀ k, lo ≤ k → k < w.heap.size → w'.heap[k]? = w.heap[k]?) : New K base w' v xs := h.keep hK fun k h1 h2 => hk k (Nat.le_trans hlo h1) h2
end Go.Proofs.Ytomhfnjnmhdpkaa
