/-
  Rings as they are copied and read: taskmilllaw.ownRing, taskmilllaw.noRing, taskmillref.Line.
-/
import Derived.Test.YtcdnennfimbgoabD
import Derived.Deep.MidRow
namespace Go.Proofs.Ytcdnennfimbgoab
open Go.RowKit

/-- The slice v reads as the numbers zs, and fits its capacity. -/
def IsList (w : World) (v : Value) (zs : List Int) : Prop := IsInts w v zs ∧ Fits v

theorem IsList.below {w w' : World} {v : Value} {zs : List Int} (h : IsList w v zs) (hb : Below w.heap.size w w') : IsList w' v zs := ⟨Rd.below h.1 hb, h.2⟩

theorem IsList.of_owns {w : World} {base : Nat} {v : Value} {zs : List Int} (h : w.ownsRow base 3 1 v zs.length (zs.map (Value.int .i64))) : IsList w v zs := by
  refine ⟨Rd.of_owns h, fun a n c e => ?_⟩
  obtain ⟨_, ⟨h1, _⟩ | ⟨g, cap, cur, h1, _, _, h2, _⟩⟩ := h
  · rw [h1] at e; cases e; omega
  · rw [h1] at e; cases e; exact h2

/-- The slice v is a row of its own, from the block base on, of the numbers zs. -/
def Own (base : Nat) (w : World) (v : Value) (zs : List Int) : Prop := w.ownsRow base 3 1 v zs.length (zs.map (Value.int .i64))

theorem Own.list {base : Nat} {w : World} {v : Value} {zs : List Int} (h : Own base w v zs) : IsList w v zs := IsList.of_owns h
theorem Own.keep {base : Nat} {w w' : World} {v : Value} {zs : List Int} (h : Own base w v zs) (hk : ∀ k, base ≤ k → k < w.heap.size → w'.heap[k]? = w.heap[k]?) : Own base w' v zs := by
  refine ⟨h.1, h.2.imp id ?_⟩
  rintro ⟨g, cap, cur, hv, hg, hh, r⟩
  exact ⟨g, cap, cur, hv, hg, (hk g hg (Array.getElem?_eq_some_iff.1 hh).1).trans hh, r⟩
theorem Own.base {base base' : Nat} {w : World} {v : Value} {zs : List Int} (h : Own base w v zs) (hb : base' ≤ base) : Own base' w v zs := by
  refine ⟨h.1, h.2.imp id ?_⟩
  rintro ⟨g, cap, cur, hv, hg, r⟩
  exact ⟨g, cap, cur, hv, Nat.le_trans hb hg, r⟩
theorem Own.below {base : Nat} {w w' : World} {v : Value} {zs : List Int} (h : Own base w v zs) (hb : Below w.heap.size w w') : Own base w' v zs := h.keep fun k _ hk => hb.block k hk
theorem Own.set2 {base : Nat} {w : World} {v : Value} {zs : List Int} (h : Own base w v zs) {r : Nat} (hr : r < base) (x y : Value) : Own base ((w.setCell ⟨r, 0, none⟩ x).setCell ⟨r, 1, none⟩ y) v zs :=
  h.keep fun k hk _ => (Below.heap_setCell _ _ _ _ (by simp; omega)).trans (Below.heap_setCell _ _ _ _ (by simp; omega))

theorem fresh_list (w : World) (v : Value) (zs : List Int) (h : IsInts w v zs) (hn : zs.length * 8 ≤ 140737488355328) :
    Calls Try.prog 17 #[v] w fun e w' => ∃ a' c', e = .returned (.slice a' zs.length c') ∧ Own w.heap.size w' (.slice a' zs.length c') zs ∧ Below w.heap.size w w' := by
  refine (fresh_any w v zs.length _ h (ints_one zs) hn).mono ?_
  rintro e w' ⟨v', rfl, ho, hb⟩
  obtain ⟨a, c, rfl⟩ := Rd.form (Rd.of_owns ho)
  exact ⟨a, c, rfl, ho, hb⟩

set_option maxRecDepth 100000 in
set_option maxHeartbeats 400000 in
theorem noRing_none (w : World) (a : Option Addr) (c : Nat) :
    Calls Try.prog 12 #[.agg #[.int .i64 0, .slice a 0 c]] w fun e w' => e = .returned (.bool true) ∧ Below w.heap.size w w' := by
  go_enter Try.func12, Try.ntmps12
  go_wp2
  go_ret
  exact ⟨rfl, (Below.refl _ _).alloc (Nat.le_refl _) _⟩

/-- What a cell holds. -/
@[irreducible] def cellOf (w : World) (g o : Nat) : Value := (w.cell? ⟨g, o, none⟩).getD undef

theorem cell_there {w : World} {g o : Nat} (h : (w.cell? ⟨g, o, none⟩).isSome = true) : w.cell? ⟨g, o, none⟩ = some (cellOf w g o) := by
  obtain ⟨u, hu⟩ := Option.isSome_iff_exists.1 h
  rw [cellOf, hu, Option.getD_some]

/-- Two cells that may be written. -/
theorem two_there {w : World} {g : Nat} (h : w.there g 0 2) : w.cell? ⟨g, 0, none⟩ = some (cellOf w g 0) ∧ w.frozen? ⟨g, 0, none⟩ = false ∧ w.cell? ⟨g, 1, none⟩ = some (cellOf w g 1) ∧ w.frozen? ⟨g, 1, none⟩ = false := by
  have h0 := h 0 (by omega)
  have h1 := h 1 (by omega)
  exact ⟨cell_there h0.1, h0.2, cell_there h1.1, h1.2⟩

/-- All blocks that were there are as they were but those of Rs, in which two cells may be written. -/
structure Kept (Rs : List Nat) (W0 W : World) : Prop where
  os : W.os = W0.os
  tape : W.tape = W0.tape
  output : W.output = W0.output
  size : W0.heap.size ≤ W.heap.size
  block : ∀ k, k < W0.heap.size → ¬ k ∈ Rs → W.heap[k]? = W0.heap[k]?
  there : ∀ r, r ∈ Rs → r < W0.heap.size ∧ W.there r 0 2

theorem there_block {w w' : World} {g n : Nat} (h : w.there g 0 n) (hb : w'.heap[g]? = w.heap[g]?) : w'.there g 0 n := fun j hj => by
  have := h j hj
  rw [World.cell?_of_block (w := w) hb, World.frozen?_of_block (w := w) hb]
  exact this

theorem Kept.refl {Rs : List Nat} {W : World} (h : ∀ r, r ∈ Rs → r < W.heap.size ∧ W.there r 0 2) : Kept Rs W W := ⟨rfl, rfl, rfl, Nat.le_refl _, fun _ _ _ => rfl, h⟩
theorem Kept.drew {Rs : List Nat} {W0 W : World} (h : Kept Rs W0 W) : Kept Rs W0 W.drew := ⟨h.os, h.tape, h.output, h.size, h.block, h.there⟩
theorem Kept.call {Rs : List Nat} {W0 W w2 : World} (h : Kept Rs W0 W) (hb : Below W.heap.size W w2) : Kept Rs W0 w2 :=
  ⟨hb.os.trans h.os, hb.tape.trans h.tape, hb.output.trans h.output, Nat.le_trans h.size hb.size, fun k hk hr => (hb.block k (Nat.lt_of_lt_of_le hk h.size)).trans (h.block k hk hr),
   fun r hr => ⟨(h.there r hr).1, there_block (h.there r hr).2 (hb.block r (Nat.lt_of_lt_of_le (h.there r hr).1 h.size))⟩⟩
theorem Kept.alloc {Rs : List Nat} {W0 W : World} (h : Kept Rs W0 W) (o : Obj) : Kept Rs W0 (W.alloc o) := h.call ((Below.refl _ _).alloc (Nat.le_refl _) o)
theorem Kept.set {Rs : List Nat} {W0 W : World} (h : Kept Rs W0 W) {r : Nat} (hr : r ∈ Rs) (o : Nat) (v : Value) : Kept Rs W0 (W.setCell ⟨r, o, none⟩ v) := by
  have hb := (Below.refl 0 W).setCell (p := ⟨r, o, none⟩) (Nat.zero_le _) v
  refine ⟨hb.os.trans h.os, hb.tape.trans h.tape, hb.output.trans h.output, Nat.le_trans h.size hb.size, fun k hk hk' => ?_, fun r' hr' => ⟨(h.there r' hr').1, World.there_setCells (h.there r' hr').2 r o [v]⟩⟩
  rw [Below.heap_setCell _ _ _ _ (fun e => hk' (by rw [e]; exact hr))]
  exact h.block k hk hk'
theorem Kept.set2 {Rs : List Nat} {W0 W : World} (h : Kept Rs W0 W) {r : Nat} (hr : r ∈ Rs) (x y : Value) : Kept Rs W0 ((W.setCell ⟨r, 0, none⟩ x).setCell ⟨r, 1, none⟩ y) := (h.set hr 0 x).set hr 1 y
theorem Kept.cell {Rs : List Nat} {W0 W : World} (h : Kept Rs W0 W) {p : Addr} (hp : p.block < W0.heap.size) (hr : ¬ p.block ∈ Rs) : W.cell? p = W0.cell? p := World.cell?_of_block (w := W0) (h.block p.block hp hr)
theorem Kept.below {Rs : List Nat} {W0 W w : World} {B : Nat} (h : Kept Rs W0 W) (hb : Below B w W0) (hB : B ≤ W0.heap.size) (hR : ∀ r, r ∈ Rs → B ≤ r) : Below B w W :=
  ⟨h.os.trans hb.os, h.tape.trans hb.tape, h.output.trans hb.output, Nat.le_trans hb.size h.size, fun k hk => (h.block k (Nat.lt_of_lt_of_le hk hB) (fun hr => by have := hR k hr; omega)).trans (hb.block k hk)⟩

theorem there_new (w : World) (x y : Value) (t : TypeId) : (w.alloc (.cells #[x, y] t)).there w.heap.size 0 2 := fun j hj => by
  have hh := (MapKept.heap_alloc w (.cells #[x, y] t)).1
  simp only [World.cell?, World.frozen?, hh]
  have : j = 0 ∨ j = 1 := by omega
  rcases this with rfl | rfl <;> exact ⟨rfl, rfl⟩

/-- A boxed ring, and a ring's variable. -/
def boxed (w : World) (nx : Int) (v : Value) : World := (w.alloc (.cells #[.int .i64 nx, v] 25)).alloc (.cells #[.int .i64 0, .slice none 0 0] 25)

theorem boxed_kept (w : World) (nx : Int) (v : Value) : Kept [w.heap.size + 1] (boxed w nx v) (boxed w nx v) := by
  refine Kept.refl fun r hr => ?_
  obtain rfl : r = w.heap.size + 1 := by simpa using hr
  have := there_new (w.alloc (.cells #[.int .i64 nx, v] 25)) (.int .i64 0) (.slice none 0 0) 25
  rw [World.size_alloc] at this
  exact ⟨by simp [boxed], this⟩
theorem boxed_args (w : World) (nx : Int) (v : Value) {W : World} (h : Kept [w.heap.size + 1] (boxed w nx v) W) : W.cell? ⟨w.heap.size, 0, none⟩ = some (.int .i64 nx) ∧ W.cell? ⟨w.heap.size, 1, none⟩ = some v := by
  have hh : (boxed w nx v).heap[w.heap.size]? = some (.cells #[.int .i64 nx, v] 25) := (Below.heap_alloc (w.alloc _) _ _ (by simp)).trans (MapKept.heap_alloc w _).1
  refine ⟨(h.cell (p := ⟨w.heap.size, 0, none⟩) (by simp [boxed]; omega) (by simp)).trans ?_, (h.cell (p := ⟨w.heap.size, 1, none⟩) (by simp [boxed]; omega) (by simp)).trans ?_⟩
  · simp only [World.cell?, hh]; rfl
  · simp only [World.cell?, hh]; rfl
theorem boxed_below (w : World) (nx : Int) (v : Value) {W : World} (h : Kept [w.heap.size + 1] (boxed w nx v) W) : Below w.heap.size w W :=
  h.below (((Below.refl _ _).alloc (Nat.le_refl _) _).alloc (by simp) _) (by simp [boxed]; omega) (fun r hr => by obtain rfl : r = w.heap.size + 1 := (by simpa using hr); omega)

theorem boxed_size {w : World} {nx : Int} {v : Value} {W : World} (h : Kept [w.heap.size + 1] (boxed w nx v) W) : w.heap.size + 2 ≤ W.heap.size := Nat.le_trans (by simp [boxed]) h.size

end Go.Proofs.Ytcdnennfimbgoab
