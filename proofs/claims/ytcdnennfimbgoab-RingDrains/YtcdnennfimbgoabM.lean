/-
  A boxed ring, in every world behind; rings with which nothing is wrong.
-/
import Derived.Test.YtcdnennfimbgoabL
namespace Go.Proofs.Ytcdnennfimbgoab
open Go.RowKit

/-- A boxed ring, in every world behind. -/
theorem arg1 {w W : World} {x y : Value} (h : Below (w.heap.size + 1) (w.alloc (.cells #[x, y] 25)) W) : W.cell? ⟨w.heap.size, 0, none⟩ = some x ∧ W.cell? ⟨w.heap.size, 1, none⟩ = some y ∧ w.heap.size < W.heap.size := by
  have hh := (MapKept.heap_alloc w (.cells #[x, y] 25)).1
  refine ⟨?_, ?_, Nat.lt_of_lt_of_le (by simp) h.size⟩
  · rw [h.cell (p := ⟨w.heap.size, 0, none⟩) (by simp)]; simp only [World.cell?, hh]; rfl
  · rw [h.cell (p := ⟨w.heap.size, 1, none⟩) (by simp)]; simp only [World.cell?, hh]; rfl
theorem below1 {w W : World} {o : Obj} (h : Below (w.heap.size + 1) (w.alloc o) W) : Below w.heap.size w W := ((Below.refl _ _).alloc (Nat.le_refl _) o).trans (h.mono (Nat.le_succ _))
theorem next1 {w W W' : World} {o : Obj} (h : Below (w.heap.size + 1) (w.alloc o) W) (h' : Below W.heap.size W W') : Below (w.heap.size + 1) (w.alloc o) W' := h.trans (h'.mono (Nat.le_trans (by simp) h.size))
theorem next1a {w W W' : World} {o o1 : Obj} (h : Below (w.heap.size + 1) (w.alloc o) W) (h' : Below (W.alloc o1).heap.size (W.alloc o1) W') : Below (w.heap.size + 1) (w.alloc o) W' := next1 h (((Below.refl _ _).alloc (Nat.le_refl _) o1).trans (h'.mono (by simp)))
theorem next1b {w W W' : World} {o o1 o2 : Obj} (h : Below (w.heap.size + 1) (w.alloc o) W) (h' : Below ((W.alloc o1).alloc o2).heap.size ((W.alloc o1).alloc o2) W') : Below (w.heap.size + 1) (w.alloc o) W' := next1 h ((below_new2 W o1 o2).trans (h'.mono (by simp; omega)))

theorem faultFrom_zero {W : Nat → Int} : ∀ {f i : Nat}, (faultFrom W f i).1 = 0 → faultFrom W f i = (0, 0)
  | 0, _, _ => rfl
  | f + 1, i, h => by
    rw [faultFrom] at h ⊢
    split
    · rename_i h1; rw [if_pos h1] at h; exact faultFrom_zero h
    · rename_i h1; rw [if_neg h1] at h; exact absurd h h1
theorem ringF_zero {nx : Int} {zs : List Int} (h : (ringF nx zs).1 = 0) : ringF nx zs = (0, 0) := by
  unfold ringF at h ⊢
  split
  · rename_i h1; rw [if_pos h1] at h; exact absurd h (by decide)
  · rename_i h1
    rw [if_neg h1] at h
    split
    · rename_i h2; rw [if_pos h2] at h; exact absurd h (by decide)
    · rename_i h2; rw [if_neg h2] at h; exact faultFrom_zero h
theorem ringF_len {nx : Int} {zs : List Int} (h : ringF nx zs = (0, 0)) : zs.length ≤ 256 := by
  apply Decidable.byContradiction
  intro h1
  unfold ringF at h
  rw [if_pos (by omega)] at h
  cases h
theorem ringF_next {nx : Int} {zs : List Int} (h : ringF nx zs = (0, 0)) : ¬ nx < 0 := by
  intro h1
  have h2 := ringF_len h
  unfold ringF at h
  rw [if_neg (by omega), if_pos h1] at h
  cases h

end Go.Proofs.Ytcdnennfimbgoab
