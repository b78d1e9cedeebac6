/-
  taskmillref.F and taskmillref.OpsFault, by their contracts.
-/
import Derived.Test.YtpgokeogijpmaabDoorG
namespace Go.Proofs.YtpgokeogijpmaabDoor
open Go.RowKit

theorem res_one {w wr : World} {x y : Value} (h : Below (w.heap.size + 1) (w.alloc (.cells #[x, y] 31)) wr) :
    wr.cell? ⟨w.heap.size, 0, none⟩ = some x ∧ wr.cell? ⟨w.heap.size, 1, none⟩ = some y ∧ wr.frozen? ⟨w.heap.size, 0, none⟩ = false ∧ wr.frozen? ⟨w.heap.size, 1, none⟩ = false := by
  refine ⟨?_, ?_, ?_, ?_⟩
  · rw [h.cell (p := ⟨w.heap.size, 0, none⟩) (by simp)]; simp
  · rw [h.cell (p := ⟨w.heap.size, 1, none⟩) (by simp)]; simp
  · rw [h.frozen (p := ⟨w.heap.size, 0, none⟩) (by simp)]; simp
  · rw [h.frozen (p := ⟨w.heap.size, 1, none⟩) (by simp)]; simp
theorem below_one {w w3 : World} {o : Obj} (h : Below (w.heap.size + 1) (w.alloc o) w3) : Below w.heap.size w w3 :=
  ((Below.refl w.heap.size w).alloc (Nat.le_refl _) o).trans (h.mono (by omega))

theorem here_is {W : Nat → Int} {n j : Nat} {c : Int} (hj : j < n) (h : W j = c) (hc : c ≠ 0) : faultFrom W (n - j) j = (c, (j : Int)) := by
  rw [faultFrom_here hj (by rw [h]; exact hc), h]
theorem wrong_kind {m k p a b : Int} (h : k < 1 ∨ 5 < k) : wrongOf m k p a b = 4 := by unfold wrongOf; rw [if_neg (by omega)]
theorem wrong_form {m k p a b : Int} (h1 : 1 ≤ k) (h5 : k ≤ 5) (h : k = 1 ∧ a ≠ 0 ∨ k ≠ 5 ∧ b ≠ 0) : wrongOf m k p a b = 5 := by unfold wrongOf; rw [if_pos ⟨h1, h5⟩, if_pos h]
theorem wrong_range {m k p a b : Int} (h1 : 1 ≤ k) (h5 : k ≤ 5) (h : ¬ (k = 1 ∧ a ≠ 0 ∨ k ≠ 5 ∧ b ≠ 0)) (hp : p < 0 ∨ m ≤ p) : wrongOf m k p a b = 3 := by unfold wrongOf; rw [if_pos ⟨h1, h5⟩, if_neg h, if_pos hp]
theorem wrong_not {m k p a b : Int} (h1 : 1 ≤ k) (h5 : k ≤ 5) (h : ¬ (k = 1 ∧ a ≠ 0 ∨ k ≠ 5 ∧ b ≠ 0)) (hp : ¬ (p < 0 ∨ m ≤ p)) : wrongOf m k p a b = 0 := by unfold wrongOf; rw [if_pos ⟨h1, h5⟩, if_neg h, if_neg hp]

end Go.Proofs.YtpgokeogijpmaabDoor
