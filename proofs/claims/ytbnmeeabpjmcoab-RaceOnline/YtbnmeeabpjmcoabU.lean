/-
  order.Before, of a trace of which nothing is wrong.
-/
import Derived.Test.YtbnmeeabpjmcoabT
namespace Go.Proofs.Ytbnmeeabpjmcoab
open Go.RowKit

theorem IsL.take {α : Type} {K : Kind α} (hK : K.Ok) {w : World} {a : Option Addr} {n c : Nat} {xs : List α} (h : IsL K w (.slice a n c) xs) {m : Nat} (hm : m ≤ n) (hp : 0 < m) : IsL K w (.slice a m c) (xs.take m) := by
  have hl := h.len
  obtain ⟨b, off, c', hv, hb, hli⟩ := h.at hK (by omega)
  cases hv
  refine Lies.isl hK (fun j i u hj hu => ?_) (by rw [List.length_take]; omega) (Nat.le_trans hm h.fits)
  rw [List.length_take] at hj
  refine hli j i u (by omega) ?_
  rw [← hu]
  simp [show j < m by omega]
theorem two_ret {R _F : Nat} {w W _W1 : World} {x y : Value} (hB : Below w.heap.size w W) (hR : w.heap.size ≤ R) : Below w.heap.size w ((W.setCell ⟨R, 0, none⟩ x).setCell ⟨R, 1, none⟩ y) := below_set2 hB hR x y