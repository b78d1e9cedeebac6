/-
  How an argument is read: a slice of numbers.
-/
import Derived.Test.YtcdnennfimbgoaaRead
namespace Go.Proofs.Ytcdnennfimbgoaa
open Go.ChangeShapes Go.WideShapes Go.ChangeAt Go.RowKit

theorem read_slice {H : Type} {enc : TypeId × Value → H} {W : World} {base : Nat} {v : Value} {d : DataW H} {p : List MemPlace} (hv : Value.okWide Try.prog W .any base 22 v) (h : DataW.Trod enc Try.prog W 0 (fun _ => true) true 22 v d p) :
    ∃ zs, IsInts W v zs ∧ Fits v ∧ zs.length ≤ maxLen := by
  obtain ⟨a, l, c, rfl⟩ := okWide_slice Try.underlying22 hv
  obtain ⟨fuel, hf⟩ := h
  exact read_cells hf
end Go.Proofs.Ytcdnennfimbgoaa
