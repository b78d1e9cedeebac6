/-
  How the arguments are read: a slice of numbers.
-/
import Derived.Test.YtdpcbmekplcllaaRead
namespace Go.Proofs.Ytdpcbmekplcllaa
open Go.ChangeShapes Go.WideShapes Go.ChangeAt Go.RowKit

theorem read_slice {H : Type} {enc : TypeId × Value → H} {W : World} {base : Nat} {v : Value} {d : DataW H} {p : List MemPlace} (hv : Value.okWide Try.prog W .any base 36 v) (h : DataW.Trod enc Try.prog W 0 (fun _ => true) true 36 v d p) (hw : ∀ n ∈ d.weights Try.prog 36, n ≤ reachBytes) :
    ∃ zs, IsL KI W v zs ∧ zs.length * 8 ≤ 140737488355328 := by
  obtain ⟨a, l, c, rfl⟩ := okWide_slice Try.underlying36 hv
  obtain ⟨fuel, hf⟩ := h
  exact read_ints hf hw
end Go.Proofs.Ytdpcbmekplcllaa
