/-
  taskmillref.Queued where a list spills.
-/
import Derived.Test.YtcdnennfimbgoabSq
namespace Go.Proofs.Ytcdnennfimbgoab
open Go.RowKit

theorem grown_below {w w' : World} (h : w.grownBy w' (Value.slice none 0 0).ownBlock) : Below w.heap.size w w' := (Below.refl _ _).grown h (Nat.le_refl _) (fun k hk => by cases hk)

end Go.Proofs.Ytcdnennfimbgoab
