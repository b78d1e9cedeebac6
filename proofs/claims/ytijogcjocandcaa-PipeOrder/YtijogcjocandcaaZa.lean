/-
  taskmilllaw.PipeSends, whatever comes.
-/
import Derived.Test.YtijogcjocandcaaZ
namespace Go.Proofs.Ytijogcjocandcaa
open Go.RowKit

theorem not_vast {P : Pp} (h : vastL P = false) : countP P ≤ 6000 := by
  unfold vastL at h
  rw [Bool.or_eq_false_iff] at h
  have := of_decide_eq_false h.1
  omega
theorem sends_walk (w : World) (v : Value) (P : Pp) (x u : Int) (try_ : Bool) (h : IsPipe w v P) (hs : Short P) :
    Calls Try.prog 3 #[v, .int .i64 x, .int .i64 u, .bool try_] w fun e w' => e = .returned (.bool true) ∧ Below w.heap.size w w' := by
  cases hv : vastL P with
  | true => exact sends_vast w v P x u try_ h hs hv
  | false => exact sends_main w v P x u try_ h (not_vast hv) hv
end Go.Proofs.Ytijogcjocandcaa
