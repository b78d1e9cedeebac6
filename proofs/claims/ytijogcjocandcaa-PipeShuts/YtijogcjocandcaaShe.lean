/-
  taskmilllaw.PipeShuts, whatever comes.
-/
import Derived.Test.YtijogcjocandcaaShb
import Derived.Test.YtijogcjocandcaaShc
import Derived.Test.YtijogcjocandcaaShd
namespace Go.Proofs.Ytijogcjocandcaa
open Go.RowKit

theorem shuts_walk (w : World) (v : Value) (P : Pp) (x : Int) (h : IsPipe w v P) (hs : Short P) :
    Calls Try.prog 5 #[v, .int .i64 x] w fun e w' => e = .returned (.bool true) ∧ Below w.heap.size w w' := by
  cases hv : vastL P with
  | true => exact shuts_vast w v P x h hs hv
  | false =>
    by_cases h0 : (pipeF P).1 = 0
    · cases hw : waitsL P x with
      | true => exact shuts_main2 w v P x h hv (pipeF_zero h0) hw
      | false => exact shuts_main3 w v P x h hv (pipeF_zero h0) hw
    · exact shuts_main1 w v P x h hv _ _ rfl h0
end Go.Proofs.Ytijogcjocandcaa
