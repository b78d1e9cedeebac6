/-
  taskmilllaw.ClockSets, put together.
-/
import Derived.Test.YtidpmcanfedbdaaSd
import Derived.Test.YtidpmcanfedbdaaSe
import Derived.Test.YtidpmcanfedbdaaSf
namespace Go.Proofs.Ytidpmcanfedbdaa
open Go.RowKit

theorem sets_walk (w : World) (v : Value) (now next : Int) (xs : List Al) (id after period : Int) (h : IsC w v now next xs) (hm : xs.length * 32 ≤ 140737488355328) :
    Calls Try.prog 3 #[v, .int .i64 id, .int .i64 after, .int .i64 period] w fun e w' => e = .returned (.bool true) ∧ Below w.heap.size w w' := by
  by_cases hk : (clockF now next xs).1 = 0
  · by_cases g1 : id < 1
    · exact sets_g1 w v now next xs id after period hk g1 h hm
    by_cases g2 : after < 1
    · exact sets_g2 w v now next xs id after period hk g1 g2 h hm
    by_cases g3 : 1000000000 < after
    · exact sets_g3 w v now next xs id after period hk g1 g2 g3 h hm
    by_cases g4 : period < 0
    · exact sets_g4 w v now next xs id after period hk g1 g2 g3 g4 h hm
    by_cases g5 : 1000000000 < period
    · exact sets_g5 w v now next xs id after period hk g1 g2 g3 g4 g5 h hm
    exact sets_ok w v now next xs id after period hk (decide_eq_false (by omega)) h hm
  · exact sets_bad w v now next xs id after period hk h hm

end Go.Proofs.Ytidpmcanfedbdaa
