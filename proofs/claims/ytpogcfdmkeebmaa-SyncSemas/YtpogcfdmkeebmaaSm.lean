/-
  taskmilllaw.SyncSemas.
-/
import Derived.Test.YtpogcfdmkeebmaaSmb
import Derived.Test.YtpogcfdmkeebmaaSmc
import Derived.Test.YtpogcfdmkeebmaaSmd
import Derived.Test.YtpogcfdmkeebmaaSme
import Derived.Test.YtpogcfdmkeebmaaSmf
import Derived.Test.YtpogcfdmkeebmaaSmg
import Derived.Test.YtpogcfdmkeebmaaSmh
namespace Go.Proofs.Ytpogcfdmkeebmaa
open Go.RowKit

theorem semas_walk (w : World) (v : Value) (f : Int) (xs : List Po) (x u : Int) (try_ : Bool) (h : IsG KP w v f xs) (hm : xs.length * 24 ≤ 140737488355328) : Calls Try.prog 5 #[v, .int .i64 x, .int .i64 u, .bool try_] w fun e w' => e = .returned (.bool true) ∧ Below w.heap.size w w' := by
  by_cases hl : (700 < xs.length ∧ xs.length < 4999) ∨ 6000 < xs.length
  · exact semas_long w v f xs x u try_ h hm hl
  by_cases hg : (semaF f xs).1 = 0
  · by_cases h1 : x < 1
    · exact sema_task w v f xs x u try_ h hm hl hg h1
    by_cases h2 : u < 1
    · exact sema_few w v f xs x u try_ h hm hl hg h1 h2
    by_cases h3 : 1000000000 < u
    · exact sema_many w v f xs x u try_ h hm hl hg h1 h2 h3
    cases h4 : xs.any (isOfP x) with
    | true => exact sema_twice w v f xs x u try_ h hm hl hg h1 h2 h3 h4
    | false =>
      by_cases h5 : xs.length = 5000
      · exact sema_much w v f xs x u try_ h hm hl hg h1 h2 h3 h4 h5
      cases h6 : lets f (xs ++ [(x, false, u)]) with
      | true => exact sema_got w v f xs x u try_ h hm hl hg h1 h2 h3 h4 h5 h6
      | false =>
        cases try_ with
        | true => exact sema_tries w v f xs x u h hm hl hg h1 h2 h3 h4 h5 h6
        | false => exact sema_waits w v f xs x u h hm hl hg h1 h2 h3 h4 h5 h6
  · exact sema_bad w v f xs x u try_ h hm hl hg
end Go.Proofs.Ytpogcfdmkeebmaa
