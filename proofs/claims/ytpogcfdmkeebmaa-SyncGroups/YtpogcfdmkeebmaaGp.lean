/-
  taskmilllaw.SyncGroups.
-/
import Derived.Test.YtpogcfdmkeebmaaGpb
import Derived.Test.YtpogcfdmkeebmaaGpc
import Derived.Test.YtpogcfdmkeebmaaGpd
import Derived.Test.YtpogcfdmkeebmaaGpe
import Derived.Test.YtpogcfdmkeebmaaGpf
import Derived.Test.YtpogcfdmkeebmaaGpg
namespace Go.Proofs.Ytpogcfdmkeebmaa
open Go.RowKit

theorem groups_walk (w : World) (v : Value) (c : Int) (xs : List Int) (y x : Int) (h : IsG KI w v c xs) (hm : xs.length * 8 ≤ 140737488355328) : Calls Try.prog 3 #[v, .int .i64 y, .int .i64 x] w fun e w' => e = .returned (.bool true) ∧ Below w.heap.size w w' := by
  by_cases hl : (700 < xs.length ∧ xs.length < 4999) ∨ 6000 < xs.length
  · exact groups_long w v c xs y x h hm hl
  by_cases hg : (groupF c xs).1 = 0
  · by_cases h1 : y < -1000000000
    · exact group_low w v c xs y x h hm hl hg h1
    by_cases h2 : 1000000000 < y
    · exact group_high w v c xs y x h hm hl hg h1 h2
    by_cases h3 : 1000000000 < c + y
    · exact group_much w v c xs y x h hm hl hg h1 h2 h3
    by_cases h4 : c + y < 0
    · exact group_neg w v c xs y x h hm hl hg h1 h2 h3 h4
    by_cases h5 : c + y = 0
    · exact group_zero w v c xs y x h hm hl hg h1 h2 h3 h4 h5
    · exact group_pos w v c xs y x h hm hl hg h1 h2 h3 h4 h5
  · exact group_bad w v c xs y x h hm hl hg
end Go.Proofs.Ytpogcfdmkeebmaa
