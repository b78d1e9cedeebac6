/-
  taskmilllaw.SyncOnces.
-/
import Derived.Test.YtpogcfdmkeebmaaOna
import Derived.Test.YtpogcfdmkeebmaaOnb
import Derived.Test.YtpogcfdmkeebmaaOnc
import Derived.Test.YtpogcfdmkeebmaaOnd
namespace Go.Proofs.Ytpogcfdmkeebmaa
open Go.RowKit

theorem onces_walk (w : World) (v : Value) (b : Int) (d : Bool) (xs : List Int) (x : Int) (h : IsO w v b d xs) (hm : xs.length * 8 ≤ 140737488355328) : Calls Try.prog 4 #[v, .int .i64 x] w fun e w' => e = .returned (.bool true) ∧ Below w.heap.size w w' := by
  by_cases hl : (700 < xs.length ∧ xs.length < 4999) ∨ 6000 < xs.length
  · exact onces_long w v b d xs x h hm hl
  by_cases hw : (onceF b d xs).1 = 0
  · by_cases hc : (comesF xs x).1 = 0
    · by_cases hxb : x = b
      · exact once_is w v b d xs x h hm hl hw hc hxb (by have := (comesF_good hc).2.1; omega)
      · have hf : (beginF b d xs x).1 = 0 := by unfold beginF; rw [if_neg (by omega), if_neg (by omega), if_neg hxb]
        cases hd : d with
        | true =>
          subst hd
          exact once_done w v b true xs x h hm hl hf rfl
        | false =>
          subst hd
          by_cases hb : b = 0
          · exact once_first w v b false xs x h hm hl hf rfl hb
          · exact once_waits w v b false xs x h hm hl hf rfl hb
    · by_cases hx1 : x < 1
      · exact once_low w v b d xs x h hm hl hw hc hx1
      · by_cases hxb : x = b
        · exact once_much w v b d xs x h hm hl hw hc hxb hx1
        · exact once_other w v b d xs x h hm hl hw hc hxb hx1
  · exact once_bad w v b d xs x h hm hl hw
end Go.Proofs.Ytpogcfdmkeebmaa
