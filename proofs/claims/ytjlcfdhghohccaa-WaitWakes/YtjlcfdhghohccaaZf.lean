/-
  taskmilllaw.WaitWakes returns true.
-/
import Derived.Test.YtjlcfdhghohccaaZd
import Derived.Test.YtjlcfdhghohccaaZe
namespace Go.Proofs.Ytjlcfdhghohccaa
open Go.RowKit

theorem wakes_walk (w : World) (a : Option Addr) (n c : Nat) (x y k : Int) (ls : List Ln) (h : Arg w a n c ls) :
    Calls Try.prog 4 #[.slice a n c, .int .i64 x, .int .i64 y, .int .i64 k] w fun e w' => e = .returned (.bool true) ∧ Below w.heap.size w w' := by
  by_cases hv : 6000 < n ∨ 6000 < (waitL ls).length
  · exact wakes_vast w a n c x y k ls h hv
  by_cases hm : 300 < (waitL ls).length
  · exact wakes_many w a n c x y k ls h (by omega) (by omega) hm
  by_cases hf : (linesF ls).1 = 0
  · exact wakes_ok w a n c x y k ls h (by omega) (by omega) (good_of (linesF_zero hf))
  · exact wakes_fault w a n c x y k ls h (by omega) (by omega) _ _ rfl hf
end Go.Proofs.Ytjlcfdhghohccaa
