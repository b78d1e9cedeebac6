/-
  taskmilllaw.CellHalves returns true, whatever lists come in.
-/
import Derived.Test.YtpgokeogijpmaaaDoorX
namespace Go.Proofs.YtpgokeogijpmaaaDoor
open Go.RowKit

theorem IsInts.of_owns {w : World} {base n : Nat} {v : Value} {zs : List Int} (h : w.ownsRow base 3 1 v n (zs.map (Value.int .i64))) (hn : zs.length = n) : IsInts w v zs := by
  subst hn
  exact Rd.of_owns h

set_option maxRecDepth 100000 in
set_option maxHeartbeats 1000000 in
theorem halves_A (w : World) (a0 a1 a2 : Option Addr) (c0 c1 c2 nz na nb : Nat) (x y : Int) (hx : x ≠ 0)
    (hrun : ∀ W, Below w.heap.size w W → Calls Tryd.prog 12 #[.slice a0 nz c0, .slice a1 na c1] W fun e w' => e = .returned (.tuple #[.slice none 0 0, .slice none 0 0, .agg #[.int .i64 x, .int .i64 y]]) ∧ Below W.heap.size W w') :
    Calls Tryd.prog 6 #[.slice a0 nz c0, .slice a1 na c1, .slice a2 nb c2] w fun e w' => e = .returned (.bool true) ∧ Below w.heap.size w w' := by
  have hx1 : (x != 0) = true := by simpa using hx
  have hnot : ∀ (x : Bool) (w : World), (Op.unary .not (.bool x)).run Tryd.prog w = .ok (.bool (!x)) w := fun _ _ => rfl
  have HR := hide hrun
  clear hrun
  go_enter Tryd.func6, Tryd.ntmps6
  go_wp2_with (first
    | (go_at_call 14; refine (begun_any _).mono ?_; rintro e w1 ⟨rfl, hb1⟩; have HB1 := hide hb1; clear hb1)
    | (go_at_call 12; refine (unhide HR _ (unhide HB1)).mono ?_; rintro e w2 ⟨rfl, hb2⟩; have HB2 := hide hb2; clear hb2))
  go_ret
  have h2 := (unhide HB1).trans ((unhide HB2).mono (unhide HB1).size)
  exact ⟨rfl, h2.alloc h2.size _⟩

set_option maxRecDepth 100000 in
set_option maxHeartbeats 1000000 in
theorem halves_B (w : World) (a0 a1 a2 : Option Addr) (c0 c1 c2 nz na nb : Nat) (hna : na ≤ 4398046511104) (hnb : nb ≤ 4398046511104) (hn : 5000 < na + nb)
    (hrun : ∀ W, Below w.heap.size w W → Calls Tryd.prog 12 #[.slice a0 nz c0, .slice a1 na c1] W fun e w' => ∃ m t, e = .returned (.tuple #[m, t, .agg #[.int .i64 0, .int .i64 0]]) ∧ Below W.heap.size W w') :
    Calls Tryd.prog 6 #[.slice a0 nz c0, .slice a1 na c1, .slice a2 nb c2] w fun e w' => e = .returned (.bool true) ∧ Below w.heap.size w w' := by
  have hn1 : (5000 : Int) < (na : Int) + (nb : Int) := by omega
  have hnot : ∀ (x : Bool) (w : World), (Op.unary .not (.bool x)).run Tryd.prog w = .ok (.bool (!x)) w := fun _ _ => rfl
  have HR := hide hrun
  clear hrun
  go_enter Tryd.func6, Tryd.ntmps6
  go_wp2_with (first
    | (go_at_call 14; refine (begun_any _).mono ?_; rintro e w1 ⟨rfl, hb1⟩; have HB1 := hide hb1; clear hb1)
    | (go_at_call 12; refine (unhide HR _ (unhide HB1)).mono ?_; rintro e w2 ⟨m, t, rfl, hb2⟩; have HB2 := hide hb2; clear hb2))
  go_ret
  have h2 := (unhide HB1).trans ((unhide HB2).mono (unhide HB1).size)
  exact ⟨rfl, h2.alloc h2.size _⟩
end Go.Proofs.YtpgokeogijpmaaaDoor
