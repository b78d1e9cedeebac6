/-
  taskmilllaw.CellPlaces returns true where there is a fault, or no such place.
-/
import Derived.Test.YtpgokeogijpmaaaDoorRc
namespace Go.Proofs.YtpgokeogijpmaaaDoor
open Go.RowKit
attribute [local go_sem ↓] Go.wp_at_zero Go.wp_at_succ

set_option maxRecDepth 100000 in
set_option maxHeartbeats 1000000 in
theorem places_A (w : World) (a0 a1 : Option Addr) (c0 c1 : Nat) (zs : List Int) (os : List Op4) (i : Int) (h1 : IsOps w (.slice a1 os.length c1) os) (mz : zs.length ≤ maxLen) (mo : os.length ≤ maxLen) (x y : Int) (hf : fault zs.length os = (x, y)) (hbad : x ≠ 0 ∨ i < 0 ∨ (os.length : Int) - 1 ≤ i) :
    Calls Tryd.prog 7 #[.slice a0 zs.length c0, .slice a1 os.length c1, .int .i64 i] w fun e w' => e = .returned (.bool true) ∧ Below w.heap.size w w' := by
  have hnot : ∀ (x : Bool) (w : World), (Op.unary .not (.bool x)).run Tryd.prog w = .ok (.bool (!x)) w := fun _ _ => rfl
  have hfld := fld
  have HOF : Hid (∀ W, Below w.heap.size w W → Calls Tryd.prog 13 #[.slice a0 zs.length c0, .slice a1 os.length c1] W fun e w' => e = .returned (.agg #[.int .i64 x, .int .i64 y]) ∧ Below W.heap.size W w') := fun W hW => by
    have := opsf_any W a0 zs.length c0 _ os (Rd.below h1 hW) mz mo
    rw [hf] at this
    exact this
  unfold maxLen at mz mo
  clear h1 hf
  by_cases hx : x = 0
  · subst hx
    by_cases hi : i < 0
    · clear hbad
      go_enter Tryd.func7, Tryd.ntmps7
      go_wp2_with (first
        | (go_at_call 14; refine (begun_any _).mono ?_; rintro e w1 ⟨rfl, hb1⟩; have HB1 := hide hb1; clear hb1)
        | (go_at_call 13; refine (unhide HOF _ (unhide HB1)).mono ?_; rintro e w2 ⟨rfl, hb2⟩; have HB2 := hide ((unhide HB1).trans (hb2.mono (unhide HB1).size)); clear hb2))
      go_ret
      exact ⟨rfl, unhide HB2⟩
    · have hj : (os.length : Int) - 1 ≤ i := by omega
      clear hbad
      go_enter Tryd.func7, Tryd.ntmps7
      go_wp2_with (first
        | (go_at_call 14; refine (begun_any _).mono ?_; rintro e w1 ⟨rfl, hb1⟩; have HB1 := hide hb1; clear hb1)
        | (go_at_call 13; refine (unhide HOF _ (unhide HB1)).mono ?_; rintro e w2 ⟨rfl, hb2⟩; have HB2 := hide ((unhide HB1).trans (hb2.mono (unhide HB1).size)); clear hb2))
      go_ret
      exact ⟨rfl, unhide HB2⟩
  · have hx1 : (x != 0) = true := by simpa using hx
    clear hbad hx
    go_enter Tryd.func7, Tryd.ntmps7
    go_wp2_with (first
      | (go_at_call 14; refine (begun_any _).mono ?_; rintro e w1 ⟨rfl, hb1⟩; have HB1 := hide hb1; clear hb1)
      | (go_at_call 13; refine (unhide HOF _ (unhide HB1)).mono ?_; rintro e w2 ⟨rfl, hb2⟩; have HB2 := hide ((unhide HB1).trans (hb2.mono (unhide HB1).size)); clear hb2))
    go_ret
    exact ⟨rfl, unhide HB2⟩
end Go.Proofs.YtpgokeogijpmaaaDoor
