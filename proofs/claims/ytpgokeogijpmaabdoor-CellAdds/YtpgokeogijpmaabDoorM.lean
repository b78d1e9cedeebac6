/-
  strconv.AppendInt of the digits 0, 1 and 2 at base 10, onto bytes that the call owns.
-/
import Derived.Test.YtpgokeogijpmaabDoorL
import Derived.Lib.AppendStr
namespace Go.Proofs.YtpgokeogijpmaabDoor
open Go.RowKit

theorem Tryd.info5 : (Tryd.prog.info? 5).map (fun i => (i.zero, i.size, i.bytes)) = some (some (.int .u8 0), 1, 1) := by kernel_rfl


set_option maxRecDepth 100000 in
set_option maxHeartbeats 1000000 in
theorem small0 (w : World) : Calls Tryd.prog 51 #[.int .i64 0] w fun e w' => e = .returned (.string ⟨#[48]⟩) ∧ w' = w := by
  go_enter Tryd.func51, Tryd.ntmps51
  go_wp2
  go_ret
  exact ⟨rfl, rfl⟩

set_option maxRecDepth 100000 in
set_option maxHeartbeats 1000000 in
theorem appInt0 (w : World) (base : Nat) (v : Value) (n : Nat) (xs : List Value) (hown : w.ownsRow base 5 1 v n xs) (hb : base ≤ w.heap.size) (hn : n ≤ 1000) :
    Calls Tryd.prog 30 #[v, .int .i64 0, .int .i64 10] w fun e w' => ∃ v', e = .returned v' ∧ w'.ownsRow base 5 1 v' (n + 1) (xs ++ [.int .u8 48]) ∧ w.grownBy w' v.ownBlock := by
  obtain ⟨i0, hi, hz0, hz1, hz2⟩ := info_parts Tryd.info5
  have HO := hide hown
  clear hown
  go_enter Tryd.func30, Tryd.ntmps30
  go_wp2_with (first
    | (go_at_call 51; refine (small0 _).mono ?_; rintro e w' ⟨rfl, rfl⟩)
    | (at_builtin; (refine Lib.wpList_append_own_string _ rfl _ _ 63 9 rfl base 5 i0 Tryd.underlying63 Tryd.underlying9 hi hz0 hz1 hz2 _ n xs rfl (unhide HO) ⟨#[48]⟩ rfl (by show n + 1 ≤ maxLen; unfold maxLen; omega) (by show n + 1 ≤ _; omega) (by exact hb) ?_); intro v' w' ho hg _; have HO2 := hide ho; have HG := hide hg; clear ho hg)
    | go_in)
  go_ret
  exact ⟨_, rfl, unhide HO2, unhide HG⟩

set_option maxRecDepth 100000 in
set_option maxHeartbeats 1000000 in
theorem small1 (w : World) : Calls Tryd.prog 51 #[.int .i64 1] w fun e w' => e = .returned (.string ⟨#[49]⟩) ∧ w' = w := by
  go_enter Tryd.func51, Tryd.ntmps51
  go_wp2
  go_ret
  exact ⟨rfl, rfl⟩

set_option maxRecDepth 100000 in
set_option maxHeartbeats 1000000 in
theorem appInt1 (w : World) (base : Nat) (v : Value) (n : Nat) (xs : List Value) (hown : w.ownsRow base 5 1 v n xs) (hb : base ≤ w.heap.size) (hn : n ≤ 1000) :
    Calls Tryd.prog 30 #[v, .int .i64 1, .int .i64 10] w fun e w' => ∃ v', e = .returned v' ∧ w'.ownsRow base 5 1 v' (n + 1) (xs ++ [.int .u8 49]) ∧ w.grownBy w' v.ownBlock := by
  obtain ⟨i0, hi, hz0, hz1, hz2⟩ := info_parts Tryd.info5
  have HO := hide hown
  clear hown
  go_enter Tryd.func30, Tryd.ntmps30
  go_wp2_with (first
    | (go_at_call 51; refine (small1 _).mono ?_; rintro e w' ⟨rfl, rfl⟩)
    | (at_builtin; (refine Lib.wpList_append_own_string _ rfl _ _ 63 9 rfl base 5 i0 Tryd.underlying63 Tryd.underlying9 hi hz0 hz1 hz2 _ n xs rfl (unhide HO) ⟨#[49]⟩ rfl (by show n + 1 ≤ maxLen; unfold maxLen; omega) (by show n + 1 ≤ _; omega) (by exact hb) ?_); intro v' w' ho hg _; have HO2 := hide ho; have HG := hide hg; clear ho hg)
    | go_in)
  go_ret
  exact ⟨_, rfl, unhide HO2, unhide HG⟩

set_option maxRecDepth 100000 in
set_option maxHeartbeats 1000000 in
theorem small2 (w : World) : Calls Tryd.prog 51 #[.int .i64 2] w fun e w' => e = .returned (.string ⟨#[50]⟩) ∧ w' = w := by
  go_enter Tryd.func51, Tryd.ntmps51
  go_wp2
  go_ret
  exact ⟨rfl, rfl⟩

set_option maxRecDepth 100000 in
set_option maxHeartbeats 1000000 in
theorem appInt2 (w : World) (base : Nat) (v : Value) (n : Nat) (xs : List Value) (hown : w.ownsRow base 5 1 v n xs) (hb : base ≤ w.heap.size) (hn : n ≤ 1000) :
    Calls Tryd.prog 30 #[v, .int .i64 2, .int .i64 10] w fun e w' => ∃ v', e = .returned v' ∧ w'.ownsRow base 5 1 v' (n + 1) (xs ++ [.int .u8 50]) ∧ w.grownBy w' v.ownBlock := by
  obtain ⟨i0, hi, hz0, hz1, hz2⟩ := info_parts Tryd.info5
  have HO := hide hown
  clear hown
  go_enter Tryd.func30, Tryd.ntmps30
  go_wp2_with (first
    | (go_at_call 51; refine (small2 _).mono ?_; rintro e w' ⟨rfl, rfl⟩)
    | (at_builtin; (refine Lib.wpList_append_own_string _ rfl _ _ 63 9 rfl base 5 i0 Tryd.underlying63 Tryd.underlying9 hi hz0 hz1 hz2 _ n xs rfl (unhide HO) ⟨#[50]⟩ rfl (by show n + 1 ≤ maxLen; unfold maxLen; omega) (by show n + 1 ≤ _; omega) (by exact hb) ?_); intro v' w' ho hg _; have HO2 := hide ho; have HG := hide hg; clear ho hg)
    | go_in)
  go_ret
  exact ⟨_, rfl, unhide HO2, unhide HG⟩
end Go.Proofs.YtpgokeogijpmaabDoor
