/-
  What is done to a cell: the five functions, by their contracts. No condition.
-/
import Derived.Test.YtpgokeogijpmaabDoorB
import Derived.Deep.QuietTactic
import Derived.BigQuiet
import Derived.WalkSmall
namespace Go.Proofs.YtpgokeogijpmaabDoor
open Go.RowKit

/-- What is in the cell behind an op. -/
def thenOf (c k a b : Int) : Int :=
  if k = 1 then c else if k = 2 then a else if k = 3 then wrap64 (c + a) else if k = 4 then a else if c = a then b else c
/-- What an op tells. -/
def toldOf (c k a : Int) : Int :=
  if k = 1 then c else if k = 2 then 0 else if k = 3 then wrap64 (c + a) else if k = 4 then c else if c = a then 1 else 0

theorem ret_pair {k : IntKind} {a b c d : Int} (h : a = c) (h' : b = d) : Ending.returned (.tuple #[.int k a, .int k b]) = .returned (.tuple #[.int k c, .int k d]) := by rw [h, h']

set_option maxRecDepth 100000 in
set_option maxHeartbeats 400000 in
theorem deed1 (w : World) (c p a b : Int) :
    Calls Tryd.prog 20 #[.int .i64 c, .agg #[.int .i64 1, .int .i64 p, .int .i64 a, .int .i64 b]] w fun e w' => e = .returned (.tuple #[.int .i64 (thenOf c 1 a b), .int .i64 (toldOf c 1 a)]) ∧ Below w.heap.size w w' := by
  go_enter Tryd.func20, Tryd.ntmps20
  go_wp2
  go_ret2
  exact ⟨rfl, (Below.refl _ _).alloc (Nat.le_refl _) _⟩

set_option maxRecDepth 100000 in
set_option maxHeartbeats 400000 in
theorem deed2 (w : World) (c p a b : Int) :
    Calls Tryd.prog 21 #[.int .i64 c, .agg #[.int .i64 2, .int .i64 p, .int .i64 a, .int .i64 b]] w fun e w' => e = .returned (.tuple #[.int .i64 (thenOf c 2 a b), .int .i64 (toldOf c 2 a)]) ∧ Below w.heap.size w w' := by
  go_enter Tryd.func21, Tryd.ntmps21
  go_wp2
  go_ret2
  exact ⟨rfl, (Below.refl _ _).alloc (Nat.le_refl _) _⟩

set_option maxRecDepth 100000 in
set_option maxHeartbeats 400000 in
theorem deed4 (w : World) (c p a b : Int) :
    Calls Tryd.prog 23 #[.int .i64 c, .agg #[.int .i64 4, .int .i64 p, .int .i64 a, .int .i64 b]] w fun e w' => e = .returned (.tuple #[.int .i64 (thenOf c 4 a b), .int .i64 (toldOf c 4 a)]) ∧ Below w.heap.size w w' := by
  go_enter Tryd.func23, Tryd.ntmps23
  go_wp2
  go_ret2
  exact ⟨rfl, (Below.refl _ _).alloc (Nat.le_refl _) _⟩

set_option maxRecDepth 100000 in
set_option maxHeartbeats 400000 in
theorem deed3 (w : World) (c p a b : Int) :
    Calls Tryd.prog 22 #[.int .i64 c, .agg #[.int .i64 3, .int .i64 p, .int .i64 a, .int .i64 b]] w fun e w' => e = .returned (.tuple #[.int .i64 (thenOf c 3 a b), .int .i64 (toldOf c 3 a)]) ∧ Below w.heap.size w w' := by
  go_enter Tryd.func22, Tryd.ntmps22
  go_wp2
  go_quiet (fail)
  go_wp2
  go_ret2
  exact ⟨rfl, below_drewN ((Below.refl _ _).alloc (Nat.le_refl _) _) _⟩

set_option maxRecDepth 100000 in
set_option maxHeartbeats 400000 in
theorem deed5 (w : World) (c p a b : Int) :
    Calls Tryd.prog 24 #[.int .i64 c, .agg #[.int .i64 5, .int .i64 p, .int .i64 a, .int .i64 b]] w fun e w' => e = .returned (.tuple #[.int .i64 (thenOf c 5 a b), .int .i64 (toldOf c 5 a)]) ∧ Below w.heap.size w w' := by
  by_cases h : c = a
  · subst h
    go_enter Tryd.func24, Tryd.ntmps24
    go_wp2
    all_goals go_ret2
    all_goals exact ⟨ret_pair (by simp [thenOf]) (by simp [toldOf]), (Below.refl _ _).alloc (Nat.le_refl _) _⟩
  · go_enter Tryd.func24, Tryd.ntmps24
    go_wp2
    all_goals go_ret2
    all_goals exact ⟨ret_pair (by simp [thenOf, h]) (by simp [toldOf, h]), (Below.refl _ _).alloc (Nat.le_refl _) _⟩
end Go.Proofs.YtpgokeogijpmaabDoor
