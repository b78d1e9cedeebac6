/-
  What cell.wrong answers.
-/
import Derived.Test.YtpgokeogijpmaabDoorA
namespace Go.Proofs.YtpgokeogijpmaabDoor
open Go.RowKit

/-- An op as Go's value. -/
def opV (k p a b : Int) : Value := .agg #[.int .i64 k, .int .i64 p, .int .i64 a, .int .i64 b]

def wrongOf (n k p a b : Int) : Int :=
  if 1 ≤ k ∧ k ≤ 5 then
    if (k = 1 ∧ a ≠ 0) ∨ (k ≠ 5 ∧ b ≠ 0) then 5
    else if p < 0 ∨ n ≤ p then 3 else 0
  else 4

theorem ret_int {k : IntKind} {a b : Int} (h : a = b) : Ending.returned (.int k a) = .returned (.int k b) := by rw [h]

set_option maxRecDepth 100000 in
set_option maxHeartbeats 400000 in
theorem wrong_any (w : World) (B : Nat) (hb : w.heap[B]? = some (.map ents 5)) (n k p a b : Int) :
    Calls Tryd.prog 42 #[.map (some B), .int .i64 n, .agg #[.int .i64 k, .int .i64 p, .int .i64 a, .int .i64 b]] w fun e w' => e = .returned (.int .i64 (wrongOf n k p a b)) ∧ Below w.heap.size w w' := by
  have hlt : B < w.heap.size := (Array.getElem?_eq_some_iff.1 hb).1
  have hl : ∀ o, (Instr.lookup 40 (.map (some B)) (.int .i64 k) true).run Tryd.prog (w.alloc o) = .ok (.tuple #[deedOf k, .bool (decide (1 ≤ k ∧ k ≤ 5))]) (w.alloc o) := fun o => look _ B (((MapKept.heap_alloc w o).2 B hlt).trans hb) k true
  have hnot : ∀ (x : Bool) (w : World), (Op.unary .not (.bool x)).run Tryd.prog w = .ok (.bool (!x)) w := fun _ _ => rfl
  clear hb
  by_cases hk : 1 ≤ k ∧ k ≤ 5
  · have hd : decide (1 ≤ k ∧ k ≤ 5) = true := by simpa using hk
    simp only [hd] at hl
    go_enter Tryd.func42, Tryd.ntmps42
    go_wp2
    all_goals go_ret
    all_goals refine ⟨ret_int ?_, (Below.refl _ _).alloc (Nat.le_refl _) _⟩
    all_goals
      try simp only [bne_iff_ne, ne_eq, Bool.not_eq_true', beq_eq_false_iff_ne, bne_eq_false_iff_eq, Bool.not_eq_false', beq_iff_eq] at *
      unfold wrongOf
      (repeat' split) <;> omega
  · have hd : decide (1 ≤ k ∧ k ≤ 5) = false := by simpa using hk
    simp only [hd] at hl
    go_enter Tryd.func42, Tryd.ntmps42
    go_wp2
    all_goals go_ret
    all_goals refine ⟨ret_int ?_, (Below.refl _ _).alloc (Nat.le_refl _) _⟩
    all_goals
      try simp only [bne_iff_ne, ne_eq, Bool.not_eq_true', beq_eq_false_iff_ne, bne_eq_false_iff_eq, Bool.not_eq_false', beq_iff_eq] at *
      unfold wrongOf
      (repeat' split) <;> omega
end Go.Proofs.YtpgokeogijpmaabDoor
