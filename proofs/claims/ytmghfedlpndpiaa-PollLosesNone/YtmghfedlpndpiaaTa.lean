/-
  poll.Tick and poll.Close, whatever they are given; what follows a statement of a function's code.
-/
import Derived.Test.YtmghfedlpndpiaaLa
import Derived.Test.YtmghfedlpndpiaaM
import Derived.Test.YtmghfedlpndpiaaO
namespace Go.Proofs.Ytmghfedlpndpiaa
open Go.RowKit

/-- The statement that is the region n, and what follows it. -/
def cutAt (n : Nat) : Code → Option (Code × Code)
  | .seq (.region id ops dr) b => bif Nat.beq id n then some (.region id ops dr, b) else cutAt n b
  | .seq _ b => cutAt n b
  | _ => none
/-- The statement that opens with the region n, its second part, and what follows it. -/
def cutIf (n : Nat) : Code → Option (Code × Code × Code)
  | .seq (.seq (.region id ops dr) c) b => bif Nat.beq id n then some (.region id ops dr, c, b) else cutIf n b
  | .seq _ b => cutIf n b
  | _ => none

/-- Does who waits go? -/
def gone (t u now : Int) : Bool := decide (0 < t) && late u now
def onlyIf (b : Bool) (t : Int) : List Int := if b then [t] else []

theorem tick_any (w : World) (c r0 r1 : Bool) (t0 t1 u0 u1 now C1 : Int) (hC : descF c r0 r1 t0 t1 u0 u1 = (0, C1)) (hnow : 0 ≤ now ∧ now ≤ 1000000000) :
    Calls Try.prog 15 #[.agg #[.bool c, .bool r0, .bool r1, .int .i64 t0, .int .i64 t1, .int .i64 u0, .int .i64 u1], .int .i64 now] w fun e w' => ∃ a k, e = .returned (.tuple #[.agg #[.bool c, .bool r0, .bool r1, .int .i64 (if gone t0 u0 now then 0 else t0), .int .i64 (if gone t1 u1 now then 0 else t1), .int .i64 u0, .int .i64 u1], .slice a (onlyIf (gone t0 u0 now) t0 ++ onlyIf (gone t1 u1 now) t1).length k, .agg #[.int .i64 0, .int .i64 0]]) ∧ Own KI w.heap.size w' (.slice a (onlyIf (gone t0 u0 now) t0 ++ onlyIf (gone t1 u1 now) t1).length k) (onlyIf (gone t0 u0 now) t0 ++ onlyIf (gone t1 u1 now) t1) ∧ Below w.heap.size w w' := by
  unfold gone
  by_cases z0 : 0 < t0
  · rw [decide_eq_true z0]
    by_cases z1 : 0 < t1
    · rw [decide_eq_true z1]
      cases l0 : late u0 now <;> cases l1 : late u1 now
      · exact tick_ll w c r0 r1 t0 t1 u0 u1 now C1 hC hnow z0 l0 z1 l1
      · exact tick_lg w c r0 r1 t0 t1 u0 u1 now C1 hC hnow z0 l0 z1 l1
      · exact tick_gl w c r0 r1 t0 t1 u0 u1 now C1 hC hnow z0 l0 z1 l1
      · exact tick_gg w c r0 r1 t0 t1 u0 u1 now C1 hC hnow z0 l0 z1 l1
    · rw [decide_eq_false z1]
      cases l0 : late u0 now
      · exact tick_ln w c r0 r1 t0 t1 u0 u1 now C1 hC hnow z0 l0 z1
      · exact tick_gn w c r0 r1 t0 t1 u0 u1 now C1 hC hnow z0 l0 z1
  · rw [decide_eq_false z0]
    by_cases z1 : 0 < t1
    · rw [decide_eq_true z1]
      cases l1 : late u1 now
      · exact tick_nl w c r0 r1 t0 t1 u0 u1 now C1 hC hnow z0 z1 l1
      · exact tick_ng w c r0 r1 t0 t1 u0 u1 now C1 hC hnow z0 z1 l1
    · rw [decide_eq_false z1]
      exact tick_nn w c r0 r1 t0 t1 u0 u1 now C1 hC hnow z0 z1

theorem close_any (w : World) (c r0 r1 : Bool) (t0 t1 u0 u1 C1 : Int) (hC : descF c r0 r1 t0 t1 u0 u1 = (0, C1)) :
    Calls Try.prog 16 #[.agg #[.bool c, .bool r0, .bool r1, .int .i64 t0, .int .i64 t1, .int .i64 u0, .int .i64 u1]] w fun e w' => ∃ a k, e = .returned (.tuple #[.agg #[.bool true, .bool false, .bool false, .int .i64 0, .int .i64 0, .int .i64 0, .int .i64 0], .slice a (onlyIf (decide (0 < t0)) t0 ++ onlyIf (decide (0 < t1)) t1).length k, .bool c, .agg #[.int .i64 0, .int .i64 0]]) ∧ Own KI w.heap.size w' (.slice a (onlyIf (decide (0 < t0)) t0 ++ onlyIf (decide (0 < t1)) t1).length k) (onlyIf (decide (0 < t0)) t0 ++ onlyIf (decide (0 < t1)) t1) ∧ Below w.heap.size w w' := by
  by_cases z0 : 0 < t0
  · rw [decide_eq_true z0]
    by_cases z1 : 0 < t1
    · rw [decide_eq_true z1]
      exact close_gg w c r0 r1 t0 t1 u0 u1 C1 hC z0 z1
    · rw [decide_eq_false z1]
      exact close_gn w c r0 r1 t0 t1 u0 u1 C1 hC z0 z1
  · rw [decide_eq_false z0]
    by_cases z1 : 0 < t1
    · rw [decide_eq_true z1]
      exact close_ng w c r0 r1 t0 t1 u0 u1 C1 hC z0 z1
    · rw [decide_eq_false z1]
      exact close_nn w c r0 r1 t0 t1 u0 u1 C1 hC z0 z1

/-- What Tick answers. -/
def tickR (c r0 r1 : Bool) (t0 t1 u0 u1 now : Int) (C : Int × Int) : (Bool × Bool × Bool × Int × Int × Int × Int) × List Int × (Int × Int) :=
  if (tickF C now).1 ≠ 0 then ((false, false, false, 0, 0, 0, 0), [], tickF C now) else ((c, r0, r1, (if gone t0 u0 now then 0 else t0), (if gone t1 u1 now then 0 else t1), u0, u1), onlyIf (gone t0 u0 now) t0 ++ onlyIf (gone t1 u1 now) t1, (0, 0))
theorem tick_all (w : World) (c r0 r1 : Bool) (t0 t1 u0 u1 now C0 C1 : Int) (hC : descF c r0 r1 t0 t1 u0 u1 = (C0, C1)) (b0 b1 b2 : Bool) (b3 b4 b5 b6 : Int) (L : List Int) (F0 F1 : Int) (hR : tickR c r0 r1 t0 t1 u0 u1 now (C0, C1) = ((b0, b1, b2, b3, b4, b5, b6), L, (F0, F1))) :
    Calls Try.prog 15 #[.agg #[.bool c, .bool r0, .bool r1, .int .i64 t0, .int .i64 t1, .int .i64 u0, .int .i64 u1], .int .i64 now] w fun e w' => ∃ a k, e = .returned (.tuple #[.agg #[.bool b0, .bool b1, .bool b2, .int .i64 b3, .int .i64 b4, .int .i64 b5, .int .i64 b6], .slice a L.length k, .agg #[.int .i64 F0, .int .i64 F1]]) ∧ Own KI w.heap.size w' (.slice a L.length k) L ∧ Below w.heap.size w w' := by
  unfold tickR at hR
  by_cases hF : (tickF (C0, C1) now).1 ≠ 0
  · rw [if_pos hF] at hR
    obtain ⟨⟨G0, G1⟩, eG⟩ : ∃ G, tickF (C0, C1) now = G := ⟨_, rfl⟩
    rw [eG] at hF hR
    cases hR
    exact (tick_fault w c r0 r1 t0 t1 u0 u1 now C0 C1 F0 F1 hC eG hF).mono fun e w' ⟨h1, h2⟩ => ⟨none, 0, h1, own_nil _ _, h2⟩
  · rw [if_neg hF] at hR
    cases hR
    have hz : (tickF (C0, C1) now).1 = 0 := Decidable.not_not.1 hF
    unfold tickF at hz
    split at hz
    · rename_i h1
      exact absurd hz h1
    · split at hz
      · cases hz
      · rename_i h1 h2
        obtain rfl : C0 = 0 := Decidable.not_not.1 h1
        exact tick_any w c r0 r1 t0 t1 u0 u1 now C1 hC (Decidable.not_not.1 h2)
/-- What Close answers. -/
def closeR (c : Bool) (t0 t1 : Int) (C : Int × Int) : Bool × List Int × Bool :=
  if C.1 ≠ 0 then (false, [], false) else (true, onlyIf (decide (0 < t0)) t0 ++ onlyIf (decide (0 < t1)) t1, c)
theorem close_all (w : World) (c r0 r1 : Bool) (t0 t1 u0 u1 C0 C1 : Int) (hC : descF c r0 r1 t0 t1 u0 u1 = (C0, C1)) (b0 : Bool) (L : List Int) (p : Bool) (hR : closeR c t0 t1 (C0, C1) = (b0, L, p)) :
    Calls Try.prog 16 #[.agg #[.bool c, .bool r0, .bool r1, .int .i64 t0, .int .i64 t1, .int .i64 u0, .int .i64 u1]] w fun e w' => ∃ a k, e = .returned (.tuple #[.agg #[.bool b0, .bool false, .bool false, .int .i64 0, .int .i64 0, .int .i64 0, .int .i64 0], .slice a L.length k, .bool p, .agg #[.int .i64 C0, .int .i64 C1]]) ∧ Own KI w.heap.size w' (.slice a L.length k) L ∧ Below w.heap.size w w' := by
  unfold closeR at hR
  by_cases hF : C0 ≠ 0
  · rw [if_pos hF] at hR
    cases hR
    exact (close_fault w c r0 r1 t0 t1 u0 u1 C0 C1 hC hF).mono fun e w' ⟨h1, h2⟩ => ⟨none, 0, h1, own_nil _ _, h2⟩
  · rw [if_neg hF] at hR
    cases hR
    obtain rfl : C0 = 0 := Decidable.not_not.1 hF
    have hC1 : C1 = 0 := by
      unfold descF at hC
      split at hC
      · rename_i h; exact absurd (congrArg Prod.fst hC) h
      · split at hC
        · rename_i h; exact absurd (congrArg Prod.fst hC) h
        · split at hC
          · cases hC
          · exact (congrArg Prod.snd hC).symm
    subst hC1
    exact close_any w c r0 r1 t0 t1 u0 u1 0 hC

end Go.Proofs.Ytmghfedlpndpiaa
