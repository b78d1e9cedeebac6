/-
  pipe.get and pipe.Get, whatever comes.
-/
import Derived.Test.YtijogcjocandcaaGc
import Derived.Test.YtijogcjocandcaaY
namespace Go.Proofs.Ytijogcjocandcaa
open Go.RowKit

/-- What is got at once. -/
def takenL (P : Pp) : Pp × An :=
  if 0 < P.items.length + P.ss.length then firstL P else if P.closed = true then (P, ⟨true, false, false, 0, 0, []⟩) else (P, zeroA)
/-- What a Get does. -/
def getL (P : Pp) (x : Po) (try_ : Bool) : Pp × An :=
  if (takenL P).2.done = true then takenL P else if try_ = true then (P, zeroA) else ({ P with gs := P.gs ++ [x] }, zeroA)
theorem firstL_done (P : Pp) : (firstL P).2.done = true := by
  unfold firstL
  split <;> rfl

theorem get_any (w : World) (base : Nat) (v : Value) (P : Pp) (t c u : Int) (try_ : Bool) (h : OwnPipe base w v P) (hb : base ≤ w.heap.size) (hc : countP P ≤ 5000) :
    Calls Try.prog 42 #[v, .agg #[.int .i64 t, .int .i64 c, .int .i64 u], .bool try_] w fun e w' => ∃ v1 v2, e = .returned (.tuple #[v1, v2]) ∧ NewPipe base w' v1 (getL P (t, c, u) try_).1 ∧ NewAns base w' v2 (getL P (t, c, u) try_).2 ∧ Below base w w' := by
  by_cases h0 : 0 < P.items.length + P.ss.length
  · have e0 : takenL P = firstL P := by unfold takenL; rw [if_pos h0]
    have e : getL P (t, c, u) try_ = firstL P := by unfold getL; rw [e0, if_pos (firstL_done P)]
    rw [e]
    exact get_first w base v P t c u try_ h hb hc h0
  · cases h1 : P.closed with
    | true =>
      have e0 : takenL P = (P, ⟨true, false, false, 0, 0, []⟩) := by unfold takenL; rw [if_neg h0, if_pos h1]
      have e : getL P (t, c, u) try_ = (P, ⟨true, false, false, 0, 0, []⟩) := by unfold getL; rw [e0]; rfl
      rw [e]
      exact get_closed w base v P t c u try_ h hb hc h1 h0
    | false =>
      have e0 : takenL P = (P, zeroA) := by unfold takenL; rw [if_neg h0, if_neg (by rw [h1]; simp)]
      cases try_ with
      | true =>
        have e : getL P (t, c, u) true = (P, zeroA) := by unfold getL; rw [e0]; rfl
        rw [e]
        exact get_try w base v P t c u h hb hc h1 h0
      | false =>
        have e : getL P (t, c, u) false = ({ P with gs := P.gs ++ [(t, c, u)] }, zeroA) := by unfold getL; rw [e0]; rfl
        rw [e]
        exact get_wait w base v P t c u h hb hc h1 h0

/-- What a Get answers. -/
def getR (P : Pp) (x : Int) (try_ : Bool) : Pp × An := if (taskF P x).1 = 0 then getL P (x, 0, 0) try_ else (zeroP, zeroA)
theorem Get_any (w : World) (v : Value) (P : Pp) (x : Int) (try_ : Bool) (h : IsPipe w v P) (hs : Short P) :
    Calls Try.prog 20 #[v, .int .i64 x, .bool try_] w fun e w' => ∃ v1 v2, e = .returned (.tuple #[v1, v2, faultV (taskF P x)]) ∧ NewPipe w.heap.size w' v1 (getR P x try_).1 ∧ NewAns w.heap.size w' v2 (getR P x try_).2 ∧ Below w.heap.size w w' := by
  unfold getR
  by_cases h0 : (taskF P x).1 = 0
  · rw [if_pos h0]
    obtain ⟨ht, hp⟩ := of_taskF h0
    rw [ht]
    exact get_do w v P x try_ h hs ht _ _ (fun W base v' ho hb => get_any W base v' P x 0 0 try_ ho hb (of_pipeF hp))
  · rw [if_neg h0]
    exact get_fault w v P x try_ h hs _ _ rfl h0
end Go.Proofs.Ytijogcjocandcaa
