/-
  What ops do to a memory, and the steps of cell.Run's loop, on worlds alone.
-/
import Derived.Test.YtpgokeogijpmaabDoorI
namespace Go.Proofs.YtpgokeogijpmaabDoor
open Go.RowKit

/-- The memory behind an op; what the op tells. -/
def stepMem (zs : List Int) (o : Op4) : List Int := zs.set o.p.toNat (thenOf (zs.getD o.p.toNat 0) o.k o.a o.b)
def stepTold (zs : List Int) (o : Op4) : Int := toldOf (zs.getD o.p.toNat 0) o.k o.a
/-- The memory behind ops; what they tell. -/
def ranMem : List Int → List Op4 → List Int
  | zs, [] => zs
  | zs, o :: os => ranMem (stepMem zs o) os
def ranTold : List Int → List Op4 → List Int
  | _, [] => []
  | zs, o :: os => stepTold zs o :: ranTold (stepMem zs o) os

theorem stepMem_length (zs : List Int) (o : Op4) : (stepMem zs o).length = zs.length := by simp [stepMem]
theorem ranMem_length : ∀ (os : List Op4) (zs : List Int), (ranMem zs os).length = zs.length
  | [], _ => rfl
  | o :: os, zs => by rw [ranMem, ranMem_length os, stepMem_length]
theorem ranTold_length : ∀ (os : List Op4) (zs : List Int), (ranTold zs os).length = os.length
  | [], _ => rfl
  | o :: os, zs => by rw [ranTold, List.length_cons, ranTold_length os, List.length_cons]
theorem ranMem_append : ∀ (os os' : List Op4) (zs : List Int), ranMem zs (os ++ os') = ranMem (ranMem zs os) os'
  | [], _, _ => rfl
  | o :: os, os', zs => by rw [List.cons_append, ranMem, ranMem, ranMem_append os]
theorem ranTold_append : ∀ (os os' : List Op4) (zs : List Int), ranTold zs (os ++ os') = ranTold zs os ++ ranTold (ranMem zs os) os'
  | [], _, _ => rfl
  | o :: os, os', zs => by rw [List.cons_append, ranTold, ranTold, ranTold_append os, ranMem, List.cons_append]

theorem take_snoc {os : List Op4} {j : Nat} (hj : j < os.length) : os.take (j + 1) = os.take j ++ [opAtD os j] := by
  rw [List.take_succ_eq_append_getElem hj]
  simp [opAtD, List.getElem?_eq_getElem hj]
theorem ranMem_take {os : List Op4} {zs : List Int} {j : Nat} (hj : j < os.length) : ranMem zs (os.take (j + 1)) = stepMem (ranMem zs (os.take j)) (opAtD os j) := by
  rw [take_snoc hj, ranMem_append]; rfl
theorem ranTold_take {os : List Op4} {zs : List Int} {j : Nat} (hj : j < os.length) : ranTold zs (os.take (j + 1)) = ranTold zs (os.take j) ++ [stepTold (ranMem zs (os.take j)) (opAtD os j)] := by
  rw [take_snoc hj, ranTold_append]; rfl

/-- The slice v lies at the head of block g, which is not frozen, and reads as the numbers zs. -/
def MemAt (w : World) (v : Value) (g : Nat) (zs : List Int) : Prop :=
  ∃ cap cur, v = .slice (some ⟨g, 0, none⟩) zs.length cap ∧ w.heap[g]? = some (.cells cur 3 (0, 0)) ∧ zs.length ≤ cap ∧ cap ≤ maxLen ∧ cur.size = cap * 1 ∧ cur.toList.take (zs.length * 1) = zs.map (Value.int .i64)

theorem MemAt.of_owns {w : World} {base : Nat} {v : Value} {zs : List Int} (h : w.ownsRow base 3 1 v zs.length (zs.map (Value.int .i64))) (hn : 0 < zs.length) : ∃ g, base ≤ g ∧ g < w.heap.size ∧ MemAt w v g zs := by
  obtain ⟨_, ⟨_, h0⟩ | ⟨g, cap, cur, hv, hg, hh, r1, r2, r3, r4⟩⟩ := h
  · omega
  · exact ⟨g, hg, (Array.getElem?_eq_some_iff.1 hh).1, cap, cur, hv, hh, r1, r2, r3, r4⟩

theorem MemAt.owns {w : World} {v : Value} {g base : Nat} {zs : List Int} (h : MemAt w v g zs) (hb : base ≤ g) : w.ownsRow base 3 1 v zs.length (zs.map (Value.int .i64)) := by
  obtain ⟨cap, cur, hv, hh, r1, r2, r3, r4⟩ := h
  exact ⟨by simp, Or.inr ⟨g, cap, cur, hv, hb, hh, r1, r2, r3, r4⟩⟩

theorem MemAt.keep {w w' : World} {v : Value} {g : Nat} {zs : List Int} (h : MemAt w v g zs) (e : w'.heap[g]? = w.heap[g]?) : MemAt w' v g zs := by
  obtain ⟨cap, cur, hv, hh, r⟩ := h
  exact ⟨cap, cur, hv, e.trans hh, r⟩

theorem MemAt.cell {w : World} {v : Value} {g q : Nat} {zs : List Int} (h : MemAt w v g zs) (hq : q < zs.length) : w.cell? ⟨g, 0 + q, none⟩ = some (.int .i64 (zs.getD q 0)) ∧ w.frozen? ⟨g, 0 + q, none⟩ = false := by
  obtain ⟨cap, cur, hv, hh, r1, r2, r3, r4⟩ := h
  have e : cur[q]? = some (.int .i64 (zs.getD q 0)) := by
    have h1 : (cur.toList.take (zs.length * 1))[q]? = cur.toList[q]? := by rw [List.getElem?_take, if_pos (by omega)]
    rw [r4, List.getElem?_map, List.getElem?_eq_getElem hq] at h1
    rw [← Array.getElem?_toList, ← h1]
    simp [List.getElem?_eq_getElem hq]
  constructor
  · simp [World.cell?, hh, e]
  · simp [World.frozen?, hh]

theorem MemAt.set {w : World} {v : Value} {g q : Nat} {zs : List Int} (h : MemAt w v g zs) (_ : q < zs.length) (x : Int) : MemAt (w.setCell ⟨g, 0 + q, none⟩ (.int .i64 x)) v g (zs.set q x) := by
  obtain ⟨cap, cur, hv, hh, r1, r2, r3, r4⟩ := h
  refine ⟨cap, cur.setIfInBounds q (.int .i64 x), by simpa using hv, ?_, by simpa using r1, r2, by simpa using r3, ?_⟩
  · simp [World.setCell, Array.getElem?_modify, hh]
  · have e := congrArg (fun l => l.set q (Value.int .i64 x)) r4
    simp only [List.length_set] at e ⊢
    rw [List.map_set, ← e]
    simp [List.take_set]
end Go.Proofs.YtpgokeogijpmaabDoor
