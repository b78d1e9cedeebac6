/-
  Spots, and what is known of them in memory while cell.onward gathers them.
-/
import Derived.Test.YtpgokeogijpmaabDoorQ
import Derived.Maps.AppendAt
namespace Go.Proofs.YtpgokeogijpmaabDoor
open Go.RowKit

/-- A spot: how many ops each task has done, and the memory then. -/
structure Spot where
  d : List Int
  m : List Int

def Spot.zero : Spot := ⟨[], []⟩
def spotAt (sps : List Spot) (j : Nat) : Spot := sps.getD j Spot.zero
def spotCells (VD VM : Nat → Value) (n : Nat) : List Value := (List.range n).flatMap fun j => [VD j, VM j]
def skey (fmt : Int → List Int) (s : Spot) : ByteArray := keyStr (kb fmt s.d ++ kb fmt s.m)

theorem spotCells_length (VD VM : Nat → Value) (n : Nat) : (spotCells VD VM n).length = n * 2 := by
  induction n with
  | zero => rfl
  | succ n ih => unfold spotCells at ih ⊢; rw [List.range_succ, List.flatMap_append, List.length_append, ih]; simp; omega
theorem spotCells_succ (VD VM : Nat → Value) (n : Nat) : spotCells VD VM (n + 1) = spotCells VD VM n ++ [VD n, VM n] := by
  unfold spotCells; rw [List.range_succ, List.flatMap_append]; simp
theorem spotCells_congr {VD VM VD' VM' : Nat → Value} : ∀ {n : Nat}, (∀ j, j < n → VD j = VD' j ∧ VM j = VM' j) → spotCells VD VM n = spotCells VD' VM' n
  | 0, _ => rfl
  | n + 1, h => by rw [spotCells_succ, spotCells_succ, spotCells_congr (n := n) (fun j hj => h j (by omega)), (h n (by omega)).1, (h n (by omega)).2]
theorem spotCells_get {VD VM : Nat → Value} : ∀ {n j : Nat}, j < n → (spotCells VD VM n)[j * 2]? = some (VD j) ∧ (spotCells VD VM n)[j * 2 + 1]? = some (VM j)
  | 0, j, h => by omega
  | n + 1, j, h => by
    rw [spotCells_succ]
    have hl := spotCells_length VD VM n
    by_cases e : j = n
    · subst e
      rw [List.getElem?_append_right (by omega), List.getElem?_append_right (by omega)]
      simp [hl]
    · have ih := spotCells_get (VD := VD) (VM := VM) (n := n) (j := j) (by omega)
      rw [List.getElem?_append_left (by omega), List.getElem?_append_left (by omega)]
      exact ih

/-- The entries of the map of what was seen. -/
def seenEnts (ks : List ByteArray) : Array MapEntry := ((List.range ks.length).map fun i => (⟨.string (ks.getD i ByteArray.empty), .agg #[], i⟩ : MapEntry)).toArray

theorem seenEnts_mem {ks : List ByteArray} {e : MapEntry} (h : e ∈ (seenEnts ks).toList) : ∃ k ∈ ks, e.key = .string k ∧ e.val = .agg #[] := by
  simp only [seenEnts, List.mem_map, List.mem_range] at h
  obtain ⟨i, hi, rfl⟩ := h
  refine ⟨ks.getD i ByteArray.empty, ?_, rfl, rfl⟩
  simp [List.getElem?_eq_getElem hi]
theorem seenEnts_has {ks : List ByteArray} {k : ByteArray} (h : k ∈ ks) : ∃ e ∈ (seenEnts ks).toList, e.key = .string k := by
  obtain ⟨i, hi, rfl⟩ := List.getElem_of_mem h
  refine ⟨⟨.string (ks.getD i ByteArray.empty), .agg #[], i⟩, ?_, ?_⟩
  · simp only [seenEnts, List.mem_map, List.mem_range]
    exact ⟨i, hi, rfl⟩
  · simp [List.getElem?_eq_getElem hi]

theorem seenEnts_push (ks : List ByteArray) (k : ByteArray) : (seenEnts ks).push ⟨.string k, .agg #[], ks.length⟩ = seenEnts (ks ++ [k]) := by
  unfold seenEnts
  rw [List.length_append]
  simp only [List.length_cons, List.length_nil, Nat.zero_add, List.range_succ, List.map_append, List.map_cons, List.map_nil, List.push_toArray]
  congr 2
  · apply List.map_congr_left
    intro i hi
    have hi' := List.mem_range.1 hi
    simp [List.getElem?_append_left hi']
  · simp

theorem str_inj {a b : ByteArray} (h : Value.string a = Value.string b) : a = b := by injection h

theorem seen_keys (ks : List ByteArray) : ∀ x ∈ (seenEnts ks).toList, MapKept.IsKey .string x.key := fun x hx => by
  obtain ⟨k, _, hk, _⟩ := seenEnts_mem hx
  rw [hk]; trivial

/-- A look-up among what was seen. -/
theorem look_new (w : World) (B : Nat) (ks : List ByteArray) (c : Nat) (hb : w.heap[B]? = some (.map (seenEnts ks) c)) (s : ByteArray) (hs : ¬ s ∈ ks) :
    (Instr.lookup 54 (.map (some B)) (.string s) true).run Tryd.prog w = .ok (.tuple #[.agg #[], .bool false]) w := by
  have hz : (zeroValue 56).run Tryd.prog w = .ok (.agg #[]) w := by kernel_rfl
  rcases MapKept.findNow_spec (d := .string) (k := .string s) trivial (seenEnts ks).toList 0 (seen_keys ks) with ⟨h1, h2⟩ | ⟨j, e, h1, h2, h3⟩
  · simp [Instr.lookup, run_underlying Tryd.underlying54, MapKept.run_getObj_map hb, MapKept.run_checkKey Tryd.underlying9 (k := .string s) trivial, MapKept.run_findKey Tryd.underlying9 h1, hz, Result.andThen]
  · obtain ⟨k, hk, hke, _⟩ := seenEnts_mem (List.mem_of_getElem? h2)
    have h4 : k = s := str_inj (hke.symm.trans h3)
    rw [h4] at hk
    exact absurd hk hs
theorem look_old (w : World) (B : Nat) (ks : List ByteArray) (c : Nat) (hb : w.heap[B]? = some (.map (seenEnts ks) c)) (s : ByteArray) (hs : s ∈ ks) :
    (Instr.lookup 54 (.map (some B)) (.string s) true).run Tryd.prog w = .ok (.tuple #[.agg #[], .bool true]) w := by
  rcases MapKept.findNow_spec (d := .string) (k := .string s) trivial (seenEnts ks).toList 0 (seen_keys ks) with ⟨h1, h2⟩ | ⟨j, e, h1, h2, h3⟩
  · obtain ⟨e, he, hk⟩ := seenEnts_has hs
    exact absurd hk (h2 e he)
  · obtain ⟨k, hk, hke, hv⟩ := seenEnts_mem (List.mem_of_getElem? h2)
    rw [hv] at h1
    simp [Instr.lookup, run_underlying Tryd.underlying54, MapKept.run_getObj_map hb, MapKept.run_checkKey Tryd.underlying9 (k := .string s) trivial, MapKept.run_findKey Tryd.underlying9 h1, Result.andThen]

/-- The world with another object in a block. -/
def putObj (w : World) (B : Nat) (o : Obj) : World := { w with heap := w.heap.setIfInBounds B o }

theorem upd_seen (w : World) (B : Nat) (ks : List ByteArray) (hb : w.heap[B]? = some (.map (seenEnts ks) ks.length)) (s : ByteArray) (hs : ¬ s ∈ ks) :
    (Instr.mapUpdate 54 (.map (some B)) (.string s) (.agg #[])).run Tryd.prog w = .ok () (putObj w B (.map (seenEnts (ks ++ [s])) (ks.length + 1))) := by
  have hsz : (seenEnts ks).toList.length = ks.length := by simp [seenEnts]
  rcases MapKept.findNow_spec (d := .string) (k := .string s) trivial (seenEnts ks).toList 0 (seen_keys ks) with ⟨h1, h2⟩ | ⟨j, e, h1, h2, h3⟩
  · simp only [Instr.mapUpdate, Sem.run_bind, run_underlying Tryd.underlying54, MapKept.run_getObj_map hb, MapKept.run_checkKey Tryd.underlying9 (k := .string s) trivial, MapKept.run_findKey Tryd.underlying9 h1, MapKept.run_setObj_map _ hb, Result.andThen, seenEnts_push, putObj]
  · obtain ⟨k, hk, hke, _⟩ := seenEnts_mem (List.mem_of_getElem? h2)
    have h4 : k = s := str_inj (hke.symm.trans h3)
    rw [h4] at hk
    exact absurd hk hs
end Go.Proofs.YtpgokeogijpmaabDoor
