/-
  What cell.onward gathers, as lists; and what is known of it in memory.
-/
import Derived.Test.YtpgokeogijpmaabDoorR
namespace Go.Proofs.YtpgokeogijpmaabDoor
open Go.RowKit

def opOf (tss : List (List Op4)) (t i : Nat) : Op4 := opAtD (tss.getD t []) i
/-- The spot that one more op of a task leads to. -/
def stepSpot (tss : List (List Op4)) (s : Spot) (t : Nat) : Spot := ⟨s.d.set t (s.d.getD t 0 + 1), stepMem s.m (opOf tss t (s.d.getD t 0).toNat)⟩
def seenIn (fmt : Int → List Int) (next : List Spot) (s : Spot) : Bool := (next.map fun x => (skey fmt x).data.toList).contains (skey fmt s).data.toList
def addSpot (fmt : Int → List Int) (next : List Spot) (s : Spot) : List Spot := if seenIn fmt next s = true then next else next ++ [s]
def innerTo (fmt : Int → List Int) (tss : List (List Op4)) (s : Spot) (next : List Spot) : Nat → List Spot
  | 0 => next
  | k + 1 => if s.d.getD k 0 = ((tss.getD k []).length : Int) then innerTo fmt tss s next k else addSpot fmt (innerTo fmt tss s next k) (stepSpot tss s k)
def outerTo (fmt : Int → List Int) (tss : List (List Op4)) (sps : List Spot) : Nat → List Spot
  | 0 => []
  | j + 1 => innerTo fmt tss (spotAt sps j) (outerTo fmt tss sps j) tss.length

theorem seenIn_iff {fmt : Int → List Int} {next : List Spot} {s : Spot} : seenIn fmt next s = true ↔ skey fmt s ∈ next.map (skey fmt) := by
  unfold seenIn
  rw [List.contains_iff_mem, List.mem_map, List.mem_map]
  constructor
  · rintro ⟨x, hx, e⟩
    refine ⟨x, hx, ?_⟩
    cases hk : skey fmt x; cases hk' : skey fmt s
    rw [hk, hk'] at e
    simp only at e
    rw [Array.toList_inj.1 e]
  · rintro ⟨x, hx, e⟩
    exact ⟨x, hx, by rw [e]⟩

/-- What is known of what has been gathered: what was seen, and the spots, each list in a block of its own. -/
def NextInv (fmt : Int → List Int) (w wr : World) (t : Value) (next : List Spot) : Prop :=
  Below w.heap.size w wr ∧ w.heap.size + 1 ≤ wr.heap.size ∧ wr.heap[w.heap.size]? = some (.map (seenEnts (next.map (skey fmt))) (next.map (skey fmt)).length) ∧
  ∃ VD VM : Nat → Value, wr.ownsRow (w.heap.size + 1) 45 2 t next.length (spotCells VD VM next.length) ∧
    ∀ i, i < next.length → ∃ gd gm, MemAt wr (VD i) gd (spotAt next i).d ∧ MemAt wr (VM i) gm (spotAt next i).m ∧ w.heap.size < gd ∧ w.heap.size < gm ∧ t.ownBlock ≠ some gd ∧ t.ownBlock ≠ some gm

theorem NextInv.start (fmt : Int → List Int) (w : World) : NextInv fmt w (w.alloc (.map #[] 0)) (.slice none 0 0) [] :=
  ⟨(Below.refl _ _).alloc (Nat.le_refl _) _, by simp, (MapKept.heap_alloc w _).1, fun _ => .nilFunc, fun _ => .nilFunc, World.ownsRow_nil _ _ _ _, fun i hi => by simp at hi⟩

theorem NextInv.keep {fmt : Int → List Int} {w wr wr' : World} {t : Value} {next : List Spot} (h : NextInv fmt w wr t next) (hb : Below wr.heap.size wr wr') : NextInv fmt w wr' t next := by
  obtain ⟨h1, h2, h3, VD, VM, h4, h5⟩ := h
  have hs := hb.size
  refine ⟨h1.trans (hb.mono h1.size), by omega, (hb.block _ (by omega)).trans h3, VD, VM, owns_keep h4 fun k _ hk => hb.block k hk, fun i hi => ?_⟩
  obtain ⟨gd, gm, a1, a2, r⟩ := h5 i hi
  have e1 : gd < wr.heap.size := by obtain ⟨_, _, _, hh, _⟩ := a1; exact (Array.getElem?_eq_some_iff.1 hh).1
  have e2 : gm < wr.heap.size := by obtain ⟨_, _, _, hh, _⟩ := a2; exact (Array.getElem?_eq_some_iff.1 hh).1
  exact ⟨gd, gm, a1.keep (hb.block gd e1), a2.keep (hb.block gm e2), r⟩

theorem heap_putObj {w : World} {B : Nat} {o : Obj} (k : Nat) (h : k ≠ B) : (putObj w B o).heap[k]? = w.heap[k]? := by
  simp [putObj, Ne.symm h]
theorem heap_putObj_same {w : World} {B : Nat} {o : Obj} (h : B < w.heap.size) : (putObj w B o).heap[B]? = some o := by
  simp [putObj, h]

theorem size_putObj {w : World} {B : Nat} {o : Obj} : (putObj w B o).heap.size = w.heap.size := by simp [putObj]

theorem MemAt.lt {w : World} {v : Value} {g : Nat} {zs : List Int} (h : MemAt w v g zs) : g < w.heap.size := by
  obtain ⟨_, _, _, hh, _⟩ := h; exact (Array.getElem?_eq_some_iff.1 hh).1

/-- A new spot is put among what was seen, and appended. -/
theorem NextInv.add {fmt : Int → List Int} {w w7 w9 : World} {t t' vd vm : Value} {next : List Spot} {s : Spot} {gd gm : Nat} {o : Obj} {VD VM : Nat → Value} (h1 : Below w.heap.size w w7) (h2 : w.heap.size + 1 ≤ w7.heap.size)
    (h4 : w7.ownsRow (w.heap.size + 1) 45 2 t next.length (spotCells VD VM next.length))
    (h5 : ∀ i, i < next.length → ∃ gd gm, MemAt w7 (VD i) gd (spotAt next i).d ∧ MemAt w7 (VM i) gm (spotAt next i).m ∧ w.heap.size < gd ∧ w.heap.size < gm ∧ t.ownBlock ≠ some gd ∧ t.ownBlock ≠ some gm)
    (hd : MemAt w7 vd gd s.d) (hm : MemAt w7 vm gm s.m) (hgd : w.heap.size < gd) (hgm : w.heap.size < gm) (htd : t.ownBlock ≠ some gd) (htm : t.ownBlock ≠ some gm)
    (hnew : w9.ownsRow (w.heap.size + 1) 45 2 t' (next.length + 1) (spotCells VD VM next.length ++ [vd, vm]))
    (hgr : ((putObj w7 w.heap.size (.map (seenEnts (next.map (skey fmt) ++ [skey fmt s])) ((next.map (skey fmt)).length + 1))).alloc o).grownBy w9 t.ownBlock) (hloc : t'.ownBlock = t.ownBlock ∨ t'.ownBlock = some (w7.heap.size + 1)) :
    NextInv fmt w w9 t' (next ++ [s]) := by
  have hbk : ∀ k, k < w7.heap.size → k ≠ w.heap.size → t.ownBlock ≠ some k → w9.heap[k]? = w7.heap[k]? := fun k hk hne ht => by
    rw [hgr.block k (by rw [World.size_alloc, size_putObj]; omega) (fun e => ht e.symm), Below.heap_alloc _ _ _ (by rw [size_putObj]; omega), heap_putObj k hne]
  have hsz : w7.heap.size + 1 ≤ w9.heap.size := by have := hgr.size; rw [World.size_alloc, size_putObj] at this; exact this
  have htB : t.ownBlock ≠ some w.heap.size := fun e => by have := (h4.lt _ e).1; omega
  refine ⟨h1.trans ⟨hgr.os, hgr.tape, hgr.output, by omega, fun k hk => hbk k (by omega) (by omega) (fun e => by have := (h4.lt _ e).1; omega)⟩, by omega, ?_, fun i => if i < next.length then VD i else vd, fun i => if i < next.length then VM i else vm, ?_, ?_⟩
  · rw [hgr.block w.heap.size (by rw [World.size_alloc, size_putObj]; omega) (fun e => htB e.symm), Below.heap_alloc _ _ _ (by rw [size_putObj]; omega), heap_putObj_same (by omega)]
    simp
  · have e : spotCells (fun i => if i < next.length then VD i else vd) (fun i => if i < next.length then VM i else vm) (next ++ [s]).length = spotCells VD VM next.length ++ [vd, vm] := by
      rw [List.length_append, List.length_cons, List.length_nil, Nat.zero_add, spotCells_succ, spotCells_congr (VD' := VD) (VM' := VM) (fun j hj => by simp [hj])]
      simp
    rw [e]
    simpa using hnew
  · intro i hi
    have ht' : ∀ g, g < w7.heap.size → t.ownBlock ≠ some g → t'.ownBlock ≠ some g := fun g hg hne e => by
      rcases hloc with h | h
      · rw [h] at e; exact hne e
      · rw [h] at e; injection e with e; omega
    by_cases hin : i < next.length
    · obtain ⟨gd', gm', a1, a2, b1, b2, c1, c2⟩ := h5 i hin
      have es : spotAt (next ++ [s]) i = spotAt next i := by simp [spotAt, List.getElem?_append_left hin]
      simp only [hin, if_true, es]
      exact ⟨gd', gm', a1.keep (hbk _ a1.lt (by omega) c1), a2.keep (hbk _ a2.lt (by omega) c2), b1, b2, ht' _ a1.lt c1, ht' _ a2.lt c2⟩
    · have ei : i = next.length := by simp at hi; omega
      subst ei
      have es : spotAt (next ++ [s]) next.length = s := by simp [spotAt]
      simp only [Nat.lt_irrefl, if_false, es]
      exact ⟨gd, gm, hd.keep (hbk _ hd.lt (by omega) htd), hm.keep (hbk _ hm.lt (by omega) htm), hgd, hgm, ht' _ hd.lt htd, ht' _ hm.lt htm⟩

theorem addSpot_length (fmt : Int → List Int) (next : List Spot) (s : Spot) : (addSpot fmt next s).length ≤ next.length + 1 := by
  unfold addSpot; split <;> simp
theorem innerTo_length (fmt : Int → List Int) (tss : List (List Op4)) (s : Spot) (next : List Spot) : ∀ k, (innerTo fmt tss s next k).length ≤ next.length + k
  | 0 => by simp [innerTo]
  | k + 1 => by
    have ih := innerTo_length fmt tss s next k
    rw [innerTo]
    split
    · omega
    · have := addSpot_length fmt (innerTo fmt tss s next k) (stepSpot tss s k); omega
theorem outerTo_length (fmt : Int → List Int) (tss : List (List Op4)) (sps : List Spot) : ∀ j, (outerTo fmt tss sps j).length ≤ j * tss.length
  | 0 => by simp [outerTo]
  | j + 1 => by
    have ih := outerTo_length fmt tss sps j
    have := innerTo_length fmt tss (spotAt sps j) (outerTo fmt tss sps j) tss.length
    rw [outerTo, Nat.add_mul]
    omega
end Go.Proofs.YtpgokeogijpmaabDoor
