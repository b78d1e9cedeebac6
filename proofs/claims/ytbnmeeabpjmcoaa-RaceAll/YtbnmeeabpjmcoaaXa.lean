/-
  Races on lists: the accesses so far, which of them an event races with, the first event that races.
-/
import Derived.Test.YtbnmeeabpjmcoaaCk
namespace Go.Proofs.Ytbnmeeabpjmcoaa
open Go.RowKit

structure Acc where
  pl : Nat
  task : Int
  store : Bool
def acc0 : Acc := ⟨0, 0, false⟩
def isAcc (e : Ev) : Bool := e.op == 12 || e.op == 13
def accOf (l : List Ev) (i : Nat) : Acc := ⟨i, (l.getD i ev0).task, (l.getD i ev0).op == 13⟩
def onCell (l : List Ev) (c : Int) (i : Nat) : Bool := isAcc (l.getD i ev0) && (l.getD i ev0).obj == c
def accL (l : List Ev) (n : Nat) (c : Int) : List Acc := ((List.range n).filter (onCell l c)).map (accOf l)
def raceA (hs : List Int) (l : List Ev) (a b : Acc) : Bool := !(a.task == b.task) && (a.store || b.store) && decide (ckAt hs l b.pl (a.task - 1).toNat < ckAt hs l a.pl (a.task - 1).toNat)
def racing (hs : List Int) (l : List Ev) (k : Nat) : List Acc := if isAcc (l.getD k ev0) then (accL l k (l.getD k ev0).obj).filter (fun a => raceA hs l a (accOf l k)) else []
def racesAt (hs : List Int) (l : List Ev) (k : Nat) : Bool := !(racing hs l k).isEmpty
def firstR (hs : List Int) (l : List Ev) : Option Nat := (List.range l.length).find? (racesAt hs l)

theorem accL_zero (l : List Ev) (c : Int) : accL l 0 c = [] := rfl
theorem accL_yes (l : List Ev) (n : Nat) (c : Int) (h : onCell l c n = true) : accL l (n + 1) c = accL l n c ++ [accOf l n] := by
  unfold accL
  rw [List.range_succ, List.filter_append, List.map_append]
  simp [h]
theorem accL_no (l : List Ev) (n : Nat) (c : Int) (h : onCell l c n = false) : accL l (n + 1) c = accL l n c := by
  unfold accL
  rw [List.range_succ, List.filter_append, List.map_append]
  simp [h]
theorem accL_mem {l : List Ev} {n : Nat} {c : Int} {a : Acc} (h : a ∈ accL l n c) : a.pl < n ∧ a = accOf l a.pl ∧ onCell l c a.pl = true := by
  unfold accL at h
  obtain ⟨i, hi, rfl⟩ := List.mem_map.1 h
  obtain ⟨h1, h2⟩ := List.mem_filter.1 hi
  exact ⟨List.mem_range.1 h1, rfl, h2⟩
theorem accL_len (l : List Ev) (n : Nat) (c : Int) : (accL l n c).length ≤ n := by
  unfold accL
  rw [List.length_map]
  have := List.length_filter_le (onCell l c) (List.range n)
  rwa [List.length_range] at this
theorem getD_take (l : List Ev) {i m : Nat} (h : i < m) : (l.take m).getD i ev0 = l.getD i ev0 := by
  rw [List.getD_eq_getElem?_getD, List.getD_eq_getElem?_getD, List.getElem?_take_of_lt h]
theorem accL_take (l : List Ev) {k m : Nat} (h : k ≤ m) (c : Int) : accL (l.take m) k c = accL l k c := by
  unfold accL
  have e1 : (List.range k).filter (onCell (l.take m) c) = (List.range k).filter (onCell l c) := by
    apply List.filter_congr
    intro i hi
    have := List.mem_range.1 hi
    unfold onCell
    rw [getD_take l (by omega)]
  rw [e1]
  apply List.map_congr_left
  intro i hi
  have := List.mem_range.1 (List.mem_filter.1 hi).1
  unfold accOf
  rw [getD_take l (by omega)]
theorem racing_take (hs : List Int) (l : List Ev) {k m : Nat} (h : k < m) : racing hs (l.take m) k = racing hs l k := by
  unfold racing
  rw [getD_take l h, accL_take l (Nat.le_of_lt h)]
  split
  · apply List.filter_congr
    intro a ha
    have := (accL_mem ha).1
    have e : accOf (l.take m) k = accOf l k := by unfold accOf; rw [getD_take l h]
    unfold raceA
    rw [e, ckAt_take hs l (show (accOf l k).pl < m from h), ckAt_take hs l (show a.pl < m by omega)]
  · rfl
theorem racesAt_take (hs : List Int) (l : List Ev) {k m : Nat} (h : k < m) : racesAt hs (l.take m) k = racesAt hs l k := by
  unfold racesAt
  rw [racing_take hs l h]
theorem find_none {p : Nat → Bool} : ∀ n, (∀ j, j < n → p j = false) → (List.range n).find? p = none
  | 0, _ => rfl
  | n + 1, h => by
    rw [List.range_succ, List.find?_append, find_none n fun j hj => h j (by omega)]
    simp [h n (by omega)]
theorem find_some {p : Nat → Bool} {k : Nat} (hk : p k = true) (h : ∀ j, j < k → p j = false) : ∀ n, k < n → (List.range n).find? p = some k
  | 0, h0 => by omega
  | n + 1, h0 => by
    rw [List.range_succ, List.find?_append]
    by_cases e : k = n
    · subst e
      rw [find_none k h]
      simp [hk]
    · rw [find_some hk h n (by omega)]
      simp
theorem firstR_some {hs : List Int} {l : List Ev} {k : Nat} (h : firstR hs l = some k) : k < l.length ∧ racesAt hs l k = true ∧ ∀ j, j < k → racesAt hs l j = false := by
  unfold firstR at h
  have h1 := List.find?_some h
  have h2 := List.mem_of_find?_eq_some h
  refine ⟨List.mem_range.1 h2, h1, fun j hj => ?_⟩
  by_cases e : ∃ i, i ≤ j ∧ racesAt hs l i = true ∧ ∀ x, x < i → racesAt hs l x = false
  · obtain ⟨i, hi, e1, e2⟩ := e
    have := find_some e1 e2 l.length (by have := List.mem_range.1 h2; omega)
    rw [h] at this
    cases this
    omega
  · have hall : ∀ x, x ≤ j → racesAt hs l x = false := fun x => by
      induction x using Nat.strongRecOn with
      | ind x ih =>
        intro hx
        cases hb : racesAt hs l x with
        | false => rfl
        | true => exact absurd ⟨x, hx, hb, fun y hy => ih y hy (by omega)⟩ e
    exact hall j (Nat.le_refl _)
theorem firstR_none {hs : List Int} {l : List Ev} (h : firstR hs l = none) : ∀ j, j < l.length → racesAt hs l j = false := fun j hj => by
  unfold firstR at h
  have := List.find?_eq_none.1 h j (List.mem_range.2 hj)
  simpa using this
theorem firstR_is {hs : List Int} {l : List Ev} {k : Nat} (hl : k < l.length) (hk : racesAt hs l k = true) (h : ∀ j, j < k → racesAt hs l j = false) : firstR hs l = some k := find_some hk h _ hl
theorem firstR_no {hs : List Int} {l : List Ev} (h : ∀ j, j < l.length → racesAt hs l j = false) : firstR hs l = none := find_none _ h
theorem first_ahead {hs : List Int} {l : List Ev} {k : Nat} (h : firstR hs l = some k) : firstR hs (l.take k) = none := by
  obtain ⟨h1, h2, h3⟩ := firstR_some h
  refine firstR_no fun j hj => ?_
  rw [List.length_take] at hj
  rw [racesAt_take hs l (by omega)]
  exact h3 j (by omega)
theorem first_with {hs : List Int} {l : List Ev} {k : Nat} (h : firstR hs l = some k) : firstR hs (l.take (k + 1)) = some k := by
  obtain ⟨h1, h2, h3⟩ := firstR_some h
  refine firstR_is (by rw [List.length_take]; omega) (by rw [racesAt_take hs l (by omega)]; exact h2) fun j hj => ?_
  rw [racesAt_take hs l (by omega)]
  exact h3 j hj
theorem races_acc {hs : List Int} {l : List Ev} {k : Nat} (h : racesAt hs l k = true) : isAcc (l.getD k ev0) = true ∧ 1 ≤ k := by
  unfold racesAt racing at h
  by_cases e : isAcc (l.getD k ev0) = true
  · rw [if_pos e] at h
    refine ⟨e, ?_⟩
    cases k with
    | zero => simp [accL_zero] at h
    | succ k => omega
  · rw [if_neg e] at h
    simp at h
end Go.Proofs.Ytbnmeeabpjmcoaa
