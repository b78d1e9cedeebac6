/-
  The map of what is done to a cell, by its kind: what cell.deeds lays, and what a look-up in it finds. No condition.
-/
import Derived.Test.YtpgokeogijpmaabDoorProg
import Derived.WalkKit
import Derived.WalkSpells
import Derived.WalkLawsBesides
import Derived.Maps.Own
namespace Go.Proofs.YtpgokeogijpmaabDoor
open Go.RowKit

/-- A function value of the program's own text, without captured variables. -/
def fv (f : Nat) : Value := .func (.func f) #[] #[]

/-- The entries of the map that cell.deeds lays. -/
def ents : Array MapEntry := #[⟨.int .i64 1, fv 20, 0⟩, ⟨.int .i64 2, fv 21, 1⟩, ⟨.int .i64 3, fv 22, 2⟩, ⟨.int .i64 4, fv 23, 3⟩, ⟨.int .i64 5, fv 24, 4⟩]

theorem ins (w : World) (es : Array MapEntry) (c : Nat) (k : Int) (v : Value) (h : Instr.findNow (.int .i64) (.int .i64 k) es.toList 0 = some none) :
    (Instr.mapUpdate 40 (.map (some w.heap.size)) (.int .i64 k) v).run Tryd.prog (w.alloc (.map es c)) = .ok () (w.alloc (.map (es.push ⟨.int .i64 k, v, c⟩) (c + 1))) := by
  have hb := (MapKept.heap_alloc w (.map es c)).1
  have e : (w.alloc (.map es c)).heap.setIfInBounds w.heap.size (.map (es.push ⟨.int .i64 k, v, c⟩) (c + 1)) = w.heap.push (.map (es.push ⟨.int .i64 k, v, c⟩) (c + 1)) := by
    show (w.heap.push _).setIfInBounds _ _ = _
    apply Array.ext_getElem?
    intro i
    rw [Array.getElem?_setIfInBounds, Array.getElem?_push, Array.getElem?_push, Array.size_push]
    split <;> split <;> simp_all <;> omega
  simp [Instr.mapUpdate, run_underlying Tryd.underlying40, MapKept.run_getObj_map hb, MapKept.run_checkKey Tryd.underlying3 (k := .int .i64 k) rfl, MapKept.run_findKey Tryd.underlying3 h, MapKept.run_setObj_map _ hb, Result.andThen, e]
  rfl

set_option maxRecDepth 100000 in
set_option maxHeartbeats 400000 in
theorem deeds_any (w : World) :
    Calls Tryd.prog 11 #[] w fun e w' => e = .returned (.map (some w.heap.size)) ∧ w' = w.alloc (.map ents 5) := by
  have hmm := @run_makeMap Tryd.prog
  have h1 := ins w #[] 0 1 (.func (.func 20) #[] #[]) rfl
  have h2 := ins w (#[].push ⟨.int .i64 1, .func (.func 20) #[] #[], 0⟩) 1 2 (.func (.func 21) #[] #[]) rfl
  have h3 := ins w ((#[].push ⟨.int .i64 1, .func (.func 20) #[] #[], 0⟩).push ⟨.int .i64 2, .func (.func 21) #[] #[], 1⟩) 2 3 (.func (.func 22) #[] #[]) rfl
  have h4 := ins w (((#[].push ⟨.int .i64 1, .func (.func 20) #[] #[], 0⟩).push ⟨.int .i64 2, .func (.func 21) #[] #[], 1⟩).push ⟨.int .i64 3, .func (.func 22) #[] #[], 2⟩) 3 4 (.func (.func 23) #[] #[]) rfl
  have h5 := ins w ((((#[].push ⟨.int .i64 1, .func (.func 20) #[] #[], 0⟩).push ⟨.int .i64 2, .func (.func 21) #[] #[], 1⟩).push ⟨.int .i64 3, .func (.func 22) #[] #[], 2⟩).push ⟨.int .i64 4, .func (.func 23) #[] #[], 3⟩) 4 5 (.func (.func 24) #[] #[]) rfl
  simp at h1 h2 h3 h4 h5
  go_enter Tryd.func11, Tryd.ntmps11
  go_wp2
  go_ret
  exact ⟨rfl, rfl⟩

/-- What is found in that map at a kind. -/
def deedOf (k : Int) : Value := if k = 1 then fv 20 else if k = 2 then fv 21 else if k = 3 then fv 22 else if k = 4 then fv 23 else if k = 5 then fv 24 else .nilFunc

theorem look (w : World) (B : Nat) (hb : w.heap[B]? = some (.map ents 5)) (k : Int) (c : Bool) :
    (Instr.lookup 40 (.map (some B)) (.int .i64 k) c).run Tryd.prog w = .ok (if c then .tuple #[deedOf k, .bool (decide (1 ≤ k ∧ k ≤ 5))] else deedOf k) w := by
  have hz : (zeroValue 53).run Tryd.prog w = .ok .nilFunc w := by kernel_rfl
  have hf : Instr.findNow (.int .i64) (.int .i64 k) ents.toList 0 = some (if k = 1 then some (0, fv 20) else if k = 2 then some (1, fv 21) else if k = 3 then some (2, fv 22) else if k = 4 then some (3, fv 23) else if k = 5 then some (4, fv 24) else none) := by
    by_cases h1 : k = 1
    · subst h1; rfl
    by_cases h2 : k = 2
    · subst h2; rfl
    by_cases h3 : k = 3
    · subst h3; rfl
    by_cases h4 : k = 4
    · subst h4; rfl
    by_cases h5 : k = 5
    · subst h5; rfl
    have e1 : (k == 1) = false := by simpa using h1
    have e2 : (k == 2) = false := by simpa using h2
    have e3 : (k == 3) = false := by simpa using h3
    have e4 : (k == 4) = false := by simpa using h4
    have e5 : (k == 5) = false := by simpa using h5
    simp [ents, Instr.findNow, Instr.sameNow, h1, h2, h3, h4, h5, e1, e2, e3, e4, e5]
  have hl := MapKept.run_findKey (P := Tryd.prog) (w := w) Tryd.underlying3 hf
  simp only [Instr.lookup, Sem.run_bind, run_underlying Tryd.underlying40, MapKept.run_getObj_map hb, MapKept.run_checkKey Tryd.underlying3 (k := .int .i64 k) rfl, hl, Result.andThen, Sem.run_pure]
  by_cases h1 : k = 1
  · subst h1; rfl
  by_cases h2 : k = 2
  · subst h2; rfl
  by_cases h3 : k = 3
  · subst h3; rfl
  by_cases h4 : k = 4
  · subst h4; rfl
  by_cases h5 : k = 5
  · subst h5; rfl
  have : ¬ (1 ≤ k ∧ k ≤ 5) := by omega
  simp [h1, h2, h3, h4, h5, hz, deedOf, this, Result.andThen]
end Go.Proofs.YtpgokeogijpmaabDoor
