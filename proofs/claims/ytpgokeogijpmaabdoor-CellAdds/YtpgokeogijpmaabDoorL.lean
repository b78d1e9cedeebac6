/-
  cell.Run where Check finds no fault.
-/
import Derived.Test.YtpgokeogijpmaabDoorK
namespace Go.Proofs.YtpgokeogijpmaabDoor
open Go.RowKit

theorem owns_keep {w w' : World} {base e size n : Nat} {v : Value} {xs : List Value} (h : w.ownsRow base e size v n xs) (hk : ∀ k, base ≤ k → k < w.heap.size → w'.heap[k]? = w.heap[k]?) : w'.ownsRow base e size v n xs := by
  refine ⟨h.1, h.2.imp id ?_⟩
  rintro ⟨g, cap, cur, hv, hg, hh, r⟩
  exact ⟨g, cap, cur, hv, hg, (hk g hg (Array.getElem?_eq_some_iff.1 hh).1).trans hh, r⟩

theorem owns_base {w : World} {base base' e size n : Nat} {v : Value} {xs : List Value} (h : w.ownsRow base e size v n xs) (hb : base' ≤ base) : w.ownsRow base' e size v n xs := by
  refine ⟨h.1, h.2.imp id ?_⟩
  rintro ⟨g, cap, cur, hv, hg, r⟩
  exact ⟨g, cap, cur, hv, Nat.le_trans hb hg, r⟩

/-- What is owned from a number on stays so while two cells of a block below it are written. -/
theorem owns_res {w : World} {base B e size n : Nat} {v x y : Value} {xs : List Value} (h : w.ownsRow base e size v n xs) (hb : B < base) : ((w.setCell ⟨B, 0, none⟩ x).setCell ⟨B, 1, none⟩ y).ownsRow base e size v n xs :=
  owns_keep h fun k hk _ => by rw [Below.heap_setCell _ _ _ _ (by simp; omega), Below.heap_setCell _ _ _ _ (by simp; omega)]

/-- A round of the loop, up to the op's being done. -/
theorem do_step {w2 wr w5 : World} {v9 t : Value} {N2 N3 g q j : Nat} {Z : List Int} {T : List Value} {o : Obj} {x : Int} (hnx : Below N2 w2 wr) (hmem : MemAt wr v9 g Z) (htold : wr.ownsRow N3 3 1 t j T) (hg : N2 ≤ g) (hgN : g < N3) (hN : N3 ≤ wr.heap.size)
    (hq : q < Z.length) (hdo : Below (wr.alloc o).heap.size ((wr.alloc o).setCell ⟨g, 0 + q, none⟩ (.int .i64 x)) w5) :
    Below N2 w2 w5 ∧ MemAt w5 v9 g (Z.set q x) ∧ w5.ownsRow N3 3 1 t j T ∧ N3 ≤ w5.heap.size := by
  have hsz : (wr.alloc o).heap.size = wr.heap.size + 1 := by simp
  have h1 : ∀ k, k < wr.heap.size → k ≠ g → w5.heap[k]? = wr.heap[k]? := fun k hk hne => by
    rw [hdo.block k (by omega), Below.heap_setCell _ _ _ _ (by simpa using hne), Below.heap_alloc _ _ _ hk]
  have hs5 : wr.heap.size + 1 ≤ w5.heap.size := by have := hdo.size; simp [World.setCell] at this; omega
  refine ⟨?_, ?_, owns_keep htold fun k hk hlt => h1 k hlt (by omega), by omega⟩
  · refine hnx.trans ⟨?_, ?_, ?_, by omega, fun k hk => h1 k (by omega) (by omega)⟩
    · exact hdo.os
    · exact hdo.tape
    · exact hdo.output
  · have hm1 : MemAt (wr.alloc o) v9 g Z := hmem.keep (Below.heap_alloc _ _ _ (by omega))
    exact (hm1.set hq x).keep (hdo.block g (by omega))

/-- A round of the loop, behind the append of what the op tells. -/
theorem app_step {w2 w5 w6 : World} {v9 t : Value} {N2 N3 g j : Nat} {Z : List Int} {T : List Value} {o : Obj} (hnx : Below N2 w2 w5) (hmem : MemAt w5 v9 g Z) (htold : w5.ownsRow N3 3 1 t j T) (hg : N2 ≤ g) (hgN : g < N3) (hN : N3 ≤ w5.heap.size)
    (hgr : (w5.alloc o).grownBy w6 t.ownBlock) : Below N2 w2 w6 ∧ MemAt w6 v9 g Z ∧ N3 ≤ w6.heap.size := by
  have hsz : (w5.alloc o).heap.size = w5.heap.size + 1 := by simp
  have h1 : ∀ k, k < N3 → w6.heap[k]? = w5.heap[k]? := fun k hk => by
    rw [hgr.block k (by omega) (fun e => by have := (htold.lt k e.symm).1; omega), Below.heap_alloc _ _ _ (by omega)]
  refine ⟨hnx.trans ⟨hgr.os, hgr.tape, hgr.output, by have := hgr.size; omega, fun k hk => h1 k (by omega)⟩, hmem.keep (h1 g hgN), by have := hgr.size; omega⟩

theorem faultFrom_zero {W : Nat → Int} : ∀ (n i : Nat), (faultFrom W n i).1 = 0 → ∀ j, i ≤ j → j < i + n → W j = 0
  | 0, i, _, j, h1, h2 => by omega
  | n + 1, i, h, j, h1, h2 => by
    rw [faultFrom] at h
    by_cases hi : W i = 0
    · rw [if_pos hi] at h
      by_cases e : j = i
      · rw [e]; exact hi
      · exact faultFrom_zero n (i + 1) h j (by omega) (by omega)
    · rw [if_neg hi] at h
      exact absurd h hi

theorem fault_none {m : Nat} {os : List Op4} (h : (fault m os).1 = 0) : m ≤ 32 ∧ os.length ≤ 5000 ∧ ∀ j, j < os.length → wAt m os j = 0 := by
  unfold fault faultOf at h
  by_cases c : 32 < m ∨ 5000 < os.length
  · rw [if_pos c] at h; simp at h
  · rw [if_neg c] at h
    exact ⟨by omega, by omega, fun j hj => faultFrom_zero _ 0 h j (Nat.zero_le _) (by omega)⟩

theorem wrong_none {m k p a b : Int} (h : wrongOf m k p a b = 0) : (1 ≤ k ∧ k ≤ 5) ∧ 0 ≤ p ∧ p < m := by
  unfold wrongOf at h
  split at h
  · split at h
    · simp at h
    · split at h
      · simp at h
      · omega
  · simp at h

theorem fault_pair {m : Nat} {os : List Op4} (h : (fault m os).1 = 0) : fault m os = (0, 0) := by
  have hz := fault_none h
  unfold fault faultOf
  rw [if_neg (by omega)]
  have : ∀ n i, i + n ≤ os.length → faultFrom (wAt m os) n i = (0, 0) := by
    intro n
    induction n with
    | zero => intro i _; rfl
    | succ n ih => intro i hi; rw [faultFrom, if_pos (hz.2.2 i (by omega))]; exact ih (i + 1) (by omega)
  exact this _ 0 (by omega)

/-- What holds of the world behind cell.deeds. -/
theorem second {w w1 w2 : World} {o : Obj} (h1 : Below (w.heap.size + 1) (w.alloc (.cells #[.int .i64 0, .int .i64 0] 31)) w1) (h2 : w2 = (w1.alloc o).alloc (.map ents 5)) (hs : w.heap.size + 1 ≤ w1.heap.size) :
    Below w.heap.size w w2 ∧ w2.heap[w1.heap.size + 1]? = some (.map ents 5) ∧ w2.heap.size = w1.heap.size + 2 ∧
    w2.cell? ⟨w.heap.size, 0, none⟩ = some (.int .i64 0) ∧ w2.cell? ⟨w.heap.size, 1, none⟩ = some (.int .i64 0) ∧ w2.frozen? ⟨w.heap.size, 0, none⟩ = false ∧ w2.frozen? ⟨w.heap.size, 1, none⟩ = false := by
  subst h2
  have hb : Below w1.heap.size w1 ((w1.alloc o).alloc (.map ents 5)) := ((Below.refl _ _).alloc (Nat.le_refl _) o).alloc (by simp) _
  obtain ⟨r0, r1, r2, r3⟩ := res_one h1
  refine ⟨(below_one h1).trans (hb.mono (by omega)), ?_, by simp, ?_, ?_, ?_, ?_⟩
  · have := (MapKept.heap_alloc (w1.alloc o) (.map ents 5)).1
    simpa using this
  · exact (hb.cell (p := ⟨w.heap.size, 0, none⟩) (by simp; omega)).trans r0
  · exact (hb.cell (p := ⟨w.heap.size, 1, none⟩) (by simp; omega)).trans r1
  · exact (hb.frozen (p := ⟨w.heap.size, 0, none⟩) (by simp; omega)).trans r2
  · exact (hb.frozen (p := ⟨w.heap.size, 1, none⟩) (by simp; omega)).trans r3

end Go.Proofs.YtpgokeogijpmaabDoor
