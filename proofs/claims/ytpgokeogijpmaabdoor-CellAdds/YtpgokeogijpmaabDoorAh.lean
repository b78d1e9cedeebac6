/-
  How rows of numbers are read: a slice of slices of numbers.
-/
import Derived.Test.YtpgokeogijpmaabDoorMr
import Derived.Test.YtpgokeogijpmaabDoorAb
import Derived.Test.YtpgokeogijpmaabDoorRead
namespace Go.Proofs.YtpgokeogijpmaabDoor.Mx
open Go.ChangeShapes Go.WideShapes Go.ChangeAt Go.RowKit

theorem flat_slt (us : List Sl) : us.flatMap KT.f = us.map sl := by
  induction us with
  | nil => rfl
  | cons z r ih => rw [List.flatMap_cons, ih]; rfl
/-- What the cells of a slice of tasks read as. -/
theorem read_as {H : Type} {enc : TypeId × Value → H} {W : World} {v : Value} {d : DataW H} {p : List MemPlace} (hf0 : ∃ a l c, v = .slice a l c) (h : DataW.Trod enc Tryd.prog W 0 (fun _ => true) true 23 v d p) : ∃ us ass, IsAs W v us ass := by
  obtain ⟨a0, len, cap, rfl⟩ := hf0
  obtain ⟨fuel, hf⟩ := h
  have c23 : Tryd.prog.cellsOf 27 = 1 := by kernel_rfl
  rcases Go.Deep.open_slice1 Tryd.underlying23 c23 hf with ⟨hcs, _⟩ | ⟨x, l, c, m, n, V, D, Pl, hcs, _, hl, _, hmm, _, hel⟩
  · simp [Value.cells] at hcs
    obtain ⟨rfl, rfl, rfl⟩ := hcs
    exact ⟨[], [], isl_nil _, rfl, fun i hi => absurd hi (Nat.not_lt_zero _)⟩
  · simp [Value.cells] at hcs
    obtain ⟨rfl, rfl, rfl⟩ := hcs
    have hmc : m = cap := by simpa using hmm
    have each : ∀ i, i < len → ∃ q : Sl × List Int, W.cell? (x.add i) = some (sl q.1) ∧ IsL KI W (sl q.1) q.2 := by
      intro i hi
      obtain ⟨h1, h2⟩ := hel i (by omega)
      have hfm : ∃ a l c, V i = .slice a l c := by
        rcases Go.Deep.open_slice Tryd.underlying22 h2 with ⟨hc, _⟩ | ⟨x', l', c', _, _, _, _, hc, _⟩
        · exact ⟨none, 0, 0, by simpa using hc⟩
        · exact ⟨some x', l', c', by simpa using hc⟩
      obtain ⟨a1, l1, c1, e1⟩ := hfm
      rw [e1] at h1 h2
      obtain ⟨os, ho⟩ := read_isl (v := .slice a1 l1 c1) ⟨a1, l1, c1, rfl⟩ ⟨n, h2⟩
      exact ⟨((a1, l1, c1), os), h1, ho⟩
    obtain ⟨q, hq⟩ := @Go.Deep.choose_lt (Sl × List Int) ⟨((none, 0, 0), [])⟩ _ _ each
    have e : ((List.range len).map fun i => (q i).1).length = len := by simp
    refine ⟨(List.range len).map fun i => (q i).1, (List.range len).map fun i => (q i).2, ⟨⟨by rw [flat_slt]; simp [KT], Or.inr ⟨x, cap, by rw [e], fun j u hj => ?_⟩⟩, fits_of hl⟩, by simp, fun i hi => ?_⟩
    · rw [flat_slt, List.getElem?_map, List.getElem?_map] at hj
      by_cases hlt : j < len
      · rw [List.getElem?_range hlt] at hj
        simp only [Option.map_some, Option.some.injEq] at hj
        rw [← hj]
        exact (hq j hlt).1
      · rw [List.getElem?_eq_none (by simp; omega)] at hj
        cases hj
    · have hi' : i < len := by simpa using hi
      have := (hq i hi').2
      simpa [uAt, hi'] using this
end Go.Proofs.YtpgokeogijpmaabDoor.Mx
