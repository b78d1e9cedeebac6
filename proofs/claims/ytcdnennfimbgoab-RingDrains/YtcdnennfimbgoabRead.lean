/-
  How the arguments are read: a ring, a slice of numbers.
-/
import Derived.Test.YtcdnennfimbgoabE
import Derived.ProofKit
import Derived.Deep.Slices
import Derived.OpenShut
namespace Go.Proofs.Ytcdnennfimbgoab
open Go.ChangeShapes Go.WideShapes Go.ChangeAt Go.RowKit

theorem list2 {α : Type} : ∀ {l : List α}, l.length = 2 → ∃ a b, l = [a, b]
  | [a, b], _ => ⟨a, b, rfl⟩

/-- What the cells of a slice of numbers read as. -/
theorem read_cells {H : Type} {enc : TypeId × Value → H} {W : World} {fuel : Nat} {v : Value} {x : DataW H × List MemPlace} (hf : DataW.trod enc Try.prog W 0 (fun _ => true) true fuel 23 [v] = some x) : ∃ zs, IsInts W v zs ∧ Fits v ∧ zs.length ≤ maxLen := by
  rcases open_ints Try.underlying23 Try.underlying3 (by kernel_rfl) hf with ⟨hcs, hx⟩ | ⟨ad, l, c, zs, hcs, _, hl, hm, hz, hx, hcell, hwz⟩
  · simp only [List.cons.injEq, and_true] at hcs
    subst hcs
    exact ⟨[], ⟨rfl, Or.inl ⟨rfl, rfl⟩⟩, fun a n c e => by cases e; omega, Nat.zero_le _⟩
  · simp only [List.cons.injEq, and_true] at hcs
    subst hcs
    have hzl : zs.length = c := by simpa using hz
    have e : (zs.take l).length = l := by rw [List.length_take]; omega
    refine ⟨zs.take l, ⟨by simp, Or.inr ⟨ad, c, by rw [e], fun j u hj => ?_⟩⟩, fun a n c' e => by cases e; exact hl, by omega⟩
    rw [List.getElem?_map] at hj
    by_cases hlt : j < l
    · rw [List.getElem?_take, if_pos hlt, List.getElem?_eq_getElem (by omega)] at hj
      simp only [Option.map_some, Option.some.injEq] at hj
      rw [hcell j (by omega), ← hj]
      simp [List.getElem?_eq_getElem (by omega : j < zs.length)]
    · rw [List.getElem?_take, if_neg hlt] at hj
      cases hj

theorem read_ring {H : Type} {enc : TypeId × Value → H} {W : World} {base : Nat} {v : Value} {d : DataW H} {p : List MemPlace} (hv : Value.okWide Try.prog W .any base 25 v) (h : DataW.Trod enc Try.prog W 0 (fun _ => true) true 25 v d p) :
    ∃ nx l zs, v = .agg #[.int .i64 nx, l] ∧ IsInts W l zs ∧ Fits l ∧ zs.length ≤ maxLen := by
  obtain ⟨cs, rfl, hcs⟩ := okWide_struct Try.underlying25 hv
  obtain ⟨fuel, hf⟩ := h
  have c3 : Try.prog.cellsOf 3 = 1 := by kernel_rfl
  have c22 : Try.prog.cellsOf 23 = 1 := by kernel_rfl
  have c24 : Try.prog.cellsOf 25 = 2 := by kernel_rfl
  obtain ⟨y0, y1, n, hx, hlen, h0, h1⟩ := trod_struct2 Try.underlying25 hf
  have e : (Value.agg cs).cells.toList = cs.toList := rfl
  rw [e] at h0 h1
  obtain ⟨u, v, huv⟩ := list2 (l := cs.toList) (by rw [Array.length_toList, hcs, c24])
  rw [huv] at h0 h1
  simp only [c3, c22] at h0 h1
  obtain ⟨z, hz, _, _⟩ := DataW.trod_int Try.underlying3 h0
  simp at hz
  obtain ⟨zs, hi, hfit, hm⟩ := read_cells h1
  refine ⟨z, v, zs, ?_, hi, hfit, hm⟩
  have : cs = #[u, v] := by
    apply Array.toList_inj.1
    rw [huv]
  rw [this, hz]
end Go.Proofs.Ytcdnennfimbgoab
