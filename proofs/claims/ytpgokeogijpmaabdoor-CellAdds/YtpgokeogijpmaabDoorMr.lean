/-
  How a list of numbers is read.
-/
import Derived.Test.YtpgokeogijpmaabDoorKl
import Derived.ProofKit
import Derived.Deep.Slices
import Derived.OpenShut
namespace Go.Proofs.YtpgokeogijpmaabDoor.Mx
open Go.ChangeShapes Go.WideShapes Go.ChangeAt Go.RowKit

theorem flat_ints (zs : List Int) : zs.flatMap KI.f = zs.map (Value.int .i64) := by
  induction zs with
  | nil => rfl
  | cons z r ih => rw [List.flatMap_cons, ih]; rfl
/-- What the cells of a slice of numbers read as. -/
theorem read_isl {H : Type} {enc : TypeId × Value → H} {W : World} {v : Value} {d : DataW H} {p : List MemPlace} (hf0 : ∃ a l c, v = .slice a l c) (h : DataW.Trod enc Tryd.prog W 0 (fun _ => true) true 22 v d p) : ∃ zs, IsL KI W v zs := by
  obtain ⟨a', l', c', rfl⟩ := hf0
  obtain ⟨fuel, hf⟩ := h
  have hf2 : DataW.trod enc Tryd.prog W 0 (fun _ => true) true fuel 22 [.slice a' l' c'] = some (d, p) := hf
  rcases open_ints Tryd.underlying22 Tryd.underlying3 (by kernel_rfl) hf2 with ⟨hcs, hx⟩ | ⟨ad, l, c, zs, hcs, _, hl, hm, hz, hx, hcell, hwz⟩
  · simp only [List.cons.injEq, and_true] at hcs
    rw [hcs]
    exact ⟨[], isl_nil _⟩
  · simp only [List.cons.injEq, and_true] at hcs
    rw [hcs]
    have hzl : zs.length = c := by simpa using hz
    have e : (zs.take l).length = l := by rw [List.length_take]; omega
    refine ⟨zs.take l, ⟨⟨by rw [flat_ints]; simp [KI], Or.inr ⟨ad, c, by rw [e], fun j u hj => ?_⟩⟩, fits_of hl⟩⟩
    rw [flat_ints, List.getElem?_map] at hj
    by_cases hlt : j < l
    · rw [List.getElem?_take, if_pos hlt, List.getElem?_eq_getElem (by omega)] at hj
      simp only [Option.map_some, Option.some.injEq] at hj
      rw [hcell j (by omega), ← hj]
      simp [List.getElem?_eq_getElem (by omega : j < zs.length)]
    · rw [List.getElem?_take, if_neg hlt] at hj
      cases hj
end Go.Proofs.YtpgokeogijpmaabDoor.Mx
