/-
  The table of arguments, out of what is laid.
-/
import Derived.Test.YtgeinjldjpaleaaDoorRead
import Derived.Test.YtgeinjldjpaleaaDoorDb
namespace Go.Proofs.YtgeinjldjpaleaaDoor
open Go.ChangeShapes Go.WideShapes Go.ChangeAt Go.RowKit

set_option maxRecDepth 100000 in
theorem args_of {W : World} {rest : List (String × DataW Unit)} (h : laidMet Tryd.prog (("taskmill/taskmillref.Args", Rows.laid_taskmill_taskmillref_Args) :: rest) W) : ArgsAt W := by
  obtain ⟨ps, ⟨g, t, cs, fuel, p, q, hg, ht, hvar, hd, _, _⟩, _⟩ := h
  obtain rfl := Option.some.inj ((show Tryd.prog.globalNamed "taskmill/taskmillref.Args" = some 0 by kernel_rfl).symm.trans hg)
  obtain rfl := Option.some.inj ((show (Tryd.prog.globals[0]?).map (·.type) = some 47 by kernel_rfl).symm.trans ht)
  have c9 : Tryd.prog.cellsOf 9 = 1 := by kernel_rfl
  rcases DataW.trod_slice Tryd.underlying47 hd with ⟨hcs, hx⟩ | ⟨ad, l, c, elems, rest', m, _, hcs, hx, _, hl, hm, hlen, hel, hrest, _⟩
  · have := congrArg Prod.fst hx
    simp [Rows.laid_taskmill_taskmillref_Args] at this
  have hx1 := congrArg Prod.fst hx
  simp only [Rows.laid_taskmill_taskmillref_Args, DataW.slice.injEq] at hx1
  obtain ⟨hx2, hx3⟩ := hx1
  have hl23 : l = 23 := by
    have := congrArg List.length hx2
    simp at this
    omega
  have hr0 : rest'.length = 0 := by
    have := congrArg List.length hx3
    simp at this
    simp [this]
  have hc23 : c = 23 := by have := (hrest rfl).1; omega
  subst hl23 hc23
  have hag : ∀ i, i < 23 → (elems.map (·.1))[i]? = some (.lit (.string (ag i).data.toList)) := by
    intro i hi
    rw [← hx2]
    have h9 : i = 0 ∨ i = 1 ∨ i = 2 ∨ i = 3 ∨ i = 4 ∨ i = 5 ∨ i = 6 ∨ i = 7 ∨ i = 8 ∨ i = 9 ∨ i = 10 ∨ i = 11 ∨ i = 12 ∨ i = 13 ∨ i = 14 ∨ i = 15 ∨ i = 16 ∨ i = 17 ∨ i = 18 ∨ i = 19 ∨ i = 20 ∨ i = 21 ∨ i = 22 := by omega
    rcases h9 with rfl | rfl | rfl | rfl | rfl | rfl | rfl | rfl | rfl | rfl | rfl | rfl | rfl | rfl | rfl | rfl | rfl | rfl | rfl | rfl | rfl | rfl | rfl
    all_goals rfl
  have each : ∀ i, i < 23 → W.cell? ((ad.add (i * 1)).add 0) = some (.string (ag i)) := by
    intro i hi
    have h1 := hel i hi
    rw [c9, List.getElem?_eq_getElem (by omega)] at h1
    obtain ⟨cs', h2, h3⟩ := Option.bind_eq_some_iff.1 h1
    obtain ⟨_, hl2, hcell⟩ := World.cells?_some h2
    obtain ⟨s, e0, e1, _⟩ := DataW.trod_string Tryd.underlying9 h3
    have h4 := hag i hi
    rw [List.getElem?_map, List.getElem?_eq_getElem (by omega), Option.map_some, e1] at h4
    simp only [Option.some.injEq, DataW.lit.injEq, Lit.string.injEq] at h4
    have hs : s = ag i := by
      have : s.data = (ag i).data := Array.toList_inj.1 h4
      cases s
      cases hq : ag i
      rw [hq] at this
      simp at this
      rw [this]
    have h5 := hcell 0 (by decide)
    rw [e0] at h5
    rw [h5, ← hs]
    rfl
  obtain ⟨b, o, spot⟩ := ad
  have s0 := each 0 (by decide)
  have hspot : spot = none := by simpa [Addr.add] using World.cell?_spot s0
  subst hspot
  have hb : b < W.heap.size := World.block_lt_of_cell? W _ s0
  have hcv := World.var?_cell hg hvar 0
  have e1 := congrArg (·[0]?) hcs
  simp at e1
  rw [e1] at hcv
  refine ⟨b, o, hb, World.block_lt_of_cell? W _ hcv, hcv, fun j hj => ?_⟩
  have := each j hj
  rw [add_plain, add_plain] at this
  simpa using this

end Go.Proofs.YtgeinjldjpaleaaDoor
