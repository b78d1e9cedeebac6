/-
  How the arguments are read: programs and registers; what the tables hold.
-/
import Derived.Test.YtgeinjldjpaleaaDoorRows
import Derived.Test.YtgeinjldjpaleaaDoorH
import Derived.ProofKit
import Derived.Deep.Slices
import Derived.OpenShut
import Derived.MakeChecks
import Derived.Stop.LaidErr
import Derived.Lib.LaidTab
namespace Go.Proofs.YtgeinjldjpaleaaDoor
open Go.ChangeShapes Go.WideShapes Go.ChangeAt Go.RowKit

theorem list3 {α : Type} : ∀ {l : List α}, l.length = 3 → ∃ a b c, l = [a, b, c]
  | [a, b, c], _ => ⟨a, b, c, rfl⟩
theorem list5 {α : Type} : ∀ {l : List α}, l.length = 5 → ∃ a b c d e, l = [a, b, c, d, e]
  | [a, b, c, d, e], _ => ⟨a, b, c, d, e, rfl⟩
theorem list8 {α : Type} : ∀ {l : List α}, l.length = 8 → ∃ a b c d e f g h, l = [a, b, c, d, e, f, g, h]
  | [a, b, c, d, e, f, g, h], _ => ⟨a, b, c, d, e, f, g, h, rfl⟩
theorem flat_ints (zs : List Int) : zs.flatMap KI.f = zs.map (Value.int .i64) := by
  induction zs with
  | nil => rfl
  | cons z r ih => rw [List.flatMap_cons, ih]; rfl

/-- What the cells of a slice of numbers read as, and how many they are. -/
theorem read_ints {H : Type} {enc : TypeId × Value → H} {W : World} {fuel : Nat} {v : Value} {x : DataW H × List MemPlace} (hf : DataW.trod enc Tryd.prog W 0 (fun _ => true) true fuel 23 [v] = some x) (hw : ∀ n ∈ x.1.weights Tryd.prog 23, n ≤ reachBytes) : ∃ zs, IsL KI W v zs ∧ zs.length * 8 ≤ 140737488355328 := by
  have b3 : Tryd.prog.bytesOf 3 = 8 := by kernel_rfl
  rcases open_ints Tryd.underlying23 Tryd.underlying3 (by kernel_rfl) hf with ⟨hcs, hx⟩ | ⟨ad, l, c, zs, hcs, _, hl, hm, hz, hx, hcell, hwz⟩
  · simp only [List.cons.injEq, and_true] at hcs
    subst hcs
    exact ⟨[], isl_nil _, Nat.zero_le _⟩
  · simp only [List.cons.injEq, and_true] at hcs
    subst hcs
    have hzl : zs.length = c := by simpa using hz
    have e : (zs.take l).length = l := by rw [List.length_take]; omega
    have h1 := hw ((zs.take l).length * 8 + (zs.drop l).length * 8) (by
      rw [hx]
      simp only [DataW.weights, Tryd.underlying23]
      refine List.mem_cons.2 (Or.inl ?_)
      simp [lits, b3]
      omega)
    unfold reachBytes at h1
    refine ⟨zs.take l, ⟨⟨by rw [flat_ints]; simp [KI], Or.inr ⟨ad, c, by rw [e], fun j u hj => ?_⟩⟩, fits_of hl⟩, by omega⟩
    rw [flat_ints, List.getElem?_map] at hj
    by_cases hlt : j < l
    · rw [List.getElem?_take, if_pos hlt, List.getElem?_eq_getElem (by omega)] at hj
      simp only [Option.map_some, Option.some.injEq] at hj
      rw [hcell j (by omega), ← hj]
      simp [List.getElem?_eq_getElem (by omega : j < zs.length)]
    · rw [List.getElem?_take, if_neg hlt] at hj
      cases hj

theorem Tryd.struct38 : ∃ f0 f1 f2, Tryd.prog.underlying 38 = some (.struct #[f0, f1, f2]) ∧ f0.offset = 0 ∧ f1.offset = 1 ∧ f2.offset = 2 ∧ f0.type = 3 ∧ f1.type = 3 ∧ f2.type = 3 :=
  ⟨_, _, _, Tryd.underlying38, rfl, rfl, rfl, rfl, rfl, rfl⟩

set_option maxRecDepth 100000 in
/-- What the cells of a slice of posts read as, and how many they are. -/
theorem read_code {H : Type} {enc : TypeId × Value → H} {W : World} {fuel : Nat} {v : Value} {x : DataW H × List MemPlace} (hf : DataW.trod enc Tryd.prog W 0 (fun _ => true) true fuel 22 [v] = some x) (hw : ∀ n ∈ x.1.weights Tryd.prog 22, n ≤ reachBytes) : ∃ ps, IsL KC W v ps ∧ ps.length * 24 ≤ 140737488355328 := by
  have ce : Tryd.prog.cellsOf 38 = 3 := by kernel_rfl
  have be : Tryd.prog.bytesOf 38 = 24 := by kernel_rfl
  have c3 : Tryd.prog.cellsOf 3 = 1 := by kernel_rfl
  obtain ⟨f0, f1, f2, hst, o0, o1, o2, t0, t1, t2⟩ := Tryd.struct38
  rcases DataW.trod_slice Tryd.underlying22 hf with ⟨hcs, hx⟩ | ⟨ad, l, c, elems, rest, m, _, hcs, hx, _, hl, hm, hlen, hel, hrest, _⟩
  · simp only [List.cons.injEq, and_true] at hcs
    subst hcs
    exact ⟨[], isl_nil _, Nat.zero_le _⟩
  · simp only [List.cons.injEq, and_true] at hcs
    subst hcs
    have each : ∀ i, i < l → ∃ q : In, ∀ j, j < 3 → W.cell? (ad.add (i * 3 + j)) = (KC.f q)[j]? := by
      intro i hi
      have h1 := hel i hi
      rw [ce, List.getElem?_eq_getElem (by omega)] at h1
      obtain ⟨cs', h2, h3⟩ := Option.bind_eq_some_iff.1 h1
      obtain ⟨_, hl2, hcell⟩ := World.cells?_some h2
      obtain ⟨xs, k, hk, hxy, _, hxl, hfl⟩ := DataW.trod_struct hst h3
      obtain ⟨v0, v1, v2, rfl⟩ := list3 hl2
      obtain ⟨y0, y1, y2, rfl⟩ := list3 hxl
      have g0 := hfl 0 f0 rfl
      have g1 := hfl 1 f1 rfl
      have g2 := hfl 2 f2 rfl
      simp [o0, o1, o2, t0, t1, t2, c3] at g0 g1 g2
      obtain ⟨z0, e0, _, _⟩ := DataW.trod_int Tryd.underlying3 g0
      obtain ⟨z1, e1, _, _⟩ := DataW.trod_int Tryd.underlying3 g1
      obtain ⟨z2, e2, _, _⟩ := DataW.trod_int Tryd.underlying3 g2
      simp only [List.cons.injEq, and_true] at e0 e1 e2
      subst e0 e1 e2
      refine ⟨(z0, z1, z2), fun j hj => ?_⟩
      rw [← Go.Deep.add_add]
      exact hcell j hj
    obtain ⟨q, hq⟩ := @Go.Deep.choose_lt In ⟨(0, 0, 0)⟩ _ _ each
    have e : ((List.range l).map q).length = l := by simp
    have h1 := hw (elems.length * 24 + rest.length * 24) (by
      rw [hx]
      simp only [DataW.weights, Tryd.underlying22]
      refine List.mem_cons.2 (Or.inl ?_)
      simp [be]
      omega)
    unfold reachBytes at h1
    refine ⟨(List.range l).map q, ⟨⟨flat_length kc _, Or.inr ⟨ad, c, by rw [e], fun j u hj => ?_⟩⟩, fits_of hl⟩, by rw [e]; omega⟩
    have hj2 : j < l * 3 := by
      have := (List.getElem?_eq_some_iff.1 hj).1
      rw [flat_length kc, e] at this
      exact this
    have hdj : j / 3 < l := by omega
    have hmj : j % 3 < 3 := by omega
    have ej : j / 3 * 3 + j % 3 = j := by omega
    have g := flat_get kc ((List.range l).map q) (j / 3) (j % 3) (by omega) hmj
    have g' : (((List.range l).map q).flatMap KC.f)[j]? = (KC.f (q (j / 3)))[j % 3]? := by
      have e1 : j / 3 * KC.k + j % 3 = j := ej
      rw [e1] at g
      rw [g]
      congr 2
      simp [hdj]
    rw [hj] at g'
    have := hq (j / 3) hdj (j % 3) hmj
    rw [ej] at this
    rw [this, ← g']


theorem Tryd.struct25 : ∃ f0 f1 f2 f3 f4, Tryd.prog.underlying 25 = some (.struct #[f0, f1, f2, f3, f4]) ∧ f0.offset = 0 ∧ f1.offset = 1 ∧ f2.offset = 2 ∧ f3.offset = 3 ∧ f4.offset = 4 ∧ f0.type = 22 ∧ f1.type = 3 ∧ f2.type = 23 ∧ f3.type = 3 ∧ f4.type = 3 :=
  ⟨_, _, _, _, _, Tryd.underlying25, rfl, rfl, rfl, rfl, rfl, rfl, rfl, rfl, rfl, rfl⟩
set_option maxRecDepth 100000 in
theorem read_program {H : Type} {enc : TypeId × Value → H} {W : World} {base : Nat} {v : Value} {d : DataW H} {p : List MemPlace} (hv : Value.okWide Tryd.prog W .any base 25 v) (h : DataW.Trod enc Tryd.prog W 0 (fun _ => true) true 25 v d p) (hw : ∀ n ∈ d.weights Tryd.prog 25, n ≤ reachBytes) :
    ∃ g : Pg, IsP W v g ∧ g.code.length * 24 ≤ 140737488355328 ∧ g.pipes.length * 8 ≤ 140737488355328 := by
  obtain ⟨cs, rfl, hcs⟩ := okWide_struct Tryd.underlying25 hv
  obtain ⟨fuel, hf⟩ := h
  have c3 : Tryd.prog.cellsOf 3 = 1 := by kernel_rfl
  have c22 : Tryd.prog.cellsOf 22 = 1 := by kernel_rfl
  have c23 : Tryd.prog.cellsOf 23 = 1 := by kernel_rfl
  have c25 : Tryd.prog.cellsOf 25 = 5 := by kernel_rfl
  obtain ⟨f0, f1, f2, f3, f4, hst, o0, o1, o2, o3, o4, t0, t1, t2, t3, t4⟩ := Tryd.struct25
  obtain ⟨xs, k, hk, hxy, _, hxl, hfl⟩ := DataW.trod_struct hst hf
  have e : (Value.agg cs).cells.toList = cs.toList := rfl
  rw [e] at hfl
  obtain ⟨v0, v1, v2, v3, v4, hcv⟩ := list5 (l := cs.toList) (by rw [Array.length_toList, hcs, c25])
  rw [hcv] at hfl
  obtain ⟨y0, y1, y2, y3, y4, rfl⟩ := list5 hxl
  have g0 := hfl 0 f0 rfl
  have g1 := hfl 1 f1 rfl
  have g2 := hfl 2 f2 rfl
  have g3 := hfl 3 f3 rfl
  have g4 := hfl 4 f4 rfl
  simp [o0, o1, o2, o3, o4, t0, t1, t2, t3, t4, c3, c22, c23] at g0 g1 g2 g3 g4
  obtain ⟨z1, e1, _, _⟩ := DataW.trod_int Tryd.underlying3 g1
  obtain ⟨z3, e3, _, _⟩ := DataW.trod_int Tryd.underlying3 g3
  obtain ⟨z4, e4, _, _⟩ := DataW.trod_int Tryd.underlying3 g4
  simp only [List.cons.injEq, and_true] at e1 e3 e4
  have hd : d = .agg [y0.1, y1.1, y2.1, y3.1, y4.1] := congrArg Prod.fst hxy
  obtain ⟨ps, hp, mp⟩ := read_code g0 (fun n hn => hw n (by
    rw [hd]
    simp only [DataW.weights, hst, DataW.weightsEach, List.map_cons, List.map_nil, List.mem_append, t0, t1, t2, t3, t4]
    exact Or.inl hn))
  obtain ⟨zs, hz, mz⟩ := read_ints g2 (fun n hn => hw n (by
    rw [hd]
    simp only [DataW.weights, hst, DataW.weightsEach, List.map_cons, List.map_nil, List.mem_append, t0, t1, t2, t3, t4]
    exact Or.inr (Or.inr (Or.inl hn))))
  have hcs2 : cs = #[v0, v1, v2, v3, v4] := by
    apply Array.toList_inj.1
    rw [hcv]
  refine ⟨⟨ps, z1, zs, z3, z4⟩, ⟨v0, v2, ?_, hp, hz⟩, mp, mz⟩
  rw [hcs2, e1, e3, e4]

set_option maxRecDepth 100000 in
theorem okWide_array' {W : World} {base : Nat} {v : Value} (hv : Value.okWide Tryd.prog W .any base 26 v) : ∃ cs, v = .agg cs ∧ cs.size = Tryd.prog.cellsOf 26 := by
  simp only [Value.okWide, Tryd.underlying26] at hv
  obtain ⟨cs, h1, h2, _⟩ := hv
  exact ⟨cs, h1, h2⟩
set_option maxRecDepth 100000 in
theorem read_regs {H : Type} {enc : TypeId × Value → H} {W : World} {base : Nat} {v : Value} {d : DataW H} {p : List MemPlace} (hv : Value.okWide Tryd.prog W .any base 26 v) (h : DataW.Trod enc Tryd.prog W 0 (fun _ => true) true 26 v d p) : ∃ r : Nat → Int, v = rv r := by
  obtain ⟨cs, rfl, hcs⟩ := okWide_array' hv
  obtain ⟨fuel, hf⟩ := h
  have c3 : Tryd.prog.cellsOf 3 = 1 := by kernel_rfl
  have c26 : Tryd.prog.cellsOf 26 = 8 := by kernel_rfl
  obtain ⟨xs, k, hk, hxy, _, hxl, hfl⟩ := DataW.trod_array Tryd.underlying26 hf
  have e : (Value.agg cs).cells.toList = cs.toList := rfl
  rw [e] at hfl
  obtain ⟨v0, v1, v2, v3, v4, v5, v6, v7, hcv⟩ := list8 (l := cs.toList) (by rw [Array.length_toList, hcs, c26])
  rw [hcv] at hfl
  have each : ∀ i, i < 8 → ∃ z, ([v0, v1, v2, v3, v4, v5, v6, v7])[i]? = some (Value.int .i64 z) := by
    intro i hi
    have g := hfl i hi
    rw [c3, List.getElem?_eq_getElem (by omega)] at g
    obtain ⟨z, e0, _, _⟩ := DataW.trod_int Tryd.underlying3 g
    refine ⟨z, ?_⟩
    have := congrArg (·[0]?) e0
    simpa [List.getElem?_take, List.getElem?_drop] using this
  obtain ⟨r, hr⟩ := @Go.Deep.choose_lt Int ⟨0⟩ _ _ each
  have hcs2 : cs = #[v0, v1, v2, v3, v4, v5, v6, v7] := by
    apply Array.toList_inj.1
    rw [hcv]
  refine ⟨r, ?_⟩
  have r0 := hr 0 (by decide); have r1 := hr 1 (by decide); have r2 := hr 2 (by decide); have r3 := hr 3 (by decide); have r4 := hr 4 (by decide); have r5 := hr 5 (by decide); have r6 := hr 6 (by decide); have r7 := hr 7 (by decide)
  simp at r0 r1 r2 r3 r4 r5 r6 r7
  rw [hcs2, r0, r1, r2, r3, r4, r5, r6, r7]
  rfl

set_option maxRecDepth 100000 in
/-- What is laid of the letters. -/
theorem letters_of {W : World} {rest : List (String × DataW Unit)} (h : laidMet Tryd.prog (("taskmill/code.letters", Rows.laid_taskmill_code_letters) :: rest) W) : ∀ i, i < 9 → W.cell? ⟨3, i, none⟩ = some (.string (lt i)) := by
  obtain ⟨ps, ⟨g, t, cs, fuel, p, q, hg, ht, hvar, hd, _, _⟩, _⟩ := h
  obtain rfl := Option.some.inj ((show Tryd.prog.globalNamed "taskmill/code.letters" = some 3 by kernel_rfl).symm.trans hg)
  obtain rfl := Option.some.inj ((show (Tryd.prog.globals[3]?).map (·.type) = some 96 by kernel_rfl).symm.trans ht)
  have c9 : Tryd.prog.cellsOf 9 = 1 := by kernel_rfl
  obtain ⟨xs, k, hk, hxy, _, hxl, hfl⟩ := DataW.trod_array Tryd.underlying96 hd
  have hx := congrArg Prod.fst hxy
  simp only [Rows.laid_taskmill_code_letters, DataW.agg.injEq] at hx
  have hl : ∀ i, i < 9 → (xs.map (·.1))[i]? = some (.lit (.string (ltL.getD i []))) := by
    intro i hi
    rw [← hx]
    have h9 : i = 0 ∨ i = 1 ∨ i = 2 ∨ i = 3 ∨ i = 4 ∨ i = 5 ∨ i = 6 ∨ i = 7 ∨ i = 8 := by omega
    rcases h9 with rfl | rfl | rfl | rfl | rfl | rfl | rfl | rfl | rfl
    all_goals rfl
  intro i hi
  have g := hfl i hi
  rw [c9, List.getElem?_eq_getElem (by omega)] at g
  obtain ⟨s, e0, e1, _⟩ := DataW.trod_string Tryd.underlying9 g
  have h2 := hl i hi
  rw [List.getElem?_map, List.getElem?_eq_getElem (by omega), Option.map_some, e1] at h2
  simp only [Option.some.injEq, DataW.lit.injEq, Lit.string.injEq] at h2
  have hs : s = lt i := by
    unfold lt
    rw [← h2]
  have h3 := World.var?_cell hg hvar i
  rw [h3]
  have := congrArg (·[0]?) e0
  simp [List.getElem?_drop] at this
  rw [← hs, ← this]
theorem Tryd.struct83 : ∃ f0 f1 f2, Tryd.prog.underlying 83 = some (.struct #[f0, f1, f2]) ∧ f0.offset = 0 ∧ f1.offset = 1 ∧ f2.offset = 2 ∧ f0.type = 9 ∧ f1.type = 81 ∧ f2.type = 81 :=
  ⟨_, _, _, Tryd.underlying83, rfl, rfl, rfl, rfl, rfl, rfl⟩
set_option maxRecDepth 100000 in
theorem rows_of {W : World} {rest : List (String × DataW Unit)} (h : laidMet Tryd.prog (("taskmill/code.rows", Rows.laid_taskmill_code_rows) :: rest) W) : ∀ i, i < 23 → W.cell? ⟨2, i * 3, none⟩ = some (.string (nm i)) ∧ W.cell? ⟨2, i * 3 + 1, none⟩ = some (.int .i64 (ka i)) ∧ W.cell? ⟨2, i * 3 + 2, none⟩ = some (.int .i64 (kb i)) := by
  obtain ⟨ps, ⟨g, t, cs, fuel, p, q, hg, ht, hvar, hd, _, _⟩, _⟩ := h
  obtain rfl := Option.some.inj ((show Tryd.prog.globalNamed "taskmill/code.rows" = some 2 by kernel_rfl).symm.trans hg)
  obtain rfl := Option.some.inj ((show (Tryd.prog.globals[2]?).map (·.type) = some 84 by kernel_rfl).symm.trans ht)
  have c9 : Tryd.prog.cellsOf 9 = 1 := by kernel_rfl
  have c81 : Tryd.prog.cellsOf 81 = 1 := by kernel_rfl
  have c83 : Tryd.prog.cellsOf 83 = 3 := by kernel_rfl
  obtain ⟨f0, f1, f2, hst, o0, o1, o2, t0, t1, t2⟩ := Tryd.struct83
  obtain ⟨xs, k, hk, hxy, hcl, hxl, hfl⟩ := DataW.trod_array Tryd.underlying84 hd
  have hcl2 : cs.toList.length = 69 := by rw [hcl]; kernel_rfl
  have hx := congrArg Prod.fst hxy
  simp only [Rows.laid_taskmill_code_rows, DataW.agg.injEq] at hx
  have hl : ∀ i, i < 23 → (xs.map (·.1))[i]? = some (.agg [.lit (.string (nmL.getD i [])), .lit (.int .i64 (kaL.getD i 0)), .lit (.int .i64 (kbL.getD i 0))]) := by
    intro i hi
    rw [← hx]
    have h9 : i = 0 ∨ i = 1 ∨ i = 2 ∨ i = 3 ∨ i = 4 ∨ i = 5 ∨ i = 6 ∨ i = 7 ∨ i = 8 ∨ i = 9 ∨ i = 10 ∨ i = 11 ∨ i = 12 ∨ i = 13 ∨ i = 14 ∨ i = 15 ∨ i = 16 ∨ i = 17 ∨ i = 18 ∨ i = 19 ∨ i = 20 ∨ i = 21 ∨ i = 22 := by omega
    rcases h9 with rfl | rfl | rfl | rfl | rfl | rfl | rfl | rfl | rfl | rfl | rfl | rfl | rfl | rfl | rfl | rfl | rfl | rfl | rfl | rfl | rfl | rfl | rfl
    all_goals rfl
  intro i hi
  have g := hfl i hi
  rw [c83, List.getElem?_eq_getElem (by omega)] at g
  obtain ⟨ys, k2, hk2, hxy2, hcl3, hyl, hfl2⟩ := DataW.trod_struct hst g
  obtain ⟨y0, y1, y2, rfl⟩ := list3 hyl
  have h2 := hl i hi
  rw [List.getElem?_map, List.getElem?_eq_getElem (by omega), Option.map_some, hxy2] at h2
  simp only [Option.some.injEq, DataW.agg.injEq, List.map_cons, List.map_nil, List.cons.injEq, and_true] at h2
  have g0 := hfl2 0 f0 rfl
  have g1 := hfl2 1 f1 rfl
  have g2 := hfl2 2 f2 rfl
  rw [o0, t0, c9] at g0
  rw [o1, t1, c81] at g1
  rw [o2, t2, c81] at g2
  obtain ⟨s, e0, e0', _⟩ := DataW.trod_string Tryd.underlying9 (show _ = some y0 from g0)
  obtain ⟨z1, e1, e1', _⟩ := DataW.trod_int Tryd.underlying81 (show _ = some y1 from g1)
  obtain ⟨z2, e2, e2', _⟩ := DataW.trod_int Tryd.underlying81 (show _ = some y2 from g2)
  rw [e0', e1', e2'] at h2
  simp only [DataW.lit.injEq, Lit.string.injEq, Lit.int.injEq, true_and] at h2
  obtain ⟨a0, a1, a2⟩ := h2
  have hs : s = nm i := by
    unfold nm
    rw [← a0]
  have v0 := World.var?_cell hg hvar (i * 3)
  have v1 := World.var?_cell hg hvar (i * 3 + 1)
  have v2 := World.var?_cell hg hvar (i * 3 + 2)
  have u0 := congrArg (·[0]?) e0
  have u1 := congrArg (·[0]?) e1
  have u2 := congrArg (·[0]?) e2
  simp [List.getElem?_drop] at u0 u1 u2
  refine ⟨?_, ?_, ?_⟩
  · rw [v0, ← hs, ← u0]
  · rw [v1]; unfold ka; rw [← a1, ← u1]
  · rw [v2]; unfold kb; rw [← a2, ← u2]

end Go.Proofs.YtgeinjldjpaleaaDoor
