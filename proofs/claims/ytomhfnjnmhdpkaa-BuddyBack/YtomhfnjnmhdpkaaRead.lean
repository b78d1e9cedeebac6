/-
  How the arguments are read: numbers, blocks, spaces.
-/
import Derived.Test.YtomhfnjnmhdpkaaQ
import Derived.ProofKit
import Derived.Deep.Slices
import Derived.OpenShut
namespace Go.Proofs.Ytomhfnjnmhdpkaa
open Go.ChangeShapes Go.WideShapes Go.ChangeAt Go.RowKit

theorem list2 {α : Type} : ∀ {l : List α}, l.length = 2 → ∃ a b, l = [a, b]
  | [a, b], _ => ⟨a, b, rfl⟩
theorem list3 {α : Type} : ∀ {l : List α}, l.length = 3 → ∃ a b c, l = [a, b, c]
  | [a, b, c], _ => ⟨a, b, c, rfl⟩

theorem list4 {α : Type} : ∀ {l : List α}, l.length = 4 → ∃ a b c d, l = [a, b, c, d]
  | [a, b, c, d], _ => ⟨a, b, c, d, rfl⟩

theorem flat_ints (zs : List Int) : zs.flatMap KI.f = zs.map (Value.int .i64) := by
  induction zs with
  | nil => rfl
  | cons z r ih => rw [List.flatMap_cons, ih]; rfl

/-- What the cells of a slice of numbers read as, and how many they are. -/
theorem read_ints {H : Type} {enc : TypeId × Value → H} {W : World} {fuel : Nat} {v : Value} {x : DataW H × List MemPlace} (hf : DataW.trod enc Try.prog W 0 (fun _ => true) true fuel 45 [v] = some x) (hw : ∀ n ∈ x.1.weights Try.prog 45, n ≤ reachBytes) : ∃ zs, IsL KI W v zs ∧ zs.length * 8 ≤ 140737488355328 := by
  have b3 : Try.prog.bytesOf 3 = 8 := by kernel_rfl
  rcases open_ints Try.underlying45 Try.underlying3 (by kernel_rfl) hf with ⟨hcs, hx⟩ | ⟨ad, l, c, zs, hcs, _, hl, hm, hz, hx, hcell, hwz⟩
  · simp only [List.cons.injEq, and_true] at hcs
    subst hcs
    exact ⟨[], isl_nil _, Nat.zero_le _⟩
  · simp only [List.cons.injEq, and_true] at hcs
    subst hcs
    have hzl : zs.length = c := by simpa using hz
    have e : (zs.take l).length = l := by rw [List.length_take]; omega
    have h1 := hw ((zs.take l).length * 8 + (zs.drop l).length * 8) (by
      rw [hx]
      simp only [DataW.weights, Try.underlying45]
      refine List.mem_cons.2 (Or.inl ?_)
      simp [lits, b3]
      omega)
    unfold reachBytes at h1
    refine ⟨zs.take l, ⟨⟨by rw [flat_ints]; simp [KI], Or.inr ⟨ad, c, by rw [e], fun j u hj => ?_⟩⟩, fits_of hl⟩, by omega⟩
    rw [flat_ints, List.getElem?_map] at hj
    by_cases hlt : j < l
    · rw [List.getElem?_take, if_pos hlt, List.getElem?_eq_getElem (by omega)] at hj
      simp only [Option.map_some, Option.some.injEq] at hj
      rw [hcell j (by omega), ← hj]
      simp [List.getElem?_eq_getElem (by omega : j < zs.length)]
    · rw [List.getElem?_take, if_neg hlt] at hj
      cases hj

theorem Try.struct38 : ∃ f0 f1, Try.prog.underlying 38 = some (.struct #[f0, f1]) ∧ f0.offset = 0 ∧ f1.offset = 1 ∧ f0.type = 3 ∧ f1.type = 3 :=
  ⟨_, _, Try.underlying38, rfl, rfl, rfl, rfl⟩

set_option maxRecDepth 100000 in
/-- What the cells of a slice of posts read as, and how many they are. -/
theorem read_blocks {H : Type} {enc : TypeId × Value → H} {W : World} {fuel : Nat} {v : Value} {x : DataW H × List MemPlace} (hf : DataW.trod enc Try.prog W 0 (fun _ => true) true fuel 22 [v] = some x) (hw : ∀ n ∈ x.1.weights Try.prog 22, n ≤ reachBytes) : ∃ ps, IsL KB W v ps ∧ ps.length * 16 ≤ 140737488355328 ∧ Bnd ps := by
  have ce : Try.prog.cellsOf 38 = 2 := by kernel_rfl
  have be : Try.prog.bytesOf 38 = 16 := by kernel_rfl
  have c3 : Try.prog.cellsOf 3 = 1 := by kernel_rfl
  obtain ⟨f0, f1, hst, o0, o1, t0, t1⟩ := Try.struct38
  rcases DataW.trod_slice Try.underlying22 hf with ⟨hcs, hx⟩ | ⟨ad, l, c, elems, rest, m, _, hcs, hx, _, hl, hm, hlen, hel, hrest, _⟩
  · simp only [List.cons.injEq, and_true] at hcs
    subst hcs
    exact ⟨[], isl_nil _, Nat.zero_le _, fun x hx => by cases hx⟩
  · simp only [List.cons.injEq, and_true] at hcs
    subst hcs
    have each : ∀ i, i < l → ∃ q : Bl, (∀ j, j < 2 → W.cell? (ad.add (i * 2 + j)) = (KB.f q)[j]?) ∧ q.2 ≤ 9223372036854775807 := by
      intro i hi
      have h1 := hel i hi
      rw [ce, List.getElem?_eq_getElem (by omega)] at h1
      obtain ⟨cs', h2, h3⟩ := Option.bind_eq_some_iff.1 h1
      obtain ⟨_, hl2, hcell⟩ := World.cells?_some h2
      obtain ⟨xs, k, hk, hxy, _, hxl, hfl⟩ := DataW.trod_struct hst h3
      obtain ⟨v0, v1, rfl⟩ := list2 hl2
      obtain ⟨y0, y1, rfl⟩ := list2 hxl
      have g0 := hfl 0 f0 rfl
      have g1 := hfl 1 f1 rfl
      simp [o0, o1, t0, t1, c3] at g0 g1
      obtain ⟨z0, e0, _, _⟩ := DataW.trod_int Try.underlying3 g0
      obtain ⟨z1, e1, WZ, WY⟩ := DataW.trod_int Try.underlying3 g1
      simp only [List.cons.injEq, and_true] at e0 e1
      subst e0 e1
      refine ⟨(z0, z1), fun j hj => ?_, ?_⟩
      · rw [← Go.Deep.add_add]
        exact hcell j hj
      · have hy := WY
        simp [Lit.wf] at hy
        exact hy.2
    obtain ⟨q, hq⟩ := @Go.Deep.choose_lt Bl ⟨(0, 0)⟩ _ _ each
    have e : ((List.range l).map q).length = l := by simp
    have h1 := hw (elems.length * 16 + rest.length * 16) (by
      rw [hx]
      simp only [DataW.weights, Try.underlying22]
      refine List.mem_cons.2 (Or.inl ?_)
      simp [be]
      omega)
    unfold reachBytes at h1
    refine ⟨(List.range l).map q, ⟨⟨flat_length kb _, Or.inr ⟨ad, c, by rw [e], fun j u hj => ?_⟩⟩, fits_of hl⟩, by rw [e]; omega, fun x hx => ?_⟩
    rotate_left
    · obtain ⟨i, hi, rfl⟩ := List.mem_map.1 hx
      exact (hq i (List.mem_range.1 hi)).2
    have hj2 : j < l * 2 := by
      have := (List.getElem?_eq_some_iff.1 hj).1
      rw [flat_length kb, e] at this
      exact this
    have hdj : j / 2 < l := by omega
    have hmj : j % 2 < 2 := by omega
    have ej : j / 2 * 2 + j % 2 = j := by omega
    have g := flat_get kb ((List.range l).map q) (j / 2) (j % 2) (by omega) hmj
    have g' : (((List.range l).map q).flatMap KB.f)[j]? = (KB.f (q (j / 2)))[j % 2]? := by
      have e1 : j / 2 * KB.k + j % 2 = j := ej
      rw [e1] at g
      rw [g]
      congr 2
      simp [hdj]
    rw [hj] at g'
    have := (hq (j / 2) hdj).1 (j % 2) hmj
    rw [ej] at this
    rw [this, ← g']

theorem read_slice {H : Type} {enc : TypeId × Value → H} {W : World} {base : Nat} {v : Value} {d : DataW H} {p : List MemPlace} (hv : Value.okWide Try.prog W .any base 45 v) (h : DataW.Trod enc Try.prog W 0 (fun _ => true) true 45 v d p) (hw : ∀ n ∈ d.weights Try.prog 45, n ≤ reachBytes) :
    ∃ zs, IsL KI W v zs ∧ zs.length * 8 ≤ 140737488355328 := by
  obtain ⟨a, l, c, rfl⟩ := okWide_slice Try.underlying45 hv
  obtain ⟨fuel, hf⟩ := h
  exact read_ints hf hw

theorem Try.struct24 : ∃ f0 f1 f2, Try.prog.underlying 24 = some (.struct #[f0, f1, f2]) ∧ f0.offset = 0 ∧ f1.offset = 1 ∧ f2.offset = 2 ∧ f0.type = 3 ∧ f1.type = 22 ∧ f2.type = 22 :=
  ⟨_, _, _, Try.underlying24, rfl, rfl, rfl, rfl, rfl, rfl⟩
set_option maxRecDepth 100000 in
theorem read_space {H : Type} {enc : TypeId × Value → H} {W : World} {base : Nat} {v : Value} {d : DataW H} {p : List MemPlace} (hv : Value.okWide Try.prog W .any base 24 v) (h : DataW.Trod enc Try.prog W 0 (fun _ => true) true 24 v d p) (hw : ∀ n ∈ d.weights Try.prog 24, n ≤ reachBytes) :
    ∃ b us fs, IsS W v b us fs ∧ us.length * 16 ≤ 140737488355328 ∧ fs.length * 16 ≤ 140737488355328 ∧ Bnd us ∧ Bnd fs := by
  obtain ⟨cs, rfl, hcs⟩ := okWide_struct Try.underlying24 hv
  obtain ⟨fuel, hf⟩ := h
  have c3 : Try.prog.cellsOf 3 = 1 := by kernel_rfl
  have c22 : Try.prog.cellsOf 22 = 1 := by kernel_rfl
  have c24 : Try.prog.cellsOf 24 = 3 := by kernel_rfl
  obtain ⟨f0, f1, f2, hst, o0, o1, o2, t0, t1, t2⟩ := Try.struct24
  obtain ⟨xs, k, hk, hxy, _, hxl, hfl⟩ := DataW.trod_struct hst hf
  have e : (Value.agg cs).cells.toList = cs.toList := rfl
  rw [e] at hfl
  obtain ⟨v0, v1, v2, hcv⟩ := list3 (l := cs.toList) (by rw [Array.length_toList, hcs, c24])
  rw [hcv] at hfl
  obtain ⟨y0, y1, y2, rfl⟩ := list3 hxl
  have g0 := hfl 0 f0 rfl
  have g1 := hfl 1 f1 rfl
  have g2 := hfl 2 f2 rfl
  simp [o0, o1, o2, t0, t1, t2, c3, c22] at g0 g1 g2
  obtain ⟨z0, e0, _, _⟩ := DataW.trod_int Try.underlying3 g0
  simp only [List.cons.injEq, and_true] at e0
  have hd : d = .agg [y0.1, y1.1, y2.1] := congrArg Prod.fst hxy
  obtain ⟨us, hp1, mp1, bp1⟩ := read_blocks g1 (fun n hn => hw n (by
    rw [hd]
    simp only [DataW.weights, hst, DataW.weightsEach, List.map_cons, List.map_nil, List.mem_append, t0, t1, t2]
    exact Or.inr (Or.inl hn)))
  obtain ⟨fs, hp2, mp2, bp2⟩ := read_blocks g2 (fun n hn => hw n (by
    rw [hd]
    simp only [DataW.weights, hst, DataW.weightsEach, List.map_cons, List.map_nil, List.mem_append, t0, t1, t2]
    exact Or.inr (Or.inr (Or.inl hn))))
  have hcs2 : cs = #[v0, v1, v2] := by
    apply Array.toList_inj.1
    rw [hcv]
  refine ⟨z0, us, fs, ⟨v1, v2, ?_, hp1, hp2⟩, mp1, mp2, bp1, bp2⟩
  rw [hcs2, e0]
end Go.Proofs.Ytomhfnjnmhdpkaa
