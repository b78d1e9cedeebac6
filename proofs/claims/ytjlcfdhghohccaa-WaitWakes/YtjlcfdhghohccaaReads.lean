/-
  How the arguments are read: a slice of lines.
-/
import Derived.Test.YtjlcfdhghohccaaRead
import Derived.Test.YtjlcfdhghohccaaQ
namespace Go.Proofs.Ytjlcfdhghohccaa
open Go.ChangeShapes Go.WideShapes Go.ChangeAt Go.RowKit

theorem weights_all {H : Type} {P : Program} {e : TypeId} {n : Nat} : ∀ {ds : List (DataW H)} {d : DataW H}, d ∈ ds → n ∈ d.weights P e → n ∈ DataW.weightsAll P e ds
  | [], _, h, _ => by simp at h
  | d0 :: r, d, h, hn => by
    rw [DataW.weightsAll, List.mem_append]
    rcases List.mem_cons.1 h with rfl | h
    · exact Or.inl hn
    · exact Or.inr (weights_all h hn)

/-- What the cells of a slice of numbers read as, and how many they are. -/
theorem read_tasks {H : Type} {enc : TypeId × Value → H} {W : World} {fuel : Nat} {v : Value} {x : DataW H × List MemPlace} (hf : DataW.trod enc Try.prog W 0 (fun _ => true) true fuel 34 [v] = some x) (hw : ∀ n ∈ x.1.weights Try.prog 34, n ≤ reachBytes) : ∃ zs, IsInts W v zs ∧ zs.length ≤ 17592186044416 := by
  have b3 : Try.prog.bytesOf 3 = 8 := by kernel_rfl
  obtain ⟨zs0, h0, _⟩ := read_cells hf
  refine ⟨zs0, h0, ?_⟩
  rcases open_ints Try.underlying34 Try.underlying3 (by kernel_rfl) hf with ⟨hcs, hx⟩ | ⟨ad, l, c, zs, hcs, _, hl, hm, hz, hx, hcell, hwz⟩
  · simp only [List.cons.injEq, and_true] at hcs
    subst hcs
    obtain ⟨_, _, e⟩ := h0.form
    have e2 : 0 = zs0.length := by injection e
    omega
  · simp only [List.cons.injEq, and_true] at hcs
    subst hcs
    obtain ⟨_, _, e⟩ := h0.form
    have e2 : l = zs0.length := by injection e
    have hzl : zs.length = c := by simpa using hz
    have h1 := hw ((zs.take l).length * 8 + (zs.drop l).length * 8) (by
      rw [hx]
      simp only [DataW.weights, Try.underlying34]
      refine List.mem_cons.2 (Or.inl ?_)
      simp [lits, b3]
      omega)
    rw [List.length_take, List.length_drop] at h1
    unfold reachBytes at h1
    omega

theorem Try.struct55 : ∃ f0 f1, Try.prog.underlying 55 = some (.struct #[f0, f1]) ∧ f0.offset = 0 ∧ f1.offset = 1 ∧ f0.type = 3 ∧ f1.type = 34 :=
  ⟨_, _, Try.underlying55, rfl, rfl, rfl, rfl⟩

theorem read_lines {H : Type} {enc : TypeId × Value → H} {W : World} {base : Nat} {v : Value} {d : DataW H} {p : List MemPlace} (hv : Value.okWide Try.prog W .any base 22 v) (h : DataW.Trod enc Try.prog W 0 (fun _ => true) true 22 v d p) (hw : ∀ n ∈ d.weights Try.prog 22, n ≤ reachBytes) :
    ∃ a n c ls, v = .slice a n c ∧ Arg W a n c ls := by
  obtain ⟨a0, len, cap, rfl⟩ := okWide_slice Try.underlying22 hv
  obtain ⟨fuel, hf⟩ := h
  have ce : Try.prog.cellsOf 55 = 2 := by kernel_rfl
  have c3 : Try.prog.cellsOf 3 = 1 := by kernel_rfl
  have c34 : Try.prog.cellsOf 34 = 1 := by kernel_rfl
  obtain ⟨f0, f1, hst, o0, o1, t0, t1⟩ := Try.struct55
  rcases DataW.trod_slice Try.underlying22 hf with ⟨hcs, hx⟩ | ⟨x, l, c, elems, rest, m, _, hcs, hx, _, hl, hm, hlen, hel, _, _⟩
  · simp [Value.cells] at hcs
    obtain ⟨rfl, rfl, rfl⟩ := hcs
    exact ⟨none, 0, 0, [], rfl, ls_nil W, Nat.zero_le _, fun j hj => by omega⟩
  · simp [Value.cells] at hcs
    obtain ⟨rfl, rfl, rfl⟩ := hcs
    have each : ∀ i, i < len → ∃ q : Ln × Value, W.cell? (x.add (i * 2)) = some (.int .i64 q.1.1) ∧ W.cell? (x.add (i * 2 + 1)) = some q.2 ∧ IsInts W q.2 q.1.2 ∧ q.1.2.length ≤ 17592186044416 := by
      intro i hi
      have h1 := hel i hi
      rw [ce, List.getElem?_eq_getElem (by omega)] at h1
      obtain ⟨cs', h2, h3⟩ := Option.bind_eq_some_iff.1 h1
      obtain ⟨_, hl2, hcell⟩ := World.cells?_some h2
      obtain ⟨y0, y1, k, hy, _, g0, g1⟩ := trod_struct2 hst h3
      obtain ⟨v0, v1, rfl⟩ := list2 hl2
      simp [o0, o1, t0, t1, c3, c34] at g0 g1
      obtain ⟨z0, e0, _, _⟩ := DataW.trod_int Try.underlying3 g0
      simp only [List.cons.injEq, and_true] at e0
      subst e0
      obtain ⟨zs, hzs, hzl⟩ := read_tasks g1 (fun n hn => hw n (by
        have hd : d = .slice (elems.map (·.1)) (rest.map (·.1)) := congrArg Prod.fst hx
        rw [hd]
        simp only [DataW.weights, Try.underlying22]
        refine List.mem_cons_of_mem _ (List.mem_append_left _ (weights_all (d := elems[i].1) (List.mem_map_of_mem (List.getElem_mem _)) ?_))
        rw [hy]
        simp only [DataW.weights, hst, DataW.weightsEach, List.map_cons, List.map_nil, List.mem_append, t0, t1]
        exact Or.inr (Or.inl hn)))
      refine ⟨((z0, zs), v1), ?_, ?_, hzs, hzl⟩
      · have := hcell 0 (by decide)
        rw [Go.Deep.add_add, Nat.add_zero] at this
        exact this
      · have := hcell 1 (by decide)
        rw [Go.Deep.add_add] at this
        exact this
    obtain ⟨q, hq⟩ := @Go.Deep.choose_lt (Ln × Value) ⟨((0, []), .slice none 0 0)⟩ _ _ each
    have el : ((List.range len).map fun i => (q i).1).length = len := by simp
    have er : ((List.range len).map fun i => ((q i).1.1, (q i).2)).length = len := by simp
    have al : ∀ i, i < len → lAt ((List.range len).map fun i => (q i).1) i = (q i).1 := fun i hi => by simp [lAt, hi]
    have ar : ∀ i, i < len → rAt ((List.range len).map fun i => ((q i).1.1, (q i).2)) i = ((q i).1.1, (q i).2) := fun i hi => by simp [rAt, hi]
    refine ⟨some x, len, cap, (List.range len).map fun i => (q i).1, rfl, ⟨⟨(List.range len).map fun i => ((q i).1.1, (q i).2), ⟨by rw [flatL_length, er, el], Or.inr ⟨x, cap, by rw [el], fun j u hj => ?_⟩⟩, by rw [er, el], fun j hj => ?_⟩, fits_of hl⟩, Nat.le_trans hl hm, fun j hj => by rw [al j hj]; exact (hq j hj).2.2.2⟩
    · have hj2 : j < len * 2 := by
        have := (List.getElem?_eq_some_iff.1 hj).1
        rw [flatL_length, er] at this
        exact this
      have hdj : j / 2 < len := by omega
      obtain ⟨g0, g1⟩ := flatL_get ((List.range len).map fun i => ((q i).1.1, (q i).2)) (j / 2) (by rw [er]; exact hdj)
      rw [ar _ hdj] at g0 g1
      have hh := hq (j / 2) hdj
      by_cases hr : j % 2 = 0
      · have ej : j / 2 * 2 = j := by omega
        rw [ej] at g0 hh
        rw [hh.1, ← hj, g0]
      · have ej : j / 2 * 2 + 1 = j := by omega
        rw [ej] at g1 hh
        rw [hh.2.1, ← hj, g1]
    · rw [el] at hj
      rw [al j hj, ar j hj]
      exact ⟨rfl, (hq j hj).2.2.1⟩
end Go.Proofs.Ytjlcfdhghohccaa
