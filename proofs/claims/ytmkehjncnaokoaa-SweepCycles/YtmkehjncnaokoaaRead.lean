/-
  How the arguments are read: numbers, rows of numbers, heaps.
-/
import Derived.Test.YtmkehjncnaokoaaV
import Derived.ProofKit
import Derived.Deep.Slices
import Derived.OpenShut
namespace Go.Proofs.Ytmkehjncnaokoaa
open Go.ChangeShapes Go.WideShapes Go.ChangeAt Go.RowKit

theorem list2 {α : Type} : ∀ {l : List α}, l.length = 2 → ∃ a b, l = [a, b]
  | [a, b], _ => ⟨a, b, rfl⟩
theorem list3 {α : Type} : ∀ {l : List α}, l.length = 3 → ∃ a b c, l = [a, b, c]
  | [a, b, c], _ => ⟨a, b, c, rfl⟩

theorem list4 {α : Type} : ∀ {l : List α}, l.length = 4 → ∃ a b c d, l = [a, b, c, d]
  | [a, b, c, d], _ => ⟨a, b, c, d, rfl⟩

theorem flat_ints (zs : List Int) : zs.flatMap KI.f = zs.map (Value.int .i64) := by
  induction zs with
  | nil => rfl
  | cons z r ih => rw [List.flatMap_cons, ih]; rfl

/-- What the cells of a slice of numbers read as, and how many they are. -/
theorem read_ints {H : Type} {enc : TypeId × Value → H} {W : World} {fuel : Nat} {v : Value} {x : DataW H × List MemPlace} (hf : DataW.trod enc Try.prog W 0 (fun _ => true) true fuel 23 [v] = some x) (hw : ∀ n ∈ x.1.weights Try.prog 23, n ≤ reachBytes) : ∃ zs, IsL KI W v zs ∧ zs.length * 8 ≤ 140737488355328 := by
  have b3 : Try.prog.bytesOf 3 = 8 := by kernel_rfl
  rcases open_ints Try.underlying23 Try.underlying3 (by kernel_rfl) hf with ⟨hcs, hx⟩ | ⟨ad, l, c, zs, hcs, _, hl, hm, hz, hx, hcell, hwz⟩
  · simp only [List.cons.injEq, and_true] at hcs
    subst hcs
    exact ⟨[], isl_nil _, Nat.zero_le _⟩
  · simp only [List.cons.injEq, and_true] at hcs
    subst hcs
    have hzl : zs.length = c := by simpa using hz
    have e : (zs.take l).length = l := by rw [List.length_take]; omega
    have h1 := hw ((zs.take l).length * 8 + (zs.drop l).length * 8) (by
      rw [hx]
      simp only [DataW.weights, Try.underlying23]
      refine List.mem_cons.2 (Or.inl ?_)
      simp [lits, b3]
      omega)
    unfold reachBytes at h1
    refine ⟨zs.take l, ⟨⟨by rw [flat_ints]; simp [KI], Or.inr ⟨ad, c, by rw [e], fun j u hj => ?_⟩⟩, fits_of hl⟩, by omega⟩
    rw [flat_ints, List.getElem?_map] at hj
    by_cases hlt : j < l
    · rw [List.getElem?_take, if_pos hlt, List.getElem?_eq_getElem (by omega)] at hj
      simp only [Option.map_some, Option.some.injEq] at hj
      rw [hcell j (by omega), ← hj]
      simp [List.getElem?_eq_getElem (by omega : j < zs.length)]
    · rw [List.getElem?_take, if_neg hlt] at hj
      cases hj

theorem flat_sls (us : List Sl) : us.flatMap KL.f = us.map sl := by
  induction us with
  | nil => rfl
  | cons z r ih => rw [List.flatMap_cons, ih]; rfl
/-- What the cells of a slice of rows read as, without what they weigh. -/
theorem read_row {H : Type} {enc : TypeId × Value → H} {W : World} {fuel : Nat} {v : Value} {x : DataW H × List MemPlace} (hf : DataW.trod enc Try.prog W 0 (fun _ => true) true fuel 23 [v] = some x) : ∃ (u : Sl) (zs : List Int), v = sl u ∧ IsL KI W (sl u) zs := by
  rcases open_ints Try.underlying23 Try.underlying3 (by kernel_rfl) hf with ⟨hcs, hx⟩ | ⟨ad, l, c, zs, hcs, _, hl, hm, hz, hx, hcell, hwz⟩
  · simp only [List.cons.injEq, and_true] at hcs
    subst hcs
    exact ⟨(none, 0, 0), [], rfl, isl_nil _⟩
  · simp only [List.cons.injEq, and_true] at hcs
    subst hcs
    have hzl : zs.length = c := by simpa using hz
    have e : (zs.take l).length = l := by rw [List.length_take]; omega
    refine ⟨(some ad, l, c), zs.take l, rfl, ⟨⟨by rw [flat_ints]; simp [KI], Or.inr ⟨ad, c, by rw [e]; rfl, fun j u hj => ?_⟩⟩, fits_of hl⟩⟩
    rw [flat_ints, List.getElem?_map] at hj
    by_cases hlt : j < l
    · rw [List.getElem?_take, if_pos hlt, List.getElem?_eq_getElem (by omega)] at hj
      simp only [Option.map_some, Option.some.injEq] at hj
      rw [hcell j (by omega), ← hj]
      simp [List.getElem?_eq_getElem (by omega : j < zs.length)]
    · rw [List.getElem?_take, if_neg hlt] at hj
      cases hj
theorem read_rows {H : Type} {enc : TypeId × Value → H} {W : World} {fuel : Nat} {v : Value} {x : DataW H × List MemPlace} (hf : DataW.trod enc Try.prog W 0 (fun _ => true) true fuel 22 [v] = some x) (hw : ∀ n ∈ x.1.weights Try.prog 22, n ≤ reachBytes) : ∃ a n c us os, v = .slice a n c ∧ IsLL W (.slice a n c) us os ∧ n * 24 ≤ 140737488355328 := by
  have c23 : Try.prog.cellsOf 23 = 1 := by kernel_rfl
  have b23 : Try.prog.bytesOf 23 = 24 := by kernel_rfl
  rcases Go.Deep.open_slice1 Try.underlying22 c23 hf with ⟨hcs, _⟩ | ⟨ad, len, cap, m, n, V, D, Pl, hcs, _, hl, _, hmm, hx, hel⟩
  · simp only [List.cons.injEq, and_true] at hcs
    subst hcs
    exact ⟨none, 0, 0, [], [], rfl, ⟨isl_nil _, rfl, fun i hi => absurd hi (Nat.not_lt_zero _)⟩, Nat.zero_le _⟩
  · simp only [List.cons.injEq, and_true] at hcs
    subst hcs
    have hmc : m = cap := by simpa using hmm
    have h1 := hw (len * 24 + (m - len) * 24) (by
      rw [hx]
      simp only [DataW.weights, Try.underlying22]
      refine List.mem_cons.2 (Or.inl ?_)
      simp [b23]
      omega)
    unfold reachBytes at h1
    have each : ∀ i, i < len → ∃ q : Sl × List Int, W.cell? (ad.add i) = some (sl q.1) ∧ IsL KI W (sl q.1) q.2 := by
      intro i hi
      obtain ⟨h3, h2⟩ := hel i (by omega)
      obtain ⟨u, zs, e, hz⟩ := read_row h2
      exact ⟨(u, zs), by rw [h3, e], hz⟩
    obtain ⟨q, hq⟩ := @Go.Deep.choose_lt (Sl × List Int) ⟨((none, 0, 0), [])⟩ _ _ each
    have e : ((List.range len).map fun i => (q i).1).length = len := by simp
    refine ⟨some ad, len, cap, (List.range len).map fun i => (q i).1, (List.range len).map fun i => (q i).2, rfl, ⟨⟨⟨by rw [flat_sls]; simp [KL], Or.inr ⟨ad, cap, by rw [e], fun j u hj => ?_⟩⟩, fits_of hl⟩, by simp, fun i hi => ?_⟩, by omega⟩
    · rw [flat_sls, List.getElem?_map, List.getElem?_map] at hj
      by_cases hlt : j < len
      · rw [List.getElem?_range hlt] at hj
        simp only [Option.map_some, Option.some.injEq] at hj
        rw [← hj]
        exact (hq j hlt).1
      · rw [List.getElem?_eq_none (by simp; omega)] at hj
        cases hj
    · have hi' : i < len := by simpa using hi
      have := (hq i hi').2
      simpa [uAt, hi'] using this

theorem Try.struct25 : ∃ f0 f1, Try.prog.underlying 25 = some (.struct #[f0, f1]) ∧ f0.offset = 0 ∧ f1.offset = 1 ∧ f0.type = 22 ∧ f1.type = 23 :=
  ⟨_, _, Try.underlying25, rfl, rfl, rfl, rfl⟩
set_option maxRecDepth 100000 in
theorem read_heap {H : Type} {enc : TypeId × Value → H} {W : World} {base : Nat} {v : Value} {d : DataW H} {p : List MemPlace} (hv : Value.okWide Try.prog W .any base 25 v) (h : DataW.Trod enc Try.prog W 0 (fun _ => true) true 25 v d p) (hw : ∀ n ∈ d.weights Try.prog 25, n ≤ reachBytes) :
    ∃ ao no co ar nr cr us os rs, v = .agg #[.slice ao no co, .slice ar nr cr] ∧ IsLL W (.slice ao no co) us os ∧ IsL KI W (.slice ar nr cr) rs ∧ no ≤ 1000000000000000 := by
  obtain ⟨cs, rfl, hcs⟩ := okWide_struct Try.underlying25 hv
  obtain ⟨fuel, hf⟩ := h
  have c22 : Try.prog.cellsOf 22 = 1 := by kernel_rfl
  have c23 : Try.prog.cellsOf 23 = 1 := by kernel_rfl
  have c25 : Try.prog.cellsOf 25 = 2 := by kernel_rfl
  obtain ⟨f0, f1, hst, o0, o1, t0, t1⟩ := Try.struct25
  obtain ⟨xs, k, hk, hxy, _, hxl, hfl⟩ := DataW.trod_struct hst hf
  have e : (Value.agg cs).cells.toList = cs.toList := rfl
  rw [e] at hfl
  obtain ⟨v0, v1, hcv⟩ := list2 (l := cs.toList) (by rw [Array.length_toList, hcs, c25])
  rw [hcv] at hfl
  obtain ⟨y0, y1, rfl⟩ := list2 hxl
  have g0 := hfl 0 f0 rfl
  have g1 := hfl 1 f1 rfl
  simp [o0, o1, t0, t1, c22, c23] at g0 g1
  have hd : d = .agg [y0.1, y1.1] := congrArg Prod.fst hxy
  obtain ⟨a, n, c, us, os, e0, hos, hn⟩ := read_rows g0 (fun n hn => hw n (by
    rw [hd]
    simp only [DataW.weights, hst, DataW.weightsEach, List.map_cons, List.map_nil, List.mem_append, t0, t1]
    exact Or.inl hn))
  obtain ⟨u, rs, e1, hrs⟩ := read_row g1
  have hcs2 : cs = #[v0, v1] := by
    apply Array.toList_inj.1
    rw [hcv]
  obtain ⟨a1, n1, c1⟩ := u
  exact ⟨a, n, c, a1, n1, c1, us, os, rs, by rw [hcs2, e0, e1]; rfl, hos, hrs, by omega⟩
end Go.Proofs.Ytmkehjncnaokoaa
