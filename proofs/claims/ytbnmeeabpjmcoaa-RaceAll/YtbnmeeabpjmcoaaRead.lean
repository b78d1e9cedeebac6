/-
  How the arguments are read: numbers, events.
-/
import Derived.Test.YtbnmeeabpjmcoaaR
import Derived.ProofKit
import Derived.Deep.Slices
import Derived.OpenShut
namespace Go.Proofs.Ytbnmeeabpjmcoaa
open Go.ChangeShapes Go.WideShapes Go.ChangeAt Go.RowKit

theorem list2 {α : Type} : ∀ {l : List α}, l.length = 2 → ∃ a b, l = [a, b]
  | [a, b], _ => ⟨a, b, rfl⟩
theorem list3 {α : Type} : ∀ {l : List α}, l.length = 3 → ∃ a b c, l = [a, b, c]
  | [a, b, c], _ => ⟨a, b, c, rfl⟩

theorem list4 {α : Type} : ∀ {l : List α}, l.length = 4 → ∃ a b c d, l = [a, b, c, d]
  | [a, b, c, d], _ => ⟨a, b, c, d, rfl⟩

theorem flat_ints (zs : List Int) : zs.flatMap KI.f = zs.map (Value.int .i64) := by
  induction zs with
  | nil => rfl
  | cons z r ih => rw [List.flatMap_cons, ih]; rfl

/-- What the cells of a slice of numbers read as, and how many they are. -/
theorem read_ints {H : Type} {enc : TypeId × Value → H} {W : World} {fuel : Nat} {v : Value} {x : DataW H × List MemPlace} (hf : DataW.trod enc Try.prog W 0 (fun _ => true) true fuel 23 [v] = some x) (hw : ∀ n ∈ x.1.weights Try.prog 23, n ≤ reachBytes) : ∃ zs, IsL KI W v zs ∧ zs.length * 8 ≤ 140737488355328 := by
  have b3 : Try.prog.bytesOf 3 = 8 := by kernel_rfl
  rcases open_ints Try.underlying23 Try.underlying3 (by kernel_rfl) hf with ⟨hcs, hx⟩ | ⟨ad, l, c, zs, hcs, _, hl, hm, hz, hx, hcell, hwz⟩
  · simp only [List.cons.injEq, and_true] at hcs
    subst hcs
    exact ⟨[], isl_nil _, Nat.zero_le _⟩
  · simp only [List.cons.injEq, and_true] at hcs
    subst hcs
    have hzl : zs.length = c := by simpa using hz
    have e : (zs.take l).length = l := by rw [List.length_take]; omega
    have h1 := hw ((zs.take l).length * 8 + (zs.drop l).length * 8) (by
      rw [hx]
      simp only [DataW.weights, Try.underlying23]
      refine List.mem_cons.2 (Or.inl ?_)
      simp [lits, b3]
      omega)
    unfold reachBytes at h1
    refine ⟨zs.take l, ⟨⟨by rw [flat_ints]; simp [KI], Or.inr ⟨ad, c, by rw [e], fun j u hj => ?_⟩⟩, fits_of hl⟩, by omega⟩
    rw [flat_ints, List.getElem?_map] at hj
    by_cases hlt : j < l
    · rw [List.getElem?_take, if_pos hlt, List.getElem?_eq_getElem (by omega)] at hj
      simp only [Option.map_some, Option.some.injEq] at hj
      rw [hcell j (by omega), ← hj]
      simp [List.getElem?_eq_getElem (by omega : j < zs.length)]
    · rw [List.getElem?_take, if_neg hlt] at hj
      cases hj

theorem Try.struct41 : ∃ f0 f1 f2 f3, Try.prog.underlying 41 = some (.struct #[f0, f1, f2, f3]) ∧ f0.offset = 0 ∧ f1.offset = 1 ∧ f2.offset = 2 ∧ f3.offset = 3 ∧ f0.type = 3 ∧ f1.type = 3 ∧ f2.type = 3 ∧ f3.type = 3 :=
  ⟨_, _, _, _, Try.underlying41, rfl, rfl, rfl, rfl, rfl, rfl, rfl, rfl⟩

set_option maxRecDepth 100000 in
/-- What the cells of a slice of posts read as, and how many they are. -/
theorem read_events {H : Type} {enc : TypeId × Value → H} {W : World} {fuel : Nat} {v : Value} {x : DataW H × List MemPlace} (hf : DataW.trod enc Try.prog W 0 (fun _ => true) true fuel 22 [v] = some x) (hw : ∀ n ∈ x.1.weights Try.prog 22, n ≤ reachBytes) : ∃ ps, IsL KE W v ps ∧ ps.length * 32 ≤ 140737488355328 := by
  have ce : Try.prog.cellsOf 41 = 4 := by kernel_rfl
  have be : Try.prog.bytesOf 41 = 32 := by kernel_rfl
  have c3 : Try.prog.cellsOf 3 = 1 := by kernel_rfl
  obtain ⟨f0, f1, f2, f3, hst, o0, o1, o2, o3, t0, t1, t2, t3⟩ := Try.struct41
  rcases DataW.trod_slice Try.underlying22 hf with ⟨hcs, hx⟩ | ⟨ad, l, c, elems, rest, m, _, hcs, hx, _, hl, hm, hlen, hel, hrest, _⟩
  · simp only [List.cons.injEq, and_true] at hcs
    subst hcs
    exact ⟨[], isl_nil _, Nat.zero_le _⟩
  · simp only [List.cons.injEq, and_true] at hcs
    subst hcs
    have each : ∀ i, i < l → ∃ q : Ev, ∀ j, j < 4 → W.cell? (ad.add (i * 4 + j)) = (KE.f q)[j]? := by
      intro i hi
      have h1 := hel i hi
      rw [ce, List.getElem?_eq_getElem (by omega)] at h1
      obtain ⟨cs', h2, h3⟩ := Option.bind_eq_some_iff.1 h1
      obtain ⟨_, hl2, hcell⟩ := World.cells?_some h2
      obtain ⟨xs, k, hk, hxy, _, hxl, hfl⟩ := DataW.trod_struct hst h3
      obtain ⟨v0, v1, v2, v3, rfl⟩ := list4 hl2
      obtain ⟨y0, y1, y2, y3, rfl⟩ := list4 hxl
      have g0 := hfl 0 f0 rfl
      have g1 := hfl 1 f1 rfl
      have g2 := hfl 2 f2 rfl
      have g3 := hfl 3 f3 rfl
      simp [o0, o1, o2, o3, t0, t1, t2, t3, c3] at g0 g1 g2 g3
      obtain ⟨z0, e0, _, _⟩ := DataW.trod_int Try.underlying3 g0
      obtain ⟨z1, e1, _, _⟩ := DataW.trod_int Try.underlying3 g1
      obtain ⟨z2, e2, _, _⟩ := DataW.trod_int Try.underlying3 g2
      obtain ⟨z3, e3, _, _⟩ := DataW.trod_int Try.underlying3 g3
      simp only [List.cons.injEq, and_true] at e0 e1 e2 e3
      subst e0 e1 e2 e3
      refine ⟨⟨z0, z1, z2, z3⟩, fun j hj => ?_⟩
      rw [← Go.Deep.add_add]
      exact hcell j hj
    obtain ⟨q, hq⟩ := @Go.Deep.choose_lt Ev ⟨ev0⟩ _ _ each
    have e : ((List.range l).map q).length = l := by simp
    have h1 := hw (elems.length * 32 + rest.length * 32) (by
      rw [hx]
      simp only [DataW.weights, Try.underlying22]
      refine List.mem_cons.2 (Or.inl ?_)
      simp [be]
      omega)
    unfold reachBytes at h1
    refine ⟨(List.range l).map q, ⟨⟨flat_length ke _, Or.inr ⟨ad, c, by rw [e], fun j u hj => ?_⟩⟩, fits_of hl⟩, by rw [e]; omega⟩
    have hj2 : j < l * 4 := by
      have := (List.getElem?_eq_some_iff.1 hj).1
      rw [flat_length ke, e] at this
      exact this
    have hdj : j / 4 < l := by omega
    have hmj : j % 4 < 4 := by omega
    have ej : j / 4 * 4 + j % 4 = j := by omega
    have g := flat_get ke ((List.range l).map q) (j / 4) (j % 4) (by omega) hmj
    have g' : (((List.range l).map q).flatMap KE.f)[j]? = (KE.f (q (j / 4)))[j % 4]? := by
      have e1 : j / 4 * KE.k + j % 4 = j := ej
      rw [e1] at g
      rw [g]
      congr 2
      simp [hdj]
    rw [hj] at g'
    have := hq (j / 4) hdj (j % 4) hmj
    rw [ej] at this
    rw [this, ← g']

set_option maxRecDepth 100000 in
theorem read_slice {H : Type} {enc : TypeId × Value → H} {W : World} {base : Nat} {v : Value} {d : DataW H} {p : List MemPlace} (hv : Value.okWide Try.prog W .any base 23 v) (h : DataW.Trod enc Try.prog W 0 (fun _ => true) true 23 v d p) (hw : ∀ n ∈ d.weights Try.prog 23, n ≤ reachBytes) :
    ∃ zs, IsL KI W v zs ∧ zs.length * 8 ≤ 140737488355328 := by
  obtain ⟨a, l, c, rfl⟩ := okWide_slice Try.underlying23 hv
  obtain ⟨fuel, hf⟩ := h
  exact read_ints hf hw

set_option maxRecDepth 100000 in
theorem read_trace {H : Type} {enc : TypeId × Value → H} {W : World} {base : Nat} {v : Value} {d : DataW H} {p : List MemPlace} (hv : Value.okWide Try.prog W .any base 22 v) (h : DataW.Trod enc Try.prog W 0 (fun _ => true) true 22 v d p) (hw : ∀ n ∈ d.weights Try.prog 22, n ≤ reachBytes) :
    ∃ zs, IsL KE W v zs ∧ zs.length * 32 ≤ 140737488355328 := by
  obtain ⟨a, l, c, rfl⟩ := okWide_slice Try.underlying22 hv
  obtain ⟨fuel, hf⟩ := h
  exact read_events hf hw
end Go.Proofs.Ytbnmeeabpjmcoaa
