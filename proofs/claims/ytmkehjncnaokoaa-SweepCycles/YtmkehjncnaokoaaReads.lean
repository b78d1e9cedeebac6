/-
  How acts are read.
-/
import Derived.Test.YtmkehjncnaokoaaRead
import Derived.Test.YtmkehjncnaokoaaSa
namespace Go.Proofs.Ytmkehjncnaokoaa
open Go.ChangeShapes Go.WideShapes Go.ChangeAt Go.RowKit

theorem Try.struct47 : ∃ f0 f1 f2 f3, Try.prog.underlying 47 = some (.struct #[f0, f1, f2, f3]) ∧ f0.offset = 0 ∧ f1.offset = 1 ∧ f2.offset = 2 ∧ f3.offset = 3 ∧ f0.type = 3 ∧ f1.type = 3 ∧ f2.type = 3 ∧ f3.type = 3 :=
  ⟨_, _, _, _, Try.underlying47, rfl, rfl, rfl, rfl, rfl, rfl, rfl, rfl⟩

set_option maxRecDepth 100000 in
/-- What the cells of a slice of acts read as, and how many they are. -/
theorem read_acts0 {H : Type} {enc : TypeId × Value → H} {W : World} {fuel : Nat} {v : Value} {x : DataW H × List MemPlace} (hf : DataW.trod enc Try.prog W 0 (fun _ => true) true fuel 40 [v] = some x) (hw : ∀ n ∈ x.1.weights Try.prog 40, n ≤ reachBytes) : ∃ ps, IsL KA W v ps ∧ ps.length * 32 ≤ 140737488355328 := by
  have ce : Try.prog.cellsOf 47 = 4 := by kernel_rfl
  have be : Try.prog.bytesOf 47 = 32 := by kernel_rfl
  have c3 : Try.prog.cellsOf 3 = 1 := by kernel_rfl
  obtain ⟨f0, f1, f2, f3, hst, o0, o1, o2, o3, t0, t1, t2, t3⟩ := Try.struct47
  rcases DataW.trod_slice Try.underlying40 hf with ⟨hcs, hx⟩ | ⟨ad, l, c, elems, rest, m, _, hcs, hx, _, hl, hm, hlen, hel, hrest, _⟩
  · simp only [List.cons.injEq, and_true] at hcs
    subst hcs
    exact ⟨[], isl_nil _, Nat.zero_le _⟩
  · simp only [List.cons.injEq, and_true] at hcs
    subst hcs
    have each : ∀ i, i < l → ∃ q : Ac, ∀ j, j < 4 → W.cell? (ad.add (i * 4 + j)) = (KA.f q)[j]? := by
      intro i hi
      have h1 := hel i hi
      rw [ce, List.getElem?_eq_getElem (by omega)] at h1
      obtain ⟨cs', h2, h3⟩ := Option.bind_eq_some_iff.1 h1
      obtain ⟨_, hl2, hcell⟩ := World.cells?_some h2
      obtain ⟨xs, k, hk, hxy, _, hxl, hfl⟩ := DataW.trod_struct hst h3
      obtain ⟨v0, v1, v2, v3, rfl⟩ := list4 hl2
      obtain ⟨y0, y1, y2, y3, rfl⟩ := list4 hxl
      have g0 := hfl 0 f0 rfl
      have g1 := hfl 1 f1 rfl
      have g2 := hfl 2 f2 rfl
      have g3 := hfl 3 f3 rfl
      simp [o0, o1, o2, o3, t0, t1, t2, t3, c3] at g0 g1 g2 g3
      obtain ⟨z0, e0, _, _⟩ := DataW.trod_int Try.underlying3 g0
      obtain ⟨z1, e1, _, _⟩ := DataW.trod_int Try.underlying3 g1
      obtain ⟨z2, e2, _, _⟩ := DataW.trod_int Try.underlying3 g2
      obtain ⟨z3, e3, _, _⟩ := DataW.trod_int Try.underlying3 g3
      simp only [List.cons.injEq, and_true] at e0 e1 e2 e3
      subst e0 e1 e2 e3
      refine ⟨⟨z0, z1, z2, z3⟩, fun j hj => ?_⟩
      rw [← Go.Deep.add_add]
      exact hcell j hj
    obtain ⟨q, hq⟩ := @Go.Deep.choose_lt Ac ⟨ac0⟩ _ _ each
    have e : ((List.range l).map q).length = l := by simp
    have h1 := hw (elems.length * 32 + rest.length * 32) (by
      rw [hx]
      simp only [DataW.weights, Try.underlying40]
      refine List.mem_cons.2 (Or.inl ?_)
      simp [be]
      omega)
    unfold reachBytes at h1
    refine ⟨(List.range l).map q, ⟨⟨flat_length ka _, Or.inr ⟨ad, c, by rw [e], fun j u hj => ?_⟩⟩, fits_of hl⟩, by rw [e]; omega⟩
    have hj2 : j < l * 4 := by
      have := (List.getElem?_eq_some_iff.1 hj).1
      rw [flat_length ka, e] at this
      exact this
    have hdj : j / 4 < l := by omega
    have hmj : j % 4 < 4 := by omega
    have ej : j / 4 * 4 + j % 4 = j := by omega
    have g := flat_get ka ((List.range l).map q) (j / 4) (j % 4) (by omega) hmj
    have g' : (((List.range l).map q).flatMap KA.f)[j]? = (KA.f (q (j / 4)))[j % 4]? := by
      have e1 : j / 4 * KA.k + j % 4 = j := ej
      rw [e1] at g
      rw [g]
      congr 2
      simp [hdj]
    rw [hj] at g'
    have := hq (j / 4) hdj (j % 4) hmj
    rw [ej] at this
    rw [this, ← g']

set_option maxRecDepth 100000 in
theorem read_acts {H : Type} {enc : TypeId × Value → H} {W : World} {base : Nat} {v : Value} {d : DataW H} {p : List MemPlace} (hv : Value.okWide Try.prog W .any base 40 v) (h : DataW.Trod enc Try.prog W 0 (fun _ => true) true 40 v d p) (hw : ∀ n ∈ d.weights Try.prog 40, n ≤ reachBytes) :
    ∃ aa na ca acts, v = .slice aa na ca ∧ IsL KA W (.slice aa na ca) acts := by
  obtain ⟨a, l, c, rfl⟩ := okWide_slice Try.underlying40 hv
  obtain ⟨fuel, hf⟩ := h
  obtain ⟨ps, h1, _⟩ := read_acts0 hf hw
  exact ⟨a, l, c, ps, rfl, h1⟩
end Go.Proofs.Ytmkehjncnaokoaa
