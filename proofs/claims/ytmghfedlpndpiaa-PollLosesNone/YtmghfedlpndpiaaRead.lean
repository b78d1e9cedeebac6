/-
  How the arguments are read: numbers, descriptors.
-/
import Derived.Test.YtmghfedlpndpiaaE
import Derived.ProofKit
import Derived.Deep.Slices
import Derived.OpenShut
namespace Go.Proofs.Ytmghfedlpndpiaa
open Go.ChangeShapes Go.WideShapes Go.ChangeAt Go.RowKit

theorem list2 {α : Type} : ∀ {l : List α}, l.length = 2 → ∃ a b, l = [a, b]
  | [a, b], _ => ⟨a, b, rfl⟩
theorem list4 {α : Type} : ∀ {l : List α}, l.length = 4 → ∃ a b c d, l = [a, b, c, d]
  | [a, b, c, d], _ => ⟨a, b, c, d, rfl⟩
theorem list7 {α : Type} : ∀ {l : List α}, l.length = 7 → ∃ a b c d e f g, l = [a, b, c, d, e, f, g]
  | [a, b, c, d, e, f, g], _ => ⟨a, b, c, d, e, f, g, rfl⟩

theorem flat_ints (zs : List Int) : zs.flatMap KI.f = zs.map (Value.int .i64) := by
  induction zs with
  | nil => rfl
  | cons z r ih => rw [List.flatMap_cons, ih]; rfl

/-- What the cells of a slice of numbers read as, and how many they are. -/
theorem read_ints {H : Type} {enc : TypeId × Value → H} {W : World} {fuel : Nat} {v : Value} {x : DataW H × List MemPlace} (hf : DataW.trod enc Try.prog W 0 (fun _ => true) true fuel 37 [v] = some x) (hw : ∀ n ∈ x.1.weights Try.prog 37, n ≤ reachBytes) : ∃ zs, IsL KI W v zs ∧ zs.length * 8 ≤ 140737488355328 := by
  have b3 : Try.prog.bytesOf 3 = 8 := by kernel_rfl
  rcases open_ints Try.underlying37 Try.underlying3 (by kernel_rfl) hf with ⟨hcs, hx⟩ | ⟨ad, l, c, zs, hcs, _, hl, hm, hz, hx, hcell, hwz⟩
  · simp only [List.cons.injEq, and_true] at hcs
    subst hcs
    exact ⟨[], isl_nil _, Nat.zero_le _⟩
  · simp only [List.cons.injEq, and_true] at hcs
    subst hcs
    have hzl : zs.length = c := by simpa using hz
    have e : (zs.take l).length = l := by rw [List.length_take]; omega
    have h1 := hw ((zs.take l).length * 8 + (zs.drop l).length * 8) (by
      rw [hx]
      simp only [DataW.weights, Try.underlying37]
      refine List.mem_cons.2 (Or.inl ?_)
      simp [lits, b3]
      omega)
    unfold reachBytes at h1
    refine ⟨zs.take l, ⟨⟨by rw [flat_ints]; simp [KI], Or.inr ⟨ad, c, by rw [e], fun j u hj => ?_⟩⟩, fits_of hl⟩, by omega⟩
    rw [flat_ints, List.getElem?_map] at hj
    by_cases hlt : j < l
    · rw [List.getElem?_take, if_pos hlt, List.getElem?_eq_getElem (by omega)] at hj
      simp only [Option.map_some, Option.some.injEq] at hj
      rw [hcell j (by omega), ← hj]
      simp [List.getElem?_eq_getElem (by omega : j < zs.length)]
    · rw [List.getElem?_take, if_neg hlt] at hj
      cases hj

theorem read_slice {H : Type} {enc : TypeId × Value → H} {W : World} {base : Nat} {v : Value} {d : DataW H} {p : List MemPlace} (hv : Value.okWide Try.prog W .any base 37 v) (h : DataW.Trod enc Try.prog W 0 (fun _ => true) true 37 v d p) (hw : ∀ n ∈ d.weights Try.prog 37, n ≤ reachBytes) :
    ∃ zs, IsL KI W v zs ∧ zs.length * 8 ≤ 140737488355328 := by
  obtain ⟨a, l, c, rfl⟩ := okWide_slice Try.underlying37 hv
  obtain ⟨fuel, hf⟩ := h
  exact read_ints hf hw

theorem Try.struct25 : ∃ f0 f1 f2 f3, Try.prog.underlying 25 = some (.struct #[f0, f1, f2, f3]) ∧ f0.offset = 0 ∧ f1.offset = 1 ∧ f2.offset = 3 ∧ f3.offset = 5 ∧ f0.type = 4 ∧ f1.type = 22 ∧ f2.type = 23 ∧ f3.type = 23 :=
  ⟨_, _, _, _, Try.underlying25, rfl, rfl, rfl, rfl, rfl, rfl, rfl, rfl⟩

set_option maxRecDepth 100000 in
theorem read_two_ints {H : Type} {enc : TypeId × Value → H} {W : World} {fuel : Nat} {v0 v1 : Value} {x : DataW H × List MemPlace} (hf : DataW.trod enc Try.prog W 0 (fun _ => true) true fuel 23 [v0, v1] = some x) : ∃ a b : Int, v0 = .int .i64 a ∧ v1 = .int .i64 b := by
  have c3 : Try.prog.cellsOf 3 = 1 := by kernel_rfl
  have hu : Try.prog.underlying 23 = some (.array 2 3) := by kernel_rfl
  obtain ⟨xs, m, _, _, _, hl, hi⟩ := DataW.trod_array hu hf
  obtain ⟨y0, y1, rfl⟩ := list2 hl
  have g0 := hi 0 (by omega)
  have g1 := hi 1 (by omega)
  simp [c3] at g0 g1
  obtain ⟨z0, e0, _, _⟩ := DataW.trod_int Try.underlying3 g0
  obtain ⟨z1, e1, _, _⟩ := DataW.trod_int Try.underlying3 g1
  simp only [List.cons.injEq, and_true] at e0 e1
  exact ⟨z0, z1, e0, e1⟩

set_option maxRecDepth 100000 in
theorem read_two_bools {H : Type} {enc : TypeId × Value → H} {W : World} {fuel : Nat} {v0 v1 : Value} {x : DataW H × List MemPlace} (hf : DataW.trod enc Try.prog W 0 (fun _ => true) true fuel 22 [v0, v1] = some x) : ∃ a b : Bool, v0 = .bool a ∧ v1 = .bool b := by
  have c4 : Try.prog.cellsOf 4 = 1 := by kernel_rfl
  have hu : Try.prog.underlying 22 = some (.array 2 4) := by kernel_rfl
  obtain ⟨xs, m, _, _, _, hl, hi⟩ := DataW.trod_array hu hf
  obtain ⟨y0, y1, rfl⟩ := list2 hl
  have g0 := hi 0 (by omega)
  have g1 := hi 1 (by omega)
  simp [c4] at g0 g1
  obtain ⟨z0, e0, _⟩ := DataW.trod_bool Try.underlying4 g0
  obtain ⟨z1, e1, _⟩ := DataW.trod_bool Try.underlying4 g1
  simp only [List.cons.injEq, and_true] at e0 e1
  exact ⟨z0, z1, e0, e1⟩

set_option maxRecDepth 100000 in
theorem read_desc {H : Type} {enc : TypeId × Value → H} {W : World} {base : Nat} {v : Value} {d : DataW H} {p : List MemPlace} (hv : Value.okWide Try.prog W .any base 25 v) (h : DataW.Trod enc Try.prog W 0 (fun _ => true) true 25 v d p) :
    ∃ (c r0 r1 : Bool) (t0 t1 u0 u1 : Int), v = .agg #[.bool c, .bool r0, .bool r1, .int .i64 t0, .int .i64 t1, .int .i64 u0, .int .i64 u1] := by
  obtain ⟨cs, rfl, hcs⟩ := okWide_struct Try.underlying25 hv
  obtain ⟨fuel, hf⟩ := h
  have c4 : Try.prog.cellsOf 4 = 1 := by kernel_rfl
  have c22 : Try.prog.cellsOf 22 = 2 := by kernel_rfl
  have c23 : Try.prog.cellsOf 23 = 2 := by kernel_rfl
  have c25 : Try.prog.cellsOf 25 = 7 := by kernel_rfl
  obtain ⟨f0, f1, f2, f3, hst, o0, o1, o2, o3, t0, t1, t2, t3⟩ := Try.struct25
  obtain ⟨xs, k, hk, hxy, _, hxl, hfl⟩ := DataW.trod_struct hst hf
  have e : (Value.agg cs).cells.toList = cs.toList := rfl
  rw [e] at hfl
  obtain ⟨v0, v1, v2, v3, v4, v5, v6, hcv⟩ := list7 (l := cs.toList) (by rw [Array.length_toList, hcs, c25])
  rw [hcv] at hfl
  obtain ⟨y0, y1, y2, y3, rfl⟩ := list4 hxl
  have g0 := hfl 0 f0 rfl
  have g1 := hfl 1 f1 rfl
  have g2 := hfl 2 f2 rfl
  have g3 := hfl 3 f3 rfl
  simp [o0, o1, o2, o3, t0, t1, t2, t3, c4, c22, c23] at g0 g1 g2 g3
  obtain ⟨z0, e0, _⟩ := DataW.trod_bool Try.underlying4 g0
  simp only [List.cons.injEq, and_true] at e0
  obtain ⟨z1, z2, e1, e2⟩ := read_two_bools g1
  obtain ⟨z3, z4, e3, e4⟩ := read_two_ints g2
  obtain ⟨z5, z6, e5, e6⟩ := read_two_ints g3
  have hcs2 : cs = #[v0, v1, v2, v3, v4, v5, v6] := by
    apply Array.toList_inj.1
    rw [hcv]
  refine ⟨z0, z1, z2, z3, z4, z5, z6, ?_⟩
  rw [hcs2, e0, e1, e2, e3, e4, e5, e6]
end Go.Proofs.Ytmghfedlpndpiaa
