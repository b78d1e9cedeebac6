/-
  How the arguments are read: a slice of numbers, a slice of ops.
-/
import Derived.Test.YtpgokeogijpmaabDoorX
import Derived.ProofKit
import Derived.Deep.Slices
namespace Go.Proofs.YtpgokeogijpmaabDoor
open Go.ChangeShapes Go.WideShapes Go.ChangeAt Go.RowKit

/-- How many elements a datum has that is a slice. -/
def datumLen {H : Type} : DataW H → Nat
  | .slice es _ => es.length
  | _ => 0

theorem read_ints {H : Type} {enc : TypeId × Value → H} {W : World} {v : Value} {d : DataW H} {p : List MemPlace} (hf0 : ∃ a l c, v = .slice a l c) (h : DataW.Trod enc Tryd.prog W 0 (fun _ => true) true 22 v d p) : ∃ zs, IsInts W v zs ∧ zs.length = datumLen d ∧ zs.length ≤ maxLen := by
  obtain ⟨a0, len, cap, rfl⟩ := hf0
  obtain ⟨fuel, hf⟩ := h
  rcases open_ints Tryd.underlying22 Tryd.underlying3 (by kernel_rfl) hf with ⟨hcs, hx⟩ | ⟨x, l, c, zs, hcs, _, hl, hm, hz, hx, hcell, hwz⟩
  · simp [Value.cells] at hcs
    obtain ⟨rfl, rfl, rfl⟩ := hcs
    simp only [Prod.mk.injEq] at hx
    obtain ⟨rfl, _⟩ := hx
    exact ⟨[], ⟨rfl, Or.inl ⟨rfl, rfl⟩⟩, rfl, Nat.zero_le _⟩
  · simp [Value.cells] at hcs
    obtain ⟨rfl, rfl, rfl⟩ := hcs
    simp only [Prod.mk.injEq] at hx
    obtain ⟨rfl, _⟩ := hx
    have hzl : zs.length = cap := by simpa using hz
    have e : (zs.take len).length = len := by rw [List.length_take]; omega
    refine ⟨zs.take len, ⟨by simp, Or.inr ⟨x, cap, by rw [e], fun j u hj => ?_⟩⟩, ?_, by omega⟩
    · rw [List.getElem?_map] at hj
      by_cases hlt : j < len
      · rw [List.getElem?_take, if_pos hlt, List.getElem?_eq_getElem (by omega)] at hj
        simp only [Option.map_some, Option.some.injEq] at hj
        rw [hcell j (by omega), ← hj]
        simp [List.getElem?_eq_getElem (by omega : j < zs.length)]
      · rw [List.getElem?_take, if_neg hlt] at hj
        cases hj
    · simp [datumLen, lits]

theorem opsCells_range (q : Nat → Op4) (n : Nat) : opsCells ((List.range n).map q) = (List.range n).flatMap fun i => (q i).cells := by
  simp [opsCells, List.flatMap_map]

theorem Tryd.struct29 : ∃ f0 f1 f2 f3, Tryd.prog.underlying 29 = some (.struct #[f0, f1, f2, f3]) ∧ f0.offset = 0 ∧ f1.offset = 1 ∧ f2.offset = 2 ∧ f3.offset = 3 ∧ f0.type = 3 ∧ f1.type = 3 ∧ f2.type = 3 ∧ f3.type = 3 :=
  ⟨_, _, _, _, Tryd.underlying29, rfl, rfl, rfl, rfl, rfl, rfl, rfl, rfl⟩

theorem list4 {α : Type} : ∀ {l : List α}, l.length = 4 → ∃ a b c d, l = [a, b, c, d]
  | [a, b, c, d], _ => ⟨a, b, c, d, rfl⟩

theorem read_ops {H : Type} {enc : TypeId × Value → H} {W : World} {v : Value} {d : DataW H} {p : List MemPlace} (hf0 : ∃ a l c, v = .slice a l c) (h : DataW.Trod enc Tryd.prog W 0 (fun _ => true) true 27 v d p) : ∃ os, IsOps W v os ∧ os.length = datumLen d := by
  obtain ⟨a0, len, cap, rfl⟩ := hf0
  obtain ⟨fuel, hf⟩ := h
  have ce : Tryd.prog.cellsOf 29 = 4 := by kernel_rfl
  have c3 : Tryd.prog.cellsOf 3 = 1 := by kernel_rfl
  obtain ⟨f0, f1, f2, f3, hst, o0, o1, o2, o3, t0, t1, t2, t3⟩ := Tryd.struct29
  rcases Go.Deep.open_slice Tryd.underlying27 hf with ⟨hcs, hx⟩ | ⟨x, l, c, m, n, D, Pl, hcs, _, hl, hm, hmm, hx, hel⟩
  · simp [Value.cells] at hcs
    obtain ⟨rfl, rfl, rfl⟩ := hcs
    simp only [Prod.mk.injEq] at hx
    obtain ⟨rfl, _⟩ := hx
    exact ⟨[], ⟨rfl, Or.inl ⟨rfl, rfl⟩⟩, rfl⟩
  · simp [Value.cells] at hcs
    obtain ⟨rfl, rfl, rfl⟩ := hcs
    simp only [Prod.mk.injEq] at hx
    obtain ⟨rfl, _⟩ := hx
    have hmc : m = cap := by simpa using hmm
    have each : ∀ i, i < len → ∃ q : Op4, ∀ j, j < 4 → W.cell? (x.add (i * 4 + j)) = q.cells[j]? := by
      intro i hi
      obtain ⟨cs', h1, h2⟩ := hel i (by omega)
      rw [ce] at h1
      obtain ⟨_, hlen, hcell⟩ := World.cells?_some h1
      obtain ⟨xs, k, hk, hxy, _, hxl, hfl⟩ := DataW.trod_struct hst h2
      obtain ⟨y0, y1, y2, y3, rfl⟩ := list4 hxl
      obtain ⟨v0, v1, v2, v3, rfl⟩ := list4 hlen
      have g0 := hfl 0 f0 rfl
      have g1 := hfl 1 f1 rfl
      have g2 := hfl 2 f2 rfl
      have g3 := hfl 3 f3 rfl
      simp [o0, o1, o2, o3, t0, t1, t2, t3, c3] at g0 g1 g2 g3
      obtain ⟨z0, e0, _, _⟩ := DataW.trod_int Tryd.underlying3 g0
      obtain ⟨z1, e1, _, _⟩ := DataW.trod_int Tryd.underlying3 g1
      obtain ⟨z2, e2, _, _⟩ := DataW.trod_int Tryd.underlying3 g2
      obtain ⟨z3, e3, _, _⟩ := DataW.trod_int Tryd.underlying3 g3
      simp only [List.cons.injEq, and_true] at e0 e1 e2 e3
      subst e0 e1 e2 e3
      refine ⟨⟨z0, z1, z2, z3⟩, fun j hj => ?_⟩
      rw [← Go.Deep.add_add]
      exact hcell j hj
    obtain ⟨q, hq⟩ := @Go.Deep.choose_lt Op4 ⟨Op4.zero⟩ _ _ each
    have e : ((List.range len).map q).length = len := by simp
    refine ⟨(List.range len).map q, ⟨opsCells_length _, Or.inr ⟨x, cap, by rw [e], fun j u hj => ?_⟩⟩, by simp [datumLen]⟩
    have hj4 : j < len * 4 := by
      have := (List.getElem?_eq_some_iff.1 hj).1
      rw [opsCells_length, e] at this
      exact this
    have hdj : j / 4 < len := by omega
    have hmj : j % 4 < 4 := Nat.mod_lt _ (by decide)
    have ej : j / 4 * 4 + j % 4 = j := by omega
    have hg := opsCells_get ((List.range len).map q) (j / 4) (j % 4) (by omega) hmj
    rw [ej, hj] at hg
    have eo : opAtD ((List.range len).map q) (j / 4) = q (j / 4) := by simp [opAtD, hdj]
    rw [eo] at hg
    have := hq (j / 4) hdj (j % 4) hmj
    rw [ej] at this
    rw [this, ← hg]
end Go.Proofs.YtpgokeogijpmaabDoor
