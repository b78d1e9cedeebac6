/-
  How the arguments are read: a timer, a slice of timers.
-/
import Derived.Test.YtcfjpjojckngeaaA
import Derived.ProofKit
import Derived.Deep.Slices
import Derived.OpenShut
namespace Go.Proofs.Ytcfjpjojckngeaa
open Go.ChangeShapes Go.WideShapes Go.ChangeAt Go.RowKit

theorem list2 {α : Type} : ∀ {l : List α}, l.length = 2 → ∃ a b, l = [a, b]
  | [a, b], _ => ⟨a, b, rfl⟩

theorem read_timer {H : Type} {enc : TypeId × Value → H} {W : World} {base : Nat} {v : Value} {d : DataW H} {p : List MemPlace} (hv : Value.okWide Try.prog W .any base 24 v) (h : DataW.Trod enc Try.prog W 0 (fun _ => true) true 24 v d p) :
    ∃ x y, v = .agg #[.int .i64 x, .int .i64 y] := by
  obtain ⟨cs, rfl, hcs⟩ := okWide_struct Try.underlying24 hv
  obtain ⟨fuel, hf⟩ := h
  have c3 : Try.prog.cellsOf 3 = 1 := by kernel_rfl
  have c24 : Try.prog.cellsOf 24 = 2 := by kernel_rfl
  obtain ⟨y0, y1, n, hx, hlen, h0, h1⟩ := trod_struct2 Try.underlying24 hf
  have e : (Value.agg cs).cells.toList = cs.toList := rfl
  rw [e] at h0 h1
  obtain ⟨u, v, huv⟩ := list2 (l := cs.toList) (by rw [Array.length_toList, hcs, c24])
  rw [huv] at h0 h1
  simp only [c3] at h0 h1
  obtain ⟨z, hz, _, _⟩ := DataW.trod_int Try.underlying3 h0
  obtain ⟨z1, hz1, _, _⟩ := DataW.trod_int Try.underlying3 h1
  simp at hz hz1
  refine ⟨z, z1, ?_⟩
  have : cs = #[u, v] := by
    apply Array.toList_inj.1
    rw [huv]
  rw [this, hz, hz1]

theorem Try.struct24 : ∃ f0 f1, Try.prog.underlying 24 = some (.struct #[f0, f1]) ∧ f0.offset = 0 ∧ f1.offset = 1 ∧ f0.type = 3 ∧ f1.type = 3 :=
  ⟨_, _, Try.underlying24, rfl, rfl, rfl, rfl⟩

theorem read_ts {H : Type} {enc : TypeId × Value → H} {W : World} {base : Nat} {v : Value} {d : DataW H} {p : List MemPlace} (hv : Value.okWide Try.prog W .any base 22 v) (h : DataW.Trod enc Try.prog W 0 (fun _ => true) true 22 v d p) : ∃ ts, IsTs W v ts ∧ Fits v ∧ ts.length ≤ maxLen := by
  obtain ⟨a0, len, cap, rfl⟩ := okWide_slice Try.underlying22 hv
  obtain ⟨fuel, hf⟩ := h
  have ce : Try.prog.cellsOf 24 = 2 := by kernel_rfl
  have c3 : Try.prog.cellsOf 3 = 1 := by kernel_rfl
  obtain ⟨f0, f1, hst, o0, o1, t0, t1⟩ := Try.struct24
  rcases Go.Deep.open_slice Try.underlying22 hf with ⟨hcs, hx⟩ | ⟨x, l, c, m, n, D, Pl, hcs, _, hl, hm, hmm, hx, hel⟩
  · simp [Value.cells] at hcs
    obtain ⟨rfl, rfl, rfl⟩ := hcs
    exact ⟨[], ⟨rfl, Or.inl ⟨rfl, rfl⟩⟩, fun a n c e => by cases e; omega, Nat.zero_le _⟩
  · simp [Value.cells] at hcs
    obtain ⟨rfl, rfl, rfl⟩ := hcs
    have hmc : m = cap := by simpa using hmm
    have each : ∀ i, i < len → ∃ q : Tm, ∀ j, j < 2 → W.cell? (x.add (i * 2 + j)) = (tcell q)[j]? := by
      intro i hi
      obtain ⟨cs', h1, h2⟩ := hel i (by omega)
      rw [ce] at h1
      obtain ⟨_, hlen, hcell⟩ := World.cells?_some h1
      obtain ⟨xs, k, hk, hxy, _, hxl, hfl⟩ := DataW.trod_struct hst h2
      obtain ⟨y0, y1, rfl⟩ := list2 hxl
      obtain ⟨v0, v1, rfl⟩ := list2 hlen
      have g0 := hfl 0 f0 rfl
      have g1 := hfl 1 f1 rfl
      simp [o0, o1, t0, t1, c3] at g0 g1
      obtain ⟨z0, e0, _, _⟩ := DataW.trod_int Try.underlying3 g0
      obtain ⟨z1, e1, _, _⟩ := DataW.trod_int Try.underlying3 g1
      simp only [List.cons.injEq, and_true] at e0 e1
      subst e0 e1
      refine ⟨(z0, z1), fun j hj => ?_⟩
      rw [← Go.Deep.add_add]
      exact hcell j hj
    obtain ⟨q, hq⟩ := @Go.Deep.choose_lt Tm ⟨(0, 0)⟩ _ _ each
    have e : ((List.range len).map q).length = len := by simp
    refine ⟨(List.range len).map q, ⟨flat_length _, Or.inr ⟨x, cap, by rw [e], fun j u hj => ?_⟩⟩, fun a n c e => by cases e; exact hl, by omega⟩
    have hj2 : j < len * 2 := by
      have := (List.getElem?_eq_some_iff.1 hj).1
      rw [flat_length, e] at this
      exact this
    have hdj : j / 2 < len := by omega
    have eo : tAt ((List.range len).map q) (j / 2) = q (j / 2) := by simp [tAt, hdj]
    obtain ⟨g0, g1⟩ := flat_get ((List.range len).map q) (j / 2) (by omega)
    rw [eo] at g0 g1
    by_cases hr : j % 2 = 0
    · have ej : j / 2 * 2 = j := by omega
      have := hq (j / 2) hdj 0 (by decide)
      rw [Nat.add_zero, ej] at this
      rw [ej, hj] at g0
      rw [this, g0]
      rfl
    · have ej : j / 2 * 2 + 1 = j := by omega
      have := hq (j / 2) hdj 1 (by decide)
      rw [ej] at this
      rw [ej, hj] at g1
      rw [this, g1]
      rfl
end Go.Proofs.Ytcfjpjojckngeaa
