/-
  ring.Refill, of whatever comes in.
-/
import Derived.Test.YtcdnennfimbgoabSd
namespace Go.Proofs.Ytcdnennfimbgoab
open Go.RowKit

/-- How many tasks go from the queue into the ring. -/
def refillK (zs gs : List Int) (p : Int) : Nat := (min (min (min ((gs.length : Int) / p + 1) gs.length) 128) (256 - zs.length)).toNat

theorem refillK_eq {zs gs : List Int} {p : Int} (hp : 1 ≤ p) (hz : zs.length ≤ 256) : (refillK zs gs p : Int) = min (min (min ((gs.length : Int) / p + 1) gs.length) 128) (256 - zs.length) := by
  have d0 : (0 : Int) ≤ (gs.length : Int) / p := Int.ediv_nonneg (by omega) (by omega)
  unfold refillK
  omega
theorem refillK_le {zs gs : List Int} {p : Int} (hp : 1 ≤ p) (hz : zs.length ≤ 256) : refillK zs gs p ≤ gs.length ∧ refillK zs gs p ≤ 256 - zs.length := by
  have := refillK_eq (zs := zs) (gs := gs) hp hz
  omega

theorem refillF_ok {nx : Int} {zs gs : List Int} {p : Int} (h : (refillF nx zs gs p).1 = 0) : refillF nx zs gs p = (0, 0) ∧ ringF nx zs = (0, 0) ∧ globalF nx zs gs = (0, 0) ∧ 1 ≤ p ∧ p ≤ 64 := by
  by_cases h1 : (ringF nx zs).1 = 0
  · by_cases h2 : (globalF nx zs gs).1 = 0
    · by_cases h3 : p < 1 ∨ 64 < p
      · unfold refillF at h
        rw [if_neg (by simp [h1]), if_neg (by simp [h2]), if_pos h3] at h
        exact absurd h (by decide)
      · refine ⟨?_, ringF_zero h1, globalF_zero h2, by omega, by omega⟩
        unfold refillF
        rw [if_neg (by simp [h1]), if_neg (by simp [h2]), if_neg h3]
    · unfold refillF at h
      rw [if_neg (by simp [h1]), if_pos h2] at h
      exact absurd h h2
  · unfold refillF at h
    rw [if_pos h1] at h
    exact absurd h h1

theorem globalF_len {nx : Int} {zs gs : List Int} (h : globalF nx zs gs = (0, 0)) : gs.length ≤ 5000 := by
  apply Decidable.byContradiction
  intro h1
  unfold globalF at h
  rw [if_pos (by omega)] at h
  cases h

theorem refill_any (w : World) (nx : Int) (v : Value) (zs : List Int) (p : Int) (h : IsInts w v zs) (vg : Value) (gs : List Int) (hg : IsInts w vg gs) (hgf : Fits vg) (hform : vg = .slice none 0 0 ∨ ∃ gb go cg, vg = .slice (some ⟨gb, go, none⟩) gs.length cg) (hf : (refillF nx zs gs p).1 = 0) :
    Calls Try.prog 6 #[.agg #[.int .i64 nx, v], vg, .int .i64 p] w fun e w' => ∃ a1 c1 a2 c2, e = .returned (.tuple #[.agg #[.int .i64 nx, .slice a1 (zs.length + refillK zs gs p) c1], .slice a2 (gs.length - refillK zs gs p) c2, .agg #[.int .i64 0, .int .i64 0]]) ∧ Own w.heap.size w' (.slice a1 (zs.length + refillK zs gs p) c1) (zs ++ gs.take (refillK zs gs p)) ∧ Own w.heap.size w' (.slice a2 (gs.length - refillK zs gs p) c2) (gs.drop (refillK zs gs p)) ∧ Below w.heap.size w w' := by
  obtain ⟨e0, e1, e2, hp1, hp2⟩ := refillF_ok hf
  have hz := ringF_len e1
  have hl := globalF_len e2
  have hk := refillK_eq (zs := zs) (gs := gs) hp1 hz
  rcases hform with rfl | ⟨gb, go, cg, rfl⟩
  · have en : gs = [] := by
      obtain ⟨_, ⟨_, h0⟩ | ⟨_, _, h1, _⟩⟩ := hg
      · exact List.eq_nil_of_length_eq_zero h0
      · cases h1
    subst en
    have ek : refillK zs [] p = 0 := by have := (refillK_le (zs := zs) (gs := []) hp1 hz).1; simpa using this
    rw [ek, Nat.add_zero, List.take_zero, List.append_nil]
    exact refill_nil w nx v zs p h hz hp1 hp2 e0
  · exact refill_ok w nx v zs p h hz gb go cg gs hg (hgf _ _ _ rfl) hl hp1 hp2 e0 _ hk

theorem Own.form {base : Nat} {w : World} {v : Value} {zs : List Int} (h : Own base w v zs) : v = .slice none 0 0 ∨ ∃ gb go cg, v = .slice (some ⟨gb, go, none⟩) zs.length cg := by
  obtain ⟨_, ⟨h1, _⟩ | ⟨g, cap, cur, h1, _⟩⟩ := h
  · exact Or.inl h1
  · exact Or.inr ⟨g, 0, cap, h1⟩
end Go.Proofs.Ytcdnennfimbgoab
