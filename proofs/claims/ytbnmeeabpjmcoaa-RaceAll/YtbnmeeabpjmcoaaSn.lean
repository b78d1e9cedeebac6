/-
  Rows of numbers of which two change places.
-/
import Derived.Test.YtbnmeeabpjmcoaaSm
import Derived.Test.YtbnmeeabpjmcoaaLi
import Derived.Test.YtbnmeeabpjmcoaaLv
namespace Go.Proofs.Ytbnmeeabpjmcoaa
open Go.RowKit

theorem isl_aside {w : World} {G j b c m : Nat} {v : Value} {xs : List Int} (hb : b ≠ G) (hm : 0 < m) (h : IsL KI w (.slice (some ⟨b, 0, none⟩) m c) xs) : IsL KI (w.setCell ⟨G, j, none⟩ v) (.slice (some ⟨b, 0, none⟩) m c) xs := by
  have hln := h.len
  obtain ⟨b2, o2, e2, _, hli⟩ := h.opens ki hln hm
  cases e2
  exact (hli.keep (Below.heap_setCell _ _ _ _ (by simpa using hb))).isl ki hln h.fits
theorem Rows2.putAt {lo : Nat} {w : World} {G n m j b c : Nat} {f f' : Nat → List Int} (h : Rows2 lo w G n f m n) (hj : j < n) (hb : b ≠ G) (hl : b < w.heap.size) (hlo : lo ≤ b) (hr : IsL KI w (.slice (some ⟨b, 0, none⟩) m c) (f' j)) (hm : 0 < m) (hf : ∀ k, k < n → k ≠ j → f' k = f k) : Rows2 lo (w.setCell ⟨G, j, none⟩ (.slice (some ⟨b, 0, none⟩) m c)) G n f' m n := by
  have hth := World.there_setCells h.there G j [.slice (some ⟨b, 0, none⟩) m c]
  have hset : w.setCells G j [.slice (some ⟨b, 0, none⟩) m c] = w.setCell ⟨G, j, none⟩ (.slice (some ⟨b, 0, none⟩) m c) := rfl
  rw [hset] at hth
  refine ⟨hth, by simpa [World.setCell] using h.lt, fun i hi => ?_⟩
  by_cases e : i = j
  · subst e
    have h1 := h.there i hj
    rw [Nat.zero_add] at h1
    refine ⟨b, c, ?_, hb, by simpa [World.setCell] using hl, hlo, isl_aside hb hm hr⟩
    have hth1 : w.there G i [Value.slice (some ⟨b, 0, none⟩) m c].length := fun k hk => by
      have hk0 : k = 0 := by simpa using hk
      subst hk0
      exact h1
    have := World.rangeAt_setCells_same w G i [.slice (some ⟨b, 0, none⟩) m c] hth1 0 _ rfl
    exact this
  · obtain ⟨b', c', h1, h2, h3, h5, h4⟩ := h.row i hi
    have := World.rangeAt_setCells_apart (w := w) (b' := G) (o' := i) (cs := [.slice (some ⟨b', 0, none⟩) m c']) (fun k v hv => by
      have hk : k = 0 := by have := (List.getElem?_eq_some_iff.1 hv).1; simpa using this
      subst hk
      simp at hv
      subst hv
      exact h1) G j [.slice (some ⟨b, 0, none⟩) m c] (by
        rcases Nat.lt_or_gt_of_ne e with h | h
        · exact Or.inr (Or.inl (by simp; omega))
        · exact Or.inr (Or.inr (by simp; omega))) 0 _ rfl
    exact ⟨b', c', this, h2, by simpa [World.setCell] using h3, h5, by rw [hf i hi e]; exact isl_aside h2 hm h4⟩
/-- Two rows change places: the cells that are read, and what is there then. -/
theorem Rows2.swap {lo : Nat} {w : World} {G n m i j : Nat} {f f' : Nat → List Int} (h : Rows2 lo w G n f m n) (hi : i < n) (hj : j < n) (hne : i ≠ j) (hm : 0 < m) (hfi : f' i = f j) (hfj : f' j = f i) (hf : ∀ k, k < n → k ≠ i → k ≠ j → f' k = f k) :
    ∃ vi vj : Value, w.cell? ⟨G, i, none⟩ = some vi ∧ w.cell? ⟨G, j, none⟩ = some vj ∧ (∃ a x c, vi = .slice a x c) ∧ (∃ a x c, vj = .slice a x c) ∧ Rows2 lo ((w.setCell ⟨G, i, none⟩ vj).setCell ⟨G, j, none⟩ vi) G n f' m n := by
  obtain ⟨bi, ci, h1, h2, h3, h5, h4⟩ := h.row i hi
  obtain ⟨bj, cj, k1, k2, k3, k5, k4⟩ := h.row j hj
  refine ⟨_, _, h1, k1, ⟨_, _, _, rfl⟩, ⟨_, _, _, rfl⟩, ?_⟩
  have hA : Rows2 lo (w.setCell ⟨G, i, none⟩ (.slice (some ⟨bj, 0, none⟩) m cj)) G n (fun k => if k = i then f j else f k) m n := h.putAt hi k2 k3 k5 (by simpa using k4) hm (fun k _ hk => by simp [hk])
  refine hA.putAt hj h2 (by simpa [World.setCell] using h3) h5 (by rw [hfj]; exact isl_aside h2 hm h4) hm (fun k hk hkj => ?_)
  by_cases e : k = i
  · subst e; simp [hfi]
  · simp [e, hf k hk e hkj]
end Go.Proofs.Ytbnmeeabpjmcoaa
