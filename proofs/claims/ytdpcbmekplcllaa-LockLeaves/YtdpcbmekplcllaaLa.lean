/-
  taskmilllaw.LockLeaves: what lists want; where something is wrong; where many wait.
-/
import Derived.Test.YtdpcbmekplcllaaNd
import Derived.Test.YtdpcbmekplcllaaRb
import Derived.Test.YtdpcbmekplcllaaQ
import Derived.Test.YtdpcbmekplcllaaBe
namespace Go.Proofs.Ytdpcbmekplcllaa
open Go.RowKit

theorem IsL.take_to {α : Type} {K : Kind α} (hK : K.Ok) {w : World} {b off n c : Nat} {xs : List α} (h : IsL K w (.slice (some ⟨b, off, none⟩) n c) xs) {j : Nat} (hj : j ≤ n) : IsL K w (.slice (some ⟨b, off, none⟩) j c) (xs.take j) := by
  have hl := h.len
  have hc := h.fits
  by_cases h0 : 0 < xs.length
  · obtain ⟨b', off', c', hv, hb, hli⟩ := h.at hK h0
    cases hv
    refine Lies.isl hK (fun m i u hm hu => hli m i u (by rw [List.length_take] at hm; omega) ?_) (by rw [List.length_take]; omega) (by omega)
    rw [List.length_take] at hm
    rw [← hu]
    simp only [List.getD_eq_getElem?_getD, List.getElem?_take]
    rw [if_pos (by omega)]
  · have : j = 0 := by omega
    subst this
    exact IsL.none_left (by simp)
theorem IsL.keep2 {α : Type} {K : Kind α} (hK : K.Ok) {w w' : World} {v : Value} {xs : List α} (h : IsL K w v xs) (hk : 0 < xs.length → ∀ k, v.ownBlock = some k → w'.heap[k]? = w.heap[k]?) : IsL K w' v xs := by
  by_cases h0 : 0 < xs.length
  · exact h.keep hK (hk h0)
  · have e : xs = [] := List.eq_nil_of_length_eq_zero (by omega)
    subst e
    obtain ⟨a, c, rfl⟩ := h.form
    cases a with
    | none =>
      obtain ⟨⟨_, ⟨h1, _⟩ | ⟨ad, cap, h1, _⟩⟩, h2⟩ := h
      · cases h1
        exact isl_nil w'
      · cases h1
    | some ad => exact IsL.none_left rfl
theorem left_at {x : Int} {l : List Po} {j : Nat} (hj : j < l.length) (hx : (pAt l j).1 = x) (hd : (tasks l).Nodup) : leftL (isOfP x) l = l.take j ++ l.drop (j + 1) := by
  have e : l = l.take j ++ pAt l j :: l.drop (j + 1) := by rw [← drop_at hj, List.take_append_drop]
  have hd2 : (tasks (l.take j ++ pAt l j :: l.drop (j + 1))).Nodup := by rw [← e]; exact hd
  rw [tasks_append] at hd2
  obtain ⟨-, h2, h3⟩ := List.nodup_append.1 hd2
  have h4 : (pAt l j).1 ∉ tasks (l.drop (j + 1)) := (List.nodup_cons.1 h2).1
  have n1 : ∀ y ∈ l.take j, isOfP x y = false := fun y hy => by
    have := h3 y.1 (List.mem_map_of_mem hy) (pAt l j).1 List.mem_cons_self
    rw [hx] at this
    simpa [isOfP] using this
  have n2 : ∀ y ∈ l.drop (j + 1), isOfP x y = false := fun y hy => by
    rw [hx] at h4
    have : y.1 ≠ x := fun e2 => h4 (by rw [← e2]; exact List.mem_map_of_mem hy)
    simpa [isOfP] using this
  have hp : isOfP x (pAt l j) = true := by simp [isOfP, hx]
  unfold leftL
  rw [e]
  rw [List.filter_append, List.filter_cons_of_neg (by rw [hp]; simp), List.filter_eq_self.2 (fun y hy => by rw [n1 y hy]; rfl), List.filter_eq_self.2 (fun y hy => by rw [n2 y hy]; rfl)]
  rw [← e]
theorem new_block2 (w : World) (o0 o1 : Obj) : ((w.alloc o0).alloc o1).heap[w.heap.size + 1]? = some o1 := by
  have := new_block (w.alloc o0) o1
  rw [World.size_alloc] at this
  exact this
end Go.Proofs.Ytdpcbmekplcllaa
