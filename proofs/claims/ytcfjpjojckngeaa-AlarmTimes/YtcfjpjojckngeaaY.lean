/-
  What is due of a heap, on lists: it comes in the order of its times; none that is due is left; two steps of time are one.
-/
import Derived.Test.YtcfjpjojckngeaaW
namespace Go.Proofs.Ytcfjpjojckngeaa
open Go.RowKit

/-- The first of a heap is none's later. -/
theorem heap_first {ts : List Tm} (h : IsHeap ts) : ∀ (n j : Nat), j ≤ n → j < ts.length → (tAt ts 0).1 ≤ (tAt ts j).1
  | 0, j, h1, _ => by
    have : j = 0 := by omega
    subst this
    exact Int.le_refl _
  | n + 1, j, h1, h2 => by
    by_cases e : j = 0
    · subst e; exact Int.le_refl _
    · exact Int.le_trans (heap_first h n ((j - 1) / 4) (by omega) (by omega)) (h j (by omega) h2)

theorem dueF_more_fuel (now : Int) : ∀ (f g : Nat) (l d : List Tm), l.length ≤ f → l.length ≤ g → dueF now f l d = dueF now g l d
  | 0, g, l, d, h1, _ => by rw [dueF_stop (by omega), dueF_stop (by omega)]
  | f + 1, 0, l, d, _, h2 => by rw [dueF_stop (by omega), dueF_stop (by omega)]
  | f + 1, g + 1, l, d, h1, h2 => by
    by_cases hc : 0 < l.length ∧ (tAt l 0).1 ≤ now
    · obtain ⟨n, hn⟩ : ∃ n, l.length = n + 1 := ⟨l.length - 1, by omega⟩
      have hd := dropL_length hn (Nat.zero_le n)
      rw [dueF, dueF, if_pos hc, if_pos hc]
      exact dueF_more_fuel now f g _ _ (by omega) (by omega)
    · rw [dueF_stop hc, dueF_stop hc]

/-- Two steps of time are one. -/
theorem dueF_two {a b : Int} (hab : a ≤ b) : ∀ (f : Nat) (l d : List Tm), l.length ≤ f → dueF b (dueF a f l d).1.length (dueF a f l d).1 (dueF a f l d).2 = dueF b f l d
  | 0, l, d, h1 => by
    have e : ∀ (x : Int) (f : Nat), dueF x f l d = (l, d) := fun x f => dueF_stop (by omega)
    rw [e a, e b, e b]
  | f + 1, l, d, h1 => by
    by_cases hc : 0 < l.length ∧ (tAt l 0).1 ≤ a
    · obtain ⟨n, hn⟩ : ∃ n, l.length = n + 1 := ⟨l.length - 1, by omega⟩
      have hd := dropL_length hn (Nat.zero_le n)
      have hcb : 0 < l.length ∧ (tAt l 0).1 ≤ b := ⟨hc.1, Int.le_trans hc.2 hab⟩
      have e1 : dueF a (f + 1) l d = dueF a f (dropL l 0) (d ++ [tAt l 0]) := by rw [dueF, if_pos hc]
      have e2 : dueF b (f + 1) l d = dueF b f (dropL l 0) (d ++ [tAt l 0]) := by rw [dueF, if_pos hcb]
      rw [e1, e2]
      exact dueF_two hab f _ _ (by omega)
    · rw [dueF_stop (now := a) hc]
      exact dueF_more_fuel b _ _ _ _ (Nat.le_refl _) h1

theorem dueF_acc (now : Int) : ∀ (f : Nat) (l d : List Tm), dueF now f l d = ((dueF now f l []).1, d ++ (dueF now f l []).2)
  | 0, l, d => by simp [dueF]
  | f + 1, l, d => by
    by_cases hc : 0 < l.length ∧ (tAt l 0).1 ≤ now
    · rw [dueF, dueF, if_pos hc, if_pos hc, dueF_acc now f _ (d ++ [tAt l 0]), dueF_acc now f _ ([] ++ [tAt l 0])]
      simp
    · rw [dueF_stop hc, dueF_stop hc]
      simp
theorem dueL_two {a b : Int} (hab : a ≤ b) (l : List Tm) : (dueL (dueL l a).1 b).1 = (dueL l b).1 ∧ (dueL l a).2 ++ (dueL (dueL l a).1 b).2 = (dueL l b).2 := by
  have h := dueF_two hab l.length l [] (Nat.le_refl _)
  rw [dueF_acc b _ _ (dueF a l.length l []).2] at h
  unfold dueL
  rw [← h]
  exact ⟨rfl, rfl⟩

theorem dueF_count (now : Int) (t : Tm) : ∀ (f : Nat) (l d : List Tm), ((dueF now f l d).2 ++ (dueF now f l d).1).count t = (d ++ l).count t
  | 0, _, _ => rfl
  | f + 1, l, d => by
    by_cases hc : 0 < l.length ∧ (tAt l 0).1 ≤ now
    · obtain ⟨n, hn⟩ : ∃ n, l.length = n + 1 := ⟨l.length - 1, by omega⟩
      rw [dueF, if_pos hc, dueF_count now t f]
      have := drop_count hn (Nat.zero_le n) t
      simp only [List.count_append] at this ⊢
      omega
    · rw [dueF_stop hc]
theorem dueL_count (l : List Tm) (now : Int) (t : Tm) : ((dueL l now).2 ++ (dueL l now).1).count t = l.count t := dueF_count now t _ l []
theorem dueF_heap (now : Int) : ∀ (f : Nat) (l d : List Tm), IsHeap l → IsHeap (dueF now f l d).1
  | 0, _, _, h => h
  | f + 1, l, d, h => by
    by_cases hc : 0 < l.length ∧ (tAt l 0).1 ≤ now
    · obtain ⟨n, hn⟩ : ∃ n, l.length = n + 1 := ⟨l.length - 1, by omega⟩
      rw [dueF, if_pos hc]
      exact dueF_heap now f _ _ (drop_heap_at hn (Nat.zero_le n) h)
    · rw [dueF_stop hc]; exact h
theorem dueL_heap {l : List Tm} (h : IsHeap l) (now : Int) : IsHeap (dueL l now).1 := dueF_heap now _ l [] h
theorem dueF_end (now : Int) : ∀ (f : Nat) (l d : List Tm), l.length ≤ f → ¬ (0 < (dueF now f l d).1.length ∧ (tAt (dueF now f l d).1 0).1 ≤ now)
  | 0, l, d, h => by
    rw [dueF_stop (by omega)]
    rintro ⟨h1, _⟩
    have h2 : 0 < l.length := h1
    omega
  | f + 1, l, d, h => by
    by_cases hc : 0 < l.length ∧ (tAt l 0).1 ≤ now
    · obtain ⟨n, hn⟩ : ∃ n, l.length = n + 1 := ⟨l.length - 1, by omega⟩
      have hd := dropL_length hn (Nat.zero_le n)
      rw [dueF, if_pos hc]
      exact dueF_end now f _ _ (by omega)
    · rw [dueF_stop hc]; exact hc
/-- None that is due is left. -/
theorem dueL_none {l : List Tm} (h : IsHeap l) (now : Int) {j : Nat} (hj : j < (dueL l now).1.length) : now < (tAt (dueL l now).1 j).1 := by
  have h1 := dueF_end now l.length l [] (Nat.le_refl _)
  have h2 := heap_first (dueL_heap h now) j j (Nat.le_refl _) hj
  have h3 : 0 < (dueL l now).1.length := by omega
  have h4 : ¬ (tAt (dueL l now).1 0).1 ≤ now := fun h5 => h1 ⟨h3, h5⟩
  omega
/-- What is due comes in the order of its times. -/
structure Rising (now : Int) (l d : List Tm) : Prop where
  due : ∀ j, j < d.length → (tAt d j).1 ≤ now
  rise : ∀ j, j + 1 < d.length → (tAt d j).1 ≤ (tAt d (j + 1)).1
  left : 0 < d.length → ∀ t, t ∈ l → (tAt d (d.length - 1)).1 ≤ t.1
theorem dueF_rising (now : Int) : ∀ (f : Nat) (l d : List Tm), IsHeap l → Rising now l d → Rising now (dueF now f l d).1 (dueF now f l d).2
  | 0, _, _, _, h => h
  | f + 1, l, d, hh, h => by
    by_cases hc : 0 < l.length ∧ (tAt l 0).1 ≤ now
    · obtain ⟨n, hn⟩ : ∃ n, l.length = n + 1 := ⟨l.length - 1, by omega⟩
      have hm0 : tAt l 0 ∈ l := by rw [tAt_get hc.1]; exact List.getElem_mem hc.1
      have hmem : ∀ t, t ∈ dropL l 0 → t ∈ l := fun t ht => mem_of_count (drop_count hn (Nat.zero_le n)) (List.mem_append.2 (Or.inl ht))
      rw [dueF, if_pos hc]
      refine dueF_rising now f _ _ (drop_heap_at hn (Nat.zero_le n) hh) ⟨fun j hj => ?_, fun j hj => ?_, fun _ t ht => ?_⟩
      · rw [tAt_append]
        split
        · exact hc.2
        · exact h.due j (by rw [List.length_append, List.length_singleton] at hj; omega)
      · rw [List.length_append, List.length_singleton] at hj
        rw [tAt_append, tAt_append, if_neg (by omega)]
        split
        · rename_i e
          have e2 : j = d.length - 1 := by omega
          subst e2
          exact h.left (by omega) _ hm0
        · exact h.rise j (by omega)
      · have e : (d ++ [tAt l 0]).length - 1 = d.length := by simp
        rw [e, tAt_append, if_pos rfl]
        have hl := hmem t ht
        obtain ⟨k, hk, rfl⟩ := List.getElem_of_mem hl
        rw [← tAt_get hk]
        exact heap_first hh k k (Nat.le_refl _) hk
    · rw [dueF_stop hc]; exact h
theorem dueL_rising {l : List Tm} (h : IsHeap l) (now : Int) : Rising now (dueL l now).1 (dueL l now).2 :=
  dueF_rising now _ l [] h ⟨fun j hj => by simp at hj, fun j hj => by simp at hj, fun hj => by simp at hj⟩

/-- Nothing is wrong with what is left. -/
theorem dueL_good {l : List Tm} (h : heapF l = (0, 0)) (now : Int) : heapF (dueL l now).1 = (0, 0) := by
  obtain ⟨h1, h2⟩ := heapF_heap h
  have hl := heapF_len h
  have hc := dueL_count l now
  have hlen := dueF_length now l.length l []
  refine heapF_good ?_ (fun t ht => ?_) (dueL_heap h1 now)
  · show (dueF now l.length l []).1.length ≤ 5000
    simp at hlen
    omega
  · have hm : t ∈ l := mem_of_count hc (List.mem_append.2 (Or.inr ht))
    obtain ⟨k, hk, rfl⟩ := List.getElem_of_mem hm
    rw [← tAt_get hk]
    exact h2 k hk
end Go.Proofs.Ytcfjpjojckngeaa
