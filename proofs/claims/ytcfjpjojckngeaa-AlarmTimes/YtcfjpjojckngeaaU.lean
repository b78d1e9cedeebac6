/-
  Heaps, on lists: what rises, sinks, is made or dropped keeps all timers, and leaves a heap.
-/
import Derived.Test.YtcfjpjojckngeaaT
namespace Go.Proofs.Ytcfjpjojckngeaa
open Go.RowKit

theorem tAt_set {ts : List Tm} {i j : Nat} {a : Tm} (hj : j < ts.length) : tAt (ts.set i a) j = if i = j then a else tAt ts j := by
  by_cases e : i = j
  · subst e
    simp [tAt, hj]
  · rw [if_neg e]
    simp [tAt, List.getElem?_set_ne e]
theorem tAt_swap {ts : List Tm} {i k j : Nat} (_hi : i < ts.length) (hj : j < ts.length) : tAt (swapT ts i k) j = if k = j then tAt ts i else if i = j then tAt ts k else tAt ts j := by
  unfold swapT
  rw [tAt_set (by rw [List.length_set]; exact hj)]
  by_cases e : k = j
  · rw [if_pos e, if_pos e]
  · rw [if_neg e, if_neg e, tAt_set hj]

theorem tAt_get {ts : List Tm} {j : Nat} (h : j < ts.length) : tAt ts j = ts[j] := by simp [tAt, h]

theorem count_set {ts : List Tm} {i : Nat} {a t : Tm} (hi : i < ts.length) : (ts.set i a).count t + (if tAt ts i = t then 1 else 0) = ts.count t + (if a = t then 1 else 0) := by
  induction ts generalizing i with
  | nil => simp at hi
  | cons x r ih =>
    cases i with
    | zero =>
      have e : tAt (x :: r) 0 = x := rfl
      rw [List.set_cons_zero, e, List.count_cons, List.count_cons]
      by_cases h1 : x = t <;> by_cases h2 : a = t <;> simp [h1, h2] <;> omega
    | succ i =>
      have e : tAt (x :: r) (i + 1) = tAt r i := rfl
      have := ih (i := i) (by simpa using hi)
      rw [List.set_cons_succ, e, List.count_cons, List.count_cons]
      omega
theorem swap_count {ts : List Tm} {i k : Nat} (hi : i < ts.length) (hk : k < ts.length) (t : Tm) : (swapT ts i k).count t = ts.count t := by
  unfold swapT
  have h1 := count_set (ts := ts) (i := i) (a := tAt ts k) (t := t) hi
  have h2 := count_set (ts := ts.set i (tAt ts k)) (i := k) (a := tAt ts i) (t := t) (by rw [List.length_set]; exact hk)
  rw [tAt_set hk] at h2
  by_cases e : i = k
  · subst e
    rw [if_pos rfl] at h2
    omega
  · rw [if_neg e] at h2
    omega

theorem riseF_count (t : Tm) : ∀ (f : Nat) (ts : List Tm) (i : Nat), i < ts.length → (riseF f ts i).1.count t = ts.count t
  | 0, _, _, _ => rfl
  | f + 1, ts, i, hi => by
    rw [riseF]
    split
    · rw [riseF_count t f _ _ (by rw [swapT_length]; omega), swap_count hi (by omega)]
    · rfl
theorem sinkF_count (t : Tm) : ∀ (f : Nat) (ts : List Tm) (i : Nat), i < ts.length → (sinkF f ts i).count t = ts.count t
  | 0, _, _, _ => rfl
  | f + 1, ts, i, hi => by
    rw [sinkF]
    split
    · rfl
    · rename_i h
      have hs : soonL ts i < ts.length := by
        rcases soonL_cases ts i with h1 | h1
        · exact absurd h1 h
        · exact h1.2.2
      rw [sinkF_count t f _ _ (by rw [swapT_length]; exact hs), swap_count hi hs]
theorem madeN_count (t : Tm) : ∀ (k : Nat) (ts : List Tm), k ≤ ts.length → (madeN k ts).count t = ts.count t
  | 0, _, _ => rfl
  | k + 1, ts, hk => by
    rw [madeN, madeN_count t k _ (by rw [sinkL_length]; omega), sinkL, sinkF_count t _ _ _ (by omega)]
theorem madeL_count (t : Tm) (ts : List Tm) : (madeL ts).count t = ts.count t := by
  unfold madeL
  by_cases h : 0 < ts.length
  · exact madeN_count t _ _ (by omega)
  · have e : ts = [] := List.eq_nil_of_length_eq_zero (by omega)
    subst e
    rfl

/-- None is sooner than the one above, of those whose one above is at lo or behind. -/
def HeapFrom (lo : Nat) (ts : List Tm) : Prop := ∀ j, 0 < j → j < ts.length → lo ≤ (j - 1) / 4 → (tAt ts ((j - 1) / 4)).1 ≤ (tAt ts j).1
def IsHeap (ts : List Tm) : Prop := ∀ j, 0 < j → j < ts.length → (tAt ts ((j - 1) / 4)).1 ≤ (tAt ts j).1

/-- A heap but for the timer at i, which is to rise. -/
structure RiseInv (ts : List Tm) (i : Nat) : Prop where
  others : ∀ j, 0 < j → j < ts.length → j ≠ i → (tAt ts ((j - 1) / 4)).1 ≤ (tAt ts j).1
  below : ∀ j, 0 < j → j < ts.length → (j - 1) / 4 = i → 0 < i → (tAt ts ((i - 1) / 4)).1 ≤ (tAt ts j).1

theorem rise_heap : ∀ (f : Nat) (ts : List Tm) (i : Nat), i ≤ f → i < ts.length → RiseInv ts i → IsHeap (riseF f ts i).1
  | 0, ts, i, hf, hi, h => fun j h1 h2 => h.others j h1 h2 (by omega)
  | f + 1, ts, i, hf, hi, h => by
    rw [riseF]
    split
    · rename_i hc
      obtain ⟨K, hK⟩ : ∃ K, (i - 1) / 4 = K := ⟨_, rfl⟩
      rw [hK] at hc ⊢
      have hKi : K < i := by omega
      refine rise_heap f _ K (by omega) (by rw [swapT_length]; omega) ⟨fun j h1 h2 h3 => ?_, fun j h1 h2 h3 h4 => ?_⟩
      · rw [swapT_length] at h2
        rw [tAt_swap hi (by omega), tAt_swap hi h2]
        by_cases e1 : i = j
        · subst e1
          rw [hK, if_pos rfl, if_neg (by omega), if_pos rfl]
          omega
        · rw [if_neg (show ¬ K = j by omega), if_neg e1]
          by_cases e2 : K = (j - 1) / 4
          · rw [if_pos e2]
            have := h.others j h1 h2 (by omega)
            rw [← e2] at this
            omega
          · rw [if_neg e2]
            by_cases e3 : i = (j - 1) / 4
            · rw [if_pos e3]
              have := h.below j h1 h2 e3.symm hc.1
              rw [hK] at this
              exact this
            · rw [if_neg e3]
              exact h.others j h1 h2 (by omega)
      · rw [swapT_length] at h2
        rw [tAt_swap hi (by omega), tAt_swap hi h2]
        rw [if_neg (show ¬ K = (K - 1) / 4 by omega), if_neg (show ¬ i = (K - 1) / 4 by omega), if_neg (show ¬ K = j by omega)]
        have hP := h.others K h4 (by omega) (by omega)
        by_cases e1 : i = j
        · rw [if_pos e1]; exact hP
        · rw [if_neg e1]
          have := h.others j h1 h2 (by omega)
          rw [h3] at this
          omega
    · rename_i hc
      intro j h1 h2
      by_cases e : j = i
      · subst e
        have : ¬ (tAt ts j).1 < (tAt ts ((j - 1) / 4)).1 := fun h5 => hc ⟨h1, h5⟩
        show (tAt ts ((j - 1) / 4)).1 ≤ (tAt ts j).1
        omega
      · exact h.others j h1 h2 e

theorem soonF_min (ts : List Tm) : ∀ (m k p : Nat), (tAt ts (soonF ts m k p)).1 ≤ (tAt ts p).1 ∧ ∀ c, k ≤ c → c < k + m → (tAt ts (soonF ts m k p)).1 ≤ (tAt ts c).1
  | 0, _, _ => ⟨Int.le_refl _, fun c h1 h2 => by omega⟩
  | m + 1, k, p => by
    rw [soonF]
    split
    · rename_i h
      obtain ⟨h1, h2⟩ := soonF_min ts m (k + 1) k
      refine ⟨by omega, fun c h3 h4 => ?_⟩
      by_cases e : c = k
      · subst e; exact h1
      · exact h2 c (by omega) (by omega)
    · rename_i h
      obtain ⟨h1, h2⟩ := soonF_min ts m (k + 1) p
      refine ⟨h1, fun c h3 h4 => ?_⟩
      by_cases e : c = k
      · subst e; omega
      · exact h2 c (by omega) (by omega)
theorem soonL_min {ts : List Tm} {i : Nat} : (tAt ts (soonL ts i)).1 ≤ (tAt ts i).1 ∧ ∀ c, 0 < c → c < ts.length → (c - 1) / 4 = i → (tAt ts (soonL ts i)).1 ≤ (tAt ts c).1 := by
  obtain ⟨h1, h2⟩ := soonF_min ts (min (4 * i + 5) ts.length - (4 * i + 1)) (4 * i + 1) i
  exact ⟨h1, fun c h3 h4 h5 => h2 c (by omega) (by omega)⟩

/-- A heap, from lo on, but for the timer at i, which is to sink. -/
structure SinkInv (lo : Nat) (ts : List Tm) (i : Nat) : Prop where
  others : ∀ j, 0 < j → j < ts.length → lo ≤ (j - 1) / 4 → (j - 1) / 4 ≠ i → (tAt ts ((j - 1) / 4)).1 ≤ (tAt ts j).1
  below : ∀ j, 0 < j → j < ts.length → (j - 1) / 4 = i → 0 < i → lo ≤ (i - 1) / 4 → (tAt ts ((i - 1) / 4)).1 ≤ (tAt ts j).1

theorem sink_heap (lo : Nat) : ∀ (f : Nat) (ts : List Tm) (i : Nat), ts.length ≤ i + f → i < ts.length → SinkInv lo ts i → HeapFrom lo (sinkF f ts i)
  | 0, ts, i, hf, hi, h => by omega
  | f + 1, ts, i, hf, hi, h => by
    rw [sinkF]
    obtain ⟨hm1, hm2⟩ := soonL_min (ts := ts) (i := i)
    split
    · rename_i hs
      rw [hs] at hm2
      intro j h1 h2 h3
      by_cases e : (j - 1) / 4 = i
      · rw [e]; exact hm2 j h1 h2 e
      · exact h.others j h1 h2 h3 e
    · rename_i hs
      have hcs := soonL_cases ts i
      obtain ⟨K, hK⟩ : ∃ K, soonL ts i = K := ⟨_, rfl⟩
      rw [hK] at hs hcs hm1 hm2 ⊢
      have hKn : K < ts.length := by omega
      have hiK : i < K := by omega
      have hKi : (K - 1) / 4 = i := by omega
      refine sink_heap lo f _ K (by rw [swapT_length]; omega) (by rw [swapT_length]; exact hKn) ⟨fun j h1 h2 h3 h4 => ?_, fun j h1 h2 h3 h4 h5 => ?_⟩
      · rw [swapT_length] at h2
        rw [tAt_swap hi (by omega), tAt_swap hi h2, if_neg (show ¬ K = (j - 1) / 4 by omega)]
        by_cases e1 : i = (j - 1) / 4
        · rw [if_pos e1]
          by_cases e2 : K = j
          · rw [if_pos e2]; exact hm1
          · rw [if_neg e2, if_neg (show ¬ i = j by omega)]
            exact hm2 j h1 h2 e1.symm
        · rw [if_neg e1]
          by_cases e2 : i = j
          · subst e2
            rw [if_neg (show ¬ K = i by omega), if_pos rfl]
            exact h.below K (by omega) hKn hKi h1 h3
          · rw [if_neg (show ¬ K = j by omega), if_neg e2]
            exact h.others j h1 h2 h3 (fun e => e1 e.symm)
      · rw [swapT_length] at h2
        rw [hKi, tAt_swap hi hi, tAt_swap hi h2, if_neg (show ¬ K = i by omega), if_pos rfl, if_neg (show ¬ K = j by omega), if_neg (show ¬ i = j by omega)]
        have := h.others j h1 h2 (by omega) (by omega)
        rw [h3] at this
        exact this

theorem made_heap : ∀ (k : Nat) (ts : List Tm), k ≤ ts.length → HeapFrom k ts → HeapFrom 0 (madeN k ts)
  | 0, _, _, h => h
  | k + 1, ts, hk, h => by
    rw [madeN]
    refine made_heap k _ (by rw [sinkL_length]; omega) (sink_heap k _ ts k (by omega) (by omega) ⟨fun j h1 h2 h3 h4 => h j h1 h2 (by omega), fun j h1 h2 h3 h4 h5 => by omega⟩)
theorem madeL_heap (ts : List Tm) : IsHeap (madeL ts) := by
  intro j h1 h2
  unfold madeL at h2 ⊢
  rw [madeN_length] at h2
  exact made_heap _ ts (by omega) (fun j h3 h4 h5 => by omega) j h1 (by rw [madeN_length]; exact h2) (Nat.zero_le _)
end Go.Proofs.Ytcfjpjojckngeaa
