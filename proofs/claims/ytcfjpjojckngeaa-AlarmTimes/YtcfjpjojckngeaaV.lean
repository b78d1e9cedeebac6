/-
  Heaps, on lists: one more, one less; what alarm.Check says of them.
-/
import Derived.Test.YtcfjpjojckngeaaU
namespace Go.Proofs.Ytcfjpjojckngeaa
open Go.RowKit

theorem tAt_append {ts : List Tm} {t : Tm} {j : Nat} : tAt (ts ++ [t]) j = if j = ts.length then t else tAt ts j := by
  by_cases e : j = ts.length
  · subst e
    simp [tAt]
  · rw [if_neg e]
    by_cases h : j < ts.length
    · simp [tAt, List.getElem?_append_left h]
    · have h1 : ts.length + 1 ≤ j := by omega
      have h2 : ts.length ≤ j := by omega
      simp [tAt, List.getElem?_eq_none h2, List.getElem?_eq_none (show (ts ++ [t]).length ≤ j by simpa using h1)]

/-- One more. -/
theorem add_heap {ts : List Tm} (h : IsHeap ts) (t : Tm) : IsHeap (riseL (ts ++ [t]) ts.length).1 := by
  refine rise_heap ts.length _ ts.length (Nat.le_refl _) (by simp) ⟨fun j h1 h2 h3 => ?_, fun j h1 h2 h3 h4 => ?_⟩
  · have h2' : j < ts.length := by simp at h2; omega
    rw [tAt_append, tAt_append, if_neg (by omega), if_neg h3]
    exact h j h1 h2'
  · simp at h2
    omega
theorem add_count (ts : List Tm) (t u : Tm) : (riseL (ts ++ [t]) ts.length).1.count u = (ts ++ [t]).count u := riseF_count u _ _ _ (by simp)

/-- One less. -/
theorem drop_heap_at {ts : List Tm} {n i : Nat} (hl : ts.length = n + 1) (hi : i ≤ n) (h : IsHeap ts) : IsHeap (dropL ts i) := by
  by_cases e : i = n
  · subst e
    rw [dropL_last hl]
    intro j h1 h2
    rw [List.length_take] at h2
    rw [tAt_take (by omega), tAt_take (by omega)]
    exact h j h1 (by omega)
  · have hin : i < n := by omega
    obtain ⟨us, hus⟩ : ∃ us, (ts.take n).set i (tAt ts n) = us := ⟨_, rfl⟩
    have hul : us.length = n := by rw [← hus, List.length_set, List.length_take]; omega
    have hat : ∀ j, j < n → tAt us j = if i = j then tAt ts n else tAt ts j := fun j hj => by
      rw [← hus, tAt_set (by rw [List.length_take]; omega), tAt_take hj]
    rw [dropL_in hl hin hus]
    by_cases hc : 0 < i ∧ (tAt us i).1 < (tAt us ((i - 1) / 4)).1
    · have hii := hat i hin
      rw [if_pos rfl] at hii
      have hip := hat ((i - 1) / 4) (by omega)
      rw [if_neg (by omega)] at hip
      have hne : (riseL us i).2 ≠ i := by
        rw [riseL, riseF_go hc hc.1 rfl]
        have := riseF_lt (i - 1) (swapT us i ((i - 1) / 4)) ((i - 1) / 4)
        omega
      rw [if_neg hne]
      have hold := h i hc.1 (by omega)
      refine rise_heap i us i (Nat.le_refl _) (by omega) ⟨fun j h1 h2 h3 => ?_, fun j h1 h2 h3 h4 => ?_⟩
      · rw [hul] at h2
        have hj := hat j h2
        rw [if_neg (fun e => h3 e.symm)] at hj
        have hp := hat ((j - 1) / 4) (by omega)
        have ho := h j h1 (by omega)
        by_cases e2 : i = (j - 1) / 4
        · rw [if_pos e2] at hp
          rw [hp, hj]
          rw [← e2] at ho
          rw [hii, hip] at hc
          omega
        · rw [if_neg e2] at hp
          rw [hp, hj]
          exact ho
      · rw [hul] at h2
        have hj := hat j h2
        rw [if_neg (by omega)] at hj
        rw [hip, hj]
        have ho := h j h1 (by omega)
        rw [h3] at ho
        omega
    · have hs : riseL us i = (us, i) := riseF_stop hc
      rw [hs]
      simp only [if_true]
      have := sink_heap 0 us.length us i (by omega) (by omega) ⟨fun j h1 h2 _ h4 => ?_, fun j h1 h2 h3 h4 _ => ?_⟩
      · exact fun j h1 h2 => this j h1 h2 (Nat.zero_le _)
      · rw [hul] at h2
        by_cases e2 : j = i
        · subst e2
          exact Int.not_lt.1 (fun h5 => hc ⟨h1, h5⟩)
        · have hj := hat j h2
          rw [if_neg (fun e => e2 e.symm)] at hj
          have hp := hat ((j - 1) / 4) (by omega)
          rw [if_neg (fun e => h4 e.symm)] at hp
          rw [hp, hj]
          exact h j h1 (by omega)
      · rw [hul] at h2
        have hj := hat j h2
        rw [if_neg (by omega)] at hj
        have hip := hat ((i - 1) / 4) (by omega)
        rw [if_neg (by omega)] at hip
        rw [hip, hj]
        have ho := h j h1 (by omega)
        have hold := h i h4 (by omega)
        rw [h3] at ho
        omega

theorem take_last {ts : List Tm} {n : Nat} (hl : ts.length = n + 1) : ts.take n ++ [tAt ts n] = ts := by
  have hn : n < ts.length := by omega
  rw [tAt_get hn, ← List.take_succ_eq_append_getElem hn, List.take_of_length_le (by omega)]
theorem drop_count {ts : List Tm} {n i : Nat} (hl : ts.length = n + 1) (hi : i ≤ n) (t : Tm) : (dropL ts i ++ [tAt ts i]).count t = ts.count t := by
  have htl := take_last hl
  have hc : ts.count t = (ts.take n).count t + (if tAt ts n = t then 1 else 0) := by
    conv => lhs; rw [← htl]
    rw [List.count_append, List.count_singleton]
    simp
  rw [List.count_append, List.count_singleton]
  by_cases e : i = n
  · subst e
    rw [dropL_last hl, hc]
    simp
  · have hin : i < n := by omega
    have hset := count_set (ts := ts.take n) (i := i) (a := tAt ts n) (t := t) (by rw [List.length_take]; omega)
    rw [tAt_take hin] at hset
    have hlen : ((ts.take n).set i (tAt ts n)).length = n := by rw [List.length_set, List.length_take]; omega
    have hd : (dropL ts i).count t = ((ts.take n).set i (tAt ts n)).count t := by
      rw [dropL_in hl hin rfl]
      have h1 := riseF_count t i ((ts.take n).set i (tAt ts n)) i (by omega)
      split
      · rw [sinkL, sinkF_count t _ _ _ (by rw [riseL, riseF_length, hlen]; exact hin)]
        exact h1
      · exact h1
    rw [hd, hc]
    by_cases e1 : tAt ts i = t <;> by_cases e2 : tAt ts n = t <;> simp [e1, e2] at hset ⊢ <;> omega

/-- What alarm.Check says nothing of. -/
theorem heapF_good {ts : List Tm} (hl : ts.length ≤ 5000) (hr : ∀ t, t ∈ ts → ¬ oor t) (h : IsHeap ts) : heapF ts = (0, 0) := by
  unfold heapF
  rw [if_neg (by omega)]
  refine firstFrom_all fun j _ hj => ?_
  have hj' : j < ts.length := by omega
  unfold heapW
  rw [if_neg (hr _ (by rw [tAt_get hj']; exact List.getElem_mem hj')), if_neg]
  rintro ⟨h1, h2⟩
  have := h j h1 hj'
  omega
theorem heapF_heap {ts : List Tm} (h : heapF ts = (0, 0)) : IsHeap ts ∧ ∀ j, j < ts.length → ¬ oor (tAt ts j) := by
  have hl := heapF_len h
  unfold heapF at h
  rw [if_neg (by omega)] at h
  have hall : ∀ j, j < ts.length → heapW ts j = 0 := fun j hj => firstFrom_each (by rw [h]) j (Nat.zero_le _) (by omega)
  constructor
  · intro j h1 h2
    have := hall j h2
    unfold heapW at this
    split at this
    · cases this
    · split at this
      · cases this
      · rename_i h3
        exact Int.not_lt.1 (fun h5 => h3 ⟨h1, h5⟩)
  · intro j hj
    have := hall j hj
    unfold heapW at this
    split at this
    · cases this
    · assumption
theorem mem_of_count {a b : List Tm} (h : ∀ t, a.count t = b.count t) {t : Tm} (ht : t ∈ a) : t ∈ b := List.count_pos_iff.1 (by rw [← h]; exact List.count_pos_iff.2 ht)
end Go.Proofs.Ytcfjpjojckngeaa
