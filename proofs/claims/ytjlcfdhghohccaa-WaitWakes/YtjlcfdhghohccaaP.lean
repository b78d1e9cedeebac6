/-
  Lines with which nothing is wrong; lines with other tasks at an address.
-/
import Derived.Test.YtjlcfdhghohccaaO
namespace Go.Proofs.Ytjlcfdhghohccaa
open Go.RowKit

theorem tasksC_zero : ∀ (had T : List Int), tasksC had T = 0 ↔ (∀ t ∈ T, 1 ≤ t) ∧ (∀ t ∈ T, t ∉ had) ∧ T.Nodup
  | had, [] => by simp [tasksC]
  | had, t :: r => by
    rw [tasksC]
    have ih := tasksC_zero (had ++ [t]) r
    by_cases h1 : t < 1
    · rw [if_pos h1]
      constructor
      · intro h; cases h
      · rintro ⟨h, _⟩
        have := h t (by simp)
        omega
    · rw [if_neg h1]
      by_cases h2 : had.contains t = true
      · rw [if_pos h2]
        rw [List.contains_iff_mem] at h2
        constructor
        · intro h; cases h
        · rintro ⟨_, h, _⟩
          exact absurd h2 (h t (by simp))
      · rw [if_neg h2, ih]
        rw [List.contains_iff_mem] at h2
        constructor
        · rintro ⟨h3, h4, h5⟩
          refine ⟨fun u hu => ?_, fun u hu => ?_, ?_⟩
          · rcases List.mem_cons.1 hu with rfl | hu
            · omega
            · exact h3 u hu
          · rcases List.mem_cons.1 hu with rfl | hu
            · exact h2
            · exact fun hh => h4 u hu (List.mem_append.2 (Or.inl hh))
          · rw [List.nodup_cons]
            exact ⟨fun hh => h4 t hh (by simp), h5⟩
        · rintro ⟨h3, h4, h5⟩
          rw [List.nodup_cons] at h5
          refine ⟨fun u hu => h3 u (List.mem_cons_of_mem _ hu), fun u hu hh => ?_, h5.2⟩
          rcases List.mem_append.1 hh with hh | hh
          · exact h4 u (List.mem_cons_of_mem _ hu) hh
          · rw [List.mem_singleton] at hh
            subst hh
            exact h5.1 hu

/-- Lines with which nothing is wrong. -/
structure Good (ls : List Ln) : Prop where
  len : ls.length ≤ 5000
  few : (waitL ls).length ≤ 5000
  rise : Rises ls
  full : ∀ j, j < ls.length → (lAt ls j).2 ≠ []
  ones : ∀ t ∈ waitL ls, 1 ≤ t
  nodup : (waitL ls).Nodup

theorem good_of {ls : List Ln} (h : linesF ls = (0, 0)) : Good ls := by
  unfold linesF at h
  by_cases h1 : 5000 < ls.length
  · rw [if_pos h1] at h; cases h
  · rw [if_neg h1] at h
    have hall : ∀ j, j < ls.length → lineC ls j = 0 := fun j hj => firstFrom_each (by rw [h]) j (Nat.zero_le _) (by omega)
    have hw : ∀ j, j < ls.length → (waitL (ls.take (j + 1))).length ≤ 5000 ∧ (lAt ls j).2 ≠ [] ∧ (0 < j → (lAt ls (j - 1)).1 < (lAt ls j).1) ∧ tasksC (waitL (ls.take j)) (lAt ls j).2 = 0 := fun j hj => by
      have := hall j hj
      unfold lineC at this
      rw [waitL_take hj, List.length_append]
      split at this
      · cases this
      · split at this
        · cases this
        · rename_i h2 h3
          refine ⟨by omega, fun e => h3 (Or.inl e), fun h4 => ?_, this⟩
          exact Int.not_le.1 fun h5 => h3 (Or.inr ⟨h4, h5⟩)
    have hk : ∀ j, j ≤ ls.length → (waitL (ls.take j)).length ≤ 5000 ∧ (∀ t ∈ waitL (ls.take j), 1 ≤ t) ∧ (waitL (ls.take j)).Nodup := by
      intro j
      induction j with
      | zero => intro _; simp [waitL]
      | succ j ih =>
        intro hj
        obtain ⟨_, h3, h4⟩ := ih (by omega)
        obtain ⟨h5, _, _, h6⟩ := hw j (by omega)
        rw [tasksC_zero] at h6
        refine ⟨h5, ?_, ?_⟩
        · intro t ht
          rw [waitL_take (by omega), List.mem_append] at ht
          rcases ht with ht | ht
          · exact h3 t ht
          · exact h6.1 t ht
        · rw [waitL_take (by omega), List.nodup_append]
          exact ⟨h4, h6.2.2, fun a ha b hb e => by subst e; exact h6.2.1 _ hb ha⟩
    have hend := hk ls.length (Nat.le_refl _)
    rw [List.take_of_length_le (Nat.le_refl _)] at hend
    refine ⟨by omega, hend.1, fun i j hij hj => ?_, fun j hj => (hw j hj).2.1, hend.2.1, hend.2.2⟩
    induction j with
    | zero => omega
    | succ j ih =>
      have h2 := (hw (j + 1) hj).2.2.1 (by omega)
      rw [Nat.add_sub_cancel] at h2
      by_cases e : i = j
      · subst e; exact h2
      · exact Int.lt_trans (ih (by omega) (by omega)) h2
theorem good_to {ls : List Ln} (h : Good ls) : linesF ls = (0, 0) := by
  unfold linesF
  rw [if_neg (by have := h.len; omega)]
  refine firstFrom_all fun j _ hj => ?_
  have hj' : j < ls.length := by omega
  have h1 := waitL_take_le ls (j + 1)
  rw [waitL_take hj', List.length_append] at h1
  have h2 := h.few
  unfold lineC
  rw [if_neg (by omega), if_neg, tasksC_zero]
  · have hsub : ∀ t, t ∈ waitL (ls.take (j + 1)) → t ∈ waitL ls := fun t ht => by
      have := waitL_append (ls.take (j + 1)) (ls.drop (j + 1))
      rw [List.take_append_drop] at this
      rw [this]
      exact List.mem_append_left _ ht
    have hnd : (waitL (ls.take (j + 1))).Nodup := by
      have := waitL_append (ls.take (j + 1)) (ls.drop (j + 1))
      rw [List.take_append_drop] at this
      have hn := h.nodup
      rw [this, List.nodup_append] at hn
      exact hn.1
    rw [waitL_take hj', List.nodup_append] at hnd
    refine ⟨fun t ht => h.ones t (hsub t (by rw [waitL_take hj']; exact List.mem_append_right _ ht)), fun t ht hh => ?_, hnd.2.1⟩
    exact hnd.2.2 t hh t ht rfl
  · rintro (e | ⟨h3, h4⟩)
    · exact h.full j hj' e
    · have := h.rise (j - 1) j (by omega) hj'
      omega
theorem linesF_zero {ls : List Ln} (h : (linesF ls).1 = 0) : linesF ls = (0, 0) := by
  unfold linesF at h ⊢
  split
  · rename_i h1; rw [if_pos h1] at h; cases h
  · rename_i h1; rw [if_neg h1] at h; exact firstFrom_zero h

/-- Where the lines rise, an address stands at one place alone. -/
theorem Rises.posL {ls : List Ln} (h : Rises ls) {i : Nat} (hi : i < ls.length) : posL (lAt ls i).1 ls = i := posL_of (by omega) (fun k hk => h k i hk hi) (fun _ => Int.le_refl _)
theorem Rises.there {ls : List Ln} (h : Rises ls) {i : Nat} (hi : i < ls.length) : thereL (lAt ls i).1 ls = true := by
  unfold thereL
  rw [h.posL hi]
  simp [hi]
theorem Rises.tasks {ls : List Ln} (h : Rises ls) {i : Nat} (hi : i < ls.length) : tasksL (lAt ls i).1 ls = (lAt ls i).2 := by
  unfold tasksL
  rw [h.there hi, h.posL hi, if_pos rfl]
theorem there_iff {x : Int} {ls : List Ln} : thereL x ls = true ↔ Go.Proofs.Ytjlcfdhghohccaa.posL x ls < ls.length ∧ (lAt ls (Go.Proofs.Ytjlcfdhghohccaa.posL x ls)).1 = x := by
  unfold thereL
  simp
/-- What is ahead lies lower; what is behind lies higher. -/
theorem setL_ahead {x : Int} {ls : List Ln} {j : Nat} (hj : j < posL x ls) : (lAt ls j).1 < x := posL_low x ls j hj
theorem setL_behind {x : Int} {ls : List Ln} (h : Rises ls) {j : Nat} (hj : posL x ls + (if thereL x ls = true then 1 else 0) ≤ j) (hl : j < ls.length) : x < (lAt ls j).1 := by
  have hp := posL_here x ls (by omega)
  by_cases ht : thereL x ls = true
  · rw [if_pos ht] at hj
    have := h (posL x ls) j (by omega) hl
    omega
  · rw [if_neg ht] at hj
    have hne : (lAt ls (posL x ls)).1 ≠ x := fun e => ht (there_iff.2 ⟨by omega, e⟩)
    by_cases e : posL x ls = j
    · rw [← e]; omega
    · have := h (posL x ls) j (by omega) hl
      omega
theorem atL_tasks {x : Int} {ls : List Ln} (h : Rises ls) : atL x ls = tasksL x ls := by
  unfold tasksL
  by_cases ht : thereL x ls = true
  · rw [if_pos ht]
    have := there_iff.1 ht
    exact atL_at this.1 this.2 fun i hi => by have := posL_low x ls i hi; omega
  · rw [if_neg ht]
    refine atL_none fun j hj e => ?_
    rcases Nat.lt_or_ge j (posL x ls) with h1 | h1
    · have := posL_low x ls j h1
      omega
    · have := setL_behind h (x := x) (j := j) (by rw [if_neg ht]; exact h1) hj
      omega

/-- The parts of setL. -/
def aheadL (x : Int) (ls : List Ln) : List Ln := ls.take (posL x ls)
def behindL (x : Int) (ls : List Ln) : List Ln := ls.drop (posL x ls + if thereL x ls = true then 1 else 0)
theorem setL_eq (x : Int) (zs : List Int) (ls : List Ln) : setL x zs ls = aheadL x ls ++ ((if zs = [] then [] else [(x, zs)]) ++ behindL x ls) := rfl
theorem aheadL_low {x : Int} {ls : List Ln} : ∀ l ∈ aheadL x ls, l.1 < x := fun l hl => by
  obtain ⟨j, hj, rfl⟩ := List.getElem_of_mem hl
  unfold aheadL at hj ⊢
  rw [List.length_take] at hj
  rw [List.getElem_take, ← lAt_get]
  exact posL_low x ls j (by omega)
theorem behindL_high {x : Int} {ls : List Ln} (h : Rises ls) : ∀ l ∈ behindL x ls, x < l.1 := fun l hl => by
  obtain ⟨j, hj, rfl⟩ := List.getElem_of_mem hl
  unfold behindL at hj ⊢
  rw [List.length_drop] at hj
  rw [List.getElem_drop, ← lAt_get]
  exact setL_behind h (by omega) (by omega)
/-- Rising, by pairs. -/
theorem rises_iff {ls : List Ln} : Rises ls ↔ ls.Pairwise (fun a b => a.1 < b.1) := by
  rw [List.pairwise_iff_getElem]
  constructor
  · intro h i j hi hj hij
    have := h i j hij hj
    rw [lAt_get hi, lAt_get hj] at this
    exact this
  · intro h i j hij hj
    have := h i j (by omega) hj hij
    rw [lAt_get (by omega), lAt_get hj]
    exact this
theorem parts_eq {x : Int} {ls : List Ln} : ls = aheadL x ls ++ ((if thereL x ls = true then [(x, tasksL x ls)] else []) ++ behindL x ls) := by
  unfold aheadL behindL tasksL
  by_cases ht : thereL x ls = true
  · have h := there_iff.1 ht
    simp only [ht, if_true]
    have e : (x, (lAt ls (posL x ls)).2) = lAt ls (posL x ls) := Prod.ext h.2.symm rfl
    rw [e, ← List.append_assoc, ← take_next h.1, List.take_append_drop]
  · simp [ht]
theorem setL_rises {x : Int} {zs : List Int} {ls : List Ln} (h : Rises ls) : Rises (setL x zs ls) := by
  rw [setL_eq]
  have hp := rises_iff.1 h
  rw [parts_eq (x := x) (ls := ls)] at hp
  rw [rises_iff]
  rw [List.pairwise_append, List.pairwise_append] at hp ⊢
  refine ⟨hp.1, ⟨?_, hp.2.1.2.1, fun a ha b hb => ?_⟩, fun a ha b hb => ?_⟩
  · split <;> simp
  · split at ha
    · simp at ha
    · rw [List.mem_singleton] at ha
      subst ha
      exact behindL_high h b hb
  · rcases List.mem_append.1 hb with hb | hb
    · split at hb
      · simp at hb
      · rw [List.mem_singleton] at hb
        subst hb
        exact aheadL_low a ha
    · exact Int.lt_trans (aheadL_low a ha) (behindL_high h b hb)
theorem waitL_one (x : Int) (zs : List Int) : waitL (if zs = [] then [] else [(x, zs)]) = zs := by
  split
  · rename_i h; rw [h]; rfl
  · simp [waitL]
theorem waitL_set (x : Int) (zs : List Int) (ls : List Ln) : waitL (setL x zs ls) = waitL (aheadL x ls) ++ (zs ++ waitL (behindL x ls)) := by rw [setL_eq, waitL_append, waitL_append, waitL_one]
theorem waitL_parts (x : Int) (ls : List Ln) : waitL ls = waitL (aheadL x ls) ++ (tasksL x ls ++ waitL (behindL x ls)) := by
  conv => lhs; rw [parts_eq (x := x) (ls := ls)]
  rw [waitL_append, waitL_append]
  congr 2
  unfold tasksL
  split <;> simp [waitL]
theorem setL_length {x : Int} {zs : List Int} {ls : List Ln} : (setL x zs ls).length ≤ ls.length + 1 := by
  have hp := congrArg List.length (parts_eq (x := x) (ls := ls))
  rw [setL_eq]
  rw [List.length_append, List.length_append] at hp ⊢
  have : (if zs = [] then ([] : List Ln) else [(x, zs)]).length ≤ 1 := by split <;> simp
  omega
end Go.Proofs.Ytjlcfdhghohccaa
