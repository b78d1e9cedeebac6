/-
  Waking in two halves, dropping and moving, on lists.
-/
import Derived.Test.YtjlcfdhghohccaaWa
namespace Go.Proofs.Ytjlcfdhghohccaa
open Go.RowKit

theorem posL_set {x : Int} {zs : List Int} {ls : List Ln} (hr : Rises ls) : posL x (setL x zs ls) = posL x ls := by
  have hple := posL_le x ls
  have hal : (aheadL x ls).length = posL x ls := by unfold aheadL; rw [List.length_take]; omega
  refine posL_of ?_ (fun i hi => ?_) (fun hi => ?_)
  · rw [setL_eq, List.length_append, hal]; omega
  · rw [setL_eq, lAt_append, if_pos (by rw [hal]; exact hi)]
    have : lAt (aheadL x ls) i ∈ aheadL x ls := at_mem (by rw [hal]; exact hi)
    exact aheadL_low _ this
  · rw [setL_eq] at hi ⊢
    rw [lAt_append, if_neg (by rw [hal]; omega), hal, Nat.sub_self]
    rw [List.length_append, hal] at hi
    have hm : lAt ((if zs = [] then [] else [(x, zs)]) ++ behindL x ls) 0 ∈ ((if zs = [] then [] else [(x, zs)]) ++ behindL x ls) := at_mem (by omega)
    have hMx : ∀ l ∈ (if zs = [] then ([] : List Ln) else [(x, zs)]), x ≤ l.1 := fun l hl => by
      split at hl
      · simp at hl
      · rw [List.mem_singleton] at hl
        subst hl
        exact Int.le_refl _
    rcases List.mem_append.1 hm with h | h
    · exact hMx _ h
    · exact Int.le_of_lt (behindL_high hr _ h)
theorem aheadL_set {x : Int} {zs : List Int} {ls : List Ln} (hr : Rises ls) : aheadL x (setL x zs ls) = aheadL x ls := by
  have hple := posL_le x ls
  have hal : (aheadL x ls).length = posL x ls := by unfold aheadL; rw [List.length_take]; omega
  conv => lhs; unfold aheadL
  rw [posL_set hr, setL_eq, List.take_append_of_le_length (by omega), List.take_of_length_le (by omega)]
theorem behindL_set {x : Int} {zs : List Int} {ls : List Ln} (hr : Rises ls) : behindL x (setL x zs ls) = behindL x ls := by
  have h1 := parts_eq (x := x) (ls := setL x zs ls)
  rw [aheadL_set hr, tasksL_set hr, if_pos rfl] at h1
  conv at h1 => lhs; rw [setL_eq]
  have h2 := List.append_cancel_left h1
  have ht : thereL x (setL x zs ls) = true ↔ zs ≠ [] := by
    constructor
    · intro h e
      have hm := tasksL_in h
      rw [tasksL_set hr, if_pos rfl] at hm
      rcases mem_set.1 hm with h3 | h3 | h3
      · have := aheadL_low _ h3; simp at this
      · exact h3.1 e
      · have := behindL_high hr _ h3; simp at this
    · intro h
      have hm : (x, zs) ∈ setL x zs ls := mem_set.2 (Or.inr (Or.inl ⟨h, rfl⟩))
      obtain ⟨j, hj, e⟩ := mem_at hm
      have := (setL_rises (x := x) (zs := zs) hr).there hj
      rw [e] at this
      exact this
  by_cases hz : zs = []
  · rw [if_pos hz, if_neg (fun h => ht.1 h hz)] at h2
    simpa using h2.symm
  · rw [if_neg hz, if_pos (ht.2 hz)] at h2
    exact (List.append_cancel_left h2).symm
theorem setL_setL {x : Int} {zs ys : List Int} {ls : List Ln} (hr : Rises ls) : setL x ys (setL x zs ls) = setL x ys ls := by
  rw [setL_eq x ys (setL x zs ls), aheadL_set hr, behindL_set hr]
  rfl

/-- Waking some, and then others, is waking all of them. -/
theorem halves {ls : List Ln} (hg : Good ls) {x m n : Int} (hm : 0 ≤ m) (hn : 0 ≤ n) : takenL x n (takenL x m ls) = takenL x (m + n) ls ∧ firstL x m ls ++ firstL x n (takenL x m ls) = firstL x (m + n) ls := by
  have ht := taken_tasks hg x x m
  rw [if_pos rfl] at ht
  have hk : takeN (m + n) (tasksL x ls).length = takeN m (tasksL x ls).length + takeN n ((tasksL x ls).length - takeN m (tasksL x ls).length) := by unfold takeN; omega
  have hl : ((tasksL x ls).drop (takeN m (tasksL x ls).length)).length = (tasksL x ls).length - takeN m (tasksL x ls).length := List.length_drop ..
  constructor
  · show setL x ((tasksL x (takenL x m ls)).drop (takeN n (tasksL x (takenL x m ls)).length)) (takenL x m ls) = _
    rw [ht, hl, List.drop_drop]
    unfold takenL
    rw [setL_setL hg.rise, hk]
  · unfold firstL
    rw [ht, hl, hk]
    exact (List.take_add ..).symm

theorem sub_wait {ls : List Ln} {l : Ln} {t : Int} (hl : l ∈ ls) (ht : t ∈ l.2) : t ∈ waitL ls := by
  obtain ⟨j, hj, e⟩ := mem_at hl
  rw [← List.contains_iff_mem]
  exact waitL_mem.2 ⟨j, hj, by rw [e, List.contains_iff_mem]; exact ht⟩
/-- A task waits in one line alone. -/
theorem atOf_eq {ls : List Ln} (hg : Good ls) {x t : Int} (h : t ∈ tasksL x ls) : (waitL ls).contains t = true ∧ atOf t ls = x := by
  have hp := waitL_parts x ls
  have hin : (waitL ls).contains t = true := by
    rw [List.contains_iff_mem, hp]
    exact List.mem_append_right _ (List.mem_append_left _ h)
  refine ⟨hin, ?_⟩
  obtain ⟨h1, h2⟩ := lineN_at hin
  rw [List.contains_iff_mem] at h2
  have hn := hg.nodup
  rw [hp, List.nodup_append, List.nodup_append] at hn
  rcases (mem_parts (x := x)).1 (at_mem h1) with h3 | h3 | h3
  · exact absurd rfl (hn.2.2 t (sub_wait h3 h2) t (List.mem_append_left _ h))
  · unfold atOf; rw [h3.2]
  · exact absurd rfl (hn.2.1.2.2 t h t (sub_wait h3 h2))
theorem tasks_nodup {ls : List Ln} (hg : Good ls) (x : Int) : (tasksL x ls).Nodup := by
  have hn := hg.nodup
  rw [waitL_parts x ls, List.nodup_append, List.nodup_append] at hn
  exact hn.2.1.1
theorem less_sub (t : Int) (T : List Int) : (lessL t T).Sublist T := by
  unfold lessL
  conv => rhs; rw [← List.take_append_drop (ixOf t T) T]
  refine List.Sublist.append (List.Sublist.refl _) ?_
  rw [show T.drop (ixOf t T + 1) = (T.drop (ixOf t T)).drop 1 by rw [List.drop_drop]]
  exact List.drop_sublist _ _
theorem less_not {t : Int} {T : List Int} (hn : T.Nodup) (hin : T.contains t = true) : t ∉ lessL t T := by
  obtain ⟨h1, h2, h3⟩ := ixOf_spec t T hin
  have e : T = T.take (ixOf t T) ++ (t :: T.drop (ixOf t T + 1)) := by
    conv => lhs; rw [← List.take_append_drop (ixOf t T) T, drop_at h1, h2]
  intro h
  unfold lessL at h
  have hn2 := hn
  rw [e, List.nodup_append, List.nodup_cons] at hn2
  rcases List.mem_append.1 h with h4 | h4
  · exact hn2.2.2 t h4 t (by simp) rfl
  · exact hn2.2.1.1 h4
/-- What is dropped is never woken. -/
theorem drop_never {ls : List Ln} (hg : Good ls) {x t : Int} (h : t ∈ tasksL x ls) (k : Int) : Good (dropL t ls) ∧ (firstL x k (dropL t ls)).contains t = false := by
  obtain ⟨_, ha⟩ := atOf_eq hg h
  have e : dropL t ls = setL x (lessL t (tasksL x ls)) ls := by unfold dropL; rw [ha]
  rw [e]
  refine ⟨(hg.less (less_sub _ _)).1, ?_⟩
  have ht := tasksL_set hg.rise x x (lessL t (tasksL x ls))
  rw [if_pos rfl] at ht
  have hno := less_not (tasks_nodup hg x) (by rw [List.contains_iff_mem]; exact h)
  cases hc : (firstL x k (setL x (lessL t (tasksL x ls)) ls)).contains t with
  | false => rfl
  | true =>
    rw [List.contains_iff_mem] at hc
    unfold firstL at hc
    rw [ht] at hc
    exact absurd (List.mem_of_mem_take hc) hno
/-- Moved tasks are woken at their new address. -/
theorem move_woken {ls : List Ln} (hg : Good ls) {x y : Int} (hxy : x ≠ y) (k : Int) : Good (moveL x y k ls) ∧ firstL y 5000 (moveL x y k ls) = tasksL y ls ++ firstL x k ls := by
  obtain ⟨hgt, _⟩ := taken_good hg x k
  have hty := taken_tasks hg x y k
  rw [if_neg (Ne.symm hxy)] at hty
  have hperm : (waitL (moveL x y k ls)).Perm (waitL ls) := by
    unfold moveL
    rw [waitL_set]
    have h1 := waitL_parts y (takenL x k ls)
    have h2 : (waitL (takenL x k ls)).Perm (waitL (takenL x k ls)) := List.Perm.refl _
    have h3 : (waitL ls).Perm (firstL x k ls ++ waitL (takenL x k ls)) := by
      have e1 := waitL_parts x ls
      have e2 : waitL (takenL x k ls) = waitL (aheadL x ls) ++ ((tasksL x ls).drop (takeN k (tasksL x ls).length) ++ waitL (behindL x ls)) := waitL_set _ _ _
      rw [e2, e1]
      have e3 : tasksL x ls = firstL x k ls ++ (tasksL x ls).drop (takeN k (tasksL x ls).length) := (List.take_append_drop _ _).symm
      conv => lhs; rw [e3]
      rw [List.append_assoc, ← List.append_assoc, ← List.append_assoc (firstL x k ls)]
      exact List.Perm.append_right _ List.perm_append_comm
    refine List.Perm.trans ?_ h3.symm
    rw [h1]
    rw [← List.append_assoc, ← List.append_assoc, ← List.append_assoc, ← List.append_assoc]
    refine List.Perm.append_right _ ?_
    refine List.perm_append_comm.trans ?_
    rw [List.append_assoc]
  have hgm : Good (moveL x y k ls) := by
    refine hgt.set (hperm.nodup_iff.2 hg.nodup) (fun t ht => ?_) (by rw [show (waitL (setL y (tasksL y (takenL x k ls) ++ firstL x k ls) (takenL x k ls))).length = (waitL ls).length from hperm.length_eq]; exact hg.few)
    refine hg.ones t (hperm.mem_iff.1 ?_)
    unfold moveL
    rw [waitL_set]
    exact List.mem_append_right _ (List.mem_append_left _ ht)
  refine ⟨hgm, ?_⟩
  have ht := tasksL_set hgt.rise y y (tasksL y (takenL x k ls) ++ firstL x k ls)
  rw [if_pos rfl, hty] at ht
  have hl := tasksL_le y (moveL x y k ls)
  have hf := hgm.few
  unfold firstL
  unfold firstL at ht
  show (tasksL y (moveL x y k ls)).take _ = _
  have e : takeN 5000 (tasksL y (moveL x y k ls)).length = (tasksL y (moveL x y k ls)).length := by unfold takeN; omega
  rw [e, List.take_of_length_le (Nat.le_refl _)]
  unfold moveL firstL
  rw [hty]
  exact ht
end Go.Proofs.Ytjlcfdhghohccaa
