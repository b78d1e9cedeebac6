/-
  Lines, on lists: what is done at one address leaves the others as they were; what stays good.
-/
import Derived.Test.YtjlcfdhghohccaaS
namespace Go.Proofs.Ytjlcfdhghohccaa
open Go.RowKit

theorem mem_at {ls : List Ln} {l : Ln} (h : l ∈ ls) : ∃ j, j < ls.length ∧ lAt ls j = l := by
  obtain ⟨j, hj, e⟩ := List.getElem_of_mem h
  exact ⟨j, hj, by rw [lAt_get hj]; exact e⟩
theorem at_mem {ls : List Ln} {j : Nat} (h : j < ls.length) : lAt ls j ∈ ls := by rw [lAt_get h]; exact List.getElem_mem h
theorem tasksL_mem {ls : List Ln} (h : Rises ls) {y : Int} {zs : List Int} (hm : (y, zs) ∈ ls) : tasksL y ls = zs := by
  obtain ⟨j, hj, e⟩ := mem_at hm
  have := h.tasks hj
  rw [e] at this
  exact this
theorem tasksL_nomem {ls : List Ln} {y : Int} (h : ∀ l ∈ ls, l.1 ≠ y) : tasksL y ls = [] := by
  unfold tasksL
  rw [if_neg]
  intro ht
  have := there_iff.1 ht
  exact h _ (at_mem this.1) this.2
theorem tasksL_in {ls : List Ln} {y : Int} (h : thereL y ls = true) : (y, tasksL y ls) ∈ ls := by
  have h1 := there_iff.1 h
  have e : (y, tasksL y ls) = lAt ls (posL y ls) := by
    unfold tasksL
    rw [if_pos h]
    exact Prod.ext h1.2.symm rfl
  rw [e]
  exact at_mem h1.1
theorem nothere {ls : List Ln} (hr : Rises ls) {y : Int} (h : ¬ thereL y ls = true) : ∀ l ∈ ls, l.1 ≠ y := fun l hl e => by
  obtain ⟨j, hj, e2⟩ := mem_at hl
  have := hr.there hj
  rw [e2, e] at this
  exact h this
theorem mem_set {x : Int} {zs : List Int} {ls : List Ln} {l : Ln} : l ∈ setL x zs ls ↔ l ∈ aheadL x ls ∨ (zs ≠ [] ∧ l = (x, zs)) ∨ l ∈ behindL x ls := by
  rw [setL_eq, List.mem_append, List.mem_append]
  by_cases h : zs = []
  · simp [h]
  · simp [h]
theorem mem_parts {x : Int} {ls : List Ln} {l : Ln} : l ∈ ls ↔ l ∈ aheadL x ls ∨ (thereL x ls = true ∧ l = (x, tasksL x ls)) ∨ l ∈ behindL x ls := by
  conv => lhs; rw [parts_eq (x := x) (ls := ls)]
  rw [List.mem_append, List.mem_append]
  by_cases h : thereL x ls = true
  · simp [h]
  · simp [h]
/-- What is done at one address leaves the others as they were. -/
theorem tasksL_set {ls : List Ln} (hr : Rises ls) (x y : Int) (zs : List Int) : tasksL y (setL x zs ls) = if y = x then zs else tasksL y ls := by
  have hs := setL_rises (x := x) (zs := zs) hr
  by_cases e : y = x
  · subst e
    rw [if_pos rfl]
    by_cases hz : zs = []
    · subst hz
      refine tasksL_nomem fun l hl => ?_
      rcases mem_set.1 hl with h | h | h
      · have := aheadL_low l h; omega
      · exact absurd rfl h.1
      · have := behindL_high hr l h; omega
    · exact tasksL_mem hs (mem_set.2 (Or.inr (Or.inl ⟨hz, rfl⟩)))
  · rw [if_neg e]
    by_cases ht : thereL y ls = true
    · have hm := tasksL_in ht
      refine tasksL_mem hs (mem_set.2 ?_)
      rcases (mem_parts (x := x)).1 hm with h | h | h
      · exact Or.inl h
      · exact absurd (congrArg Prod.fst h.2) e
      · exact Or.inr (Or.inr h)
    · rw [tasksL_nomem (nothere hr ht)]
      refine tasksL_nomem fun l hl => ?_
      rcases mem_set.1 hl with h | h | h
      · exact nothere hr ht l (mem_parts.2 (Or.inl h))
      · rw [h.2]; exact fun e2 => e e2.symm
      · exact nothere hr ht l (mem_parts.2 (Or.inr (Or.inr h)))
theorem len_wait : ∀ {ls : List Ln}, (∀ l ∈ ls, l.2 ≠ []) → ls.length ≤ (waitL ls).length
  | [], _ => by simp
  | l :: r, h => by
    rw [waitL, List.length_append, List.length_cons]
    have h1 := len_wait (ls := r) fun x hx => h x (List.mem_cons_of_mem _ hx)
    have h2 := List.length_pos_iff.2 (h l (by simp))
    omega
theorem Good.fullm {ls : List Ln} (h : Good ls) : ∀ l ∈ ls, l.2 ≠ [] := fun l hl => by
  obtain ⟨j, hj, e⟩ := mem_at hl
  have := h.full j hj
  rw [e] at this
  exact this
/-- Lines stay good. -/
theorem Good.set {ls : List Ln} (h : Good ls) {x : Int} {zs : List Int} (hn : (waitL (setL x zs ls)).Nodup) (h1 : ∀ t ∈ zs, 1 ≤ t) (hf : (waitL (setL x zs ls)).length ≤ 5000) : Good (setL x zs ls) := by
  have hfull : ∀ l ∈ setL x zs ls, l.2 ≠ [] := fun l hl => by
    rcases mem_set.1 hl with h2 | h2 | h2
    · exact h.fullm l (mem_parts.2 (Or.inl h2))
    · rw [h2.2]; exact h2.1
    · exact h.fullm l (mem_parts.2 (Or.inr (Or.inr h2)))
  have hp := waitL_parts x ls
  refine ⟨Nat.le_trans (len_wait hfull) hf, hf, setL_rises h.rise, fun j hj => hfull _ (at_mem hj), fun t ht => ?_, hn⟩
  rw [waitL_set, List.mem_append, List.mem_append] at ht
  rcases ht with ht | ht | ht
  · exact h.ones t (by rw [hp]; exact List.mem_append_left _ ht)
  · exact h1 t ht
  · exact h.ones t (by rw [hp]; exact List.mem_append_right _ (List.mem_append_right _ ht))
/-- What is a part of the tasks at an address, in order, leaves good lines. -/
theorem Good.less {ls : List Ln} (h : Good ls) {x : Int} {zs : List Int} (hs : zs.Sublist (tasksL x ls)) : Good (setL x zs ls) ∧ (waitL (setL x zs ls)).Sublist (waitL ls) := by
  have hsub : (waitL (setL x zs ls)).Sublist (waitL ls) := by
    rw [waitL_set, waitL_parts x ls]
    exact List.Sublist.append (List.Sublist.refl _) (List.Sublist.append hs (List.Sublist.refl _))
  have hp := waitL_parts x ls
  refine ⟨h.set (hsub.nodup h.nodup) (fun t ht => h.ones t ?_) (Nat.le_trans hsub.length_le h.few), hsub⟩
  rw [hp]
  exact List.mem_append_right _ (List.mem_append_left _ (hs.subset ht))
/-- One more task at an address, that waited nowhere. -/
theorem Good.more {ls : List Ln} (h : Good ls) {x t : Int} {zs : List Int} (hz : zs.Perm (t :: tasksL x ls)) (ht : t ∉ waitL ls) (h1 : 1 ≤ t) (hf : (waitL ls).length < 5000) : Good (setL x zs ls) ∧ (waitL (setL x zs ls)).Perm (t :: waitL ls) := by
  have hp := waitL_parts x ls
  have hperm : (waitL (setL x zs ls)).Perm (t :: waitL ls) := by
    rw [waitL_set, hp]
    refine (List.Perm.append_left _ (List.Perm.append_right _ hz)).trans ?_
    rw [List.cons_append]
    exact List.perm_middle
  refine ⟨h.set (hperm.nodup_iff.2 (List.nodup_cons.2 ⟨ht, h.nodup⟩)) (fun u hu => ?_) (by rw [hperm.length_eq, List.length_cons]; omega), hperm⟩
  rcases List.mem_cons.1 (hz.mem_iff.1 hu) with rfl | hu
  · exact h1
  · exact h.ones u (by rw [hp]; exact List.mem_append_right _ (List.mem_append_left _ hu))
theorem taken_good {ls : List Ln} (h : Good ls) (x n : Int) : Good (takenL x n ls) ∧ (waitL (takenL x n ls)).Sublist (waitL ls) := h.less (List.drop_sublist _ _)
theorem taken_tasks {ls : List Ln} (h : Good ls) (x y n : Int) : tasksL y (takenL x n ls) = if y = x then (tasksL x ls).drop (takeN n (tasksL x ls).length) else tasksL y ls := tasksL_set h.rise x y _
theorem add_good {ls : List Ln} (h : Good ls) (x : Int) {t : Int} (fst : Bool) (ht : t ∉ waitL ls) (h1 : 1 ≤ t) (hf : (waitL ls).length < 5000) : Good (addL ls x t fst) ∧ (waitL (addL ls x t fst)).Perm (t :: waitL ls) := by
  refine h.more ?_ ht h1 hf
  cases fst
  · simp
  · simp
theorem add_tasks {ls : List Ln} (h : Good ls) (x y : Int) (t : Int) (fst : Bool) : tasksL y (addL ls x t fst) = if y = x then (if fst = true then t :: tasksL x ls else tasksL x ls ++ [t]) else tasksL y ls := tasksL_set h.rise x y _
theorem addF_good {ls : List Ln} (h : Good ls) {t : Int} (ht : t ∉ waitL ls) (h1 : 1 ≤ t) (hf : (waitL ls).length < 5000) : addF ls t = (0, 0) := by
  unfold addF
  rw [good_to h, if_neg (by simp), if_neg (by omega), if_neg (by rw [List.contains_iff_mem]; exact ht), if_neg (by omega)]
theorem good_nil : Good [] := ⟨by simp, by simp [waitL], fun i j _ hj => by simp at hj, fun j hj => by simp at hj, fun t ht => by simp [waitL] at ht, by simp [waitL]⟩
theorem takeN_one (m : Nat) : takeN 1 m = if m = 0 then 0 else 1 := by
  unfold takeN
  split <;> omega
end Go.Proofs.Ytjlcfdhghohccaa
