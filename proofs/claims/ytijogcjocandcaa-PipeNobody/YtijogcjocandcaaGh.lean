/-
  What stays good, on lists.
-/
import Derived.Test.YtijogcjocandcaaGg
namespace Go.Proofs.Ytijogcjocandcaa
open Go.RowKit

theorem not_task {l : List Po} {x : Int} (h : ∀ p ∈ l, p.1 ≠ x) : x ∉ tasks l := fun hm => by
  obtain ⟨p, hp, e⟩ := List.mem_map.1 hm
  exact h p hp e
theorem nil_of {α : Type} {l : List α} (h : ¬ 0 < l.length) : l = [] := List.eq_nil_of_length_eq_zero (by omega)

theorem good_getter {P : Pp} (h : Good P) (hg : 0 < P.gs.length) : Good { P with gs := P.gs.drop 1 } := by
  obtain ⟨c1, c2, c3, c4, c5, c6, c7, c8, c9⟩ := h
  obtain ⟨cap, items, closed, ss, gs⟩ := P
  simp only at *
  unfold countP at c1
  simp only at c1
  refine ⟨?_, c2, c3, c4, fun hs => ?_, fun _ => c6 hg, fun p hp => c7 p ?_, ?_, fun p hp => c9 p (List.mem_of_mem_drop hp)⟩
  · unfold countP; simp only [List.length_drop]; omega
  · have := c5 hs
    exact ⟨this.1, this.2.1, by simp only; rw [this.2.2]; rfl⟩
  · rcases List.mem_append.1 hp with hp | hp
    · exact List.mem_append_left _ hp
    · exact List.mem_append_right _ (List.mem_of_mem_drop hp)
  · have hsub : (tasks (ss ++ gs.drop 1)).Sublist (tasks (ss ++ gs)) := ((List.Sublist.refl ss).append (List.drop_sublist 1 gs)).map _
    exact hsub.nodup c8
theorem good_room {P : Pp} (h : Good P) (hg : ¬ 0 < P.gs.length) (hr : (P.items.length : Int) < P.cap) (hn : countP P ≠ 5000) (u : Int) : Good { P with items := P.items ++ [u] } := by
  obtain ⟨c1, c2, c3, c4, c5, c6, c7, c8, c9⟩ := h
  obtain ⟨cap, items, closed, ss, gs⟩ := P
  simp only at *
  unfold countP at c1 hn
  simp only at c1 hn
  refine ⟨?_, c2, c3, ?_, fun hs => ?_, fun h => absurd h hg, c7, c8, c9⟩
  · unfold countP; simp only [List.length_append, List.length_cons, List.length_nil]; omega
  · simp only [List.length_append, List.length_cons, List.length_nil]; omega
  · have := c5 hs
    omega
theorem good_waits {P : Pp} (h : Good P) (hc : P.closed = false) (hg : ¬ 0 < P.gs.length) (hr : ¬ (P.items.length : Int) < P.cap) (hn : countP P ≠ 5000) {x u : Int} (hx : 1 ≤ x) (hw : waitsL P x = false) : Good { P with ss := P.ss ++ [(x, 0, u)] } := by
  have hw' := waits_not hw
  obtain ⟨c1, c2, c3, c4, c5, c6, c7, c8, c9⟩ := h
  obtain ⟨cap, items, closed, ss, gs⟩ := P
  simp only at *
  have hg0 : gs = [] := nil_of hg
  subst hg0
  unfold countP at c1 hn
  simp only at c1 hn
  refine ⟨?_, c2, c3, c4, fun _ => ⟨hc, by simp only; omega, rfl⟩, fun h => absurd h hg, fun p hp => ?_, ?_, c9⟩
  · unfold countP; simp only [List.length_append, List.length_cons, List.length_nil]; simp only [List.length_nil] at c1 hn; omega
  · simp only [List.append_nil, List.mem_append, List.mem_singleton] at hp
    rcases hp with hp | rfl
    · exact c7 p (by simpa using hp)
    · exact ⟨hx, Int.le_refl _⟩
  · simp only [List.append_nil] at c8 hw' ⊢
    rw [tasks_append, List.nodup_append]
    refine ⟨c8, by simp [tasks], fun a ha b hb e => ?_⟩
    have hb' : b = x := by simpa [tasks] using hb
    subst hb'
    subst e
    exact not_task hw' ha
theorem good_gets {P : Pp} (h : Good P) (hc : P.closed = false) (hi : ¬ 0 < P.items.length + P.ss.length) (hn : countP P ≠ 5000) {x : Int} (hx : 1 ≤ x) (hw : waitsL P x = false) : Good { P with gs := P.gs ++ [(x, 0, 0)] } := by
  have hw' := waits_not hw
  obtain ⟨c1, c2, c3, c4, c5, c6, c7, c8, c9⟩ := h
  obtain ⟨cap, items, closed, ss, gs⟩ := P
  simp only at *
  have hs0 : ss = [] := nil_of (by omega)
  have hi0 : items = [] := nil_of (by omega)
  subst hs0
  subst hi0
  unfold countP at c1 hn
  simp only at c1 hn
  refine ⟨?_, c2, c3, c4, fun h => absurd h (by simp), fun _ => ⟨hc, rfl⟩, fun p hp => ?_, ?_, fun p hp => ?_⟩
  · unfold countP; simp only [List.length_append, List.length_cons, List.length_nil]; simp only [List.length_nil] at c1 hn; omega
  · simp only [List.nil_append, List.mem_append, List.mem_singleton] at hp
    rcases hp with hp | rfl
    · exact c7 p (by simpa using hp)
    · exact ⟨hx, Int.le_refl _⟩
  · simp only [List.nil_append] at c8 hw' ⊢
    rw [tasks_append, List.nodup_append]
    refine ⟨c8, by simp [tasks], fun a ha b hb e => ?_⟩
    have hb' : b = x := by simpa [tasks] using hb
    subst hb'
    subst e
    exact not_task hw' ha
  · simp only [List.mem_append, List.mem_singleton] at hp
    rcases hp with hp | rfl
    · exact c9 p hp
    · rfl
theorem good_first {P : Pp} (h : Good P) (hi : 0 < P.items.length + P.ss.length) : Good (firstL P).1 := by
  obtain ⟨c1, c2, c3, c4, c5, c6, c7, c8, c9⟩ := h
  obtain ⟨cap, items, closed, ss, gs⟩ := P
  simp only at *
  unfold countP at c1
  simp only at c1
  unfold firstL
  simp only
  split
  · rename_i hs
    obtain ⟨d1, d2, d3⟩ := c5 hs
    subst d3
    refine ⟨?_, c2, c3, ?_, fun _ => ⟨d1, ?_, rfl⟩, fun h => absurd h (by simp), fun p hp => c7 p ?_, ?_, c9⟩
    · unfold countP; simp only [List.length_drop, List.length_append, List.length_cons, List.length_nil]; simp only [List.length_nil] at c1; omega
    · simp only [List.length_drop, List.length_append, List.length_cons, List.length_nil]; omega
    · simp only [List.length_drop, List.length_append, List.length_cons, List.length_nil]; omega
    · simp only [List.append_nil] at hp ⊢
      exact List.mem_of_mem_drop hp
    · simp only [List.append_nil] at c8 ⊢
      exact ((List.drop_sublist 1 ss).map _).nodup c8
  · rename_i hs
    have hs0 : ss = [] := nil_of hs
    subst hs0
    simp only [List.length_nil] at hi c1
    have hg0 : gs = [] := nil_of (fun hg => by have := (c6 hg).2; rw [this] at hi; simp at hi)
    subst hg0
    refine ⟨?_, c2, c3, ?_, fun h => absurd h (by simp), fun h => absurd h (by simp), c7, c8, c9⟩
    · unfold countP; simp only [List.length_drop, List.length_nil]; simp only [List.length_nil] at c1; omega
    · simp only [List.length_drop]; omega
theorem good_send {P : Pp} {x u : Int} {try_ : Bool} (h : taskF P x = (0, 0)) : Good (sendL P (x, 0, u) try_).1 := by
  obtain ⟨hg, hx, hw, hn⟩ := task_iff.1 h
  unfold sendL
  split
  · rename_i hd
    unfold sentL at hd ⊢
    split
    · exact hg
    · split
      · rename_i h2; exact good_getter hg h2
      · split
        · rename_i h2 h3; exact good_room hg h2 h3 hn u
        · exact hg
  · split
    · exact hg
    · rename_i hd ht
      have hc : P.closed = false := by
        cases e : P.closed with
        | false => rfl
        | true => exact absurd (by unfold sentL; rw [if_pos e]) hd
      have h2 : ¬ 0 < P.gs.length := fun h2 => hd (by unfold sentL; rw [if_neg (by rw [hc]; simp), if_pos h2])
      have h3 : ¬ (P.items.length : Int) < P.cap := fun h3 => hd (by unfold sentL; rw [if_neg (by rw [hc]; simp), if_neg h2, if_pos h3])
      exact good_waits hg hc h2 h3 hn hx hw
theorem good_get {P : Pp} {x : Int} {try_ : Bool} (h : taskF P x = (0, 0)) : Good (getL P (x, 0, 0) try_).1 := by
  obtain ⟨hg, hx, hw, hn⟩ := task_iff.1 h
  unfold getL
  split
  · rename_i hd
    unfold takenL at hd ⊢
    split
    · rename_i h1; exact good_first hg h1
    · split <;> exact hg
  · split
    · exact hg
    · rename_i hd ht
      have h1 : ¬ 0 < P.items.length + P.ss.length := fun h1 => hd (by unfold takenL; rw [if_pos h1]; exact firstL_done P)
      have hc : P.closed = false := by
        cases e : P.closed with
        | false => rfl
        | true => exact absurd (by unfold takenL; rw [if_neg h1, if_pos e]) hd
      exact good_gets hg hc h1 hn hx hw
theorem good_shut {P : Pp} (h : Good P) : Good (shutL P).1 := by
  unfold shutL
  split
  · exact h
  · obtain ⟨c1, c2, c3, c4, c5, c6, c7, c8, c9⟩ := h
    obtain ⟨cap, items, closed, ss, gs⟩ := P
    simp only at *
    unfold countP at c1
    simp only at c1
    exact ⟨by unfold countP; simp only [List.length_nil]; omega, c2, c3, c4, fun h => absurd h (by simp), fun h => absurd h (by simp), fun p hp => by simp at hp, by simp [tasks], fun p hp => by simp at hp⟩

/-- With try and without. -/
theorem twin_send (P : Pp) (p : Po) : (sendL P p true).2 = (sendL P p false).2 ∧ ((sendL P p true).2.done = true → (sendL P p true).1 = (sendL P p false).1) ∧ ((sendL P p true).2.done = false → (sendL P p true).1 = P ∧ (sendL P p false).1 = { P with ss := P.ss ++ [p] }) := by
  unfold sendL
  cases hd : (sentL P p).2.done with
  | true => exact ⟨rfl, fun _ => rfl, fun h => by rw [if_pos rfl, hd] at h; cases h⟩
  | false => exact ⟨rfl, fun h => (by cases h), fun _ => ⟨rfl, rfl⟩⟩
theorem twin_get (P : Pp) (p : Po) : (getL P p true).2 = (getL P p false).2 ∧ ((getL P p true).2.done = true → (getL P p true).1 = (getL P p false).1) ∧ ((getL P p true).2.done = false → (getL P p true).1 = P ∧ (getL P p false).1 = { P with gs := P.gs ++ [p] }) := by
  unfold getL
  cases hd : (takenL P).2.done with
  | true => exact ⟨rfl, fun _ => rfl, fun h => by rw [if_pos rfl, hd] at h; cases h⟩
  | false => exact ⟨rfl, fun h => (by cases h), fun _ => ⟨rfl, rfl⟩⟩
theorem left_others {l : List Po} {x : Int} (h : ∀ p ∈ l, p.1 ≠ x) : leftL (isOfP x) l = l := by
  refine left_none (List.any_eq_false.2 fun p hp e => ?_)
  unfold isOfP at e
  exact h p hp (by simpa using e)
theorem left_last {l : List Po} {x c u : Int} (h : ∀ p ∈ l, p.1 ≠ x) : leftL (isOfP x) (l ++ [(x, c, u)]) = l := by
  have e := left_others h
  unfold leftL at e ⊢
  rw [List.filter_append, e]
  simp [isOfP]
theorem back_send {P : Pp} {x u : Int} (h : taskF P x = (0, 0)) (hg : Good { P with ss := P.ss ++ [(x, 0, u)] }) : leaveF { P with ss := P.ss ++ [(x, 0, u)] } x = (0, 0) ∧ leaveR { P with ss := P.ss ++ [(x, 0, u)] } x = P := by
  obtain ⟨-, -, hw, -⟩ := task_iff.1 h
  have hw' := waits_not hw
  have e : leaveF { P with ss := P.ss ++ [(x, 0, u)] } x = (0, 0) := by
    unfold leaveF
    rw [if_neg (by rw [(good_iff _).2 hg]; simp), if_pos]
    unfold waitsL
    simp [isOfP]
  refine ⟨e, ?_⟩
  unfold leaveR
  rw [e]
  unfold leaveL
  simp only [if_true]
  rw [left_last (fun p hp => hw' p (List.mem_append_left _ hp)), left_others (fun p hp => hw' p (List.mem_append_right _ hp))]
theorem back_get {P : Pp} {x : Int} (h : taskF P x = (0, 0)) (hg : Good { P with gs := P.gs ++ [(x, 0, 0)] }) : leaveF { P with gs := P.gs ++ [(x, 0, 0)] } x = (0, 0) ∧ leaveR { P with gs := P.gs ++ [(x, 0, 0)] } x = P := by
  obtain ⟨-, -, hw, -⟩ := task_iff.1 h
  have hw' := waits_not hw
  have e : leaveF { P with gs := P.gs ++ [(x, 0, 0)] } x = (0, 0) := by
    unfold leaveF
    rw [if_neg (by rw [(good_iff _).2 hg]; simp), if_pos]
    unfold waitsL
    simp [isOfP]
  refine ⟨e, ?_⟩
  unfold leaveR
  rw [e]
  unfold leaveL
  simp only [if_true]
  rw [left_last (fun p hp => hw' p (List.mem_append_right _ hp)), left_others (fun p hp => hw' p (List.mem_append_left _ hp))]
end Go.Proofs.Ytijogcjocandcaa
