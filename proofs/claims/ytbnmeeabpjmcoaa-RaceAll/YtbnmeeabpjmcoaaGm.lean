/-
  What edges lead to, and what clocks know: the same.
-/
import Derived.Test.YtbnmeeabpjmcoaaL
namespace Go.Proofs.Ytbnmeeabpjmcoaa
open Go.RowKit

structure PIx where
  sends : List Nat
  gets : List Nat
  shut : Option Nat
def pixStep (l : List Ev) (p : Int) (s : PIx) (n : Nat) : PIx :=
  if (l.getD n ev0).obj = p then
    if (l.getD n ev0).op = 14 then { s with sends := s.sends ++ [n] }
    else if (l.getD n ev0).op = 15 then (if s.gets.length = s.sends.length then s else { s with gets := s.gets ++ [n] })
    else if (l.getD n ev0).op = 16 then { s with shut := some n }
    else s
  else s
def pix (l : List Ev) (p : Int) (n : Nat) : PIx := (List.range n).foldl (pixStep l p) ⟨[], [], none⟩
theorem pix_succ (l : List Ev) (p : Int) (n : Nat) : pix l p (n + 1) = pixStep l p (pix l p n) n := by
  unfold pix
  rw [List.range_succ, List.foldl_append]
  rfl
theorem pix_len (l : List Ev) (p : Int) : ∀ n, (pix l p n).gets.length ≤ (pix l p n).sends.length
  | 0 => Nat.le_refl _
  | n + 1 => by
    have ih := pix_len l p n
    rw [pix_succ]
    unfold pixStep
    repeat' split
    all_goals simp
    all_goals omega
theorem pix_pre (l : List Ev) (p : Int) (n : Nat) : ∀ m, (∃ a, (pix l p (n + m)).sends = (pix l p n).sends ++ a) ∧ ∃ b, (pix l p (n + m)).gets = (pix l p n).gets ++ b
  | 0 => ⟨⟨[], by simp⟩, ⟨[], by simp⟩⟩
  | m + 1 => by
    obtain ⟨⟨a, ha⟩, b, hb⟩ := pix_pre l p n m
    rw [← Nat.add_assoc, pix_succ]
    unfold pixStep
    repeat' split
    all_goals try dsimp only
    all_goals rw [ha, hb]
    · exact ⟨⟨a ++ [n + m], by simp⟩, ⟨b, rfl⟩⟩
    · exact ⟨⟨a, rfl⟩, ⟨b, rfl⟩⟩
    · exact ⟨⟨a, rfl⟩, ⟨b ++ [n + m], by simp⟩⟩
    · exact ⟨⟨a, rfl⟩, ⟨b, rfl⟩⟩
    · exact ⟨⟨a, rfl⟩, ⟨b, rfl⟩⟩
    · exact ⟨⟨a, rfl⟩, ⟨b, rfl⟩⟩
theorem pix_sends_le {l : List Ev} {p : Int} {n m k x : Nat} (h : n ≤ m) (hx : (pix l p n).sends[k]? = some x) : (pix l p m).sends[k]? = some x := by
  obtain ⟨⟨a, ha⟩, _⟩ := pix_pre l p n (m - n)
  rw [show n + (m - n) = m by omega] at ha
  rw [ha, List.getElem?_append_left (List.getElem?_eq_some_iff.1 hx).1]
  exact hx
theorem pix_gets_le {l : List Ev} {p : Int} {n m k x : Nat} (h : n ≤ m) (hx : (pix l p n).gets[k]? = some x) : (pix l p m).gets[k]? = some x := by
  obtain ⟨_, b, hb⟩ := pix_pre l p n (m - n)
  rw [show n + (m - n) = m by omega] at hb
  rw [hb, List.getElem?_append_left (List.getElem?_eq_some_iff.1 hx).1]
  exact hx
/-- Who stands at a place of a pipe's sends came when there were so many. -/
theorem pix_send {l : List Ev} {p : Int} : ∀ {N k x : Nat}, (pix l p N).sends[k]? = some x → x < N ∧ (l.getD x ev0).op = 14 ∧ (l.getD x ev0).obj = p ∧ (pix l p x).sends.length = k
  | 0, k, x, h => by simp [pix] at h
  | N + 1, k, x, h => by
    have ih : (pix l p N).sends[k]? = some x → x < N + 1 ∧ (l.getD x ev0).op = 14 ∧ (l.getD x ev0).obj = p ∧ (pix l p x).sends.length = k := fun h => by
      obtain ⟨h1, h2⟩ := pix_send h
      exact ⟨by omega, h2⟩
    rw [pix_succ] at h
    unfold pixStep at h
    by_cases ho : (l.getD N ev0).obj = p
    · rw [if_pos ho] at h
      by_cases h14 : (l.getD N ev0).op = 14
      · rw [if_pos h14] at h
        dsimp only at h
        by_cases hk : k < (pix l p N).sends.length
        · rw [List.getElem?_append_left hk] at h
          exact ih h
        · rw [List.getElem?_append_right (by omega)] at h
          have e : k - (pix l p N).sends.length = 0 := by
            have := (List.getElem?_eq_some_iff.1 h).1
            simpa using this
          rw [e] at h
          have e2 : N = x := by simpa using h
          subst e2
          exact ⟨Nat.lt_succ_self _, h14, ho, by omega⟩
      · rw [if_neg h14] at h
        refine ih ?_
        repeat' split at h
        all_goals exact h
    · rw [if_neg ho] at h
      exact ih h
theorem pix_get {l : List Ev} {p : Int} : ∀ {N k x : Nat}, (pix l p N).gets[k]? = some x → x < N ∧ (l.getD x ev0).op = 15 ∧ (l.getD x ev0).obj = p ∧ (pix l p x).gets.length = k ∧ (pix l p x).gets.length ≠ (pix l p x).sends.length
  | 0, k, x, h => by simp [pix] at h
  | N + 1, k, x, h => by
    have ih : (pix l p N).gets[k]? = some x → x < N + 1 ∧ (l.getD x ev0).op = 15 ∧ (l.getD x ev0).obj = p ∧ (pix l p x).gets.length = k ∧ (pix l p x).gets.length ≠ (pix l p x).sends.length := fun h => by
      obtain ⟨h1, h2⟩ := pix_get h
      exact ⟨by omega, h2⟩
    rw [pix_succ] at h
    unfold pixStep at h
    by_cases ho : (l.getD N ev0).obj = p
    · rw [if_pos ho] at h
      by_cases h15 : (l.getD N ev0).op = 15
      · rw [if_neg (by omega), if_pos h15] at h
        by_cases hl : (pix l p N).gets.length = (pix l p N).sends.length
        · rw [if_pos hl] at h
          exact ih h
        · rw [if_neg hl] at h
          dsimp only at h
          by_cases hk : k < (pix l p N).gets.length
          · rw [List.getElem?_append_left hk] at h
            exact ih h
          · rw [List.getElem?_append_right (by omega)] at h
            have e : k - (pix l p N).gets.length = 0 := by
              have := (List.getElem?_eq_some_iff.1 h).1
              simpa using this
            rw [e] at h
            have e2 : N = x := by simpa using h
            subst e2
            exact ⟨Nat.lt_succ_self _, h15, ho, by omega, hl⟩
      · refine ih ?_
        repeat' split at h
        all_goals first | exact h | contradiction
    · rw [if_neg ho] at h
      exact ih h
theorem pix_shut {l : List Ev} {p : Int} : ∀ {N x : Nat}, (pix l p N).shut = some x → x < N ∧ (l.getD x ev0).op = 16 ∧ (l.getD x ev0).obj = p
  | 0, x, h => by simp [pix] at h
  | N + 1, x, h => by
    have ih : (pix l p N).shut = some x → x < N + 1 ∧ (l.getD x ev0).op = 16 ∧ (l.getD x ev0).obj = p := fun h => by
      obtain ⟨h1, h2⟩ := pix_shut h
      exact ⟨by omega, h2⟩
    rw [pix_succ] at h
    unfold pixStep at h
    by_cases ho : (l.getD N ev0).obj = p
    · rw [if_pos ho] at h
      by_cases h16 : (l.getD N ev0).op = 16
      · rw [if_neg (by omega), if_neg (by omega), if_pos h16] at h
        have e2 : N = x := by simpa using h
        subst e2
        exact ⟨Nat.lt_succ_self _, h16, ho⟩
      · refine ih ?_
        repeat' split at h
        all_goals first | exact h | contradiction
    · rw [if_neg ho] at h
      exact ih h
theorem send_at {l : List Ev} {p : Int} {n N : Nat} (hn : n < N) (ho : (l.getD n ev0).obj = p) (h : (l.getD n ev0).op = 14) : (pix l p N).sends[(pix l p n).sends.length]? = some n := by
  refine pix_sends_le (n := n + 1) (by omega) ?_
  rw [pix_succ]
  unfold pixStep
  rw [if_pos ho, if_pos h]
  simp
theorem get_at {l : List Ev} {p : Int} {n N : Nat} (hn : n < N) (ho : (l.getD n ev0).obj = p) (h : (l.getD n ev0).op = 15) (hl : (pix l p n).gets.length ≠ (pix l p n).sends.length) : (pix l p N).gets[(pix l p n).gets.length]? = some n := by
  refine pix_gets_le (n := n + 1) (by omega) ?_
  rw [pix_succ]
  unfold pixStep
  rw [if_pos ho, if_neg (by omega), if_pos h, if_neg hl]
  simp
theorem sends_back {l : List Ev} {p : Int} {N k x n : Nat} (h : (pix l p N).sends[k]? = some x) (hx : x < n) : (pix l p n).sends[k]? = some x := by
  obtain ⟨_, h2, h3, rfl⟩ := pix_send h
  exact send_at hx h3 h2
theorem gets_back {l : List Ev} {p : Int} {N k x n : Nat} (h : (pix l p N).gets[k]? = some x) (hx : x < n) : (pix l p n).gets[k]? = some x := by
  obtain ⟨_, h2, h3, rfl, h4⟩ := pix_get h
  exact get_at hx h3 h2 h4

/-- b is the next event of the task t behind a. -/
def NextIs (l : List Ev) (t : Int) (a b : Nat) : Prop := a < b ∧ (l.getD b ev0).task = t ∧ ∀ c, a < c → c < b → (l.getD c ev0).task ≠ t
/-- The send whose get is x. -/
def sentOf (l : List Ev) (x : Nat) : Option Nat := (pix l (l.getD x ev0).obj x).sends[(pix l (l.getD x ev0).obj x).gets.length]?
/-- The pipe of an event holds so many. -/
def holdOf (hs : List Int) (l : List Ev) (x : Nat) : Int := hs.getD (l.getD x ev0).obj.toNat 0
/-- What is ahead of an event, not of its task. -/
def Ah (hs : List Int) (l : List Ev) (x n : Nat) : Prop :=
    ((l.getD x ev0).op = 18 ∧ (l.getD n ev0).op = 17 ∧ (l.getD x ev0).obj = (l.getD n ev0).obj ∧ ((l.getD n ev0).val = 1 ∨ (l.getD x ev0).val = 1))
  ∨ ((l.getD x ev0).op = 19 ∧ (l.getD n ev0).op = 20 ∧ (l.getD x ev0).obj = (l.getD n ev0).obj)
  ∨ ((l.getD n ev0).op = 15 ∧ (pix l (l.getD n ev0).obj n).gets.length = (pix l (l.getD n ev0).obj n).sends.length ∧ (pix l (l.getD n ev0).obj n).shut = some x)
  ∨ ((l.getD n ev0).op = 15 ∧ sentOf l n = some x)
  ∨ ((l.getD n ev0).op = 14 ∧ ∃ k : Nat, (k : Int) + holdOf hs l n = ((pix l (l.getD n ev0).obj n).sends.length : Int) ∧ (pix l (l.getD n ev0).obj n).gets[k]? = some x)
/-- x leads to the next event of the task t behind it. -/
def To (hs : List Int) (l : List Ev) (t : Int) (x : Nat) : Prop :=
  (l.getD x ev0).task = t ∨ ((l.getD x ev0).op = 11 ∧ (l.getD x ev0).val = t) ∨ ((l.getD x ev0).op = 15 ∧ holdOf hs l x = 0 ∧ ∃ s, sentOf l x = some s ∧ (l.getD s ev0).task = t)
/-- An edge. -/
def Edge (hs : List Int) (l : List Ev) (a b : Nat) : Prop := a < b ∧ b < l.length ∧ ((∃ t, To hs l t a ∧ NextIs l t a b) ∨ Ah hs l a b)
inductive Rch (hs : List Int) (l : List Ev) : Nat → Nat → Prop
  | one {i k : Nat} : Edge hs l i k → Rch hs l i k
  | step {j i k : Nat} : Rch hs l j i → Edge hs l i k → Rch hs l j k
theorem Rch.lt {hs : List Int} {l : List Ev} {j k : Nat} (h : Rch hs l j k) : j < k ∧ k < l.length := by
  induction h with
  | one e => exact ⟨e.1, e.2.1⟩
  | step _ e ih => exact ⟨Nat.lt_trans ih.1 e.1, e.2.1⟩
theorem Rch.last {hs : List Int} {l : List Ev} {j k : Nat} : Rch hs l j k ↔ ∃ i, Edge hs l i k ∧ (j = i ∨ Rch hs l j i) := by
  constructor
  · intro h
    cases h with
    | one e => exact ⟨_, e, Or.inl rfl⟩
    | step h e => exact ⟨_, e, Or.inr h⟩
  · rintro ⟨i, e, rfl | h⟩
    · exact .one e
    · exact .step h e
theorem Rch.trans {hs : List Int} {l : List Ev} {i j k : Nat} (h : Rch hs l i j) (h2 : Rch hs l j k) : Rch hs l i k := by
  induction h2 with
  | one e => exact .step h e
  | step _ e ih => exact .step ih e
/-- The next event of a task, where there is one up to n. -/
theorem next_ex (l : List Ev) (t : Int) (a : Nat) : ∀ d n, n = a + 1 + d → (l.getD n ev0).task = t → ∃ b, b ≤ n ∧ NextIs l t a b := by
  intro d
  induction d using Nat.strongRecOn with
  | ind d ih =>
    intro n hn ht
    by_cases h : ∃ c, a < c ∧ c < n ∧ (l.getD c ev0).task = t
    · obtain ⟨c, h1, h2, h3⟩ := h
      obtain ⟨b, hb, hx⟩ := ih (c - (a + 1)) (by omega) c (by omega) h3
      exact ⟨b, by omega, hx⟩
    · exact ⟨n, Nat.le_refl _, by omega, ht, fun c h1 h2 h3 => h ⟨c, h1, h2, h3⟩⟩
theorem task_rch {hs : List Int} {l : List Ev} : ∀ d a n : Nat, n = a + 1 + d → n < l.length → (l.getD a ev0).task = (l.getD n ev0).task → Rch hs l a n := by
  intro d
  induction d using Nat.strongRecOn with
  | ind d ih =>
    intro a n hn hl ht
    obtain ⟨b, hb, hx⟩ := next_ex l (l.getD n ev0).task a d n hn rfl
    have he : Edge hs l a b := ⟨hx.1, by omega, Or.inl ⟨_, Or.inl rfl, by rw [ht]; exact hx⟩⟩
    by_cases e : b = n
    · subst e; exact .one he
    · have h1 := hx.1
      exact (Rch.one he).trans (ih (n - (b + 1)) (by omega) b n (by omega) hl hx.2.1)
theorem to_rch {hs : List Int} {l : List Ev} {x n : Nat} {t : Int} (h : To hs l t x) (hx : x < n) (hn : n < l.length) (ht : (l.getD n ev0).task = t) : Rch hs l x n := by
  obtain ⟨b, hb, hb2⟩ := next_ex l t x (n - (x + 1)) n (by omega) ht
  have he : Edge hs l x b := ⟨hb2.1, by omega, Or.inl ⟨_, h, hb2⟩⟩
  by_cases e : b = n
  · subst e; exact .one he
  · have h1 := hb2.1
    exact (Rch.one he).trans (task_rch (n - (b + 1)) b n (by omega) hn (by rw [hb2.2.1, ht]))
/-- What an event's clock is made of. -/
def Into (hs : List Int) (l : List Ev) (n x : Nat) : Prop := x < n ∧ (To hs l (l.getD n ev0).task x ∨ Ah hs l x n)
theorem rch_into {hs : List Int} {l : List Ev} {n : Nat} (hn : n < l.length) (j : Nat) : Rch hs l j n ↔ ∃ x, Into hs l n x ∧ (j = x ∨ Rch hs l j x) := by
  constructor
  · intro h
    obtain ⟨i, he, hj⟩ := Rch.last.1 h
    refine ⟨i, ⟨he.1, ?_⟩, hj⟩
    rcases he.2.2 with ⟨t, h1, h2⟩ | h1
    · rw [h2.2.1]; exact Or.inl h1
    · exact Or.inr h1
  · rintro ⟨x, ⟨hx, h⟩, hj⟩
    have hr : Rch hs l x n := by
      rcases h with h | h
      · exact to_rch h hx hn rfl
      · exact .one ⟨hx, hn, Or.inr h⟩
    rcases hj with rfl | hj
    · exact hr
    · exact hj.trans hr
end Go.Proofs.Ytbnmeeabpjmcoaa
