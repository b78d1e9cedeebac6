/-
  taskmillref.Edges: what its loop over pipes adds.
-/
import Derived.Test.YtbnmeeabpjmcoaaZf
namespace Go.Proofs.Ytbnmeeabpjmcoaa
open Go.RowKit

/-- Where what is shut is got from, ahead of i. -/
def SP (S : Nat → Nat → Prop) (l : List Ev) (p : Int) (i : Nat) : Nat → Nat → Prop := fun a b => S a b ∨ (b < i ∧ (l.getD b ev0).obj = p ∧ (l.getD b ev0).op = 15 ∧ (pix l p b).gets.length = (pix l p b).sends.length ∧ (pix l p b).shut = some a)
theorem sp_zero {S : Nat → Nat → Prop} {l : List Ev} {p : Int} (a b : Nat) : S a b ↔ SP S l p 0 a b := ⟨Or.inl, fun h => h.elim id (fun q => absurd q.1 (Nat.not_lt_zero _))⟩
theorem sp_no {S : Nat → Nat → Prop} {l : List Ev} {p : Int} {i : Nat} (h : ¬ ((l.getD i ev0).obj = p ∧ (l.getD i ev0).op = 15 ∧ (pix l p i).gets.length = (pix l p i).sends.length ∧ (pix l p i).shut ≠ none)) (a b : Nat) : SP S l p i a b ↔ SP S l p (i + 1) a b := by
  unfold SP
  constructor
  · rintro (q | ⟨q1, q2⟩)
    · exact Or.inl q
    · exact Or.inr ⟨by omega, q2⟩
  · rintro (q | ⟨q1, q2⟩)
    · exact Or.inl q
    · by_cases e : b = i
      · subst e
        exact absurd ⟨q2.1, q2.2.1, q2.2.2.1, by rw [q2.2.2.2]; simp⟩ h
      · exact Or.inr ⟨by omega, q2⟩
theorem sp_yes {S : Nat → Nat → Prop} {l : List Ev} {p : Int} {i x : Nat} (h1 : (l.getD i ev0).obj = p) (h2 : (l.getD i ev0).op = 15) (h3 : (pix l p i).gets.length = (pix l p i).sends.length) (h4 : (pix l p i).shut = some x) (a b : Nat) : (SP S l p i a b ∨ (a = x ∧ (b : Int) = (i : Int))) ↔ SP S l p (i + 1) a b := by
  unfold SP
  constructor
  · rintro ((q | ⟨q1, q2⟩) | ⟨q1, q2⟩)
    · exact Or.inl q
    · exact Or.inr ⟨by omega, q2⟩
    · obtain rfl : b = i := by omega
      subst q1
      exact Or.inr ⟨by omega, h1, h2, h3, h4⟩
  · rintro (q | ⟨q1, q2⟩)
    · exact Or.inl (Or.inl q)
    · by_cases e : b = i
      · subst e
        have := q2.2.2.2
        rw [h4] at this
        cases this
        exact Or.inr ⟨rfl, rfl⟩
      · exact Or.inl (Or.inr ⟨by omega, q2⟩)
/-- What hangs on a pipe's k-th get. -/
def EG (hs : List Int) (l : List Ev) (p : Int) (k : Nat) (a b : Nat) : Prop := ∃ g s : Nat, (pix l p l.length).gets[k]? = some g ∧ (pix l p l.length).sends[k]? = some s ∧
      ((a = s ∧ b = g) ∨ (a = g ∧ hs.getD p.toNat 0 = 0 ∧ NextIs l (l.getD s ev0).task g b) ∨ (a = g ∧ hs.getD p.toNat 0 ≠ 0 ∧ (pix l p l.length).sends[k + (hs.getD p.toNat 0).toNat]? = some b))
def SG (S : Nat → Nat → Prop) (hs : List Int) (l : List Ev) (p : Int) (k : Nat) : Nat → Nat → Prop := fun a b => SP S l p l.length a b ∨ ∃ j, j < k ∧ EG hs l p j a b
theorem sg_zero {S : Nat → Nat → Prop} {hs : List Int} {l : List Ev} {p : Int} (a b : Nat) : SP S l p l.length a b ↔ SG S hs l p 0 a b := ⟨Or.inl, fun h => h.elim id (fun ⟨_, q, _⟩ => absurd q (Nat.not_lt_zero _))⟩
theorem sg_succ {S : Nat → Nat → Prop} {hs : List Int} {l : List Ev} {p : Int} {k : Nat} {a b : Nat} : SG S hs l p (k + 1) a b ↔ SG S hs l p k a b ∨ EG hs l p k a b := by
  unfold SG
  constructor
  · rintro (q | ⟨j, q1, q2⟩)
    · exact Or.inl (Or.inl q)
    · by_cases e : j = k
      · subst e; exact Or.inr q2
      · exact Or.inl (Or.inr ⟨j, by omega, q2⟩)
  · rintro ((q | ⟨j, q1, q2⟩) | q)
    · exact Or.inl q
    · exact Or.inr ⟨j, by omega, q2⟩
    · exact Or.inr ⟨k, by omega, q⟩
theorem eg_at {hs : List Int} {l : List Ev} {p : Int} {k g s : Nat} (hg : (pix l p l.length).gets[k]? = some g) (hs' : (pix l p l.length).sends[k]? = some s) {a b : Nat} : EG hs l p k a b ↔ ((a = s ∧ b = g) ∨ (a = g ∧ hs.getD p.toNat 0 = 0 ∧ NextIs l (l.getD s ev0).task g b) ∨ (a = g ∧ hs.getD p.toNat 0 ≠ 0 ∧ (pix l p l.length).sends[k + (hs.getD p.toNat 0).toNat]? = some b)) := by
  constructor
  · rintro ⟨g', s', h1, h2, h3⟩
    rw [hg] at h1
    rw [hs'] at h2
    cases h1
    cases h2
    exact h3
  · intro h
    exact ⟨g, s, hg, hs', h⟩
theorem sg_next {S : Nat → Nat → Prop} {hs : List Int} {l : List Ev} {p : Int} {k g s : Nat} {r : Int} (hg : (pix l p l.length).gets[k]? = some g) (hs' : (pix l p l.length).sends[k]? = some s) (h0 : hs.getD p.toNat 0 = 0) (hr : NextR l (l.getD s ev0).task g r) (a b : Nat) (_hab : a < b) (hb : b < l.length) : ((SG S hs l p k a b ∨ (a = s ∧ (b : Int) = (g : Int))) ∨ (a = g ∧ (b : Int) = r)) ↔ SG S hs l p (k + 1) a b := by
  rw [sg_succ, eg_at hg hs', next_set hr hb]
  constructor
  · rintro ((q | ⟨q1, q2⟩) | ⟨q1, q2⟩)
    · exact Or.inl q
    · exact Or.inr (Or.inl ⟨q1, by omega⟩)
    · exact Or.inr (Or.inr (Or.inl ⟨q1, h0, q2⟩))
  · rintro (q | ⟨q1, q2⟩ | ⟨q1, _, q2⟩ | ⟨q1, q2, q3⟩)
    · exact Or.inl (Or.inl q)
    · exact Or.inl (Or.inr ⟨q1, by omega⟩)
    · exact Or.inr ⟨q1, q2⟩
    · exact absurd h0 q2
theorem sg_hold {S : Nat → Nat → Prop} {hs : List Int} {l : List Ev} {p : Int} {k g s x : Nat} (hg : (pix l p l.length).gets[k]? = some g) (hs' : (pix l p l.length).sends[k]? = some s) (h0 : hs.getD p.toNat 0 ≠ 0) (hx : (pix l p l.length).sends[k + (hs.getD p.toNat 0).toNat]? = some x) (a b : Nat) : ((SG S hs l p k a b ∨ (a = s ∧ (b : Int) = (g : Int))) ∨ (a = g ∧ (b : Int) = (x : Int))) ↔ SG S hs l p (k + 1) a b := by
  rw [sg_succ, eg_at hg hs']
  constructor
  · rintro ((q | ⟨q1, q2⟩) | ⟨q1, q2⟩)
    · exact Or.inl q
    · exact Or.inr (Or.inl ⟨q1, by omega⟩)
    · obtain rfl : b = x := by omega
      exact Or.inr (Or.inr (Or.inr ⟨q1, h0, hx⟩))
  · rintro (q | ⟨q1, q2⟩ | ⟨q1, q2, q3⟩ | ⟨q1, q2, q3⟩)
    · exact Or.inl (Or.inl q)
    · exact Or.inl (Or.inr ⟨q1, by omega⟩)
    · exact absurd q2 h0
    · rw [hx] at q3
      cases q3
      exact Or.inr ⟨q1, rfl⟩
theorem sg_none {S : Nat → Nat → Prop} {hs : List Int} {l : List Ev} {p : Int} {k g s : Nat} (hg : (pix l p l.length).gets[k]? = some g) (hs' : (pix l p l.length).sends[k]? = some s) (h0 : hs.getD p.toNat 0 ≠ 0) (hx : (pix l p l.length).sends.length ≤ k + (hs.getD p.toNat 0).toNat) (a b : Nat) : (SG S hs l p k a b ∨ (a = s ∧ (b : Int) = (g : Int))) ↔ SG S hs l p (k + 1) a b := by
  rw [sg_succ, eg_at hg hs']
  constructor
  · rintro (q | ⟨q1, q2⟩)
    · exact Or.inl q
    · exact Or.inr (Or.inl ⟨q1, by omega⟩)
  · rintro (q | ⟨q1, q2⟩ | ⟨q1, q2, q3⟩ | ⟨q1, q2, q3⟩)
    · exact Or.inl q
    · exact Or.inr ⟨q1, by omega⟩
    · exact absurd q2 h0
    · rw [List.getElem?_eq_none hx] at q3
      cases q3
theorem sg_end {S : Nat → Nat → Prop} {hs : List Int} {l : List Ev} {p : Int} {k : Nat} (hk : (pix l p l.length).gets.length = k) (a b : Nat) (hb : b < l.length) : SG S hs l p k a b ↔ S a b ∨ EP hs l p a b := by
  unfold SG SP EP
  constructor
  · rintro ((q | ⟨_, q⟩) | ⟨j, q1, q2⟩)
    · exact Or.inl q
    · exact Or.inr (Or.inl q)
    · exact Or.inr (Or.inr ⟨j, q2⟩)
  · rintro (q | q | ⟨j, q⟩)
    · exact Or.inl (Or.inl q)
    · exact Or.inl (Or.inr ⟨hb, q⟩)
    · have hj : j < (pix l p l.length).gets.length := by
        obtain ⟨g, s, h1, _⟩ := q
        exact (List.getElem?_eq_some_iff.1 h1).1
      exact Or.inr ⟨j, by omega, q⟩
/-- The edges when the pipes ahead of p are gone through. -/
def SQ (hs : List Int) (l : List Ev) (p : Nat) : Nat → Nat → Prop := fun a b => EA l a b ∨ ∃ q : Nat, q < p ∧ EP hs l (q : Int) a b
theorem sq_zero {hs : List Int} {l : List Ev} (a b : Nat) : EA l a b ↔ SQ hs l 0 a b := ⟨Or.inl, fun h => h.elim id (fun ⟨_, q, _⟩ => absurd q (Nat.not_lt_zero _))⟩
theorem sq_succ {hs : List Int} {l : List Ev} {p : Nat} (a b : Nat) : (SQ hs l p a b ∨ EP hs l (p : Int) a b) ↔ SQ hs l (p + 1) a b := by
  unfold SQ
  constructor
  · rintro ((q | ⟨j, q1, q2⟩) | q)
    · exact Or.inl q
    · exact Or.inr ⟨j, by omega, q2⟩
    · exact Or.inr ⟨p, by omega, q⟩
  · rintro (q | ⟨j, q1, q2⟩)
    · exact Or.inl (Or.inl q)
    · by_cases e : j = p
      · subst e; exact Or.inr q2
      · exact Or.inl (Or.inr ⟨j, by omega, q2⟩)
theorem pix_at_send {l : List Ev} {p : Int} {i : Nat} (ho : (l.getD i ev0).obj = p) (h : (l.getD i ev0).op = 14) : pix l p (i + 1) = ⟨(pix l p i).sends ++ [i], (pix l p i).gets, (pix l p i).shut⟩ := by
  rw [pix_succ]; unfold pixStep; rw [if_pos ho, if_pos h]
theorem pix_at_get {l : List Ev} {p : Int} {i : Nat} (ho : (l.getD i ev0).obj = p) (h : (l.getD i ev0).op = 15) (hl : (pix l p i).gets.length ≠ (pix l p i).sends.length) : pix l p (i + 1) = ⟨(pix l p i).sends, (pix l p i).gets ++ [i], (pix l p i).shut⟩ := by
  rw [pix_succ]; unfold pixStep; rw [if_pos ho, if_neg (by omega), if_pos h, if_neg hl]
theorem pix_at_got {l : List Ev} {p : Int} {i : Nat} (ho : (l.getD i ev0).obj = p) (h : (l.getD i ev0).op = 15) (hl : (pix l p i).gets.length = (pix l p i).sends.length) : pix l p (i + 1) = pix l p i := by
  rw [pix_succ]; unfold pixStep; rw [if_pos ho, if_neg (by omega), if_pos h, if_pos hl]
theorem pix_at_shut {l : List Ev} {p : Int} {i : Nat} (ho : (l.getD i ev0).obj = p) (h : (l.getD i ev0).op = 16) : pix l p (i + 1) = ⟨(pix l p i).sends, (pix l p i).gets, some i⟩ := by
  rw [pix_succ]; unfold pixStep; rw [if_pos ho, if_neg (by omega), if_neg (by omega), if_pos h]
theorem pix_len_i (l : List Ev) (p : Int) : ∀ n, (pix l p n).sends.length ≤ n
  | 0 => Nat.le_refl _
  | n + 1 => by
    have ih := pix_len_i l p n
    rw [pix_succ]
    unfold pixStep
    repeat' split
    all_goals simp
    all_goals omega
end Go.Proofs.Ytbnmeeabpjmcoaa
