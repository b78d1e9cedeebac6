/-
  taskmillref.Edges: its loop over events.
-/
import Derived.Test.YtbnmeeabpjmcoaaZc
namespace Go.Proofs.Ytbnmeeabpjmcoaa
open Go.RowKit

/-- The edges when the events ahead of i are gone through, and of i all that hangs on tasks, and on locks and groups ahead of k. -/
def SI (l : List Ev) (i : Nat) : Nat → Nat → Prop := fun a b => a < i ∧ EA l a b
def SK (l : List Ev) (i k : Nat) : Nat → Nat → Prop := fun a b => (a < i ∧ EA l a b) ∨ (a = i ∧ (NextIs l (l.getD a ev0).task a b ∨ ((l.getD a ev0).op = 11 ∧ NextIs l (l.getD a ev0).val a b) ∨ (b < k ∧ EL l a b)))
theorem sk_no {l : List Ev} {i k : Nat} (h : ¬ EL l i k) (a b : Nat) : SK l i k a b ↔ SK l i (k + 1) a b := by
  unfold SK
  constructor
  · rintro (q | ⟨q, r | r | ⟨r, s⟩⟩)
    · exact Or.inl q
    · exact Or.inr ⟨q, Or.inl r⟩
    · exact Or.inr ⟨q, Or.inr (Or.inl r)⟩
    · exact Or.inr ⟨q, Or.inr (Or.inr ⟨by omega, s⟩)⟩
  · rintro (q | ⟨q, r | r | ⟨r, s⟩⟩)
    · exact Or.inl q
    · exact Or.inr ⟨q, Or.inl r⟩
    · exact Or.inr ⟨q, Or.inr (Or.inl r)⟩
    · by_cases e : b = k
      · subst q e; exact absurd s h
      · exact Or.inr ⟨q, Or.inr (Or.inr ⟨by omega, s⟩)⟩
theorem sk_yes {l : List Ev} {i k : Nat} (h : EL l i k) (a b : Nat) : (SK l i k a b ∨ (a = i ∧ (b : Int) = (k : Int))) ↔ SK l i (k + 1) a b := by
  unfold SK
  constructor
  · rintro ((q | ⟨q, r | r | ⟨r, s⟩⟩) | ⟨q, r⟩)
    · exact Or.inl q
    · exact Or.inr ⟨q, Or.inl r⟩
    · exact Or.inr ⟨q, Or.inr (Or.inl r)⟩
    · exact Or.inr ⟨q, Or.inr (Or.inr ⟨by omega, s⟩)⟩
    · obtain rfl : b = k := by omega
      subst q
      exact Or.inr ⟨rfl, Or.inr (Or.inr ⟨by omega, h⟩)⟩
  · rintro (q | ⟨q, r | r | ⟨r, s⟩⟩)
    · exact Or.inl (Or.inl q)
    · exact Or.inl (Or.inr ⟨q, Or.inl r⟩)
    · exact Or.inl (Or.inr ⟨q, Or.inr (Or.inl r)⟩)
    · by_cases e : b = k
      · exact Or.inr ⟨q, by omega⟩
      · exact Or.inl (Or.inr ⟨q, Or.inr (Or.inr ⟨by omega, s⟩)⟩)
theorem sk_end {l : List Ev} {i : Nat} (a b : Nat) (hb : b < l.length) : SK l i l.length a b ↔ SI l (i + 1) a b := by
  unfold SK SI
  rw [ea_iff]
  constructor
  · rintro (q | ⟨q, r | r | ⟨r, s⟩⟩)
    · exact ⟨by omega, ea_iff.1 q.2⟩
    · exact ⟨by omega, Or.inl r⟩
    · exact ⟨by omega, Or.inr (Or.inl r)⟩
    · exact ⟨by omega, Or.inr (Or.inr s)⟩
  · rintro ⟨q, r⟩
    by_cases e : a = i
    · refine Or.inr ⟨e, ?_⟩
      rcases r with r | r | r
      · exact Or.inl r
      · exact Or.inr (Or.inl r)
      · exact Or.inr (Or.inr ⟨hb, r⟩)
    · exact Or.inl ⟨by omega, ea_iff.2 r⟩
/-- Ahead of its inner loop. -/
theorem sk_begin_go {l : List Ev} {i : Nat} {r r2 : Int} (h11 : (l.getD i ev0).op = 11) (h1 : NextR l (l.getD i ev0).task i r) (h2 : NextR l (l.getD i ev0).val i r2) (a b : Nat) (hab : a < b) (hb : b < l.length) : ((SI l i a b ∨ (a = i ∧ (b : Int) = r)) ∨ (a = i ∧ (b : Int) = r2)) ↔ SK l i (i + 1) a b := by
  unfold SK SI
  rw [next_set h1 hb, next_set h2 hb]
  constructor
  · rintro ((q | ⟨q, s⟩) | ⟨q, s⟩)
    · exact Or.inl q
    · subst q; exact Or.inr ⟨rfl, Or.inl s⟩
    · subst q; exact Or.inr ⟨rfl, Or.inr (Or.inl ⟨h11, s⟩)⟩
  · rintro (q | ⟨q, s | s | s⟩)
    · exact Or.inl (Or.inl q)
    · subst q; exact Or.inl (Or.inr ⟨rfl, s⟩)
    · subst q; exact Or.inr ⟨rfl, s.2⟩
    · omega
theorem sk_begin_no {l : List Ev} {i : Nat} {r : Int} (h11 : (l.getD i ev0).op ≠ 11) (h1 : NextR l (l.getD i ev0).task i r) (a b : Nat) (hab : a < b) (hb : b < l.length) : (SI l i a b ∨ (a = i ∧ (b : Int) = r)) ↔ SK l i (i + 1) a b := by
  unfold SK SI
  rw [next_set h1 hb]
  constructor
  · rintro (q | ⟨q, s⟩)
    · exact Or.inl q
    · subst q; exact Or.inr ⟨rfl, Or.inl s⟩
  · rintro (q | ⟨q, s | s | s⟩)
    · exact Or.inl q
    · subst q; exact Or.inr ⟨rfl, s⟩
    · subst q; exact absurd s.1 h11
    · omega
theorem EdSt.lt {lo : Nat} {w : World} {E G n T : Nat} {S : Nat → Nat → Prop} (h : EdSt lo w E G n S T) : G < w.heap.size := by
  obtain ⟨vf, L, h1, _⟩ := h
  exact h1.rows.lt
end Go.Proofs.Ytbnmeeabpjmcoaa
