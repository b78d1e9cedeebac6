/-
  Edges so far, and beside them a pipe's sends and gets; what the loop over pipes adds.
-/
import Derived.Test.YtbnmeeabpjmcoaaZd
namespace Go.Proofs.Ytbnmeeabpjmcoaa
open Go.RowKit


/-- The edges so far, and beside them two lists of numbers. -/
def Tl (lo : Nat) (w : World) (E G n : Nat) (S : Nat → Nat → Prop) (T : Nat) (vs : Value) (sl : List Int) (vg : Value) (gl : List Int) : Prop :=
  ∃ vf L, EdgesAt lo w E G n vf L ∧ Ed n S L T ∧ Own KI lo w vs sl ∧ Own KI lo w vg gl ∧ Apart vs vg ∧ ∀ i, i < n → Apart (vf i) vs ∧ Apart (vf i) vg
theorem apart_nil (v : Value) : Apart v (.slice none 0 0) := fun _ _ h => by cases h
theorem nil_apart (v : Value) : Apart (.slice none 0 0) v := fun _ h => by cases h
theorem Apart.symm {v v' : Value} (h : Apart v v') : Apart v' v := fun k h1 h2 => h k h2 h1
theorem EdSt.tl {lo : Nat} {w : World} {E G n T : Nat} {S : Nat → Nat → Prop} (h : EdSt lo w E G n S T) : Tl lo w E G n S T (.slice none 0 0) [] (.slice none 0 0) [] := by
  obtain ⟨vf, L, h1, h2⟩ := h
  exact ⟨vf, L, h1, h2, own_nil _ _, own_nil _ _, nil_apart _, fun i _ => ⟨apart_nil _, apart_nil _⟩⟩
section
variable {lo : Nat} {w w' : World} {E G n T : Nat} {S : Nat → Nat → Prop} {vs vg : Value} {sl gl : List Int}
theorem Tl.ed (h : Tl lo w E G n S T vs sl vg gl) : EdSt lo w E G n S T := by
  obtain ⟨vf, L, h1, h2, _⟩ := h
  exact ⟨vf, L, h1, h2⟩
theorem Tl.lt (h : Tl lo w E G n S T vs sl vg gl) : G < w.heap.size := h.ed.lt
theorem Tl.le (h : Tl lo w E G n S T vs sl vg gl) : lo ≤ w.heap.size := by
  obtain ⟨vf, L, h1, _⟩ := h
  exact h1.le
theorem Tl.below (h : Tl lo w E G n S T vs sl vg gl) (hb : Below w.heap.size w w') : Tl lo w' E G n S T vs sl vg gl := by
  obtain ⟨vf, L, h1, h2, h3, h4, h5⟩ := h
  exact ⟨vf, L, h1.below hb, h2, h3.below hb, h4.below hb, h5⟩
theorem Tl.congr {T' : Nat} {S' : Nat → Nat → Prop} (h : Tl lo w E G n S T vs sl vg gl) (hT : T ≤ T') (hS : ∀ a b, a < b → b < n → (S a b ↔ S' a b)) : Tl lo w E G n S' T' vs sl vg gl := by
  obtain ⟨vf, L, h1, h2, h3⟩ := h
  exact ⟨vf, L, h1, h2.congr hT hS, h3⟩
theorem Tl.sends (h : Tl lo w E G n S T vs sl vg gl) : Own KI lo w vs sl := by
  obtain ⟨vf, L, _, _, h3, _⟩ := h
  exact h3
theorem Tl.gets (h : Tl lo w E G n S T vs sl vg gl) : Own KI lo w vg gl := by
  obtain ⟨vf, L, _, _, _, h3, _⟩ := h
  exact h3
theorem RowsE.grown {vf : Nat → Value} {L : Nat → List Int} {v : Value} {zs : List Int} (h : RowsE lo w G n vf L) (hv : Own KI lo w v zs) (hg : w.grownBy w' v.ownBlock) (ha : ∀ i, i < n → Apart (vf i) v) : RowsE lo w' G n vf L := by
  have hG6 : w'.heap[G]? = w.heap[G]? := by
    obtain ⟨_, _, _, _, hb⟩ := hg
    refine hb G h.lt ?_
    cases e : v.ownBlock with
    | none => simp
    | some j => have := (hv.lt j e).1; have := h.glo; simp; omega
  have hsz : w.heap.size ≤ w'.heap.size := by obtain ⟨_, _, _, hs, _⟩ := hg; exact hs
  exact ⟨there_keep h.there hG6, Nat.lt_of_lt_of_le h.lt hsz, h.glo, fun i hi => cell_of (h.cell i hi) hG6, fun i hi => (h.own i hi).grown hg (ha i hi).symm, h.apart⟩
theorem EdgesAt.grown {vf : Nat → Value} {L : Nat → List Int} {v : Value} {zs : List Int} (h : EdgesAt lo w E G n vf L) (hv : Own KI lo w v zs) (hg : w.grownBy w' v.ownBlock) (ha : ∀ i, i < n → Apart (vf i) v) : EdgesAt lo w' E G n vf L := by
  have hsz : w.heap.size ≤ w'.heap.size := by obtain ⟨_, _, _, hs, _⟩ := hg; exact hs
  exact ⟨keep_grown h.var hg (fun j hj => by have := (hv.lt j hj).1; have := h.elo; omega), h.elo, Nat.le_trans h.le hsz, h.ne, h.rows.grown hv hg ha⟩
theorem apart_new {v v6 u : Value} (hu : ∀ k, u.ownBlock = some k → k < w.heap.size) (ha : Apart u v) (hl : ∀ k, v6.ownBlock = some k → v.ownBlock = some k ∨ w.heap.size ≤ k) : Apart u v6 := fun k h1 h2 => by
  rcases hl k h2 with q | q
  · exact ha k h1 q
  · have := hu k h1
    omega
theorem Tl.send {v6 : Value} {b : Int} (h : Tl lo w E G n S T vs sl vg gl) (ho : Own KI lo w' v6 (sl ++ [b])) (hg : w.grownBy w' vs.ownBlock) (hl : ∀ k, v6.ownBlock = some k → vs.ownBlock = some k ∨ w.heap.size ≤ k) : Tl lo w' E G n S T v6 (sl ++ [b]) vg gl := by
  obtain ⟨vf, L, h1, h2, h3, h4, h5, h6⟩ := h
  refine ⟨vf, L, h1.grown h3 hg (fun i hi => (h6 i hi).1), h2, ho, h4.grown hg h5, ?_, fun i hi => ⟨?_, (h6 i hi).2⟩⟩
  · exact (apart_new (fun k hk => (h4.lt k hk).2) h5.symm hl).symm
  · exact apart_new (fun k hk => ((h1.rows.own i hi).lt k hk).2) (h6 i hi).1 hl
theorem Tl.get {v6 : Value} {b : Int} (h : Tl lo w E G n S T vs sl vg gl) (ho : Own KI lo w' v6 (gl ++ [b])) (hg : w.grownBy w' vg.ownBlock) (hl : ∀ k, v6.ownBlock = some k → vg.ownBlock = some k ∨ w.heap.size ≤ k) : Tl lo w' E G n S T vs sl v6 (gl ++ [b]) := by
  obtain ⟨vf, L, h1, h2, h3, h4, h5, h6⟩ := h
  refine ⟨vf, L, h1.grown h4 hg (fun i hi => (h6 i hi).2), h2, h3.grown hg h5.symm, ho, ?_, fun i hi => ⟨(h6 i hi).1, ?_⟩⟩
  · exact apart_new (fun k hk => (h3.lt k hk).2) h5 hl
  · exact apart_new (fun k hk => ((h1.rows.own i hi).lt k hk).2) (h6 i hi).2 hl
theorem tl_add (h : Tl lo w E G n S T vs sl vg gl) (a : Nat) (z : Int) (ha : a < n) (hz : z < (n : Int)) (hn : n ≤ 2000) (hT : T ≤ 100000000) :
    Calls Try.prog 45 #[.int .i64 (a : Int), .int .i64 z, .pointer (some ⟨E, 0, none⟩)] w fun e w' => e = .returned (.tuple #[]) ∧ Tl lo w' E G n (fun x y => S x y ∨ (x = a ∧ (y : Int) = z)) (T + 1) vs sl vg gl ∧ Below G w w' := by
  by_cases hab : (a : Int) < z
  · obtain ⟨vf, L, h1, h2, h3, h4, h5, h6⟩ := h
    obtain ⟨b, rfl⟩ : ∃ b : Nat, z = (b : Int) := ⟨z.toNat, by omega⟩
    refine (edgeAdd_aside lo w E G n vf L h1 a (b : Int) hab ha hn (Nat.le_trans (h2.len a ha) hT)).mono ?_
    rintro e w' ⟨vf', rfl, h7, h8, h9⟩
    have hkeep : ∀ v xs, Own KI lo w v xs → (∀ i, i < n → Apart (vf i) v) → ∀ k, v.ownBlock = some k → w'.heap[k]? = w.heap[k]? := fun v xs ho hp k hk =>
      h9.keep k (ho.lt k hk).2 (by have := (ho.lt k hk).1; have := h1.rows.glo; omega) (fun i hi hv => hp i hi k hv hk)
    have hap : ∀ v xs, Own KI lo w v xs → (∀ i, i < n → Apart (vf i) v) → ∀ i, i < n → Apart (vf' i) v := fun v xs ho hp i hi k hk hv => by
      rcases h9.from_ i hi k hk with ⟨j, hj, q⟩ | q
      · exact hp j hj k q hv
      · have := (ho.lt k hv).2
        omega
    exact ⟨rfl, ⟨vf', _, h7, h2.add (by omega) (by omega), h3.keep (hkeep vs sl h3 (fun i hi => (h6 i hi).1)), h4.keep (hkeep vg gl h4 (fun i hi => (h6 i hi).2)), h5, fun i hi => ⟨hap vs sl h3 (fun i hi => (h6 i hi).1) i hi, hap vg gl h4 (fun i hi => (h6 i hi).2) i hi⟩⟩, h8⟩
  · refine (edgeAdd_no w E (a : Int) z hab).mono ?_
    rintro e w' ⟨rfl, rfl⟩
    exact ⟨rfl, h.congr (Nat.le_succ T) (fun x y hxy _ => ⟨Or.inl, fun q => q.elim id (fun ⟨q1, q2⟩ => absurd (show (a : Int) < z by rw [← q2, ← q1]; omega) hab)⟩), Below.refl _ _⟩
end
/-- A list of numbers of events. -/
def ixL (l : List Nat) : List Int := l.map fun x : Nat => (x : Int)
theorem ixL_add (l : List Nat) (i : Nat) : ixL (l ++ [i]) = ixL l ++ [(i : Int)] := by unfold ixL; simp
theorem ixL_len (l : List Nat) : (ixL l).length = l.length := by unfold ixL; simp
theorem ixL_get {l : List Nat} {k s : Nat} (h : l[k]? = some s) : (ixL l).getD k 0 = (s : Int) := by
  unfold ixL
  simp [List.getD_eq_getElem?_getD, h]


/-- Where what is shut is got from, ahead of i. -/
def SP (S : Nat → Nat → Prop) (l : List Ev) (p : Int) (i : Nat) : Nat → Nat → Prop := fun a b => S a b ∨ (b < i ∧ (l.getD b ev0).obj = p ∧ (l.getD b ev0).op = 15 ∧ (pix l p b).gets.length = (pix l p b).sends.length ∧ (pix l p b).shut = some a)
theorem sp_zero {S : Nat → Nat → Prop} {l : List Ev} {p : Int} (a b : Nat) : S a b ↔ SP S l p 0 a b := ⟨Or.inl, fun h => h.elim id (fun q => absurd q.1 (Nat.not_lt_zero _))⟩
theorem sp_no {S : Nat → Nat → Prop} {l : List Ev} {p : Int} {i : Nat} (h : ¬ ((l.getD i ev0).obj = p ∧ (l.getD i ev0).op = 15 ∧ (pix l p i).gets.length = (pix l p i).sends.length ∧ (pix l p i).shut ≠ none)) (a b : Nat) : SP S l p i a b ↔ SP S l p (i + 1) a b := by
  unfold SP
  constructor
  · rintro (q | ⟨q1, q2⟩)
    · exact Or.inl q
    · exact Or.inr ⟨by omega, q2⟩
  · rintro (q | ⟨q1, q2⟩)
    · exact Or.inl q
    · by_cases e : b = i
      · subst e
        exact absurd ⟨q2.1, q2.2.1, q2.2.2.1, by rw [q2.2.2.2]; simp⟩ h
      · exact Or.inr ⟨by omega, q2⟩
theorem sp_yes {S : Nat → Nat → Prop} {l : List Ev} {p : Int} {i x : Nat} (h1 : (l.getD i ev0).obj = p) (h2 : (l.getD i ev0).op = 15) (h3 : (pix l p i).gets.length = (pix l p i).sends.length) (h4 : (pix l p i).shut = some x) (a b : Nat) : (SP S l p i a b ∨ (a = x ∧ (b : Int) = (i : Int))) ↔ SP S l p (i + 1) a b := by
  unfold SP
  constructor
  · rintro ((q | ⟨q1, q2⟩) | ⟨q1, q2⟩)
    · exact Or.inl q
    · exact Or.inr ⟨by omega, q2⟩
    · obtain rfl : b = i := by omega
      subst q1
      exact Or.inr ⟨by omega, h1, h2, h3, h4⟩
  · rintro (q | ⟨q1, q2⟩)
    · exact Or.inl (Or.inl q)
    · by_cases e : b = i
      · subst e
        have := q2.2.2.2
        rw [h4] at this
        cases this
        exact Or.inr ⟨rfl, rfl⟩
      · exact Or.inl (Or.inr ⟨by omega, q2⟩)
/-- What hangs on a pipe's k-th get. -/
def EG (hs : List Int) (l : List Ev) (p : Int) (k : Nat) (a b : Nat) : Prop := ∃ g s : Nat, (pix l p l.length).gets[k]? = some g ∧ (pix l p l.length).sends[k]? = some s ∧
      ((a = s ∧ b = g) ∨ (a = g ∧ hs.getD p.toNat 0 = 0 ∧ NextIs l (l.getD s ev0).task g b) ∨ (a = g ∧ hs.getD p.toNat 0 ≠ 0 ∧ (pix l p l.length).sends[k + (hs.getD p.toNat 0).toNat]? = some b))
def SG (S : Nat → Nat → Prop) (hs : List Int) (l : List Ev) (p : Int) (k : Nat) : Nat → Nat → Prop := fun a b => SP S l p l.length a b ∨ ∃ j, j < k ∧ EG hs l p j a b
theorem sg_zero {S : Nat → Nat → Prop} {hs : List Int} {l : List Ev} {p : Int} (a b : Nat) : SP S l p l.length a b ↔ SG S hs l p 0 a b := ⟨Or.inl, fun h => h.elim id (fun ⟨_, q, _⟩ => absurd q (Nat.not_lt_zero _))⟩
theorem sg_succ {S : Nat → Nat → Prop} {hs : List Int} {l : List Ev} {p : Int} {k : Nat} {a b : Nat} : SG S hs l p (k + 1) a b ↔ SG S hs l p k a b ∨ EG hs l p k a b := by
  unfold SG
  constructor
  · rintro (q | ⟨j, q1, q2⟩)
    · exact Or.inl (Or.inl q)
    · by_cases e : j = k
      · subst e; exact Or.inr q2
      · exact Or.inl (Or.inr ⟨j, by omega, q2⟩)
  · rintro ((q | ⟨j, q1, q2⟩) | q)
    · exact Or.inl q
    · exact Or.inr ⟨j, by omega, q2⟩
    · exact Or.inr ⟨k, by omega, q⟩
theorem eg_at {hs : List Int} {l : List Ev} {p : Int} {k g s : Nat} (hg : (pix l p l.length).gets[k]? = some g) (hs' : (pix l p l.length).sends[k]? = some s) {a b : Nat} : EG hs l p k a b ↔ ((a = s ∧ b = g) ∨ (a = g ∧ hs.getD p.toNat 0 = 0 ∧ NextIs l (l.getD s ev0).task g b) ∨ (a = g ∧ hs.getD p.toNat 0 ≠ 0 ∧ (pix l p l.length).sends[k + (hs.getD p.toNat 0).toNat]? = some b)) := by
  constructor
  · rintro ⟨g', s', h1, h2, h3⟩
    rw [hg] at h1
    rw [hs'] at h2
    cases h1
    cases h2
    exact h3
  · intro h
    exact ⟨g, s, hg, hs', h⟩
theorem sg_next {S : Nat → Nat → Prop} {hs : List Int} {l : List Ev} {p : Int} {k g s : Nat} {r : Int} (hg : (pix l p l.length).gets[k]? = some g) (hs' : (pix l p l.length).sends[k]? = some s) (h0 : hs.getD p.toNat 0 = 0) (hr : NextR l (l.getD s ev0).task g r) (a b : Nat) (_hab : a < b) (hb : b < l.length) : ((SG S hs l p k a b ∨ (a = s ∧ (b : Int) = (g : Int))) ∨ (a = g ∧ (b : Int) = r)) ↔ SG S hs l p (k + 1) a b := by
  rw [sg_succ, eg_at hg hs', next_set hr hb]
  constructor
  · rintro ((q | ⟨q1, q2⟩) | ⟨q1, q2⟩)
    · exact Or.inl q
    · exact Or.inr (Or.inl ⟨q1, by omega⟩)
    · exact Or.inr (Or.inr (Or.inl ⟨q1, h0, q2⟩))
  · rintro (q | ⟨q1, q2⟩ | ⟨q1, _, q2⟩ | ⟨q1, q2, q3⟩)
    · exact Or.inl (Or.inl q)
    · exact Or.inl (Or.inr ⟨q1, by omega⟩)
    · exact Or.inr ⟨q1, q2⟩
    · exact absurd h0 q2
theorem sg_hold {S : Nat → Nat → Prop} {hs : List Int} {l : List Ev} {p : Int} {k g s x : Nat} (hg : (pix l p l.length).gets[k]? = some g) (hs' : (pix l p l.length).sends[k]? = some s) (h0 : hs.getD p.toNat 0 ≠ 0) (hx : (pix l p l.length).sends[k + (hs.getD p.toNat 0).toNat]? = some x) (a b : Nat) : ((SG S hs l p k a b ∨ (a = s ∧ (b : Int) = (g : Int))) ∨ (a = g ∧ (b : Int) = (x : Int))) ↔ SG S hs l p (k + 1) a b := by
  rw [sg_succ, eg_at hg hs']
  constructor
  · rintro ((q | ⟨q1, q2⟩) | ⟨q1, q2⟩)
    · exact Or.inl q
    · exact Or.inr (Or.inl ⟨q1, by omega⟩)
    · obtain rfl : b = x := by omega
      exact Or.inr (Or.inr (Or.inr ⟨q1, h0, hx⟩))
  · rintro (q | ⟨q1, q2⟩ | ⟨q1, q2, q3⟩ | ⟨q1, q2, q3⟩)
    · exact Or.inl (Or.inl q)
    · exact Or.inl (Or.inr ⟨q1, by omega⟩)
    · exact absurd q2 h0
    · rw [hx] at q3
      cases q3
      exact Or.inr ⟨q1, rfl⟩
theorem sg_none {S : Nat → Nat → Prop} {hs : List Int} {l : List Ev} {p : Int} {k g s : Nat} (hg : (pix l p l.length).gets[k]? = some g) (hs' : (pix l p l.length).sends[k]? = some s) (h0 : hs.getD p.toNat 0 ≠ 0) (hx : (pix l p l.length).sends.length ≤ k + (hs.getD p.toNat 0).toNat) (a b : Nat) : (SG S hs l p k a b ∨ (a = s ∧ (b : Int) = (g : Int))) ↔ SG S hs l p (k + 1) a b := by
  rw [sg_succ, eg_at hg hs']
  constructor
  · rintro (q | ⟨q1, q2⟩)
    · exact Or.inl q
    · exact Or.inr (Or.inl ⟨q1, by omega⟩)
  · rintro (q | ⟨q1, q2⟩ | ⟨q1, q2, q3⟩ | ⟨q1, q2, q3⟩)
    · exact Or.inl q
    · exact Or.inr ⟨q1, by omega⟩
    · exact absurd q2 h0
    · rw [List.getElem?_eq_none hx] at q3
      cases q3
theorem sg_end {S : Nat → Nat → Prop} {hs : List Int} {l : List Ev} {p : Int} {k : Nat} (hk : (pix l p l.length).gets.length = k) (a b : Nat) (hb : b < l.length) : SG S hs l p k a b ↔ S a b ∨ EP hs l p a b := by
  unfold SG SP EP
  constructor
  · rintro ((q | ⟨_, q⟩) | ⟨j, q1, q2⟩)
    · exact Or.inl q
    · exact Or.inr (Or.inl q)
    · exact Or.inr (Or.inr ⟨j, q2⟩)
  · rintro (q | q | ⟨j, q⟩)
    · exact Or.inl (Or.inl q)
    · exact Or.inl (Or.inr ⟨hb, q⟩)
    · have hj : j < (pix l p l.length).gets.length := by
        obtain ⟨g, s, h1, _⟩ := q
        exact (List.getElem?_eq_some_iff.1 h1).1
      exact Or.inr ⟨j, by omega, q⟩
/-- The edges when the pipes ahead of p are gone through. -/
def SQ (hs : List Int) (l : List Ev) (p : Nat) : Nat → Nat → Prop := fun a b => EA l a b ∨ ∃ q : Nat, q < p ∧ EP hs l (q : Int) a b
theorem sq_zero {hs : List Int} {l : List Ev} (a b : Nat) : EA l a b ↔ SQ hs l 0 a b := ⟨Or.inl, fun h => h.elim id (fun ⟨_, q, _⟩ => absurd q (Nat.not_lt_zero _))⟩
theorem sq_succ {hs : List Int} {l : List Ev} {p : Nat} (a b : Nat) : (SQ hs l p a b ∨ EP hs l (p : Int) a b) ↔ SQ hs l (p + 1) a b := by
  unfold SQ
  constructor
  · rintro ((q | ⟨j, q1, q2⟩) | q)
    · exact Or.inl q
    · exact Or.inr ⟨j, by omega, q2⟩
    · exact Or.inr ⟨p, by omega, q⟩
  · rintro (q | ⟨j, q1, q2⟩)
    · exact Or.inl (Or.inl q)
    · by_cases e : j = p
      · subst e; exact Or.inr q2
      · exact Or.inl (Or.inr ⟨j, by omega, q2⟩)
theorem pix_at_send {l : List Ev} {p : Int} {i : Nat} (ho : (l.getD i ev0).obj = p) (h : (l.getD i ev0).op = 14) : pix l p (i + 1) = ⟨(pix l p i).sends ++ [i], (pix l p i).gets, (pix l p i).shut⟩ := by
  rw [pix_succ]; unfold pixStep; rw [if_pos ho, if_pos h]
theorem pix_at_get {l : List Ev} {p : Int} {i : Nat} (ho : (l.getD i ev0).obj = p) (h : (l.getD i ev0).op = 15) (hl : (pix l p i).gets.length ≠ (pix l p i).sends.length) : pix l p (i + 1) = ⟨(pix l p i).sends, (pix l p i).gets ++ [i], (pix l p i).shut⟩ := by
  rw [pix_succ]; unfold pixStep; rw [if_pos ho, if_neg (by omega), if_pos h, if_neg hl]
theorem pix_at_got {l : List Ev} {p : Int} {i : Nat} (ho : (l.getD i ev0).obj = p) (h : (l.getD i ev0).op = 15) (hl : (pix l p i).gets.length = (pix l p i).sends.length) : pix l p (i + 1) = pix l p i := by
  rw [pix_succ]; unfold pixStep; rw [if_pos ho, if_neg (by omega), if_pos h, if_pos hl]
theorem pix_at_shut {l : List Ev} {p : Int} {i : Nat} (ho : (l.getD i ev0).obj = p) (h : (l.getD i ev0).op = 16) : pix l p (i + 1) = ⟨(pix l p i).sends, (pix l p i).gets, some i⟩ := by
  rw [pix_succ]; unfold pixStep; rw [if_pos ho, if_neg (by omega), if_neg (by omega), if_pos h]
theorem pix_len_i (l : List Ev) (p : Int) : ∀ n, (pix l p n).sends.length ≤ n
  | 0 => Nat.le_refl _
  | n + 1 => by
    have ih := pix_len_i l p n
    rw [pix_succ]
    unfold pixStep
    repeat' split
    all_goals simp
    all_goals omega
end Go.Proofs.Ytbnmeeabpjmcoaa
