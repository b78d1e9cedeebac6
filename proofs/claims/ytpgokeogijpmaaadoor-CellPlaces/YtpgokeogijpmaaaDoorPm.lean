/-
  Neighbours that change places: on lists alone.
-/
import Derived.Test.YtpgokeogijpmaaaDoorRc
namespace Go.Proofs.YtpgokeogijpmaaaDoor
open Go.RowKit

def swapAt (os : List Op4) (k : Nat) : List Op4 := (os.set k (opAtD os (k + 1))).set (k + 1) (opAtD os k)

theorem split_at {os : List Op4} {k : Nat} (hk : k + 1 < os.length) : os = os.take k ++ (opAtD os k :: opAtD os (k + 1) :: os.drop (k + 2)) := by
  have e1 : opAtD os k = os[k] := by simp [opAtD, List.getElem?_eq_getElem (by omega : k < os.length)]
  have e2 : opAtD os (k + 1) = os[k + 1] := by simp [opAtD, List.getElem?_eq_getElem hk]
  rw [e1, e2, List.getElem_cons_drop, List.getElem_cons_drop, List.take_append_drop]

theorem swap_split {os : List Op4} {k : Nat} (hk : k + 1 < os.length) : swapAt os k = os.take k ++ (opAtD os (k + 1) :: opAtD os k :: os.drop (k + 2)) := by
  unfold swapAt
  apply List.ext_getElem?
  intro j
  have hl : (os.take k).length = k := by rw [List.length_take]; omega
  by_cases h1 : j < k
  · rw [List.getElem?_append_left (by omega), List.getElem?_set_ne (by omega), List.getElem?_set_ne (by omega), List.getElem?_take, if_pos h1]
  · rw [List.getElem?_append_right (by omega), hl]
    by_cases h2 : j = k
    · subst h2
      rw [List.getElem?_set_ne (by omega), List.getElem?_set_self (by omega)]
      simp
    · by_cases h3 : j = k + 1
      · subst h3
        rw [List.getElem?_set_self (by simp; omega)]
        simp
      · rw [List.getElem?_set_ne (by omega), List.getElem?_set_ne (by omega)]
        have e : j - k = (j - k - 2) + 2 := by omega
        rw [e, List.getElem?_cons_succ, List.getElem?_cons_succ, List.getElem?_drop]
        congr 1
        omega

theorem swap_length (os : List Op4) (k : Nat) : (swapAt os k).length = os.length := by simp [swapAt]

theorem swap_fault {m : Nat} {os : List Op4} {k : Nat} (hk : k + 1 < os.length) (h : (fault m os).1 = 0) : (fault m (swapAt os k)).1 = 0 := by
  obtain ⟨hm, hn, ha⟩ := fault_none h
  have hw : ∀ o, o ∈ os → wrongOf m o.k o.p o.a o.b = 0 := by
    intro o ho
    obtain ⟨j, hj, rfl⟩ := List.getElem_of_mem ho
    have := ha j hj
    unfold wAt opAtD at this
    simpa [List.getElem?_eq_getElem hj] using this
  have hsub : ∀ o, o ∈ swapAt os k → o ∈ os := by
    intro o ho
    rw [swap_split hk] at ho
    rw [split_at hk]
    simp only [List.mem_append, List.mem_cons] at ho ⊢
    rcases ho with h | h | h | h
    · exact Or.inl h
    · exact Or.inr (Or.inr (Or.inl h))
    · exact Or.inr (Or.inl h)
    · exact Or.inr (Or.inr (Or.inr h))
  have hall : ∀ j, j < (swapAt os k).length → wAt m (swapAt os k) j = 0 := by
    intro j hj
    have hj' := hw (swapAt os k)[j] (hsub _ (List.getElem_mem hj))
    unfold wAt opAtD
    simpa [List.getElem?_eq_getElem hj] using hj'
  unfold fault faultOf
  rw [if_neg (by rw [swap_length]; omega)]
  have : ∀ n i, i + n ≤ (swapAt os k).length → faultFrom (wAt m (swapAt os k)) n i = (0, 0) := by
    intro n
    induction n with
    | zero => intro i _; rfl
    | succ n ih => intro i hi; rw [faultFrom, if_pos (hall i (by omega))]; exact ih (i + 1) (by omega)
  rw [this _ 0 (by omega)]

theorem wrap_add (c x y : Int) : wrap64 (wrap64 (c + x) + y) = wrap64 (wrap64 (c + y) + x) := by
  unfold wrap64
  omega

theorem steps_far {Z : List Int} {a b : Op4} (h : a.p.toNat ≠ b.p.toNat) : stepMem (stepMem Z a) b = stepMem (stepMem Z b) a ∧ stepTold (stepMem Z b) a = stepTold Z a ∧ stepTold (stepMem Z a) b = stepTold Z b := by
  have e1 : (stepMem Z a).getD b.p.toNat 0 = Z.getD b.p.toNat 0 := by simp [stepMem, h]
  have e2 : (stepMem Z b).getD a.p.toNat 0 = Z.getD a.p.toNat 0 := by simp [stepMem, Ne.symm h]
  refine ⟨?_, ?_, ?_⟩
  · have f1 : stepMem (stepMem Z a) b = (stepMem Z a).set b.p.toNat (thenOf (Z.getD b.p.toNat 0) b.k b.a b.b) := by rw [stepMem, e1]
    have f2 : stepMem (stepMem Z b) a = (stepMem Z b).set a.p.toNat (thenOf (Z.getD a.p.toNat 0) a.k a.a a.b) := by rw [stepMem, e2]
    rw [f1, f2]
    unfold stepMem
    exact List.set_comm _ _ h
  · unfold stepTold; rw [e2]
  · unfold stepTold; rw [e1]

theorem steps_adds {Z : List Int} {a b : Op4} (ha : a.k = 3) (hb : b.k = 3) (h : a.p.toNat = b.p.toNat) (hz : a.p.toNat < Z.length) : stepMem (stepMem Z a) b = stepMem (stepMem Z b) a := by
  have t3 : ∀ c x y, thenOf c 3 x y = wrap64 (c + x) := fun c x y => rfl
  unfold stepMem
  rw [ha, hb, ← h]
  simp only [t3, List.set_set]
  congr 1
  simp only [List.getD_eq_getElem?_getD, List.getElem?_set_self hz, Option.getD_some]
  exact wrap_add _ _ _

theorem told_at {zs : List Int} {pre post : List Op4} {a b : Op4} : (ranTold zs (pre ++ (a :: b :: post))).getD pre.length 0 = stepTold (ranMem zs pre) a ∧ (ranTold zs (pre ++ (a :: b :: post))).getD (pre.length + 1) 0 = stepTold (stepMem (ranMem zs pre) a) b := by
  rw [ranTold_append]
  have hl := ranTold_length pre zs
  constructor
  · rw [List.getD_eq_getElem?_getD, List.getElem?_append_right (by omega), hl]
    simp [ranTold]
  · rw [List.getD_eq_getElem?_getD, List.getElem?_append_right (by omega), hl]
    have e : pre.length + 1 - pre.length = 1 := by omega
    rw [e]
    simp [ranTold]

/-- What comes of neighbours that change places. -/
theorem swap_same {zs : List Int} {os : List Op4} {k : Nat} (hk : k + 1 < os.length) (hp : 0 ≤ (opAtD os k).p ∧ (opAtD os k).p < zs.length) (hp' : 0 ≤ (opAtD os (k + 1)).p)
    (h : (opAtD os k).p ≠ (opAtD os (k + 1)).p ∨ (opAtD os k).k = 3 ∧ (opAtD os (k + 1)).k = 3) :
    ranMem zs (swapAt os k) = ranMem zs os ∧ ((opAtD os k).p ≠ (opAtD os (k + 1)).p → (ranTold zs os).getD k 0 = (ranTold zs (swapAt os k)).getD (k + 1) 0 ∧ (ranTold zs os).getD (k + 1) 0 = (ranTold zs (swapAt os k)).getD k 0) := by
  have hl : (os.take k).length = k := by rw [List.length_take]; omega
  have hs := split_at hk
  have hs' := swap_split hk
  obtain ⟨a, ea⟩ : ∃ x, opAtD os k = x := ⟨_, rfl⟩
  obtain ⟨b, eb⟩ : ∃ x, opAtD os (k + 1) = x := ⟨_, rfl⟩
  rw [ea, eb] at hs hs' h ⊢
  rw [ea] at hp
  rw [eb] at hp'
  obtain ⟨pre, epre⟩ : ∃ x, os.take k = x := ⟨_, rfl⟩
  obtain ⟨post, epost⟩ : ∃ x, os.drop (k + 2) = x := ⟨_, rfl⟩
  rw [epre] at hs hs' hl
  rw [epost] at hs hs'
  have hz : (ranMem zs pre).length = zs.length := ranMem_length _ _
  rw [hs', hs]
  constructor
  · rw [ranMem_append, ranMem_append]
    show ranMem (stepMem (stepMem (ranMem zs pre) b) a) post = ranMem (stepMem (stepMem (ranMem zs pre) a) b) post
    congr 1
    by_cases e : a.p = b.p
    · rcases h with h | ⟨h1, h2⟩
      · exact absurd e h
      · exact (steps_adds h1 h2 (by rw [e]) (by omega)).symm
    · exact (steps_far (by omega)).1.symm
  · intro hne
    have t1 := told_at (zs := zs) (pre := pre) (post := post) (a := a) (b := b)
    have t2 := told_at (zs := zs) (pre := pre) (post := post) (a := b) (b := a)
    have f := steps_far (Z := ranMem zs pre) (a := a) (b := b) (by omega)
    rw [hl] at t1 t2
    rw [t1.1, t1.2, t2.1, t2.2, f.2.1, f.2.2]
    exact ⟨rfl, rfl⟩
end Go.Proofs.YtpgokeogijpmaaaDoor
