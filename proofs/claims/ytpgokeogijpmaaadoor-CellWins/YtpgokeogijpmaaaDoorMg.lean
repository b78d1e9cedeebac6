/-
  CellWins on lists: of tasks that each try to put something else, the first one that is picked wins.
-/
import Derived.Test.YtpgokeogijpmaaaDoorMf
namespace Go.Proofs.YtpgokeogijpmaaaDoor.Mx
open Go.RowKit

def casOp (h x : Int) : Op4 := ⟨5, 0, h, x⟩
def winT (h : Int) (ws : List Int) : List (List Op4) := ws.map fun x => [casOp h x]
theorem winT_at {h : Int} {ws : List Int} {i : Nat} (hi : i < ws.length) : (winT h ws).getD i [] = [casOp h (ws.getD i 0)] := by
  unfold winT
  rw [List.getD_eq_getElem?_getD, List.getElem?_map, List.getElem?_eq_getElem hi]
  simp [hi]
theorem win_fault (h x : Int) : fault 1 [casOp h x] = (0, 0) := by
  have : wAt 1 [casOp h x] 0 = 0 := by
    show wrongOf ((1 : Nat) : Int) 5 0 h x = 0
    unfold wrongOf
    simp
  unfold fault faultOf
  rw [if_neg (by simp)]
  show faultFrom (wAt 1 [casOp h x]) 1 0 = (0, 0)
  unfold faultFrom
  rw [this]
  rfl
/-- What holds behind some picks: the first one has won. -/
structure Won (n t0 : Nat) (w : Int) (D : List Int) (s : List Int × List (List Int)) : Prop where
  mem : s.1 = [w]
  len : s.2.length = n
  at' : ∀ i, i < n → s.2.getD i [] = if (i : Int) ∈ D then [if i = t0 then 1 else 0] else []
theorem won_step {h : Int} {ws : List Int} {t0 : Nat} {w : Int} {D : List Int} {s : List Int × List (List Int)} (hW : Won ws.length t0 w D s) (hw : w ≠ h) {t : Nat} (ht : t < ws.length) (h0 : (t0 : Int) ∈ D) : Won ws.length t0 w (D ++ [(t : Int)]) (mixStep (winT h ws) s t) := by
  have e1 := hW.at' t ht
  unfold mixStep
  rw [winT_at ht]
  by_cases hd : (t : Int) ∈ D
  · rw [if_pos hd] at e1
    rw [if_neg (by rw [e1]; simp)]
    refine ⟨hW.mem, hW.len, fun i hi => ?_⟩
    rw [hW.at' i hi]
    have : ((i : Int) ∈ D ++ [(t : Int)]) ↔ (i : Int) ∈ D := by
      rw [List.mem_append, List.mem_singleton]
      constructor
      · rintro (h1 | h1)
        · exact h1
        · rw [h1]; exact hd
      · exact Or.inl
    simp only [this]
  · rw [if_neg hd] at e1
    have hne : t ≠ t0 := fun e => hd (by rw [e]; exact h0)
    rw [if_pos (by rw [e1]; simp)]
    have e2 : opAtD [casOp h (ws.getD t 0)] (s.2.getD t []).length = casOp h (ws.getD t 0) := by rw [e1]; rfl
    rw [e2, e1, hW.mem]
    have e3 : stepMem [w] (casOp h (ws.getD t 0)) = [w] := by
      show [w].set 0 (thenOf w 5 h (ws.getD t 0)) = [w]
      unfold thenOf
      simp [hw]
    have e4 : stepTold [w] (casOp h (ws.getD t 0)) = 0 := by
      show toldOf w 5 h = 0
      unfold toldOf
      simp [hw]
    rw [e3, e4]
    refine ⟨rfl, by simpa using hW.len, fun i hi => ?_⟩
    show (s.2.set t ([] ++ [0])).getD i [] = _
    by_cases hit : i = t
    · subst hit
      rw [List.getD_eq_getElem?_getD, List.getElem?_set_self (by rw [hW.len]; exact hi)]
      rw [if_pos (by simp), if_neg hne]
      rfl
    · rw [List.getD_eq_getElem?_getD, List.getElem?_set_ne (by omega), ← List.getD_eq_getElem?_getD, hW.at' i hi]
      have : ((i : Int) ∈ D ++ [(t : Int)]) ↔ (i : Int) ∈ D := by
        rw [List.mem_append, List.mem_singleton]
        constructor
        · rintro (h1 | h1)
          · exact h1
          · omega
        · exact Or.inl
      simp only [this]
theorem won_all {h : Int} {ws : List Int} {t0 : Nat} {w : Int} (hw : w ≠ h) : ∀ (ps D : List Int) (s : List Int × List (List Int)), Won ws.length t0 w D s → (t0 : Int) ∈ D → (∀ x ∈ ps, 0 ≤ x ∧ x < ws.length) → Won ws.length t0 w (D ++ ps) (mixAll (winT h ws) ps s)
  | [], D, s, hW, _, _ => by rw [List.append_nil]; exact hW
  | x :: r, D, s, hW, h0, hp => by
    obtain ⟨t, rfl⟩ : ∃ t : Nat, x = (t : Int) := ⟨x.toNat, by have := (hp x (by simp)).1; omega⟩
    have ht : t < ws.length := by have := (hp (t : Int) (by simp)).2; omega
    have h1 := won_step hW hw ht h0
    have h2 := won_all hw r (D ++ [(t : Int)]) _ h1 (by simp [h0]) (fun y hy => hp y (by simp [hy]))
    rw [List.append_assoc] at h2
    exact h2
theorem won_first {h : Int} {ws : List Int} {t0 : Nat} (ht : t0 < ws.length) : Won ws.length t0 (ws.getD t0 0) [(t0 : Int)] (mixStep (winT h ws) ([h], List.replicate ws.length []) t0) := by
  unfold mixStep
  rw [winT_at ht]
  simp only [rep_nil]
  rw [if_pos (by simp)]
  have e2 : opAtD [casOp h (ws.getD t0 0)] ([] : List Int).length = casOp h (ws.getD t0 0) := rfl
  rw [e2]
  have e3 : stepMem [h] (casOp h (ws.getD t0 0)) = [ws.getD t0 0] := by
    show [h].set 0 (thenOf h 5 h (ws.getD t0 0)) = [ws.getD t0 0]
    unfold thenOf
    simp
  have e4 : stepTold [h] (casOp h (ws.getD t0 0)) = 1 := by
    show toldOf h 5 h = 1
    unfold toldOf
    simp
  rw [e3, e4]
  refine ⟨rfl, by simp, fun i hi => ?_⟩
  show ((List.replicate ws.length []).set t0 ([] ++ [1])).getD i [] = _
  by_cases hit : i = t0
  · subst hit
    rw [List.getD_eq_getElem?_getD, List.getElem?_set_self (by simpa using hi)]
    simp
  · rw [List.getD_eq_getElem?_getD, List.getElem?_set_ne (by omega), ← List.getD_eq_getElem?_getD, rep_nil, if_neg (by simp; omega)]
/-- The numbers from 0 on, so many. -/
def upTo (n : Nat) : List Int := (List.range n).map fun i : Nat => (i : Int)
theorem upTo_succ (n : Nat) : upTo (n + 1) = upTo n ++ [(n : Int)] := by
  unfold upTo
  rw [List.range_succ, List.map_append]
  rfl
theorem upTo_len (n : Nat) : (upTo n).length = n := by unfold upTo; simp
theorem mem_upTo {n : Nat} {x : Int} : x ∈ upTo n ↔ 0 ≤ x ∧ x < n := by
  unfold upTo
  rw [List.mem_map]
  constructor
  · rintro ⟨i, hi, rfl⟩
    have := List.mem_range.1 hi
    omega
  · intro h
    exact ⟨x.toNat, List.mem_range.2 (by omega), by omega⟩
theorem wins_mix {h : Int} {ws ps : List Int} (hn : 0 < ws.length) (hp : ∀ x ∈ ps, 0 ≤ x ∧ x < ws.length) (hne : ∀ i, i < ws.length → ws.getD i 0 ≠ h) :
    ∃ t0 : Nat, t0 < ws.length ∧ (ps ++ upTo ws.length).getD 0 0 = (t0 : Int) ∧ (mixAll (winT h ws) (ps ++ upTo ws.length) ([h], List.replicate ws.length [])).1 = [ws.getD t0 0] ∧ ∀ i, i < ws.length → (mixAll (winT h ws) (ps ++ upTo ws.length) ([h], List.replicate ws.length [])).2.getD i [] = [if i = t0 then 1 else 0] := by
  have hall : ∀ x ∈ ps ++ upTo ws.length, 0 ≤ x ∧ x < ws.length := fun x hx => by
    rcases List.mem_append.1 hx with h1 | h1
    · exact hp x h1
    · exact mem_upTo.1 h1
  have hin : ∀ i, i < ws.length → (i : Int) ∈ ps ++ upTo ws.length := fun i hi => List.mem_append.2 (Or.inr (mem_upTo.2 (by omega)))
  obtain ⟨x, r, e⟩ : ∃ x r, ps ++ upTo ws.length = x :: r := by
    cases e : ps ++ upTo ws.length with
    | nil =>
      have := congrArg List.length e
      rw [List.length_append, upTo_len] at this
      rw [List.length_nil] at this
      omega
    | cons x r => exact ⟨x, r, rfl⟩
  rw [e] at hall hin ⊢
  obtain ⟨t0, rfl⟩ : ∃ t : Nat, x = (t : Int) := ⟨x.toNat, by have := (hall x (by simp)).1; omega⟩
  have ht : t0 < ws.length := by have := (hall (t0 : Int) (by simp)).2; omega
  refine ⟨t0, ht, rfl, ?_⟩
  have h1 := won_all (hne t0 ht) r [(t0 : Int)] _ (won_first (h := h) ht) (by simp) (fun y hy => hall y (by simp [hy]))
  have e2 : mixAll (winT h ws) ((t0 : Int) :: r) ([h], List.replicate ws.length []) = mixAll (winT h ws) r (mixStep (winT h ws) ([h], List.replicate ws.length []) t0) := rfl
  rw [e2]
  refine ⟨h1.mem, fun i hi => ?_⟩
  rw [h1.at' i hi]
  exact if_pos (hin i hi)

end Go.Proofs.YtpgokeogijpmaaaDoor.Mx
