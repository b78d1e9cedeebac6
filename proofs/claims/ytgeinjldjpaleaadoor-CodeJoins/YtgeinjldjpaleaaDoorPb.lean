/-
  A text behind a text: what is read of both.
-/
import Derived.Test.YtgeinjldjpaleaaDoorPa
namespace Go.Proofs.YtgeinjldjpaleaaDoor
open Go.RowKit

theorem index_app (b : List UInt8) : ∀ a : List UInt8, 0 ≤ Lib.index a [10] → Lib.index (a ++ b) [10] = Lib.index a [10]
  | [], h => by simp [Lib.index] at h
  | x :: l, h => by
    rw [List.cons_append]
    unfold Lib.index at h ⊢
    have e : ([10] : List UInt8).isPrefixOf (x :: (l ++ b)) = ([10] : List UInt8).isPrefixOf (x :: l) := by simp [List.isPrefixOf]
    rw [e]
    split
    · rfl
    · next h1 =>
      rw [if_neg h1] at h
      by_cases h2 : (Lib.index l [10] == -1) = true
      · rw [if_pos h2] at h; omega
      · rw [if_neg h2] at h
        have h3 := Lib.index_ge l [10]
        have h4 : Lib.index l [10] ≠ -1 := by simpa using h2
        rw [index_app b l (by omega), if_neg h2]
theorem en_index {a : List UInt8} (h : enOf a = true) : 0 ≤ Lib.index a [10] := by
  unfold enOf Lib.cut at h
  split at h
  · assumption
  · cases h
theorem cut_app {a : List UInt8} (b : List UInt8) (h : enOf a = true) : enOf (a ++ b) = true ∧ lnOf (a ++ b) = lnOf a ∧ rsOf (a ++ b) = rsOf a ++ b := by
  have h0 := en_index h
  have h1 := index_app b a h0
  have h2 := index_in a h0
  unfold enOf lnOf rsOf Lib.cut
  rw [h1, if_pos h0, if_pos h0]
  refine ⟨rfl, ?_, ?_⟩
  · simp only
    rw [List.take_append_of_le_length (by omega)]
  · simp only
    rw [List.drop_append_of_le_length (by simp; omega)]
theorem none_ten : ∀ a : List UInt8, ¬ 0 ≤ Lib.index a [10] → ∀ x ∈ a, x ≠ 10
  | [], _, x, hx => by cases hx
  | y :: l, h, x, hx => by
    unfold Lib.index at h
    split at h
    · exact absurd (Int.le_refl 0) h
    · next h1 =>
      have hy : y ≠ 10 := by
        intro e
        subst e
        exact h1 (by simp [List.isPrefixOf])
      have hl : ¬ 0 ≤ Lib.index l [10] := by
        intro h3
        have h4 : ¬ (Lib.index l [10] == -1) = true := by simp; omega
        rw [if_neg h4] at h
        omega
      rcases List.mem_cons.1 hx with rfl | hx
      · exact hy
      · exact none_ten l hl x hx
theorem rs_last {a : List UInt8} (h : rsOf a ≠ []) (he : enOf a = true) : (rsOf a).getLast? = a.getLast? := by
  have h0 := en_index he
  unfold rsOf Lib.cut at h ⊢
  rw [if_pos h0] at h ⊢
  simp only at h ⊢
  rw [List.getLast?_drop]
  rw [if_neg]
  intro hc
  exact h (List.drop_eq_nil_of_le hc)

/-- What is read with others ahead. -/
theorem parse_shift (pre : List In) : ∀ (n : Nat) (t : List UInt8) (acc : List In) (j : Nat), parseL n t (pre ++ acc) (pre.length + j) = if (parseL n t acc j).2.1 = 0 then (pre ++ (parseL n t acc j).1, (0, 0)) else ([], (1, (pre.length : Int) + (parseL n t acc j).2.2))
  | 0, _, _, _ => by simp [parseL]
  | n + 1, t, acc, j => by
    unfold parseL
    by_cases h0 : t = []
    · rw [if_pos h0, if_pos h0]; simp
    · rw [if_neg h0, if_neg h0]
      by_cases hk : (enOf t && lineOk (lnOf t)) = true
      · rw [if_pos hk, if_pos hk, List.append_assoc, Nat.add_assoc]
        exact parse_shift pre n _ _ _
      · rw [if_neg hk, if_neg hk]; simp
theorem parse_code : ∀ (n : Nat) (t : List UInt8) (acc : List In) (j : Nat), ((parseL n t acc j).2.1 = 0 ∧ (parseL n t acc j).2 = (0, 0)) ∨ ((parseL n t acc j).2.1 = 1 ∧ (parseL n t acc j).1 = [])
  | 0, _, _, _ => Or.inl ⟨rfl, rfl⟩
  | n + 1, t, acc, j => by
    unfold parseL
    by_cases h0 : t = []
    · rw [if_pos h0]; exact Or.inl ⟨rfl, rfl⟩
    · rw [if_neg h0]
      by_cases hk : (enOf t && lineOk (lnOf t)) = true
      · rw [if_pos hk]; exact parse_code n _ _ _
      · rw [if_neg hk]; exact Or.inr ⟨rfl, rfl⟩
theorem join_ok (b : List UInt8) : ∀ (n : Nat) (a : List UInt8) (acc : List In), a.length < n → (parseL n a acc acc.length).2.1 = 0 → ∀ m, (a ++ b).length < m → parseL m (a ++ b) acc acc.length = parseL (b.length + 1) b (parseL n a acc acc.length).1 (parseL n a acc acc.length).1.length
  | 0, _, _, h, _ => absurd h (Nat.not_lt_zero _)
  | n + 1, a, acc, h, hc => by
    intro m hm
    by_cases h0 : a = []
    · subst h0
      have e : parseL (n + 1) [] acc acc.length = (acc, (0, 0)) := by unfold parseL; rw [if_pos rfl]
      rw [e]
      exact parseL_fuel _ _ _ _ _ hm (Nat.lt_succ_self _)
    · unfold parseL at hc
      rw [if_neg h0] at hc
      by_cases hk : (enOf a && lineOk (lnOf a)) = true
      · rw [if_pos hk] at hc
        have he : enOf a = true := by
          cases hq : enOf a
          · rw [hq] at hk; cases hk
          · rfl
        obtain ⟨c1, c2, c3⟩ := cut_app b he
        have hsz := (cut_small a he).1
        obtain ⟨m', rfl⟩ : ∃ m', m = m' + 1 := ⟨m - 1, by omega⟩
        have hab : a ++ b ≠ [] := by simp [h0]
        have e1 : parseL (m' + 1) (a ++ b) acc acc.length = parseL m' (rsOf a ++ b) (acc ++ [lineI (lnOf a)]) (acc ++ [lineI (lnOf a)]).length := by
          conv => lhs; unfold parseL
          rw [if_neg hab, c1, c2, c3, if_pos (by rw [he] at hk; exact hk)]
          simp
        have e2 : parseL (n + 1) a acc acc.length = parseL n (rsOf a) (acc ++ [lineI (lnOf a)]) (acc ++ [lineI (lnOf a)]).length := by
          conv => lhs; unfold parseL
          rw [if_neg h0, if_pos hk]
          simp
        rw [e1, e2]
        refine join_ok b n _ _ (by omega) ?_ m' (by rw [List.length_append] at hm ⊢; omega)
        have e3 : (acc ++ [lineI (lnOf a)]).length = acc.length + 1 := by simp
        rw [e3]
        exact hc
      · rw [if_neg hk] at hc; cases hc
theorem join_bad (b : List UInt8) : ∀ (n : Nat) (a : List UInt8) (acc : List In) (j : Nat), a.length < n → (parseL n a acc j).2.1 ≠ 0 → (∃ x, a.getLast? = some x ∧ x ≠ 10) ∨ ∀ m, (a ++ b).length < m → parseL m (a ++ b) acc j = parseL n a acc j
  | 0, _, _, _, h, _ => absurd h (Nat.not_lt_zero _)
  | n + 1, a, acc, j, h, hc => by
    by_cases h0 : a = []
    · subst h0
      unfold parseL at hc
      rw [if_pos rfl] at hc
      exact absurd rfl hc
    · by_cases he : enOf a = true
      · obtain ⟨c1, c2, c3⟩ := cut_app b he
        have hsz := (cut_small a he).1
        have hab : a ++ b ≠ [] := by simp [h0]
        by_cases hk : lineOk (lnOf a) = true
        · have e2 : parseL (n + 1) a acc j = parseL n (rsOf a) (acc ++ [lineI (lnOf a)]) (j + 1) := by
            conv => lhs; unfold parseL
            rw [if_neg h0, he, hk]; rfl
          rw [e2] at hc ⊢
          rcases join_bad b n (rsOf a) _ _ (by omega) hc with ⟨x, hx, hx2⟩ | hr
          · left
            refine ⟨x, ?_, hx2⟩
            rw [← rs_last (fun e => by rw [e] at hx; cases hx) he]
            exact hx
          · right
            intro m hm
            obtain ⟨m', rfl⟩ : ∃ m', m = m' + 1 := ⟨m - 1, by omega⟩
            have e1 : parseL (m' + 1) (a ++ b) acc j = parseL m' (rsOf a ++ b) (acc ++ [lineI (lnOf a)]) (j + 1) := by
              conv => lhs; unfold parseL
              rw [if_neg hab, c1, c2, c3, hk]; rfl
            rw [e1]
            exact hr m' (by rw [List.length_append] at hm ⊢; omega)
        · right
          intro m hm
          obtain ⟨m', rfl⟩ : ∃ m', m = m' + 1 := ⟨m - 1, by omega⟩
          have hk2 : lineOk (lnOf a) = false := by simpa using hk
          unfold parseL
          rw [if_neg hab, if_neg h0, c1, c2, he, hk2]
          simp
      · left
        have hi : ¬ 0 ≤ Lib.index a [10] := fun hi => he (by unfold enOf Lib.cut; rw [if_pos hi])
        refine ⟨a.getLast h0, List.getLast?_eq_some_getLast h0, none_ten a hi _ (List.getLast_mem h0)⟩
end Go.Proofs.YtgeinjldjpaleaaDoor
