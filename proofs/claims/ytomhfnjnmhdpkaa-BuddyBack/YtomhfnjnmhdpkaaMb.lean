/-
  Lists of blocks that part a space: what stands apart, what is put in its place, what is halved and joined.
-/
import Derived.Test.YtomhfnjnmhdpkaaR
import Derived.Test.YtomhfnjnmhdpkaaK
namespace Go.Proofs.Ytomhfnjnmhdpkaa
open Go.RowKit

/-- Two blocks have no unit in common. -/
def Sep (x y : Bl) : Prop := x.1 + x.2 ≤ y.1 ∨ y.1 + y.2 ≤ x.1
theorem Sep.symm {x y : Bl} (h : Sep x y) : Sep y x := Or.symm h
/-- Each block stands behind the end of those ahead. -/
def Fol (xs : List Bl) : Prop := xs.Pairwise fun x y => x.1 + x.2 ≤ y.1
def sumS (xs : List Bl) : Int := (xs.map Prod.snd).sum
theorem sumS_cons (x : Bl) (xs : List Bl) : sumS (x :: xs) = x.2 + sumS xs := by simp [sumS]
theorem sumS_nil : sumS [] = 0 := rfl

structure Parts (u nx : Int) (us fs : List Bl) : Prop where
  lo : ∀ x ∈ us, nx ≤ x.1
  lo' : ∀ x ∈ fs, nx ≤ x.1
  fol : Fol us
  fol' : Fol fs
  sep : ∀ x ∈ us, ∀ y ∈ fs, Sep x y
  sum : u ≤ nx + sumS us + sumS fs
  top : nx ≤ u → (∀ x ∈ us, x.1 + x.2 ≤ u) → (∀ x ∈ fs, x.1 + x.2 ≤ u) → nx + sumS us + sumS fs = u

theorem partN_spec {u : Int} : ∀ (k : Nat) (nx : Int) (us fs : List Bl), partN u k nx us fs = true → (∀ x ∈ us, 1 ≤ x.2) → (∀ x ∈ fs, 1 ≤ x.2) → Parts u nx us fs
  | 0, _, _, _, h, _, _ => by simp [partN] at h
  | k + 1, nx, us, fs, h, h1, h2 => by
    rw [partN] at h
    by_cases hlt : nx < u
    · rw [if_pos hlt] at h
      by_cases hu : us.head?.map Prod.fst = some nx
      · rw [if_pos hu] at h
        obtain ⟨⟨t, c⟩, r, rfl⟩ : ∃ x r, us = x :: r := by cases us with
          | nil => simp at hu
          | cons x r => exact ⟨x, r, rfl⟩
        have ht : t = nx := by simpa using hu
        subst ht
        have hc := h1 (t, c) (by simp)
        simp only at hc
        have ih := partN_spec k (t + c) r fs h (fun x hx => h1 x (List.mem_cons_of_mem _ hx)) h2
        refine ⟨fun x hx => ?_, fun x hx => ?_, List.Pairwise.cons (fun y hy => ih.lo y hy) ih.fol, ih.fol', fun x hx y hy => ?_, ?_, fun g1 g2 g3 => ?_⟩
        · rcases List.mem_cons.1 hx with rfl | hx
          · exact Int.le_refl _
          · have := ih.lo x hx; omega
        · have := ih.lo' x hx; omega
        · rcases List.mem_cons.1 hx with rfl | hx
          · exact Or.inl (ih.lo' y hy)
          · exact ih.sep x hx y hy
        · have := ih.sum; rw [sumS_cons]; simp only; omega
        · have := ih.top (g2 (t, c) (by simp)) (fun x hx => g2 x (List.mem_cons_of_mem _ hx)) g3
          rw [sumS_cons]; simp only; omega
      · rw [if_neg hu] at h
        by_cases hf : fs.head?.map Prod.fst = some nx
        · rw [if_pos hf] at h
          obtain ⟨⟨t, c⟩, r, rfl⟩ : ∃ x r, fs = x :: r := by cases fs with
            | nil => simp at hf
            | cons x r => exact ⟨x, r, rfl⟩
          have ht : t = nx := by simpa using hf
          subst ht
          have hc := h2 (t, c) (by simp)
          simp only at hc
          have ih := partN_spec k (t + c) us r h h1 (fun x hx => h2 x (List.mem_cons_of_mem _ hx))
          refine ⟨fun x hx => ?_, fun x hx => ?_, ih.fol, List.Pairwise.cons (fun y hy => ih.lo' y hy) ih.fol', fun x hx y hy => ?_, ?_, fun g1 g2 g3 => ?_⟩
          · have := ih.lo x hx; omega
          · rcases List.mem_cons.1 hx with rfl | hx
            · exact Int.le_refl _
            · have := ih.lo' x hx; omega
          · rcases List.mem_cons.1 hy with rfl | hy
            · exact Or.inr (ih.lo x hx)
            · exact ih.sep x hx y hy
          · have := ih.sum; rw [sumS_cons]; simp only; omega
          · have := ih.top (g3 (t, c) (by simp)) g2 (fun x hx => g3 x (List.mem_cons_of_mem _ hx))
            rw [sumS_cons]; simp only; omega
        · rw [if_neg hf] at h; cases h
    · rw [if_neg hlt] at h
      have hu : us = [] := by cases us with
        | nil => rfl
        | cons x r => simp at h
      have hf : fs = [] := by cases fs with
        | nil => rfl
        | cons x r => simp at h
      subst hu hf
      refine ⟨fun x hx => (by cases hx), fun x hx => (by cases hx), List.Pairwise.nil, List.Pairwise.nil, fun x hx => (by cases hx), by rw [sumS_nil]; omega, fun g1 _ _ => by rw [sumS_nil]; omega⟩

/-- What lies apart, with sizes from 1 on, does not begin at the same unit. -/
theorem Sep.ne {x y : Bl} (h : Sep x y) (hx : 1 ≤ x.2) (hy : 1 ≤ y.2) : x.1 ≠ y.1 := by rcases h with h | h <;> omega
theorem insB_mem {x y : Bl} {xs : List Bl} : y ∈ insB x xs ↔ y = x ∨ y ∈ xs := by
  unfold insB putAt
  rw [List.mem_append, List.mem_cons]
  constructor
  · rintro (h | h | h)
    · exact Or.inr (List.mem_of_mem_take h)
    · exact Or.inl h
    · exact Or.inr (List.mem_of_mem_drop h)
  · rintro (h | h)
    · exact Or.inr (Or.inl h)
    · have : y ∈ xs.take (placeN x.1 xs) ++ xs.drop (placeN x.1 xs) := by rw [List.take_append_drop]; exact h
      rcases List.mem_append.1 this with h | h
      · exact Or.inl h
      · exact Or.inr (Or.inr h)
theorem take_lt {xs : List Bl} {s : Int} : ∀ y ∈ xs.take (placeN s xs), y.1 < s := by
  intro y hy
  obtain ⟨i, hi, e⟩ := List.getElem_of_mem hy
  rw [List.length_take] at hi
  have h1 := place_lt (show i < placeN s xs by omega)
  rw [List.getElem_take] at e
  unfold aAt at h1
  rw [List.getD_eq_getElem?_getD, List.getElem?_eq_getElem (by omega), Option.getD_some, e] at h1
  exact h1
theorem drop_ge {xs : List Bl} {s : Int} (hr : Rise xs) : ∀ y ∈ xs.drop (placeN s xs), s ≤ y.1 := by
  intro y hy
  obtain ⟨i, hi, e⟩ := List.getElem_of_mem hy
  rw [List.length_drop] at hi
  have h1 := place_ge hr (show placeN s xs ≤ placeN s xs + i by omega) (by omega)
  rw [List.getElem_drop] at e
  unfold aAt at h1
  rw [List.getD_eq_getElem?_getD, List.getElem?_eq_getElem (by omega), Option.getD_some, e] at h1
  exact h1
theorem insB_rise {x : Bl} {xs : List Bl} (hr : Rise xs) (hne : ∀ y ∈ xs, y.1 ≠ x.1) : Rise (insB x xs) := by
  unfold insB putAt Rise
  rw [List.pairwise_append]
  refine ⟨List.Pairwise.sublist (List.take_sublist _ _) hr, List.Pairwise.cons (fun y hy => ?_) (List.Pairwise.sublist (List.drop_sublist _ _) hr), fun y hy z hz => ?_⟩
  · have h1 := drop_ge hr y hy
    have h2 := hne y (List.mem_of_mem_drop hy)
    omega
  · have h1 := take_lt y hy
    rcases List.mem_cons.1 hz with rfl | hz
    · exact h1
    · have := drop_ge hr z hz; omega
theorem insAll_mem : ∀ {ys xs : List Bl} {y : Bl}, y ∈ insAll xs ys ↔ y ∈ ys ∨ y ∈ xs
  | [], xs, y => by simp [insAll]
  | x :: ys, xs, y => by
    show y ∈ insAll (insB x xs) ys ↔ _
    rw [insAll_mem, insB_mem, List.mem_cons]
    constructor
    · rintro (h | h | h) <;> simp [h]
    · rintro ((h | h) | h) <;> simp [h]
theorem insAll_rise : ∀ {ys xs : List Bl}, Rise xs → ys.Pairwise (fun a b => a.1 ≠ b.1) → (∀ y ∈ ys, ∀ x ∈ xs, x.1 ≠ y.1) → Rise (insAll xs ys)
  | [], _, h, _, _ => h
  | y :: ys, xs, h, h1, h2 => by
    show Rise (insAll (insB y xs) ys)
    obtain ⟨h3, h4⟩ := List.pairwise_cons.1 h1
    refine insAll_rise (insB_rise h (fun x hx => h2 y (by simp) x hx)) h4 (fun z hz x hx => ?_)
    rcases insB_mem.1 hx with rfl | hx
    · exact h3 z hz
    · exact h2 z (List.mem_cons_of_mem _ hz) x hx
theorem noB_iff {x y : Bl} {xs : List Bl} : y ∈ noB x xs ↔ y ∈ xs ∧ y ≠ x := by
  unfold noB leftL
  rw [List.mem_filter]
  obtain ⟨a, b⟩ := x
  obtain ⟨c, d⟩ := y
  simp
  intro _
  by_cases h : c = a <;> simp [h]
theorem rise_ne {xs : List Bl} (h : Rise xs) {x y : Bl} (hx : x ∈ xs) (hy : y ∈ xs) (hne : y ≠ x) : y.1 ≠ x.1 := by
  obtain ⟨i, hi, rfl⟩ := List.getElem_of_mem hx
  obtain ⟨j, hj, rfl⟩ := List.getElem_of_mem hy
  rcases Nat.lt_trichotomy i j with h1 | h1 | h1
  · have := List.pairwise_iff_getElem.1 h i j hi hj h1; omega
  · subst h1; exact absurd rfl hne
  · have := List.pairwise_iff_getElem.1 h j i hj hi h1; omega

theorem fol_sep {xs : List Bl} (h : Fol xs) {x y : Bl} (hx : x ∈ xs) (hy : y ∈ xs) (hne : y ≠ x) : Sep x y := by
  obtain ⟨i, hi, rfl⟩ := List.getElem_of_mem hx
  obtain ⟨j, hj, rfl⟩ := List.getElem_of_mem hy
  rcases Nat.lt_trichotomy i j with h1 | h1 | h1
  · exact Or.inl (List.pairwise_iff_getElem.1 h i j hi hj h1)
  · subst h1; exact absurd rfl hne
  · exact Or.inr (List.pairwise_iff_getElem.1 h j i hj hi h1)

/-- What a block is halved into. -/
structure Halves (n t c d : Int) (ys : List Bl) : Prop where
  pd : pw d = true
  le : d ≤ c
  dvd : t % d = 0
  small : ¬ n ≤ d / 2
  inn : ∀ y ∈ ys, t + d ≤ y.1 ∧ y.1 + y.2 ≤ t + c
  pys : ∀ y ∈ ys, pw y.2 = true ∧ 0 ≤ y.1 - t ∧ y.1 % y.2 = 0
  desc : ys.Pairwise (fun a b => b.1 + b.2 ≤ a.1)
  sum : d + sumS ys = c
theorem halves_spec {n t : Int} (hn : 1 ≤ n) : ∀ (k : Nat) (c : Int), pw c = true → t % c = 0 → c ≤ (2 : Int) ^ k → Halves n t c (halves n t k c).1 (halves n t k c).2
  | 0, c, hp, hm, hk => by
    rw [Int.pow_zero] at hk
    exact ⟨hp, Int.le_refl _, hm, by show ¬ n ≤ c / 2; omega, fun y hy => (by cases hy), fun y hy => (by cases hy), List.Pairwise.nil, by show c + sumS [] = c; rw [sumS_nil]; omega⟩
  | k + 1, c, hp, hm, hk => by
    rw [halves]
    by_cases hge : n ≤ c / 2
    · rw [if_pos hge]
      obtain ⟨h1, h2⟩ := pw_half hp (by omega)
      obtain ⟨h3, h4⟩ := mate_half hp (by omega) hm
      have h5 : c / 2 ≤ (2 : Int) ^ k := by rw [Int.pow_succ] at hk; omega
      have ih := halves_spec hn k (c / 2) h1 h4 h5
      have hd := pw_pos ih.pd
      have hc2 := pw_pos h1
      refine ⟨ih.pd, Int.le_trans ih.le (by omega), ih.dvd, ih.small, fun y hy => ?_, fun y hy => ?_, List.Pairwise.cons (fun y hy => ?_) ih.desc, ?_⟩
      · rcases List.mem_cons.1 hy with rfl | hy
        · have := ih.le; simp only; constructor <;> omega
        · have := ih.inn y hy; omega
      · rcases List.mem_cons.1 hy with rfl | hy
        · refine ⟨h1, by simp only; omega, ?_⟩
          simp only
          rw [Int.add_emod_right]; exact h4
        · exact ih.pys y hy
      · exact (ih.inn y hy).2
      · have := ih.sum; rw [sumS_cons]; simp only; omega
    · rw [if_neg hge]
      exact ⟨hp, Int.le_refl _, hm, hge, fun y hy => (by cases hy), fun y hy => (by cases hy), List.Pairwise.nil, by show c + sumS [] = c; rw [sumS_nil]; omega⟩
theorem Halves.one {n t c d : Int} {ys : List Bl} (h : Halves n t c d ys) {y : Bl} (hy : y ∈ ys) : 1 ≤ y.2 := pw_pos (h.pys y hy).1
end Go.Proofs.Ytomhfnjnmhdpkaa
