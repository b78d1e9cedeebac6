/-
  What is taken, and given back, leaves the lists as they were.
-/
import Derived.Test.YtomhfnjnmhdpkaaTv
namespace Go.Proofs.Ytomhfnjnmhdpkaa
open Go.RowKit

theorem firstW_good {u : Int} : ∀ (xs : List Bl) (p : Option Int), (∀ x ∈ xs, fitB u x = true) → Rise xs → (∀ q, p = some q → ∀ x ∈ xs, q < x.1) → firstW u p xs = 0
  | [], _, _, _, _ => rfl
  | x :: r, p, hf, hr, hp => by
    obtain ⟨h1, h2⟩ := List.pairwise_cons.1 hr
    have ih := firstW_good r (some x.1) (fun y hy => hf y (List.mem_cons_of_mem _ hy)) h2 (fun q e y hy => by cases e; exact h1 y hy)
    rw [firstW_cons, if_pos (hf x (by simp)), ih]
    cases p with
    | none => simp
    | some q =>
      have := hp q rfl x (by simp)
      simp; omega

/-- Blocks that stand apart in a part of the space are no more than it. -/
theorem sum_le {U : Int} : ∀ (N : Nat) (m : Int) (us fs : List Bl), us.length + fs.length ≤ N → m ≤ U → (∀ x ∈ us, m ≤ x.1 ∧ x.1 + x.2 ≤ U ∧ 1 ≤ x.2) → (∀ x ∈ fs, m ≤ x.1 ∧ x.1 + x.2 ≤ U ∧ 1 ≤ x.2) → Fol us → Fol fs → (∀ x ∈ us, ∀ y ∈ fs, Sep x y) → m + sumS us + sumS fs ≤ U := by
  intro N
  induction N with
  | zero =>
    intro m us fs hN hm h1 h2 _ _ _
    have e1 : us = [] := List.eq_nil_of_length_eq_zero (by omega)
    have e2 : fs = [] := List.eq_nil_of_length_eq_zero (by omega)
    subst e1 e2
    rw [sumS_nil]; omega
  | succ N ih =>
    intro m us fs hN hm h1 h2 f1 f2 hs
    cases us with
    | nil =>
      cases fs with
      | nil => rw [sumS_nil]; omega
      | cons y ys =>
        obtain ⟨g1, g2⟩ := List.pairwise_cons.1 f2
        have hy := h2 y (by simp)
        have := ih (y.1 + y.2) [] ys (by simp at hN ⊢; omega) hy.2.1 (fun x hx => by cases hx) (fun x hx => ⟨g1 x hx, (h2 x (List.mem_cons_of_mem _ hx)).2⟩) List.Pairwise.nil g2 (fun x hx => by cases hx)
        rw [sumS_cons]
        omega
    | cons x xs =>
      obtain ⟨g1, g2⟩ := List.pairwise_cons.1 f1
      have hx := h1 x (by simp)
      by_cases hc : ∀ y ∈ fs, x.1 ≤ y.1
      · have := ih (x.1 + x.2) xs fs (by simp at hN ⊢; omega) hx.2.1 (fun z hz => ⟨g1 z hz, (h1 z (List.mem_cons_of_mem _ hz)).2⟩) (fun z hz => ⟨by
          have h3 := hc z hz
          have h4 := (h2 z hz).2.2
          rcases hs x (by simp) z hz with h5 | h5 <;> omega, (h2 z hz).2⟩) g2 f2 (fun a ha b hb => hs a (List.mem_cons_of_mem _ ha) b hb)
        rw [sumS_cons]
        omega
      · cases fs with
        | nil => exact absurd (fun y hy => by cases hy) hc
        | cons y ys =>
          obtain ⟨k1, k2⟩ := List.pairwise_cons.1 f2
          have hy := h2 y (by simp)
          have hyx : y.1 < x.1 := by
            rcases Int.lt_or_le y.1 x.1 with h | h
            · exact h
            · exfalso
              apply hc
              intro z hz
              rcases List.mem_cons.1 hz with rfl | hz
              · exact h
              · have := k1 z hz; omega
          have := ih (y.1 + y.2) (x :: xs) ys (by simp at hN ⊢; omega) hy.2.1 (fun z hz => ⟨by
            have h4 : x.1 ≤ z.1 := by
              rcases List.mem_cons.1 hz with rfl | hz
              · exact Int.le_refl _
              · have := g1 z hz; omega
            have h6 := (h1 z hz).2.2
            rcases hs z hz y (by simp) with h5 | h5 <;> omega, (h1 z hz).2⟩) (fun z hz => ⟨k1 z hz, (h2 z (List.mem_cons_of_mem _ hz)).2⟩) f1 k2 (fun a ha b hb => hs a ha b (List.mem_cons_of_mem _ hb))
          rw [sumS_cons]
          simp only [sumS_cons] at this ⊢
          omega
theorem sum_nonneg : ∀ {xs : List Bl}, (∀ x ∈ xs, 1 ≤ x.2) → 0 ≤ sumS xs
  | [], _ => by rw [sumS_nil]; omega
  | x :: xs, h => by
    have := sum_nonneg (xs := xs) (fun y hy => h y (List.mem_cons_of_mem _ hy))
    have h1 := h x (by simp)
    rw [sumS_cons]; omega
theorem partN_of {U : Int} : ∀ (k : Nat) (nx : Int) (us fs : List Bl), us.length + fs.length < k → nx ≤ U → (∀ x ∈ us, nx ≤ x.1 ∧ x.1 + x.2 ≤ U ∧ 1 ≤ x.2) → (∀ x ∈ fs, nx ≤ x.1 ∧ x.1 + x.2 ≤ U ∧ 1 ≤ x.2) → Fol us → Fol fs → (∀ x ∈ us, ∀ y ∈ fs, Sep x y) → nx + sumS us + sumS fs = U → partN U k nx us fs = true := by
  intro k
  induction k with
  | zero => intro nx us fs h; omega
  | succ k ih =>
    intro nx us fs hk hm h1 h2 f1 f2 hs hsum
    rw [partN]
    by_cases hlt : nx < U
    · rw [if_pos hlt]
      by_cases hu : us.head?.map Prod.fst = some nx
      · rw [if_pos hu]
        obtain ⟨⟨t, c⟩, r, rfl⟩ : ∃ x r, us = x :: r := by cases us with
          | nil => simp at hu
          | cons x r => exact ⟨x, r, rfl⟩
        have ht : t = nx := by simpa using hu
        subst ht
        obtain ⟨g1, g2⟩ := List.pairwise_cons.1 f1
        have hx := h1 (t, c) (by simp)
        simp only at hx
        refine ih (t + c) r fs (by simp at hk; omega) hx.2.1 (fun z hz => ⟨g1 z hz, (h1 z (List.mem_cons_of_mem _ hz)).2⟩) (fun z hz => ⟨by
          have h3 := (h2 z hz).1
          have h4 := (h2 z hz).2.2
          rcases hs (t, c) (by simp) z hz with h5 | h5 <;> simp only at h5 <;> omega, (h2 z hz).2⟩) g2 f2 (fun a ha b hb => hs a (List.mem_cons_of_mem _ ha) b hb) ?_
        rw [sumS_cons] at hsum
        simp only at hsum
        omega
      · rw [if_neg hu]
        by_cases hf : fs.head?.map Prod.fst = some nx
        · rw [if_pos hf]
          obtain ⟨⟨t, c⟩, r, rfl⟩ : ∃ x r, fs = x :: r := by cases fs with
            | nil => simp at hf
            | cons x r => exact ⟨x, r, rfl⟩
          have ht : t = nx := by simpa using hf
          subst ht
          obtain ⟨g1, g2⟩ := List.pairwise_cons.1 f2
          have hx := h2 (t, c) (by simp)
          simp only at hx
          refine ih (t + c) us r (by simp at hk; omega) hx.2.1 (fun z hz => ⟨by
            have h3 := (h1 z hz).1
            have h4 := (h1 z hz).2.2
            rcases hs z hz (t, c) (by simp) with h5 | h5 <;> simp only at h5 <;> omega, (h1 z hz).2⟩) (fun z hz => ⟨g1 z hz, (h2 z (List.mem_cons_of_mem _ hz)).2⟩) f1 g2 (fun a ha b hb => hs a ha b (List.mem_cons_of_mem _ hb)) ?_
          rw [sumS_cons] at hsum
          simp only at hsum
          omega
        · exfalso
          have lo : ∀ (xs : List Bl), (∀ x ∈ xs, nx ≤ x.1 ∧ x.1 + x.2 ≤ U ∧ 1 ≤ x.2) → Fol xs → ¬ xs.head?.map Prod.fst = some nx → ∀ x ∈ xs, nx + 1 ≤ x.1 := by
            intro xs hx hfol hh x hxm
            cases xs with
            | nil => cases hxm
            | cons y ys =>
              have hy : y.1 ≠ nx := by simpa using hh
              have h3 := hx y (by simp)
              obtain ⟨g1, _⟩ := List.pairwise_cons.1 hfol
              rcases List.mem_cons.1 hxm with rfl | hxm
              · omega
              · have := g1 x hxm; omega
          have := sum_le (U := U) _ (nx + 1) us fs (Nat.le_refl _) (by omega) (fun x hx => ⟨lo us h1 f1 hu x hx, (h1 x hx).2⟩) (fun x hx => ⟨lo fs h2 f2 hf x hx, (h2 x hx).2⟩) f1 f2 hs
          omega
    · rw [if_neg hlt]
      have s1 := sum_nonneg (xs := us) (fun x hx => (h1 x hx).2.2)
      have s2 := sum_nonneg (xs := fs) (fun x hx => (h2 x hx).2.2)
      have e1 : us = [] := by
        cases us with
        | nil => rfl
        | cons x r =>
          have h3 := sum_nonneg (xs := r) (fun y hy => (h1 y (List.mem_cons_of_mem _ hy)).2.2)
          have h4 := (h1 x (by simp)).2.2
          rw [sumS_cons] at hsum s1
          omega
      have e2 : fs = [] := by
        cases fs with
        | nil => rfl
        | cons x r =>
          have h3 := sum_nonneg (xs := r) (fun y hy => (h2 y (List.mem_cons_of_mem _ hy)).2.2)
          have h4 := (h2 x (by simp)).2.2
          rw [sumS_cons] at hsum s2
          omega
      subst e1 e2
      rfl
theorem fol_of {xs : List Bl} (hr : Rise xs) (h1 : ∀ x ∈ xs, 1 ≤ x.2) (hs : ∀ x ∈ xs, ∀ y ∈ xs, y ≠ x → Sep x y) : Fol xs := by
  refine List.Pairwise.imp_of_mem (fun {a b} ha hb hab => ?_) hr
  have := h1 a ha
  have := h1 b hb
  rcases hs a ha b hb (fun e => by rw [e] at hab; omega) with h | h <;> omega
theorem sumS_append (xs ys : List Bl) : sumS (xs ++ ys) = sumS xs + sumS ys := by
  unfold sumS; rw [List.map_append, List.sum_append]
theorem sumS_insB (x : Bl) (xs : List Bl) : sumS (insB x xs) = x.2 + sumS xs := by
  unfold insB putAt
  rw [sumS_append, sumS_cons]
  have h : sumS xs = sumS (xs.take (placeN x.1 xs)) + sumS (xs.drop (placeN x.1 xs)) := by rw [← sumS_append, List.take_append_drop]
  omega
theorem sumS_insAll : ∀ (ys xs : List Bl), sumS (insAll xs ys) = sumS ys + sumS xs
  | [], xs => by rw [sumS_nil]; show sumS xs = _; omega
  | y :: ys, xs => by
    show sumS (insAll (insB y xs) ys) = _
    rw [sumS_insAll ys, sumS_insB, sumS_cons]; omega
theorem noB_insB {x : Bl} {xs : List Bl} (h : ¬ x ∈ xs) : noB x (insB x xs) = xs := by
  have hp : ∀ ys : List Bl, (∀ y ∈ ys, y ∈ xs) → ys.filter (fun p => !(p.1 == x.1 && p.2 == x.2)) = ys := fun ys hy => by
    rw [List.filter_eq_self]
    intro y hym
    have h1 : y ≠ x := fun e => h (by rw [← e]; exact hy y hym)
    obtain ⟨a, b⟩ := x
    obtain ⟨c, d⟩ := y
    simp
    by_cases e1 : c = a
    · right; intro e2; exact h1 (by rw [e1, e2])
    · left; exact e1
  unfold noB leftL insB putAt
  rw [List.filter_append, List.filter_cons]
  simp only [BEq.rfl, Bool.and_self, Bool.not_true, Bool.false_eq_true, if_false]
  rw [hp _ (fun y hy => List.mem_of_mem_take hy), hp _ (fun y hy => List.mem_of_mem_drop hy), List.take_append_drop]
theorem rise_ext : ∀ {a b : List Bl}, Rise a → Rise b → (∀ z, z ∈ a ↔ z ∈ b) → a = b
  | [], [], _, _, _ => rfl
  | [], y :: b, _, _, h => by have := (h y).2 (by simp); cases this
  | x :: a, [], _, _, h => by have := (h x).1 (by simp); cases this
  | x :: a, y :: b, ha, hb, h => by
    obtain ⟨a1, a2⟩ := List.pairwise_cons.1 ha
    obtain ⟨b1, b2⟩ := List.pairwise_cons.1 hb
    have e : x = y := by
      rcases List.mem_cons.1 ((h x).1 (by simp)) with h1 | h1
      · exact h1
      rcases List.mem_cons.1 ((h y).2 (by simp)) with h2 | h2
      · exact h2.symm
      have := b1 x h1
      have := a1 y h2
      omega
    subst e
    rw [rise_ext a2 b2 (fun z => ⟨fun hz => ?_, fun hz => ?_⟩)]
    · rcases List.mem_cons.1 ((h z).1 (List.mem_cons_of_mem _ hz)) with h1 | h1
      · subst h1; have := a1 z hz; omega
      · exact h1
    · rcases List.mem_cons.1 ((h z).2 (List.mem_cons_of_mem _ hz)) with h1 | h1
      · subst h1; have := b1 z hz; omega
      · exact h1
theorem insB_noB {x : Bl} {xs : List Bl} (hr : Rise xs) (hx : x ∈ xs) : insB x (noB x xs) = xs := by
  refine rise_ext (insB_rise (noB_rise hr) (fun y hy => ?_)) hr (fun z => ?_)
  · obtain ⟨h1, h2⟩ := noB_iff.1 hy
    exact rise_ne hr hx h1 h2
  · rw [insB_mem, noB_iff]
    constructor
    · rintro (h | h)
      · rw [h]; exact hx
      · exact h.1
    · intro h
      by_cases e : z = x
      · exact Or.inl e
      · exact Or.inr ⟨h, e⟩
theorem sumS_noB {x : Bl} {xs : List Bl} (hr : Rise xs) (hx : x ∈ xs) : x.2 + sumS (noB x xs) = sumS xs := by
  have := sumS_insB x (noB x xs)
  rw [insB_noB hr hx] at this
  exact this.symm
theorem mate_mate {t c : Int} (hp : pw c = true) (_h0 : 0 ≤ t) (hm : t % c = 0) : mateB (mateB (t, c)) = (t, c) := by
  have hc := pw_pos hp
  have e : t = c * (t / c) := by have := Int.mul_ediv_add_emod t c; omega
  obtain ⟨q, hq⟩ : ∃ q, t / c = q := ⟨_, rfl⟩
  have ev : evn t c = (q % 2 == 0) := by unfold evn; rw [hq]
  rw [hq] at e
  unfold mateB mateS
  simp only
  rw [ev]
  rcases (show q % 2 = 0 ∨ q % 2 = 1 by omega) with h | h
  · have h1 : (q % 2 == 0) = true := by simpa using h
    rw [h1]
    simp only [if_true]
    have h2 : evn (t + c) c = false := by
      unfold evn
      have h3 : (t + c) / c = q + 1 := by rw [Int.add_ediv_of_dvd_right (Int.dvd_refl c), hq, Int.ediv_self (by omega)]
      rw [h3]; simp; omega
    rw [h2]
    simp
  · have h1 : (q % 2 == 0) = false := by simp; omega
    rw [h1]
    simp only [Bool.false_eq_true, if_false]
    have h2 : evn (t - c) c = true := by
      unfold evn
      have h4 : t - c = c * (q - 1) := by rw [Int.mul_sub, Int.mul_one, ← e]
      have h3 : (t - c) / c = q - 1 := by rw [h4, Int.mul_ediv_cancel_left _ (by omega)]
      rw [h3]; simp; omega
    rw [h2]
    simp
theorem halves_mates {n t : Int} (hn : 1 ≤ n) (h0 : 0 ≤ t) : ∀ (k : Nat) (c : Int), pw c = true → t % c = 0 → c ≤ (2 : Int) ^ k → ∀ y ∈ (halves n t k c).2, mateS y.1 y.2 = t
  | 0, _, _, _, _, y, hy => by cases hy
  | k + 1, c, hp, hm, hk, y, hy => by
    rw [halves] at hy
    by_cases hge : n ≤ c / 2
    · rw [if_pos hge] at hy
      obtain ⟨h1, h2⟩ := pw_half hp (by omega)
      obtain ⟨h3, h4⟩ := mate_half hp (by omega) hm
      have h5 : c / 2 ≤ (2 : Int) ^ k := by rw [Int.pow_succ] at hk; omega
      rcases List.mem_cons.1 hy with rfl | hy
      · have h6 := mate_mate h1 h0 h4
        have h7 : mateB (t, c / 2) = (t + c / 2, c / 2) := by unfold mateB; simp only; rw [h3]
        rw [h7] at h6
        exact congrArg Prod.fst h6
      · exact halves_mates hn h0 k (c / 2) h1 h4 h5 y hy
    · rw [if_neg hge] at hy; cases hy
theorem both_half {t c : Int} (hp : pw c = true) (h1 : 1 < c) (hm : t % c = 0) : bothB (t, c / 2) = (t, c) := by
  obtain ⟨h2, h3⟩ := pw_half hp h1
  obtain ⟨h4, _⟩ := mate_half hp h1 hm
  have hd := pw_pos h2
  unfold bothB bothS
  simp only
  cases e : evn t (c / 2) with
  | true => rw [if_pos rfl, ← h3]
  | false =>
    unfold mateS at h4
    rw [e] at h4
    simp at h4
    omega
theorem join_halves {n t : Int} (hn : 1 ≤ n) : ∀ (k : Nat) (c : Int) (l : List Bl) (K : Nat), pw c = true → t % c = 0 → c ≤ (2 : Int) ^ k → (∀ z ∈ l, 1 ≤ z.2 ∧ (z.1 + z.2 ≤ t ∨ t + c ≤ z.1)) → (halves n t k c).2.length ≤ K → joinN K (insAll l (halves n t k c).2) (t, (halves n t k c).1) = joinN (K - (halves n t k c).2.length) l (t, c)
  | 0, c, l, K, _, _, _, _, _ => rfl
  | k + 1, c, l, K, hp, hm, hk, hl, hK => by
    rw [halves] at hK ⊢
    by_cases hge : n ≤ c / 2
    · rw [if_pos hge] at hK ⊢
      simp only [List.length_cons] at hK ⊢
      obtain ⟨h1, h2⟩ := pw_half hp (by omega)
      obtain ⟨h3, h4⟩ := mate_half hp (by omega) hm
      have h5 : c / 2 ≤ (2 : Int) ^ k := by rw [Int.pow_succ] at hk; omega
      have hc2 := pw_pos h1
      have hny : ¬ ((t + c / 2, c / 2) : Bl) ∈ l := fun h => by
        have := (hl _ h).2
        simp only at this
        omega
      have ih := join_halves hn k (c / 2) (insB (t + c / 2, c / 2) l) K h1 h4 h5 (fun z hz => by
        rcases insB_mem.1 hz with rfl | hz
        · exact ⟨hc2, Or.inr (Int.le_refl _)⟩
        · have := hl z hz; exact ⟨this.1, by omega⟩) (by omega)
      show joinN K (insAll (insB (t + c / 2, c / 2) l) (halves n t k (c / 2)).2) (t, (halves n t k (c / 2)).1) = _
      rw [ih]
      obtain ⟨K', hK'⟩ : ∃ K', K - (halves n t k (c / 2)).2.length = K' + 1 := ⟨K - (halves n t k (c / 2)).2.length - 1, by omega⟩
      have hK2 : K - ((halves n t k (c / 2)).2.length + 1) = K' := by omega
      rw [hK', hK2, joinN]
      have hmb : mateB (t, c / 2) = (t + c / 2, c / 2) := by unfold mateB; simp only; rw [h3]
      rw [hmb, if_pos ((hasB_iff _ _).2 (insB_mem.2 (Or.inl rfl))), noB_insB hny, both_half hp (by omega) hm]
    · rw [if_neg hge] at hK ⊢
      rfl

/-- A sub-block stands apart where the block does. -/
theorem sep_sub {z x y : Bl} (h : Sep z x) (h1 : x.1 ≤ y.1) (h2 : y.1 + y.2 ≤ x.1 + x.2) : Sep z y := by
  unfold Sep at *
  rcases h with h | h <;> omega
theorem takes_back {b : Int} {us fs : List Bl} {z : Int} (hz : spaceF b us fs = (0, 0)) (hz1 : 1 ≤ z) {x : Bl} (hl : leastL (asks z) fs = some x) (hq : us.length + fs.length + (halves z x.1 31 x.2).2.length ≤ 5000) :
    spaceF b (takeUs z us x) (takeFs z fs x) = (0, 0) ∧ giveR b (takeUs z us x) (takeFs z fs x) x.1 = ((0, 0), b, us, fs) := by
  obtain ⟨hg1, hg2, hg3, hg4, hg5, hg6⟩ := spaceF_good hz
  obtain ⟨hu1, hu2⟩ := pow30 hg1.1 hg1.2
  have hmem : x ∈ fs := by
    rcases leastL_mem fs none x hl with h1 | h1
    · cases h1
    · exact h1.1
  have hlens := take_lens hz hl
  obtain ⟨t, c⟩ := x
  obtain ⟨hp, h0, hmo, hend⟩ := fit_parts (hg4.1 _ hmem)
  simp only at hp h0 hmo hend hq
  have hpos := pw_pos hp
  have h31 : c ≤ (2 : Int) ^ 31 := by rw [show (2 : Int) ^ 31 = 2147483648 from by decide]; omega
  have hpart := partN_spec _ _ _ _ hg5 (fun y hy => pw_pos (fit_parts (hg3.1 y hy)).1) (fun y hy => pw_pos (fit_parts (hg4.1 y hy)).1)
  have hH := halves_spec hz1 31 c hp hmo h31
  have hHm := halves_mates hz1 h0 31 c hp hmo h31
  obtain ⟨U, eU⟩ : ∃ U, (2 : Int) ^ b.toNat = U := ⟨_, rfl⟩
  rw [eU] at hg3 hg4 hpart hend hu1 hu2
  obtain ⟨d, ed⟩ : ∃ d, (halves z t 31 c).1 = d := ⟨_, rfl⟩
  obtain ⟨ys, ey⟩ : ∃ ys, (halves z t 31 c).2 = ys := ⟨_, rfl⟩
  have hris := take_rises hg4.2 hpart.fol' hg4.1 hmem hz1 h31 ys.length
  have hjh := fun l K => join_halves hz1 31 c l K hp hmo h31
  rw [ed, ey] at hH
  rw [ey] at hHm hq hris hlens
  rw [ed, ey] at hjh
  rw [List.take_length] at hris
  have hd1 := pw_pos hH.pd
  have hy1 : ∀ y ∈ ys, 1 ≤ y.2 := fun y hy => hH.one hy
  have hyx : ∀ y ∈ ys, t ≤ y.1 ∧ y.1 + y.2 ≤ t + c := fun y hy => by have := hH.inn y hy; omega
  have s1 : ∀ u ∈ us, 1 ≤ u.2 := fun u hu => pw_pos (fit_parts (hg3.1 u hu)).1
  have s2 : ∀ u ∈ fs, 1 ≤ u.2 := fun u hu => pw_pos (fit_parts (hg4.1 u hu)).1
  have hle := hH.le
  have etu : takeUs z us (t, c) = insB (t, d) us := by unfold takeUs; simp only; rw [ed]
  have etf : takeFs z fs (t, c) = insAll (noB (t, c) fs) ys := by unfold takeFs; simp only; rw [ey]
  rw [etu, etf] at hlens ⊢
  have hux : ∀ u ∈ us, Sep u (t, c) := fun u hu => hpart.sep u hu (t, c) hmem
  have hfx : ∀ u ∈ noB (t, c) fs, Sep u (t, c) := fun u hu => by
    obtain ⟨h1, h2⟩ := noB_iff.1 hu
    exact (fol_sep hpart.fol' hmem h1 h2).symm
  have hfn : ∀ u ∈ noB (t, c) fs, u ∈ fs := fun u hu => (noB_iff.1 hu).1
  -- the new used list
  have uf : ∀ u ∈ insB (t, d) us, fitB U u = true := fun u hu => by
    rcases insB_mem.1 hu with rfl | hu
    · exact fit_of hH.pd h0 hH.dvd (by omega)
    · exact hg3.1 u hu
  have hune : ∀ y ∈ us, y.1 ≠ t := fun y hy => (hux y hy).ne (s1 y hy) hpos
  have ur : Rise (insB (t, d) us) := insB_rise hg3.2 hune
  have usep : ∀ u ∈ us, Sep u (t, d) := fun u hu => sep_sub (hux u hu) (Int.le_refl _) (by simp only; omega)
  have ufol : Fol (insB (t, d) us) := fol_of ur (fun u hu => pw_pos (fit_parts (uf u hu)).1) (fun u hu v hv hne => by
    rcases insB_mem.1 hu with rfl | hu
    · rcases insB_mem.1 hv with rfl | hv
      · exact absurd rfl hne
      · exact (usep v hv).symm
    · rcases insB_mem.1 hv with rfl | hv
      · exact usep u hu
      · exact fol_sep hpart.fol hu hv hne)
  -- the new free list
  have ff : ∀ u ∈ insAll (noB (t, c) fs) ys, fitB U u = true := fun u hu => by
    rcases insAll_mem.1 hu with hu | hu
    · have h3 := hH.pys u hu
      have h4 := hyx u hu
      exact fit_of h3.1 (by omega) h3.2.2 (by omega)
    · exact hg4.1 u (hfn u hu)
  have ysep : ∀ u ∈ ys, ∀ v ∈ ys, v ≠ u → Sep u v := fun u hu v hv hne => by
    obtain ⟨i, hi, rfl⟩ := List.getElem_of_mem hu
    obtain ⟨j, hj, rfl⟩ := List.getElem_of_mem hv
    rcases Nat.lt_trichotomy i j with h1 | h1 | h1
    · exact Or.inr (List.pairwise_iff_getElem.1 hH.desc i j hi hj h1)
    · subst h1; exact absurd rfl hne
    · exact Or.inl (List.pairwise_iff_getElem.1 hH.desc j i hj hi h1)
  have ffol : Fol (insAll (noB (t, c) fs) ys) := fol_of hris (fun u hu => pw_pos (fit_parts (ff u hu)).1) (fun u hu v hv hne => by
    rcases insAll_mem.1 hu with hu | hu
    · rcases insAll_mem.1 hv with hv | hv
      · exact ysep u hu v hv hne
      · exact (sep_sub (hfx v hv) (hyx u hu).1 (hyx u hu).2).symm
    · rcases insAll_mem.1 hv with hv | hv
      · exact sep_sub (hfx u hu) (hyx v hv).1 (hyx v hv).2
      · exact fol_sep hpart.fol' (hfn u hu) (hfn v hv) hne)
  have cross : ∀ u ∈ insB (t, d) us, ∀ v ∈ insAll (noB (t, c) fs) ys, Sep u v := fun u hu v hv => by
    rcases insB_mem.1 hu with rfl | hu
    · rcases insAll_mem.1 hv with hv | hv
      · exact Or.inl (hH.inn v hv).1
      · exact (sep_sub (hfx v hv) (y := (t, d)) (Int.le_refl _) (by simp only; omega)).symm
    · rcases insAll_mem.1 hv with hv | hv
      · exact sep_sub (hux u hu) (hyx v hv).1 (hyx v hv).2
      · exact hpart.sep u hu v (hfn v hv)
  have hsum : (0 : Int) + sumS (insB (t, d) us) + sumS (insAll (noB (t, c) fs) ys) = U := by
    have h1 := hpart.top (by omega) (fun u hu => by have := (fit_parts (hg3.1 u hu)).2.2.2; omega) (fun u hu => by have := (fit_parts (hg4.1 u hu)).2.2.2; omega)
    have h2 := sumS_noB hg4.2 hmem
    have h3 := hH.sum
    rw [sumS_insB, sumS_insAll]
    simp only at h2 ⊢
    omega
  have hpt : partL U (insB (t, d) us) (insAll (noB (t, c) fs) ys) = true := by
    refine partN_of _ 0 _ _ (Nat.lt_succ_self _) (by omega) (fun u hu => ?_) (fun u hu => ?_) ufol ffol cross hsum
    · obtain ⟨q1, q2, q3, q4⟩ := fit_parts (uf u hu)
      exact ⟨q2, by omega, pw_pos q1⟩
    · obtain ⟨q1, q2, q3, q4⟩ := fit_parts (ff u hu)
      exact ⟨q2, by omega, pw_pos q1⟩
  have hnot : ∀ v ∈ insAll (noB (t, c) fs) ys, v.1 ≠ t := fun v hv => by
    rcases insAll_mem.1 hv with hv | hv
    · have := (hH.inn v hv).1; omega
    · exact (hfx v hv).ne (s2 v (hfn v hv)) hpos
  have hnm : ∀ v ∈ fs, hasB (mateB v) fs = false := fun v hv => by
    have := List.any_eq_false.1 hg6 v hv
    simpa using this
  have hms : matesL (insAll (noB (t, c) fs) ys) = false := by
    unfold matesL
    rw [List.any_eq_false]
    intro u hu
    simp only [Bool.not_eq_true]
    rw [Bool.eq_false_iff]
    intro hh
    have hv := (hasB_iff _ _).1 hh
    rcases insAll_mem.1 hu with hu' | hu'
    · exact hnot _ hv (hHm u hu')
    · rcases insAll_mem.1 hv with hv' | hv'
      · obtain ⟨q1, q2, q3, q4⟩ := fit_parts (ff u hu)
        have h5 := hHm _ hv'
        have h6 := mate_mate q1 q2 q3
        have h7 : (mateB (mateB u)).1 = t := h5
        have h8 : mateB (mateB u) = u := h6
        rw [h8] at h7
        exact hnot u hu h7
      · have h5 := hnm u (hfn u hu')
        rw [Bool.eq_false_iff] at h5
        exact h5 ((hasB_iff _ _).2 (hfn _ hv'))
  have hgood : spaceF b (insB (t, d) us) (insAll (noB (t, c) fs) ys) = (0, 0) := by
    unfold spaceF
    rw [eU, firstW_good _ none uf ur (fun q e => by cases e), firstW_good _ none ff hris (fun q e => by cases e), hpt, hms]
    rw [if_neg (by omega)]
    simp
  refine ⟨hgood, ?_⟩
  have hin : (t, d) ∈ insB (t, d) us := insB_mem.2 (Or.inl rfl)
  have hnu : ¬ ((t, d) : Bl) ∈ us := fun h => hune _ h rfl
  obtain ⟨k, hk, ek⟩ := List.getElem_of_mem hin
  have hka : aAt (insB (t, d) us) k = (t, d) := by unfold aAt; rw [List.getD_eq_getElem?_getD, List.getElem?_eq_getElem hk, Option.getD_some, ek]
  have hpl := place_at ur hk (by rw [hka])
  unfold giveR
  rw [if_neg (by rw [hgood]; simp), hpl, hka, if_pos ⟨hk, rfl⟩, noB_insB hnu]
  have hj : joinL (insAll (noB (t, c) fs) ys) (t, d) = fs := by
    have h1 := hjh (noB (t, c) fs) ((insAll (noB (t, c) fs) ys).length + 1) (fun v hv => ⟨s2 v (hfn v hv), by have := hfx v hv; unfold Sep at this; simp only at this; omega⟩) (by rw [insAll_len]; omega)
    unfold joinL
    rw [h1]
    have h2 : ∀ K, joinN K (noB (t, c) fs) (t, c) = (noB (t, c) fs, (t, c)) := fun K => by
      cases K with
      | zero => rfl
      | succ K =>
        rw [joinN, if_neg]
        intro h3
        have h4 := hnm (t, c) hmem
        rw [Bool.eq_false_iff] at h4
        exact h4 ((hasB_iff _ _).2 (hfn _ ((hasB_iff _ _).1 h3)))
    rw [h2]
    exact insB_noB hg4.2 hmem
  rw [hj]
end Go.Proofs.Ytomhfnjnmhdpkaa
