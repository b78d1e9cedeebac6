/-
  Clocks of which nothing is wrong, on lists.
-/
import Derived.Test.YtidpmcanfedbdaaN
namespace Go.Proofs.Ytidpmcanfedbdaa
open Go.RowKit

theorem ahead_iff (a b : Al) : ahead a b = true ↔ (a.2.1 < b.2.1 ∨ (a.2.1 = b.2.1 ∧ a.2.2.2 < b.2.2.2)) := by
  unfold ahead
  simp
theorem ahead_not (a b : Al) : ahead a b = false ↔ ¬ (a.2.1 < b.2.1 ∨ (a.2.1 = b.2.1 ∧ a.2.2.2 < b.2.2.2)) := by
  rw [← ahead_iff]; simp
theorem oor_iff (now next : Int) (a : Al) : oor now next a = false ↔ (1 ≤ a.1 ∧ now < a.2.1 ∧ a.2.1 ≤ 2000000000 ∧ 0 ≤ a.2.2.1 ∧ a.2.2.1 ≤ 1000000000 ∧ 0 ≤ a.2.2.2 ∧ a.2.2.2 < next) := by
  unfold oor
  simp
  omega

/-- A clock of which nothing is wrong. -/
structure Good (now next : Int) (xs : List Al) : Prop where
  len : xs.length ≤ 5000
  n0 : 0 ≤ now
  n1 : now ≤ 1000000000
  n2 : 0 ≤ next
  n3 : next ≤ 1000000000
  rng : ∀ a, a ∈ xs → oor now next a = false
  ids : xs.Pairwise (fun a b => a.1 ≠ b.1)
  seqs : xs.Pairwise (fun a b => a.2.2.2 ≠ b.2.2.2)
  srt : xs.Pairwise (fun a b => ahead b a = false)

theorem firstC_all {p : List Al → Al → Int} : ∀ (l pre : List Al) (i : Int), (firstC p pre l i).1 = 0 ↔ ∀ a x b, l = a ++ x :: b → p (pre ++ a) x = 0
  | [], pre, i => by
    constructor
    · intro _ a x b h
      cases a <;> cases h
    · intro _; rfl
  | z :: l, pre, i => by
    by_cases hz : p pre z = 0
    · rw [firstC_go hz, firstC_all l (pre ++ [z]) (i + 1)]
      constructor
      · intro h a x b e
        cases a with
        | nil => cases e; rw [List.append_nil]; exact hz
        | cons y a =>
          cases e
          have := h a x b rfl
          rw [List.append_assoc] at this
          exact this
      · intro h a x b e
        have := h (z :: a) x b (by rw [e]; rfl)
        rw [List.append_assoc]
        exact this
    · rw [firstC_stop rfl hz]
      constructor
      · intro h; exact absurd h hz
      · intro h; exact absurd (by have := h [] z l rfl; rwa [List.append_nil] at this) hz
theorem alP_zero (now next : Int) (pre : List Al) (x : Al) : alP now next pre x = 0 ↔ (oor now next x = false ∧ (∀ z ∈ pre, z.1 ≠ x.1 ∧ z.2.2.2 ≠ x.2.2.2) ∧ (0 < pre.length → ahead x (aAt pre (pre.length - 1)) = false)) := by
  unfold alP
  have h1 : ((ids pre).contains x.1 || (seqs pre).contains x.2.2.2) = true ↔ ∃ z ∈ pre, z.1 = x.1 ∨ z.2.2.2 = x.2.2.2 := by
    rw [Bool.or_eq_true, List.contains_iff_mem, List.contains_iff_mem]
    unfold ids seqs
    rw [List.mem_map, List.mem_map]
    constructor
    · rintro (⟨z, hz, e⟩ | ⟨z, hz, e⟩)
      · exact ⟨z, hz, Or.inl e⟩
      · exact ⟨z, hz, Or.inr e⟩
    · rintro ⟨z, hz, e | e⟩
      · exact Or.inl ⟨z, hz, e⟩
      · exact Or.inr ⟨z, hz, e⟩
  cases ho : oor now next x with
  | true => simp
  | false =>
    rw [if_neg (by simp)]
    by_cases hc : ((ids pre).contains x.1 || (seqs pre).contains x.2.2.2) = true
    · rw [if_pos hc]
      obtain ⟨z, hz, e⟩ := h1.1 hc
      constructor
      · intro h; cases h
      · rintro ⟨_, h, _⟩
        have := h z hz
        rcases e with e | e
        · exact absurd e this.1
        · exact absurd e this.2
    · rw [if_neg hc]
      have h2 : ∀ z ∈ pre, z.1 ≠ x.1 ∧ z.2.2.2 ≠ x.2.2.2 := fun z hz => ⟨fun e => hc (h1.2 ⟨z, hz, Or.inl e⟩), fun e => hc (h1.2 ⟨z, hz, Or.inr e⟩)⟩
      by_cases ha : 0 < pre.length ∧ ahead x (aAt pre (pre.length - 1)) = true
      · rw [if_pos ha]
        constructor
        · intro h; cases h
        · rintro ⟨_, _, h⟩
          have := h ha.1
          rw [ha.2] at this
          cases this
      · rw [if_neg ha]
        constructor
        · intro _
          refine ⟨rfl, h2, fun hp => ?_⟩
          cases hq : ahead x (aAt pre (pre.length - 1)) with
          | false => rfl
          | true => exact absurd ⟨hp, hq⟩ ha
        · intro _; rfl
theorem split_at {xs : List Al} {j : Nat} (h : j < xs.length) : xs = xs.take j ++ xs[j] :: xs.drop (j + 1) := by
  rw [← List.drop_eq_getElem_cons h, List.take_append_drop]
theorem aAt_get {xs : List Al} {j : Nat} (h : j < xs.length) : aAt xs j = xs[j] := by
  unfold aAt
  simp [List.getElem?_eq_getElem h]
theorem clockF_good {now next : Int} {xs : List Al} (h : (clockF now next xs).1 = 0) : clockF now next xs = (0, 0) ∧ Good now next xs := by
  unfold clockF at h ⊢
  split at h
  · cases h
  rename_i q0
  split at h
  · cases h
  rename_i q1
  rw [if_neg q0, if_neg q1]
  refine ⟨firstC_zero h, ?_⟩
  have ha := (firstC_all xs [] 0).1 h
  have hs : ∀ a x b, xs = a ++ x :: b → (oor now next x = false ∧ (∀ z ∈ a, z.1 ≠ x.1 ∧ z.2.2.2 ≠ x.2.2.2) ∧ (0 < a.length → ahead x (aAt a (a.length - 1)) = false)) := fun a x b e => by
    have := ha a x b e
    rw [List.nil_append] at this
    exact (alP_zero now next a x).1 this
  have mem : ∀ (i j : Nat) (hi : i < xs.length) (hj : j < xs.length), i < j → xs[i] ∈ xs.take j := fun i j hi hj hij => by
    rw [List.mem_take_iff_getElem]
    exact ⟨i, by omega, rfl⟩
  refine ⟨by omega, by omega, by omega, by omega, by omega, fun a hm => ?_, ?_, ?_, ?_⟩
  · obtain ⟨j, hj, rfl⟩ := List.getElem_of_mem hm
    exact (hs _ _ _ (split_at hj)).1
  · rw [List.pairwise_iff_getElem]
    intro i j hi hj hij
    exact ((hs _ _ _ (split_at hj)).2.1 _ (mem i j hi hj hij)).1
  · rw [List.pairwise_iff_getElem]
    intro i j hi hj hij
    exact ((hs _ _ _ (split_at hj)).2.1 _ (mem i j hi hj hij)).2
  · rw [List.pairwise_iff_getElem]
    have step : ∀ j (hj : j + 1 < xs.length), ahead xs[j + 1] xs[j] = false := fun j hj => by
      have := (hs _ _ _ (split_at hj)).2.2 (by rw [List.length_take]; omega)
      have e : aAt (xs.take (j + 1)) ((xs.take (j + 1)).length - 1) = xs[j] := by
        have hl : (xs.take (j + 1)).length = j + 1 := by rw [List.length_take]; omega
        rw [hl, Nat.add_sub_cancel, aAt_get (by rw [hl]; omega), List.getElem_take]
      rwa [e] at this
    intro i j
    induction j with
    | zero => intro _ _ h; omega
    | succ j ih =>
      intro hi hj hij
      have s := step j hj
      by_cases e : i = j
      · subst e; exact s
      · have := ih hi (by omega) (by omega)
        rw [ahead_not] at s this ⊢
        omega
theorem good_clockF {now next : Int} {xs : List Al} (h : Good now next xs) : clockF now next xs = (0, 0) := by
  have h1 := h.len
  have h2 := h.n0; have h3 := h.n1; have h4 := h.n2; have h5 := h.n3
  unfold clockF
  rw [if_neg (by omega), if_neg (by omega)]
  refine firstC_zero ((firstC_all xs [] 0).2 fun a x b e => ?_)
  rw [List.nil_append, alP_zero]
  refine ⟨h.rng x (by rw [e]; simp), fun z hz => ⟨?_, ?_⟩, fun hp => ?_⟩
  · have := h.ids
    rw [e, List.pairwise_append] at this
    exact this.2.2 z hz x (by simp)
  · have := h.seqs
    rw [e, List.pairwise_append] at this
    exact this.2.2 z hz x (by simp)
  · have := h.srt
    rw [e, List.pairwise_append] at this
    exact this.2.2 _ (aAt_mem (by omega)) x (by simp)

theorem mono_of {xs : List Al} (h : xs.Pairwise (fun a b => ahead b a = false)) (a : Al) : Mono a xs := fun i j hij hj ha => by
  by_cases e : i = j
  · subst e; exact ha
  · rw [List.pairwise_iff_getElem] at h
    have := h i j (by omega) hj (by omega)
    rw [aAt_get (by omega)] at ha
    rw [aAt_get hj]
    rw [ahead_iff] at ha ⊢
    rw [ahead_not] at this
    omega
theorem ins_perm (a : Al) (xs : List Al) : (insL a xs).Perm (a :: xs) := by
  unfold insL putAt
  refine List.perm_middle.trans ?_
  rw [List.take_append_drop]
theorem ins_len (a : Al) (xs : List Al) : (insL a xs).length = xs.length + 1 := by rw [(ins_perm a xs).length_eq]; rfl
theorem ins_mem (a b : Al) (xs : List Al) : b ∈ insL a xs ↔ b = a ∨ b ∈ xs := by rw [(ins_perm a xs).mem_iff]; simp
theorem takeWhile_take {q : Al → Bool} : ∀ (xs : List Al), xs.take (xs.takeWhile q).length = xs.takeWhile q
  | [] => rfl
  | x :: l => by
    by_cases h : q x = true
    · rw [List.takeWhile_cons_of_pos h, List.length_cons, List.take_succ_cons, takeWhile_take l]
    · rw [List.takeWhile_cons_of_neg h]; rfl
theorem takeWhile_drop {q : Al → Bool} : ∀ (xs : List Al), xs.drop (xs.takeWhile q).length = xs.dropWhile q
  | [] => rfl
  | x :: l => by
    by_cases h : q x = true
    · rw [List.takeWhile_cons_of_pos h, List.dropWhile_cons_of_pos h, List.length_cons, List.drop_succ_cons, takeWhile_drop l]
    · rw [List.takeWhile_cons_of_neg h, List.dropWhile_cons_of_neg h]; rfl
theorem mem_takeWhile_pos {q : Al → Bool} : ∀ {xs : List Al} {a : Al}, a ∈ xs.takeWhile q → q a = true
  | [], a, h => by cases h
  | x :: l, a, h => by
    by_cases hx : q x = true
    · rw [List.takeWhile_cons_of_pos hx] at h
      rcases List.mem_cons.1 h with rfl | h
      · exact hx
      · exact mem_takeWhile_pos h
    · rw [List.takeWhile_cons_of_neg hx] at h; cases h
theorem ins_parts (a : Al) (xs : List Al) : insL a xs = xs.takeWhile (fun b => !ahead a b) ++ a :: xs.dropWhile (fun b => !ahead a b) := by
  unfold insL putAt placeN
  rw [takeWhile_take, takeWhile_drop]
theorem drop_ahead {xs : List Al} (h : xs.Pairwise (fun a b => ahead b a = false)) (a : Al) : ∀ b ∈ xs.dropWhile (fun b => !ahead a b), ahead a b = true := by
  induction xs with
  | nil => intro b hb; cases hb
  | cons x l ih =>
    intro b hb
    rw [List.pairwise_cons] at h
    by_cases hx : (!ahead a x) = true
    · rw [List.dropWhile_cons_of_pos (p := fun b => !ahead a b) hx] at hb
      exact ih h.2 b hb
    · rw [List.dropWhile_cons_of_neg (p := fun b => !ahead a b) hx] at hb
      have hx' : ahead a x = true := by simpa using hx
      rcases List.mem_cons.1 hb with rfl | hb
      · exact hx'
      · have := h.1 b hb
        rw [ahead_iff] at hx' ⊢
        rw [ahead_not] at this
        omega
theorem ins_sorted {xs : List Al} (h : xs.Pairwise (fun a b => ahead b a = false)) (a : Al) : (insL a xs).Pairwise (fun a b => ahead b a = false) := by
  rw [ins_parts, List.pairwise_append, List.pairwise_cons]
  refine ⟨h.sublist (List.takeWhile_sublist _), ⟨fun b hb => ?_, h.sublist (List.dropWhile_sublist _)⟩, fun b hb d hd => ?_⟩
  · have := drop_ahead h a b hb
    rw [ahead_iff] at this
    rw [ahead_not]
    omega
  · have h1 := mem_takeWhile_pos hb
    have h1' : ahead a b = false := by simpa using h1
    rcases List.mem_cons.1 hd with rfl | hd
    · exact h1'
    · have h2 := drop_ahead h a d hd
      rw [ahead_iff] at h2
      rw [ahead_not] at h1' ⊢
      omega
theorem pairwise_ins {R : Al → Al → Prop} (hs : ∀ a b, R a b → R b a) {xs : List Al} (h : xs.Pairwise R) (a : Al) (ha : ∀ b ∈ xs, R a b) : (insL a xs).Pairwise R :=
  ((ins_perm a xs).pairwise_iff (fun {x y} h => hs x y h)).2 (List.pairwise_cons.2 ⟨ha, h⟩)

theorem noL_sub (id : Int) (xs : List Al) : (noL id xs).Sublist xs := List.filter_sublist
theorem noL_mem {id : Int} {xs : List Al} {a : Al} : a ∈ noL id xs ↔ a ∈ xs ∧ a.1 ≠ id := by
  unfold noL leftL
  rw [List.mem_filter]
  simp
theorem Good.sub {now next : Int} {xs ys : List Al} (h : Good now next xs) (hs : ys.Sublist xs) : Good now next ys :=
  ⟨Nat.le_trans hs.length_le h.len, h.n0, h.n1, h.n2, h.n3, fun a ha => h.rng a (hs.subset ha), h.ids.sublist hs, h.seqs.sublist hs, h.srt.sublist hs⟩
theorem Good.ins {now next : Int} {xs : List Al} (h : Good now next xs) {id W P : Int} (hid : ∀ b ∈ xs, b.1 ≠ id) (h1 : 1 ≤ id) (h2 : now < W) (h3 : W ≤ 2000000000) (h4 : 0 ≤ P) (h5 : P ≤ 1000000000) (h6 : next < 1000000000) (hl : xs.length < 5000) : Good now (next + 1) (insL (id, W, P, next) xs) := by
  refine ⟨by rw [ins_len]; omega, h.n0, h.n1, by have := h.n2; omega, by omega, fun b hb => ?_, ?_, ?_, ins_sorted h.srt _⟩
  · rw [ins_mem] at hb
    rw [oor_iff]
    rcases hb with rfl | hb
    · have := h.n2
      exact ⟨h1, h2, h3, h4, h5, this, by show next < next + 1; omega⟩
    · have := (oor_iff now next b).1 (h.rng b hb)
      omega
  · exact pairwise_ins (fun a b h e => h e.symm) h.ids _ (fun b hb e => hid b hb e.symm)
  · refine pairwise_ins (fun a b h e => h e.symm) h.seqs _ (fun b hb e => ?_)
    have := (oor_iff now next b).1 (h.rng b hb)
    simp only at e
    omega
end Go.Proofs.Ytidpmcanfedbdaa
