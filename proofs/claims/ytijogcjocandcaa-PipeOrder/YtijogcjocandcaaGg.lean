/-
  Pipes of which nothing is wrong, on lists.
-/
import Derived.Test.YtijogcjocandcaaLa
namespace Go.Proofs.Ytijogcjocandcaa
open Go.RowKit

/-- Nothing is wrong with the pipe P. -/
structure Good (P : Pp) : Prop where
  cnt : countP P ≤ 5000
  cap0 : 0 ≤ P.cap
  cap1 : P.cap ≤ 1000
  size : (P.items.length : Int) ≤ P.cap
  send : 0 < P.ss.length → P.closed = false ∧ (P.items.length : Int) = P.cap ∧ P.gs = []
  get : 0 < P.gs.length → P.closed = false ∧ P.items = []
  ok : ∀ p ∈ P.ss ++ P.gs, 1 ≤ p.1 ∧ 0 ≤ p.2.1
  nodup : (tasks (P.ss ++ P.gs)).Nodup
  zero : ∀ p ∈ P.gs, p.2.2 = 0

theorem whole_iff (cap : Int) (m s g : Nat) (closed : Bool) : wholeC cap m s g closed = 0 ↔ m + s + g ≤ 5000 ∧ 0 ≤ cap ∧ cap ≤ 1000 ∧ (m : Int) ≤ cap ∧ (0 < s → closed = false ∧ (m : Int) = cap ∧ g = 0) ∧ (0 < g → closed = false ∧ m = 0) := by
  unfold wholeC
  constructor
  · intro h
    split at h
    · cases h
    · split at h
      · cases h
      · split at h
        · cases h
        · split at h
          · cases h
          · split at h
            · cases h
            · rename_i h1 h2 h3 h4 h5
              refine ⟨by omega, by omega, by omega, by omega, fun hs => ?_, fun hg => ?_⟩
              · have hc : closed = false := by
                  cases closed with
                  | false => rfl
                  | true => exact absurd ⟨hs, Or.inl rfl⟩ h4
                refine ⟨hc, ?_, ?_⟩
                · have : ¬ (m : Int) < cap := fun h => h4 ⟨hs, Or.inr (Or.inl h)⟩
                  omega
                · have : ¬ 0 < g := fun h => h4 ⟨hs, Or.inr (Or.inr h)⟩
                  omega
              · have hc : closed = false := by
                  cases closed with
                  | false => rfl
                  | true => exact absurd ⟨hg, Or.inl rfl⟩ h5
                refine ⟨hc, ?_⟩
                have : ¬ 0 < m := fun h => h5 ⟨hg, Or.inr h⟩
                omega
  · rintro ⟨h1, h2, h3, h4, h5, h6⟩
    rw [if_neg (by omega), if_neg (by omega), if_neg (by omega), if_neg, if_neg]
    · rintro ⟨hg, hc⟩
      have := h6 hg
      rcases hc with hc | hc
      · rw [this.1] at hc; cases hc
      · omega
    · rintro ⟨hs, hc⟩
      have := h5 hs
      rcases hc with hc | hc | hc
      · rw [this.1] at hc; cases hc
      · omega
      · omega

theorem posts_iff : ∀ (l : List Po) (pre : List Int), postsC pre l = 0 ↔ (∀ p ∈ l, 1 ≤ p.1 ∧ 0 ≤ p.2.1) ∧ (tasks l).Nodup ∧ ∀ p ∈ l, p.1 ∉ pre
  | [], pre => by simp [postsC, tasks]
  | p :: r, pre => by
    have ih := posts_iff r (pre ++ [p.1])
    unfold postsC
    split
    · rename_i h
      constructor
      · intro h; cases h
      · rintro ⟨h1, _, _⟩
        have := h1 p (by simp)
        omega
    · rename_i h
      split
      · rename_i h2
        constructor
        · intro h; cases h
        · rintro ⟨_, _, h3⟩
          exact absurd (List.contains_iff_mem.1 h2) (h3 p (by simp))
      · rename_i h2
        have h2' : p.1 ∉ pre := fun hm => h2 (List.contains_iff_mem.2 hm)
        rw [ih]
        constructor
        · rintro ⟨h3, h4, h5⟩
          refine ⟨fun q hq => ?_, ?_, fun q hq => ?_⟩
          · rcases List.mem_cons.1 hq with rfl | hq
            · omega
            · exact h3 q hq
          · show ((p :: r).map _).Nodup
            rw [List.map_cons, List.nodup_cons]
            refine ⟨fun hm => ?_, h4⟩
            obtain ⟨q, hq, he⟩ := List.mem_map.1 hm
            exact h5 q hq (by rw [he]; simp)
          · rcases List.mem_cons.1 hq with rfl | hq
            · exact h2'
            · exact fun hm => h5 q hq (List.mem_append_left _ hm)
        · rintro ⟨h3, h4, h5⟩
          have h4' : ((p :: r).map (fun q : Po => q.1)).Nodup := h4
          rw [List.map_cons, List.nodup_cons] at h4'
          refine ⟨fun q hq => h3 q (List.mem_cons_of_mem _ hq), h4'.2, fun q hq hm => ?_⟩
          rcases List.mem_append.1 hm with hm | hm
          · exact h5 q (List.mem_cons_of_mem _ hq) hm
          · exact h4'.1 (List.mem_map.2 ⟨q, hq, by simpa using hm⟩)

theorem good_iff (P : Pp) : pipeF P = (0, 0) ↔ Good P := by
  obtain ⟨cap, items, closed, ss, gs⟩ := P
  unfold pipeF
  simp only
  constructor
  · intro h
    split at h
    · rename_i h1; exact absurd (congrArg Prod.fst h) h1
    · rename_i h1
      split at h
      · rename_i h2; exact absurd (congrArg Prod.fst h) h2
      · rename_i h2
        split at h
        · rename_i h3; exact absurd (congrArg Prod.fst h) h3
        · rename_i h3
          split at h
          · cases h
          · rename_i h4
            simp only [Decidable.not_not] at h1 h2 h3
            obtain ⟨w1, w2, w3, w4, w5, w6⟩ := (whole_iff _ _ _ _ _).1 h1
            obtain ⟨s1, s2, -⟩ := (posts_iff _ _).1 h2
            obtain ⟨g1, g2, g3⟩ := (posts_iff _ _).1 h3
            refine ⟨w1, w2, w3, w4, fun hs => ⟨(w5 hs).1, (w5 hs).2.1, List.eq_nil_of_length_eq_zero (w5 hs).2.2⟩, fun hg => ⟨(w6 hg).1, List.eq_nil_of_length_eq_zero (w6 hg).2⟩, ?_, ?_, ?_⟩
            · intro p hp
              rcases List.mem_append.1 hp with hp | hp
              · exact s1 p hp
              · exact g1 p hp
            · show ((ss ++ gs).map (fun q : Po => q.1)).Nodup
              rw [List.map_append, List.nodup_append]
              refine ⟨s2, g2, ?_⟩
              intro a ha b hb e
              obtain ⟨q, hq, rfl⟩ := List.mem_map.1 hb
              exact g3 q hq (e ▸ ha)
            · intro p hp
              have := fun h => h4 (List.any_eq_true.2 ⟨p, hp, h⟩)
              unfold valuedP at this
              simpa using this
  · rintro ⟨c1, c2, c3, c4, c5, c6, c7, c8, c9⟩
    simp only at c2 c3 c4 c5 c6 c7 c8 c9
    have c8' : ((ss ++ gs).map (fun q : Po => q.1)).Nodup := c8
    rw [List.map_append, List.nodup_append] at c8'
    have h1 : wholeC cap items.length ss.length gs.length closed = 0 := (whole_iff _ _ _ _ _).2 ⟨c1, c2, c3, c4, fun hs => ⟨(c5 hs).1, (c5 hs).2.1, by rw [(c5 hs).2.2]; rfl⟩, fun hg => ⟨(c6 hg).1, by rw [(c6 hg).2]; rfl⟩⟩
    have h2 : postsC [] ss = 0 := (posts_iff _ _).2 ⟨fun p hp => c7 p (List.mem_append_left _ hp), c8'.1, fun _ _ => by simp⟩
    have h3 : postsC (tasks ss) gs = 0 := (posts_iff _ _).2 ⟨fun p hp => c7 p (List.mem_append_right _ hp), c8'.2.1, fun p hp hm => c8'.2.2 _ hm _ (List.mem_map.2 ⟨p, hp, rfl⟩) rfl⟩
    rw [if_neg (by simpa using h1), if_neg (by simpa using h2), if_neg (by simpa using h3), if_neg]
    intro h
    obtain ⟨p, hp, hv⟩ := List.any_eq_true.1 h
    unfold valuedP at hv
    rw [c9 p hp] at hv
    cases hv

theorem waits_not {P : Pp} {x : Int} (h : waitsL P x = false) : ∀ p ∈ P.ss ++ P.gs, p.1 ≠ x := by
  unfold waitsL at h
  rw [Bool.or_eq_false_iff] at h
  intro p hp e
  rcases List.mem_append.1 hp with hp | hp
  · have := List.any_eq_false.1 h.1 p hp
    unfold isOfP at this
    exact this (by rw [e]; simp)
  · have := List.any_eq_false.1 h.2 p hp
    unfold isOfP at this
    exact this (by rw [e]; simp)

theorem task_iff {P : Pp} {x : Int} : taskF P x = (0, 0) ↔ Good P ∧ 1 ≤ x ∧ waitsL P x = false ∧ countP P ≠ 5000 := by
  unfold taskF
  constructor
  · intro h
    split at h
    · rename_i h1
      exact absurd (congrArg Prod.fst h) h1
    · rename_i h1
      split at h
      · cases h
      · split at h
        · cases h
        · split at h
          · cases h
          · rename_i h2 h3 h4
            exact ⟨(good_iff P).1 (pipeF_zero (by simpa using h1)), by omega, by simpa using h3, h4⟩
  · rintro ⟨h1, h2, h3, h4⟩
    rw [if_neg (by rw [(good_iff P).2 h1]; simp), if_neg (by omega), if_neg (by rw [h3]; simp), if_neg h4]
end Go.Proofs.Ytijogcjocandcaa
