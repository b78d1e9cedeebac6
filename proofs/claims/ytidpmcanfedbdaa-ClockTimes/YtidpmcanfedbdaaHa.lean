/-
  What goes off, in two steps, on lists.
-/
import Derived.Test.YtidpmcanfedbdaaBe
namespace Go.Proofs.Ytidpmcanfedbdaa
open Go.RowKit

theorem run_good {now E : Int} (hE : E ≤ 1000000000) (hn : now ≤ E) : ∀ (f : Nat) (nx : Int) (zs : List Al) (td : List (Int × Int)), Good now nx zs → ∀ nx1 zs1 td1, runL E f nx zs td = some (nx1, zs1, td1) → Good E nx1 zs1 ∧ td1.length ≤ f + td.length := by
  have fin : ∀ (nx : Int) (zs : List Al), Good now nx zs → (∀ x r, zs = x :: r → ¬ x.2.1 ≤ E) → Good E nx zs := fun nx zs g h => by
    refine ⟨g.len, by have := g.n0; omega, hE, g.n2, g.n3, fun a ha => ?_, g.ids, g.seqs, g.srt⟩
    have h1 := (oor_iff now nx a).1 (g.rng a ha)
    rw [oor_iff]
    refine ⟨h1.1, ?_, h1.2.2⟩
    cases zs with
    | nil => simp at ha
    | cons x r =>
      have h2 := h x r rfl
      rcases List.mem_cons.1 ha with rfl | ha
      · omega
      · have h3 := (List.pairwise_cons.1 g.srt).1 a ha
        rw [ahead_not] at h3
        omega
  intro f
  induction f with
  | zero =>
    intro nx zs td g nx1 zs1 td1 h
    cases zs with
    | nil => rw [runL_nil] at h; cases h; exact ⟨fin _ _ g (fun x r e => by cases e), by omega⟩
    | cons x r =>
      by_cases hx : x.2.1 ≤ E
      · rw [runL_zero hx] at h; cases h
      · rw [runL_stop hx] at h; cases h; exact ⟨fin _ _ g (fun y s e => by cases e; exact hx), by omega⟩
  | succ f ih =>
    intro nx zs td g nx1 zs1 td1 h
    cases zs with
    | nil => rw [runL_nil] at h; cases h; exact ⟨fin _ _ g (fun x r e => by cases e), by omega⟩
    | cons x r =>
      by_cases hx : x.2.1 ≤ E
      · by_cases hm : x.2.2.1 ≠ 0 ∧ nx = 1000000000
        · rw [runL_much hx hm] at h; cases h
        · rw [runL_go hx hm] at h
          have := ih _ _ _ (g.off hx hE hm) nx1 zs1 td1 h
          rw [List.length_append] at this
          simp only [List.length_cons, List.length_nil] at this
          exact ⟨this.1, by omega⟩
      · rw [runL_stop hx] at h; cases h; exact ⟨fin _ _ g (fun y s e => by cases e; exact hx), by omega⟩
theorem run_prefix {E : Int} (p : List (Int × Int)) : ∀ (f : Nat) (nx : Int) (zs : List Al) (td : List (Int × Int)), runL E f nx zs (p ++ td) = (runL E f nx zs td).map (fun r => (r.1, r.2.1, p ++ r.2.2)) := by
  intro f
  induction f with
  | zero =>
    intro nx zs td
    cases zs with
    | nil => rw [runL_nil, runL_nil]; rfl
    | cons x r =>
      by_cases hx : x.2.1 ≤ E
      · rw [runL_zero hx, runL_zero hx]; rfl
      · rw [runL_stop hx, runL_stop hx]; rfl
  | succ f ih =>
    intro nx zs td
    cases zs with
    | nil => rw [runL_nil, runL_nil]; rfl
    | cons x r =>
      by_cases hx : x.2.1 ≤ E
      · by_cases hm : x.2.2.1 ≠ 0 ∧ nx = 1000000000
        · rw [runL_much hx hm, runL_much hx hm]; rfl
        · rw [runL_go hx hm, runL_go hx hm, List.append_assoc, ih]
      · rw [runL_stop hx, runL_stop hx]; rfl
theorem run_more {E : Int} : ∀ (f g : Nat), f ≤ g → ∀ (nx : Int) (zs : List Al) (td : List (Int × Int)) r, runL E f nx zs td = some r → runL E g nx zs td = some r := by
  intro f
  induction f with
  | zero =>
    intro g _ nx zs td r h
    cases zs with
    | nil => rw [runL_nil] at h ⊢; exact h
    | cons x s =>
      by_cases hx : x.2.1 ≤ E
      · rw [runL_zero hx] at h; cases h
      · rw [runL_stop hx] at h ⊢; exact h
  | succ f ih =>
    intro g hg nx zs td r h
    cases zs with
    | nil => rw [runL_nil] at h ⊢; exact h
    | cons x s =>
      by_cases hx : x.2.1 ≤ E
      · by_cases hm : x.2.2.1 ≠ 0 ∧ nx = 1000000000
        · rw [runL_much hx hm] at h; cases h
        · obtain ⟨g', rfl⟩ : ∃ g', g = g' + 1 := ⟨g - 1, by omega⟩
          rw [runL_go hx hm] at h ⊢
          exact ih g' (by omega) _ _ _ _ h
      · rw [runL_stop hx] at h ⊢; exact h
theorem run_split {E1 E2 : Int} (hE : E1 ≤ E2) : ∀ (f : Nat) (nx : Int) (zs : List Al) (td : List (Int × Int)) nx1 zs1 td1, runL E1 f nx zs td = some (nx1, zs1, td1) → ∃ g, g + td1.length = f + td.length ∧ runL E2 f nx zs td = runL E2 g nx1 zs1 td1 := by
  intro f
  induction f with
  | zero =>
    intro nx zs td nx1 zs1 td1 h
    cases zs with
    | nil => rw [runL_nil] at h; cases h; exact ⟨0, rfl, rfl⟩
    | cons x r =>
      by_cases hx : x.2.1 ≤ E1
      · rw [runL_zero hx] at h; cases h
      · rw [runL_stop hx] at h; cases h; exact ⟨0, rfl, rfl⟩
  | succ f ih =>
    intro nx zs td nx1 zs1 td1 h
    cases zs with
    | nil => rw [runL_nil] at h; cases h; exact ⟨f + 1, rfl, rfl⟩
    | cons x r =>
      by_cases hx : x.2.1 ≤ E1
      · by_cases hm : x.2.2.1 ≠ 0 ∧ nx = 1000000000
        · rw [runL_much hx hm] at h; cases h
        · rw [runL_go hx hm] at h
          obtain ⟨g, h1, h2⟩ := ih _ _ _ nx1 zs1 td1 h
          rw [List.length_append] at h1
          simp only [List.length_cons, List.length_nil] at h1
          exact ⟨g, by omega, by rw [runL_go (by omega) hm, h2]⟩
      · rw [runL_stop hx] at h; cases h; exact ⟨f + 1, rfl, rfl⟩
/-- What passes in one step is what passes in two. -/
theorem run_two {E1 E2 nx nx1 nx3 : Int} {zs zs1 zs3 : List Al} {td1 td3 : List (Int × Int)} (hE : E1 ≤ E2) (h1 : runL E1 5000 nx zs [] = some (nx1, zs1, td1)) (h3 : runL E2 5000 nx zs [] = some (nx3, zs3, td3)) : ∃ td2, runL E2 5000 nx1 zs1 [] = some (nx3, zs3, td2) ∧ td3 = td1 ++ td2 := by
  obtain ⟨g, hg, h2⟩ := run_split hE 5000 nx zs [] nx1 zs1 td1 h1
  rw [h3] at h2
  have hp := run_prefix (E := E2) td1 g nx1 zs1 []
  rw [List.append_nil, ← h2] at hp
  cases hr : runL E2 g nx1 zs1 [] with
  | none => rw [hr] at hp; cases hp
  | some r =>
    rw [hr] at hp
    obtain ⟨a, b, c⟩ := r
    simp only [Option.map_some, Option.some.injEq, Prod.mk.injEq] at hp
    obtain ⟨rfl, rfl, rfl⟩ := hp
    exact ⟨c, run_more g 5000 (by simp at hg; omega) _ _ _ _ hr, rfl⟩
end Go.Proofs.Ytidpmcanfedbdaa
