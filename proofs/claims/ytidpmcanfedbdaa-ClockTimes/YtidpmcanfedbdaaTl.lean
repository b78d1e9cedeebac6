/-
  What goes off, and when, on lists (ClockTimes).
-/
import Derived.Test.YtidpmcanfedbdaaUn
namespace Go.Proofs.Ytidpmcanfedbdaa
open Go.RowKit

/-- When the alarm id is to go off next, behind one that went off. -/
def stepW (id E P w : Int) (e : Int × Int) : Int := if e.2 = id then (if P = 0 then E + 1 else w + P) else w
/-- What is told behind 'last', the alarm id next at 'when', is as it should be; at last it is to go off at w'. -/
def Told (id now E P : Int) : Int → Int → List (Int × Int) → Int → Prop
  | _, w, [], w' => w' = w
  | last, w, e :: l, w' => ¬ e.1 < last ∧ now < e.1 ∧ e.1 ≤ E ∧ (e.2 = id → e.1 = w) ∧ Told id now E P e.1 (stepW id E P w e) l w'
/-- The alarm id is there, or it went off for good. -/
def HasA (id E P w : Int) (zs : List Al) : Prop := (∃ b ∈ zs, b.1 = id ∧ b.2.1 = w ∧ b.2.2.1 = P) ∨ ((∀ b ∈ zs, b.1 ≠ id) ∧ w = E + 1)

theorem srt_le {x b : Al} {r : List Al} (h : (x :: r).Pairwise (fun a b => ahead b a = false)) (hb : b ∈ r) : x.2.1 ≤ b.2.1 := by
  have := (List.pairwise_cons.1 h).1 b hb
  rw [ahead_not] at this
  omega
theorem off_mem {nx : Int} {x b : Al} {r : List Al} (hb : b ∈ (offL nx x r).2) : b ∈ r ∨ (x.2.2.1 ≠ 0 ∧ b = (x.1, x.2.1 + x.2.2.1, x.2.2.1, nx)) := by
  unfold offL at hb
  split at hb
  · exact Or.inl hb
  · rename_i h
    rcases (ins_mem _ _ _).1 hb with h1 | h1
    · exact Or.inr ⟨h, h1⟩
    · exact Or.inl h1
theorem off_keep {nx : Int} {x b : Al} {r : List Al} (hb : b ∈ r) : b ∈ (offL nx x r).2 := by
  unfold offL
  split
  · exact hb
  · exact (ins_mem _ _ _).2 (Or.inr hb)
theorem off_again {nx : Int} {x : Al} {r : List Al} (h : x.2.2.1 ≠ 0) : (x.1, x.2.1 + x.2.2.1, x.2.2.1, nx) ∈ (offL nx x r).2 := by
  unfold offL
  rw [if_neg h]
  exact (ins_mem _ _ _).2 (Or.inl rfl)

theorem run_cons {E nx : Int} {x : Al} {r : List Al} {f : Nat} {nx1 : Int} {zs1 : List Al} {td1 : List (Int × Int)} (h : runL E f nx (x :: r) [] = some (nx1, zs1, td1)) : (¬ x.2.1 ≤ E ∧ td1 = []) ∨ (x.2.1 ≤ E ∧ ¬ (x.2.2.1 ≠ 0 ∧ nx = 1000000000) ∧ ∃ g td2, f = g + 1 ∧ td1 = (x.2.1, x.1) :: td2 ∧ runL E g (offL nx x r).1 (offL nx x r).2 [] = some (nx1, zs1, td2)) := by
  by_cases hE : x.2.1 ≤ E
  · by_cases h2 : x.2.2.1 ≠ 0 ∧ nx = 1000000000
    · rw [runL_much hE h2] at h
      cases h
    · cases f with
      | zero => rw [runL_zero hE] at h; cases h
      | succ g =>
        rw [runL_go hE h2] at h
        have hp := run_prefix (E := E) [(x.2.1, x.1)] g (offL nx x r).1 (offL nx x r).2 []
        rw [List.append_nil] at hp
        rw [List.nil_append, hp] at h
        cases hr : runL E g (offL nx x r).1 (offL nx x r).2 [] with
        | none => rw [hr] at h; cases h
        | some q =>
          rw [hr] at h
          obtain ⟨q1, q2, q3⟩ := q
          simp only [Option.map_some, Option.some.injEq, Prod.mk.injEq] at h
          obtain ⟨rfl, rfl, rfl⟩ := h
          exact Or.inr ⟨hE, h2, g, q3, rfl, rfl, hr⟩
  · rw [runL_stop hE] at h
    cases h
    exact Or.inl ⟨hE, rfl⟩

theorem told_run {id now E P : Int} (hE1 : E ≤ 1000000000) : ∀ (f : Nat) (nx last w : Int) (zs : List Al), Good now nx zs → (∀ b ∈ zs, last ≤ b.2.1) → HasA id E P w zs → ∀ nx1 zs1 td1, runL E f nx zs [] = some (nx1, zs1, td1) → ∃ w', Told id now E P last w td1 w' ∧ E < w' := by
  intro f
  induction f with
  | zero =>
    intro nx last w zs g hl hh nx1 zs1 td1 hr
    cases zs with
    | nil =>
      rw [runL_nil] at hr
      cases hr
      rcases hh with ⟨b, hb, -⟩ | ⟨-, rfl⟩
      · simp at hb
      · exact ⟨_, rfl, by omega⟩
    | cons x r =>
      rcases run_cons hr with ⟨hE, rfl⟩ | ⟨-, -, g', td2, h0, -⟩
      · refine ⟨w, rfl, ?_⟩
        rcases hh with ⟨b, hb, -, rfl, -⟩ | ⟨-, rfl⟩
        · rcases List.mem_cons.1 hb with rfl | hb
          · omega
          · have := srt_le g.srt hb
            omega
        · omega
      · omega
  | succ f ih =>
    intro nx last w zs g hl hh nx1 zs1 td1 hr
    cases zs with
    | nil =>
      rw [runL_nil] at hr
      cases hr
      rcases hh with ⟨b, hb, -⟩ | ⟨-, rfl⟩
      · simp at hb
      · exact ⟨_, rfl, by omega⟩
    | cons x r =>
      rcases run_cons hr with ⟨hE, rfl⟩ | ⟨hE, h2, g', td2, h0, rfl, hr2⟩
      · refine ⟨w, rfl, ?_⟩
        rcases hh with ⟨b, hb, -, rfl, -⟩ | ⟨-, rfl⟩
        · rcases List.mem_cons.1 hb with rfl | hb
          · omega
          · have := srt_le g.srt hb
            omega
        · omega
      · obtain rfl : g' = f := by omega
        have hx := (oor_iff now nx x).1 (g.rng x (by simp))
        have hidr : ∀ b ∈ r, x.1 ≠ b.1 := fun b hb => (List.pairwise_cons.1 g.ids).1 b hb
        have g2 := g.off hE hE1 h2
        have hw : x.1 = id → x.2.1 = w ∧ (HasA id E P w (x :: r) → x.2.2.1 = P) := by
          intro hi
          rcases hh with ⟨b, hb, h1, h3, h4⟩ | ⟨hn, -⟩
          · rcases List.mem_cons.1 hb with rfl | hb
            · exact ⟨h3, fun _ => h4⟩
            · exact absurd (hi.trans h1.symm) (hidr b hb)
          · exact absurd hi (hn x (by simp))
        have hh' : HasA id E P (stepW id E P w (x.2.1, x.1)) (offL nx x r).2 := by
          unfold stepW
          by_cases hi : x.1 = id
          · rw [if_pos hi]
            obtain ⟨hw1, hw2⟩ := hw hi
            have hp := hw2 hh
            by_cases hP : P = 0
            · rw [if_pos hP]
              refine Or.inr ⟨fun b hb => ?_, rfl⟩
              rcases off_mem hb with hb | ⟨hq, -⟩
              · exact fun h => hidr b hb (hi.trans h.symm)
              · exact absurd (hp.trans hP) hq
            · rw [if_neg hP]
              exact Or.inl ⟨_, off_again (by rw [hp]; exact hP), hi, by simp only; rw [hw1, hp], hp⟩
          · rw [if_neg hi]
            rcases hh with ⟨b, hb, h1, h3, h4⟩ | ⟨hn, hw0⟩
            · rcases List.mem_cons.1 hb with rfl | hb
              · exact absurd h1 hi
              · exact Or.inl ⟨b, off_keep hb, h1, h3, h4⟩
            · refine Or.inr ⟨fun b hb => ?_, hw0⟩
              rcases off_mem hb with hb | ⟨-, rfl⟩
              · exact hn b (by simp [hb])
              · exact hi
        have hl' : ∀ b ∈ (offL nx x r).2, x.2.1 ≤ b.2.1 := by
          intro b hb
          rcases off_mem hb with hb | ⟨-, rfl⟩
          · exact srt_le g.srt hb
          · show x.2.1 ≤ x.2.1 + x.2.2.1
            omega
        obtain ⟨w', t1, t2⟩ := ih _ x.2.1 _ _ g2 hl' hh' _ _ _ hr2
        refine ⟨w', ⟨?_, hx.2.1, hE, fun h => (hw h).1, t1⟩, t2⟩
        have := hl x (by simp)
        show ¬ x.2.1 < last
        omega

/-- What is not there does not go off. -/
theorem run_never {id E : Int} : ∀ (f : Nat) (nx : Int) (zs : List Al), (∀ b ∈ zs, b.1 ≠ id) → ∀ nx1 zs1 td1, runL E f nx zs [] = some (nx1, zs1, td1) → ∀ e ∈ td1, e.2 ≠ id := by
  intro f
  induction f with
  | zero =>
    intro nx zs hn nx1 zs1 td1 hr
    cases zs with
    | nil => rw [runL_nil] at hr; cases hr; intro e he; simp at he
    | cons x r =>
      rcases run_cons hr with ⟨-, rfl⟩ | ⟨-, -, g', td2, h0, -⟩
      · intro e he; simp at he
      · omega
  | succ f ih =>
    intro nx zs hn nx1 zs1 td1 hr
    cases zs with
    | nil => rw [runL_nil] at hr; cases hr; intro e he; simp at he
    | cons x r =>
      rcases run_cons hr with ⟨-, rfl⟩ | ⟨-, -, g', td2, h0, rfl, hr2⟩
      · intro e he; simp at he
      · obtain rfl : g' = f := by omega
        have h1 := ih _ _ (fun b hb => by
          rcases off_mem hb with hb | ⟨-, rfl⟩
          · exact hn b (by simp [hb])
          · exact hn x (by simp)) _ _ _ hr2
        intro e he
        rcases List.mem_cons.1 he with rfl | he
        · exact hn x (by simp)
        · exact h1 e he

end Go.Proofs.Ytidpmcanfedbdaa
