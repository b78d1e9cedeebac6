/-
  taskmilllaw.RingRefills returns true.
-/
import Derived.Test.YtcdnennfimbgoaaVe
import Derived.Test.YtcdnennfimbgoaaVf
namespace Go.Proofs.Ytcdnennfimbgoaa
open Go.RowKit

theorem refills_walk (w : World) (nx : Int) (v : Value) (zs : List Int) (vg : Value) (gs : List Int) (p : Int) (h : IsInts w v zs) (hv : Fits v) (hm : zs.length ≤ maxLen) (hg : IsInts w vg gs) (hvg : Fits vg) (hgm : gs.length ≤ maxLen) :
    Calls Try.prog 5 #[.agg #[.int .i64 nx, v], vg, .int .i64 p] w fun e w' => e = .returned (.bool true) ∧ Below w.heap.size w w' := by
  obtain ⟨a, c, rfl⟩ := Rd.form h
  obtain ⟨ag, cg, rfl⟩ := Rd.form hg
  by_cases hl : 2000 < zs.length ∨ 6000 < gs.length
  · exact refills_long w nx p a ag _ c _ cg hm hgm hl
  · have hn : zs.length ≤ 2000 := by omega
    have hn6 : gs.length ≤ 6000 := by omega
    obtain ⟨x, y, hf⟩ : ∃ x y, refillF nx zs gs p = (x, y) := ⟨_, _, rfl⟩
    by_cases hx : x = 0
    · subst hx
      obtain ⟨hf0, hr, hgl, hp1, hp2⟩ := refillF_ok (nx := nx) (zs := zs) (gs := gs) (p := p) (by rw [hf])
      by_cases h0 : 0 < gs.length
      · obtain ⟨b, off, c', e, hb, hc⟩ := IsInts.at hg h0
        cases e
        exact refills_ok w nx a c zs p b off gs.length cg gs h hv hn hg rfl hb hc hf0 (hvg _ _ _ rfl)
      · have e0 : gs = [] := List.eq_nil_of_length_eq_zero (by omega)
        subst e0
        cases ag with
        | none =>
          obtain ⟨_, ⟨e, _⟩ | ⟨_, _, e, _⟩⟩ := hg
          · cases e
            exact refills_ok_nil w nx a c zs p h hv hn hf0
          · cases e
        | some ad =>
          by_cases hc0 : cg = 0
          · subst hc0
            exact refills_ok_at0 w nx a c zs p ad h hv hn hf0
          · exact refills_ok_at w nx a c zs p ad cg h hv hn hf0 hc0
    · by_cases hr0 : (ringF nx zs).1 = 0
      · have hr := ringF_zero hr0
        by_cases h5 : 5000 < gs.length
        · exact refills_many w nx a c zs p ag gs.length cg gs h hv hn hg rfl hn6 x y hf hx hr h5
        · by_cases h0 : 0 < gs.length
          · obtain ⟨b, off, c', e, hb, hc⟩ := IsInts.at hg h0
            cases e
            exact refills_loops w nx a c zs p b off gs.length cg gs h hv hn hg rfl hn6 hb hc x y hf hx hr (by omega) h0 (hvg _ _ _ rfl)
          · have e0 : gs = [] := List.eq_nil_of_length_eq_zero (by omega)
            subst e0
            refine refills_none w nx a c zs p ag cg h hv hn hg hr ?_
            apply Decidable.byContradiction
            intro hp
            unfold refillF at hf
            rw [hr, if_neg (by simp), globalF_nil, if_neg (by simp), if_neg hp] at hf
            exact hx (congrArg Prod.fst hf).symm
      · have hrf : ringF nx zs = (x, y) := by
          have := hf
          unfold refillF at this
          rw [if_pos hr0] at this
          exact this
        exact refills_ring w nx a c zs p ag gs.length cg gs h hv hn hg rfl hn6 x y hf hx hrf
end Go.Proofs.Ytcdnennfimbgoaa
