/-
  sweep.Cycle: what it answers at its end.
-/
import Derived.Test.YtmkehjncnaokoaaY
namespace Go.Proofs.Ytmkehjncnaokoaa
open Go.RowKit

set_option maxRecDepth 100000 in
set_option maxHeartbeats 4000000 in
theorem cycle_14 (Wt : World) (B cb mb RH RF : Nat) (z : Int) (ao : Option Addr) (no co : Nat) (ar : Option Addr) (nr cr : Nat) (x2 x3 : Value) (m : Nat) (xs : List Int) (hC : Wt.heap[cb]? = some (.cells #[.pointer (some ⟨mb, 0, none⟩), .int .i64 z] 60 (0, 0))) (hM : Wt.heap[mb]? = some (.cells #[.slice ao no co, .slice ar nr cr, x2, x3] 62 (0, 0))) (hH : Wt.heap[RH]? = some (.cells #[.slice none 0 0, .slice none 0 0] 25 (0, 0))) (hF : Wt.heap[RF]? = some (.cells #[.int .i64 0, .int .i64 0] 30 (0, 0)))
    (hne : RH ≠ RF ∧ RH ≠ cb ∧ RH ≠ mb ∧ RF ≠ cb ∧ RF ≠ mb) (hlo : B ≤ RH ∧ B ≤ RF ∧ B ≤ Wt.heap.size)
    (hW : ∀ W, Below Wt.heap.size Wt W → Calls Try.prog 27 #[.pointer (some ⟨mb, 0, none⟩)] W fun e w' => ∃ a c, e = .returned (.slice a m c) ∧ OwnO W.heap.size w' (.slice a m c) xs ∧ Below W.heap.size W w')
    {s0 s1 s2 s3 s4 s5 s7 s9 s11 s12 s13 s14 s15 s16 s17 s18 s19 s20 s21 s22 s23 s24 s25 s26 s27 s28 s29 s30 s31 s32 s33 s34 s35 s36 s37 s38 s39 s40 s41 s42 s43 s44 s45 s46 s47 s48 s49 s50 s51 s52 s53 s54 s55 s56 s57 s58 s59 s60 : Value} (K : Act → World → Prop) (R : Exit → Act → World → Prop) (x : Code) (hcut : (Try.f19.body.bind (cutAt 14)).map Prod.fst = some x)
    (hK : ∀ (s48 s49 s50 s51 s52 s53 s54 s55 s56 s57 s58 s59 s60 : Value) (a : Option Addr) (c : Nat) (W' : World), Below B Wt W' → W'.heap[RH]? = some (.cells #[.slice ao no co, .slice ar nr cr] 25 (0, 0)) → W'.heap[RF]? = some (.cells #[.int .i64 0, .int .i64 0] 30 (0, 0)) → OwnO Wt.heap.size W' (.slice a m c) xs → (∀ k, k < Wt.heap.size → k ≠ RH → k ≠ RF → W'.heap[k]? = Wt.heap[k]?) → Exit.then K R Exit.normal { tmps := (s0 :: s1 :: s2 :: s3 :: s4 :: s5 :: .pointer (some ⟨RH, 0, none⟩) :: .slice a m c :: .pointer (some ⟨RF, 0, none⟩) :: s9 :: .pointer (some ⟨cb, 0, none⟩) :: s11 :: s12 :: s13 :: s14 :: s15 :: s16 :: s17 :: s18 :: s19 :: s20 :: s21 :: s22 :: s23 :: s24 :: s25 :: s26 :: s27 :: s28 :: s29 :: s30 :: s31 :: s32 :: s33 :: s34 :: s35 :: s36 :: s37 :: s38 :: s39 :: s40 :: s41 :: s42 :: s43 :: s44 :: s45 :: s46 :: s47 :: s48 :: s49 :: s50 :: s51 :: s52 :: s53 :: s54 :: s55 :: s56 :: s57 :: s58 :: s59 :: s60 :: []).toArray, defers := [] } W') :
    x.wp Try.prog (Exit.then K R) { tmps := (s0 :: s1 :: s2 :: s3 :: s4 :: s5 :: .pointer (some ⟨RH, 0, none⟩) :: s7 :: .pointer (some ⟨RF, 0, none⟩) :: s9 :: .pointer (some ⟨cb, 0, none⟩) :: s11 :: s12 :: s13 :: s14 :: s15 :: s16 :: s17 :: s18 :: s19 :: s20 :: s21 :: s22 :: s23 :: s24 :: s25 :: s26 :: s27 :: s28 :: s29 :: s30 :: s31 :: s32 :: s33 :: s34 :: s35 :: s36 :: s37 :: s38 :: s39 :: s40 :: s41 :: s42 :: s43 :: s44 :: s45 :: s46 :: s47 :: s48 :: s49 :: s50 :: s51 :: s52 :: s53 :: s54 :: s55 :: s56 :: s57 :: s58 :: s59 :: s60 :: []).toArray, defers := [] } Wt := by
  have hcc : (Try.f19.body.bind (cutAt 14)).map Prod.fst = some (.region _ _ _) := rfl
  rw [hcc] at hcut
  cases hcut
  clear hcc
  have HH := hide hH; have HF := hide hF; have HK := hide hK; have HW := hide hW
  have HSS : Hid (∀ W, Below Wt.heap.size Wt W → (W.cell? ⟨cb, 0, none⟩ = some (.pointer (some ⟨mb, 0, none⟩)) ∧ W.cell? ⟨mb, 0, none⟩ = some (.slice ao no co) ∧ W.cell? ⟨mb, 1, none⟩ = some (.slice ar nr cr)) ∧ Below B Wt W) := fun W h => ⟨⟨(block2 (keep_below hC h)).1, (block4 (keep_below hM h)).1.1, (block4 (keep_below hM h)).1.2.1⟩, h.mono hlo.2.2⟩
  have HSH : Hid (∀ (W : World) (o : Nat) (v : Value), ((W.cell? ⟨cb, 0, none⟩ = some (.pointer (some ⟨mb, 0, none⟩)) ∧ W.cell? ⟨mb, 0, none⟩ = some (.slice ao no co) ∧ W.cell? ⟨mb, 1, none⟩ = some (.slice ar nr cr)) ∧ Below B Wt W) → ((W.setCell ⟨RH, o, none⟩ v).cell? ⟨cb, 0, none⟩ = some (.pointer (some ⟨mb, 0, none⟩)) ∧ (W.setCell ⟨RH, o, none⟩ v).cell? ⟨mb, 0, none⟩ = some (.slice ao no co) ∧ (W.setCell ⟨RH, o, none⟩ v).cell? ⟨mb, 1, none⟩ = some (.slice ar nr cr)) ∧ Below B Wt (W.setCell ⟨RH, o, none⟩ v)) := fun W o v h => ⟨⟨cell_other h.1.1 (Or.inl (Ne.symm hne.2.1)) v, cell_other h.1.2.1 (Or.inl (Ne.symm hne.2.2.1)) v, cell_other h.1.2.2 (Or.inl (Ne.symm hne.2.2.1)) v⟩, h.2.setCell hlo.1 v⟩
  have HSF : Hid (∀ (W : World) (o : Nat) (v : Value), ((W.cell? ⟨cb, 0, none⟩ = some (.pointer (some ⟨mb, 0, none⟩)) ∧ W.cell? ⟨mb, 0, none⟩ = some (.slice ao no co) ∧ W.cell? ⟨mb, 1, none⟩ = some (.slice ar nr cr)) ∧ Below B Wt W) → ((W.setCell ⟨RF, o, none⟩ v).cell? ⟨cb, 0, none⟩ = some (.pointer (some ⟨mb, 0, none⟩)) ∧ (W.setCell ⟨RF, o, none⟩ v).cell? ⟨mb, 0, none⟩ = some (.slice ao no co) ∧ (W.setCell ⟨RF, o, none⟩ v).cell? ⟨mb, 1, none⟩ = some (.slice ar nr cr)) ∧ Below B Wt (W.setCell ⟨RF, o, none⟩ v)) := fun W o v h => ⟨⟨cell_other h.1.1 (Or.inl (Ne.symm hne.2.2.2.1)) v, cell_other h.1.2.1 (Or.inl (Ne.symm hne.2.2.2.2)) v, cell_other h.1.2.2 (Or.inl (Ne.symm hne.2.2.2.2)) v⟩, h.2.setCell hlo.2.1 v⟩
  have HNE := hide hne; have HLO := hide hlo
  have ne1 : RF ≠ RH := Ne.symm hne.1
  have ne2 : RH ≠ RF := hne.1
  clear hC hM hH hF hK hW hne hlo
  go_region_held3 (fun W => (W.cell? ⟨cb, 0, none⟩ = some (.pointer (some ⟨mb, 0, none⟩)) ∧ W.cell? ⟨mb, 0, none⟩ = some (.slice ao no co) ∧ W.cell? ⟨mb, 1, none⟩ = some (.slice ar nr cr)) ∧ Below B Wt W)
    (first | with_reducible exact unhide HSS _ (Below.refl _ _) | with_reducible exact unhide HSS _ (unhide HY7) | (repeat (first | with_reducible exact unhide HSS _ (Below.refl _ _) | with_reducible exact unhide HSS _ (Below.refl _ _).drew | with_reducible exact unhide HSS _ (unhide HY7) | with_reducible exact unhide HSS _ (unhide HY7).drew | with_reducible refine unhide HSH _ _ _ ?_ | with_reducible refine unhide HSF _ _ _ ?_)))
    (first | (go_at_call 27; (with_reducible refine Calls.mono (unhide HW _ (Below.refl _ _).drew) ?_); rintro e w5 ⟨a5, c5, rfl, ho5, hb5⟩; have HY7 : Hid (Below Wt.heap.size Wt w5) := Below.next (Below.refl _ _).drew hb5 (Nat.le_refl _); have HO5 := hide ho5; have HH5 := hide (keep_below (unhide HH) (unhide HY7)); have HF5 := hide (keep_below (unhide HF) (unhide HY7)); obtain ⟨h0, h1, hf0, hf1, hl⟩ := block2 (unhide HH5); obtain ⟨g0, g1, gf0, gf1, gl⟩ := block2 (unhide HF5); clear ho5 hb5))
  have hne := unhide HNE; have hlo := unhide HLO
  have o7 := (unhide HO5)
  have hsz : Wt.heap.size ≤ w5.heap.size := (unhide HY7).size
  have hrh := size_of (unhide HH); have hrf := size_of (unhide HF)
  have o8 : OwnO Wt.heap.size (put2 (put2 w5 RH (.slice ao no co) (.slice ar nr cr)) RF (.int .i64 0) (.int .i64 0)) (.slice a5 m c5) xs := (show OwnO Wt.heap.size w5 (.slice a5 m c5) xs from o7).keep (by simp [put2, World.setCell]) (fun k hk => by
    have h_ := ((show OwnO Wt.heap.size w5 (.slice a5 m c5) xs from o7).lt k hk).1
    exact (put2_keep (by omega)).trans (put2_keep (by omega)))
  exact unhide HK _ _ _ _ _ _ _ _ _ _ _ _ _ a5 c5 (put2 (put2 w5 RH (.slice ao no co) (.slice ar nr cr)) RF (.int .i64 0) (.int .i64 0)) (put2_below (put2_below ((unhide HY7).mono hlo.2.2) hlo.1) hlo.2.1) ((put2_keep ne2).trans (put2_new (unhide HH5))) (put2_new ((put2_keep ne1).trans (unhide HF5))) o8 (fun k hk h1 h2 => ((put2_keep h2).trans (put2_keep h1)).trans ((unhide HY7).block k hk))
end Go.Proofs.Ytmkehjncnaokoaa
