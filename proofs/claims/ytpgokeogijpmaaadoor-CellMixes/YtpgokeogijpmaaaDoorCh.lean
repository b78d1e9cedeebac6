/-
  taskmilllaw.CellMixes: what the ops told is handed to the tasks.
-/
import Derived.Test.YtpgokeogijpmaaaDoorCg
namespace Go.Proofs.YtpgokeogijpmaaaDoor.Mx
open Go.RowKit

theorem told_below {W0 w5 w6 : World} {G t : Nat} {v : Value} {xs : List Int} (hB : Below W0.heap.size W0 w5) (hv : Own KI W0.heap.size w5 v xs) (o : Obj) (hg : (w5.alloc o).grownBy w6 v.ownBlock) (hG : W0.heap.size ≤ G) (y : Value) : Below W0.heap.size W0 (w6.setCell ⟨G, t, none⟩ y) :=
  ((hB.alloc hB.size o).grown hg (hB.alloc hB.size o).size (fun k hk => (hv.lt k hk).1)).setCell hG y
def NxH (w W0 : World) (R Bm : Nat) (v7 v8 v14 : Value) (a12 : Option Addr) (c12 : Nat) (a13 : Option Addr) (c13 : Nat) (a15 : Option Addr) (c15 q G n : Nat) (i : Nat) (ts : List (List Int)) (N : Act → World → Prop) : Prop := ∀ (s0 s1 s2 s3 s4 s5 s6 s9 s10 s11 s18 s19 s20 s21 s22 s23 s24 s25 s26 s27 s28 s29 s30 s31 s32 s33 s34 s35 s36 s37 s38 s39 s40 s41 s42 s43 s44 s45 s46 s47 s48 s49 s50 s51 s52 s53 s54 s55 s56 s57 s58 s59 s60 s61 s62 s63 s64 s65 s66 s67 s68 s69 s70 s71 s72 s73 s74 s75 s76 s77 s78 s79 s80 s81 s82 s83 s84 s85 s86 s87 s88 s89 s90 s91 s92 s93 s94 s95 s96 s97 s98 s99 s100 s101 s102 s103 s104 s105 s106 s107 s108 s109 s110 s111 s112 s113 s114 s115 s116 s117 s118 s119 s120 s121 s122 s123 s124 s125 s126 s127 s128 s129 s130 s131 s132 s133 : Value) (us : List Sl) (W' : World), Mi w W' W0.heap.size R Bm G n 0 (.slice none 0 0) [] us ts → Below W0.heap.size W0 W' → N { tmps := (s0 :: s1 :: s2 :: s3 :: s4 :: s5 :: s6 :: v7 :: v8 :: s9 :: s10 :: s11 :: .slice a12 q c12 :: .slice a13 q c13 :: v14 :: .slice a15 q c15 :: .slice (some ⟨G, 0, none⟩) n n :: .int .i64 ((i : Int) + 1) :: s18 :: s19 :: s20 :: s21 :: s22 :: s23 :: s24 :: s25 :: s26 :: s27 :: s28 :: s29 :: s30 :: s31 :: s32 :: s33 :: s34 :: s35 :: s36 :: s37 :: s38 :: s39 :: s40 :: s41 :: s42 :: s43 :: s44 :: s45 :: s46 :: s47 :: s48 :: s49 :: s50 :: s51 :: s52 :: s53 :: s54 :: s55 :: s56 :: s57 :: s58 :: s59 :: s60 :: s61 :: s62 :: s63 :: s64 :: s65 :: s66 :: s67 :: s68 :: s69 :: s70 :: s71 :: s72 :: s73 :: s74 :: s75 :: s76 :: s77 :: s78 :: s79 :: s80 :: s81 :: s82 :: s83 :: s84 :: s85 :: s86 :: s87 :: s88 :: s89 :: s90 :: s91 :: s92 :: s93 :: s94 :: s95 :: s96 :: s97 :: s98 :: s99 :: s100 :: s101 :: s102 :: s103 :: s104 :: s105 :: s106 :: s107 :: s108 :: s109 :: s110 :: s111 :: s112 :: s113 :: s114 :: s115 :: s116 :: s117 :: s118 :: s119 :: s120 :: s121 :: s122 :: s123 :: s124 :: s125 :: s126 :: s127 :: s128 :: s129 :: s130 :: s131 :: s132 :: s133 :: []).toArray, defers := [] } W'

set_option maxRecDepth 100000 in
set_option maxHeartbeats 4000000 in
theorem hd_round (w W0 : World) (R Bm : Nat) (v7 v8 v14 : Value) (a12 : Option Addr) (c12 : Nat) (a13 : Option Addr) (c13 : Nat) (a15 : Option Addr) (c15 q G n : Nat) (i : Nat) (wh tt : List Int) (us : List Sl) (ts : List (List Int)) (t : Nat) (x : Int) (hi : i < q) (hq : q ≤ 5000) (_hn : n ≤ 64) (ht : t < n) (hw : wh.getD i 0 = (t : Int)) (hx : tt.getD i 0 = x) (hlw : wh.length = q) (hlt : tt.length = q) (hW : IsInts W0 (.slice a13 q c13) wh) (hT : IsInts W0 (.slice a15 q c15) tt) (Wt : World) (hM : Mi w Wt W0.heap.size R Bm G n 0 (.slice none 0 0) [] us ts) (hB : Below W0.heap.size W0 Wt) (hlen : (ts.getD t []).length ≤ 5000)
    {s0 s1 s2 s3 s4 s5 s6 s9 s10 s11 s18 s19 s20 s21 s22 s23 s24 s25 s26 s27 s28 s29 s30 s31 s32 s33 s34 s35 s36 s37 s38 s39 s40 s41 s42 s43 s44 s45 s46 s47 s48 s49 s50 s51 s52 s53 s54 s55 s56 s57 s58 s59 s60 s61 s62 s63 s64 s65 s66 s67 s68 s69 s70 s71 s72 s73 s74 s75 s76 s77 s78 s79 s80 s81 s82 s83 s84 s85 s86 s87 s88 s89 s90 s91 s92 s93 s94 s95 s96 s97 s98 s99 s100 s101 s102 s103 s104 s105 s106 s107 s108 s109 s110 s111 s112 s113 s114 s115 s116 s117 s118 s119 s120 s121 s122 s123 s124 s125 s126 s127 s128 s129 s130 s131 s132 s133 : Value} (N : Act → World → Prop) (Q0 : Exit → Act → World → Prop) (b r : Code) (hcut : (Tryd.f4.body.bind (loopFor 2)) = some (b, r)) (hN : NxH w W0 R Bm v7 v8 v14 a12 c12 a13 c13 a15 c15 q G n i (ts.set t (ts.getD t [] ++ [x])) N) :
    b.wp Tryd.prog (Exit.then N Q0) { tmps := (s0 :: s1 :: s2 :: s3 :: s4 :: s5 :: s6 :: v7 :: v8 :: s9 :: s10 :: s11 :: .slice a12 q c12 :: .slice a13 q c13 :: v14 :: .slice a15 q c15 :: .slice (some ⟨G, 0, none⟩) n n :: .int .i64 (i : Int) :: s18 :: s19 :: s20 :: s21 :: s22 :: s23 :: s24 :: s25 :: s26 :: s27 :: s28 :: s29 :: s30 :: s31 :: s32 :: s33 :: s34 :: s35 :: s36 :: s37 :: s38 :: s39 :: s40 :: s41 :: s42 :: s43 :: s44 :: s45 :: s46 :: s47 :: s48 :: s49 :: s50 :: s51 :: s52 :: s53 :: s54 :: s55 :: s56 :: s57 :: s58 :: s59 :: s60 :: s61 :: s62 :: s63 :: s64 :: s65 :: s66 :: s67 :: s68 :: s69 :: s70 :: s71 :: s72 :: s73 :: s74 :: s75 :: s76 :: s77 :: s78 :: s79 :: s80 :: s81 :: s82 :: s83 :: s84 :: s85 :: s86 :: s87 :: s88 :: s89 :: s90 :: s91 :: s92 :: s93 :: s94 :: s95 :: s96 :: s97 :: s98 :: s99 :: s100 :: s101 :: s102 :: s103 :: s104 :: s105 :: s106 :: s107 :: s108 :: s109 :: s110 :: s111 :: s112 :: s113 :: s114 :: s115 :: s116 :: s117 :: s118 :: s119 :: s120 :: s121 :: s122 :: s123 :: s124 :: s125 :: s126 :: s127 :: s128 :: s129 :: s130 :: s131 :: s132 :: s133 :: []).toArray, defers := [] } Wt := by
  have hcc : (Tryd.f4.body.bind (loopFor 2)) = some (_, _) := rfl
  rw [hcc] at hcut
  cases hcut
  clear hcc
  obtain ⟨b1, o1, c1q, e1, hb1, d1⟩ := IsInts.at hW (by omega)
  injection e1 with e1 e1n e1c
  clear e1n e1c
  subst e1
  obtain ⟨b2, o2, c2q, e2, hb2, d2⟩ := IsInts.at hT (by omega)
  injection e2 with e2 e2n e2c
  clear e2n e2c
  subst e2
  have hc1 := d1 i (by omega)
  have hc2 := d2 i (by omega)
  rw [hw] at hc1
  rw [hx] at hc2
  have HC : Hid (∀ W', Below W0.heap.size W0 W' → W'.cell? ⟨b1, o1 + i, none⟩ = some (.int .i64 (t : Int)) ∧ W'.cell? ⟨b2, o2 + i, none⟩ = some (.int .i64 x)) := fun W' hb => by
    have hc : ∀ g k y, g < W0.heap.size → W0.cell? ⟨g, k, none⟩ = some y → W'.cell? ⟨g, k, none⟩ = some y := fun g k y hg hy => by rw [World.cell?_of_block (w := W0) (a := ⟨g, k, none⟩) (hb.block g hg)]; exact hy
    exact ⟨hc _ _ _ hb1 hc1, hc _ _ _ hb2 hc2⟩
  have htl := uAt_len hM ht
  obtain ⟨⟨ta, tn, tc⟩, et⟩ : ∃ u, uAt us t = u := ⟨_, rfl⟩
  rw [et] at htl
  simp only at htl
  have hG := hM.row.lt G rfl
  have HM := hide hM; have HB := hide hB; have HN := hide hN; have HET := hide et; have HTL := hide htl
  have HCL : Hid (∀ w5, Mi w w5 W0.heap.size R Bm G n 0 (.slice none 0 0) [] us ts → (w5.cell? ⟨G, t, none⟩ = some (.slice ta tn tc) ∧ w5.frozen? ⟨G, t, none⟩ = false) ∧ Own KI W0.heap.size w5 (.slice ta tn tc) (ts.getD t [])) := fun w5 h5 => by
    have e1 := own_ats h5.row (j := t) (by rw [h5.lu]; exact ht)
    have e3 := h5.each t ht
    rw [et] at e1 e3
    exact ⟨e1, e3⟩
  have HGW : Hid (∀ w6, ((Wt.drew).alloc (.cells #[.int .i64 x] 3)).grownBy w6 (Value.slice ta tn tc).ownBlock → (w6.cell? ⟨G, t, none⟩ = some (.slice ta tn tc) ∧ w6.frozen? ⟨G, t, none⟩ = false) ∧ w6.cell? ⟨b1, o1 + i, none⟩ = some (.int .i64 (t : Int))) := fun w6 hg6 => by
    have h5 : Mi w Wt.drew W0.heap.size R Bm G n 0 (.slice none 0 0) [] us ts := (unhide HM).keep (Below.refl _ _).drew
    have hrow := h5.row6 ht (.cells #[.int .i64 x] 3) (by rw [et]; exact hg6)
    have e1 := own_ats hrow (j := t) (by rw [h5.lu]; exact ht)
    rw [et] at e1
    have hb5 : Below W0.heap.size W0 Wt.drew := (unhide HB).drew
    have hb6 : Below W0.heap.size W0 w6 := (hb5.alloc hb5.size _).grown hg6 (hb5.alloc hb5.size _).size (fun k hk => (((unhide HCL) _ h5).2.lt k hk).1)
    exact ⟨e1, (unhide HC _ hb6).1⟩
  have htn5 : tn ≤ 5000 := by omega
  have i0 : (0 : Int) ≤ (i : Int) := by omega
  have i1 : (i : Int) < (q : Int) := by omega
  have j0 : (0 : Int) ≤ (t : Int) := by omega
  have j1 : (t : Int) < (n : Int) := by omega
  have hwr : IntKind.i64.wrap ((i : Int) + 1) = (i : Int) + 1 := wrapi (by omega) (by omega)
  obtain ⟨k1, k2⟩ := unhide HC Wt hB
  obtain ⟨⟨k3, k4⟩, -⟩ := unhide HCL Wt hM
  have hMd : Mi w Wt.drew W0.heap.size R Bm G n 0 (.slice none 0 0) [] us ts := hM.keep (Below.refl _ _).drew
  have hMa := hMd.keep ((Below.refl _ _).alloc (Nat.le_refl _) (.cells #[.int .i64 x] 3))
  have hBa : Below W0.heap.size W0 (Wt.drew.alloc (.cells #[.int .i64 x] 3)) := (hB.drew.alloc hB.drew.size _)
  have hBa2 : Below W0.heap.size W0 (Wt.alloc (.cells #[.int .i64 x] 3)) := hB.alloc hB.size _
  obtain ⟨k5, k6⟩ := unhide HC _ hBa2
  have hMa2 := hM.keep ((Below.refl _ _).alloc (Nat.le_refl _) (.cells #[.int .i64 x] 3))
  obtain ⟨⟨k7, k8⟩, ho7⟩ := unhide HCL _ hMa2
  have ho8 : Own KI W0.heap.size (Wt.alloc (.cells #[.int .i64 x] 3)).drew (.slice ta tn tc) (ts.getD t []) := ho7.below (Below.refl _ _).drew
  have HI8 : Hid (IsL KI (Wt.alloc (.cells #[.int .i64 x] 3)).drew (.slice (some ⟨Wt.heap.size, 0, none⟩) 1 1) [x]) := (isl_one ki Wt x).below (Below.refl _ _).drew
  have HO7 := hide ho8
  have HS7 : Hid (W0.heap.size ≤ (Wt.alloc (.cells #[.int .i64 x] 3)).drew.heap.size) := hBa2.size
  have HMD := hide hMd
  clear hM hB hN hMd hMa hMa2 hBa hBa2 ho7 ho8 hW hT d1 d2 hc1 hc2 hw hx et htl hlw hlt
  go_upto_region 25 with fail
  refine wp_norm ?_
  go_region_law (refine step_append2 ki rfl (.tmp 118) (.tmp 123) rfl W0.heap.size (.slice ta tn tc) (ts.getD t []) rfl (unhide HO7) _ [x] rfl (unhide HI8) (tn + 1) (by rw [unhide HTL]; rfl) (by show (tn + 1) * 8 ≤ 140737488355328; omega) (unhide HS7) ?_; intro a6 c6 w6 ho6 hg6 hl6; have HM6 := hide ((unhide HMD).told ht x (.cells #[.int .i64 x] 3) a6 (tn + 1) c6 ho6 (by rw [unhide HET]; exact hg6) (by rw [unhide HET]; exact hl6)); have HB6 := hide (told_below (G := G) (t := t) (unhide HB).drew ((unhide HCL) _ (unhide HMD)).2 _ hg6 hG.1 (.slice a6 (tn + 1) c6)); have hw6 := unhide HGW w6 hg6; have r3 := hw6.1.1; have r4 := hw6.1.2; have r5 := hw6.2; clear ho6 hg6 hl6 hw6)
  all_goals
    obtain ⟨W9, e9⟩ : ∃ X, w6.setCell ⟨G, t, none⟩ (.slice a6 (tn + 1) c6) = X := ⟨_, rfl⟩
    rw [e9] at HM6 HB6 ⊢
    clear e9
    show Exit.inBlock 3 (Exit.then _ (Exit.then N Q0)) Exit.normal _ _
    go_wp2_with fail
    exact unhide HN _ _ _ _ _ _ _ _ _ _ _ _ _ _ _ _ _ _ _ _ _ _ _ _ _ _ _ _ _ _ _ _ _ _ _ _ _ _ _ _ _ _ _ _ _ _ _ _ _ _ _ _ _ _ _ _ _ _ _ _ _ _ _ _ _ _ _ _ _ _ _ _ _ _ _ _ _ _ _ _ _ _ _ _ _ _ _ _ _ _ _ _ _ _ _ _ _ _ _ _ _ _ _ _ _ _ _ _ _ _ _ _ _ _ _ _ _ _ _ _ _ _ _ _ _ _ _ _ (unhide HM6) (unhide HB6)

end Go.Proofs.YtpgokeogijpmaaaDoor.Mx
