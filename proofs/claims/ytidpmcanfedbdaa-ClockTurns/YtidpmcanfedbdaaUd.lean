/-
  taskmilllaw.ClockTurns: the inner loop.
-/
import Derived.Test.YtidpmcanfedbdaaUc
import Derived.LoopN
namespace Go.Proofs.Ytidpmcanfedbdaa
open Go.RowKit

/-- What follows a round of the inner loop. -/
def NxU (s1 s4 s5 s8 s9 s10 : Value) (n c0 j b0 o0 q : Nat) (aw : Option Addr) (mw cw : Nat) (W0 : World) (RL : List (Int × Int)) (N : Act → World → Prop) : Prop := ∀ (s2 s3 s13 s14 s15 s16 s17 s18 s19 s20 s21 s22 s23 s24 s25 s26 s27 s28 s29 s30 s31 s32 s33 s34 s35 s36 s37 s38 s39 s40 s41 s42 s43 s44 s45 s46 s47 s48 s49 s50 s51 s52 s53 s54 s55 s56 s57 s58 s59 s60 s61 s62 s63 s64 s65 s66 s67 s68 s69 s70 s71 s72 s73 s74 s75 s76 s77 s78 s79 s80 s81 s82 s83 s84 s85 s86 s87 s88 s89 s90 s91 s92 s93 s94 s95 s96 s97 s98 s99 s100 s101 s102 s103 s104 s105 s106 s107 s108 s109 s110 s111 s112 s113 s114 s115 s116 s117 s118 s119 s120 s121 s122 s123 s124 s125 s126 s127 s128 : Value) (ar' : Option Addr) (mr' cr' : Nat) (W' : World), Own KO W0.heap.size W' (.slice ar' mr' cr') RL → RL.length = mr' → Below W0.heap.size W0 W' → N { tmps := (.slice (some ⟨b0, o0, none⟩) n c0 :: s1 :: s2 :: s3 :: s4 :: s5 :: .slice aw mw cw :: .int .i64 (j : Int) :: s8 :: s9 :: s10 :: (.slice ar' mr' cr') :: .int .i64 ((q : Int) + 1) :: s13 :: s14 :: s15 :: s16 :: s17 :: s18 :: s19 :: s20 :: s21 :: s22 :: s23 :: s24 :: s25 :: s26 :: s27 :: s28 :: s29 :: s30 :: s31 :: s32 :: s33 :: s34 :: s35 :: s36 :: s37 :: s38 :: s39 :: s40 :: s41 :: s42 :: s43 :: s44 :: s45 :: s46 :: s47 :: s48 :: s49 :: s50 :: s51 :: s52 :: s53 :: s54 :: s55 :: s56 :: s57 :: s58 :: s59 :: s60 :: s61 :: s62 :: s63 :: s64 :: s65 :: s66 :: s67 :: s68 :: s69 :: s70 :: s71 :: s72 :: s73 :: s74 :: s75 :: s76 :: s77 :: s78 :: s79 :: s80 :: s81 :: s82 :: s83 :: s84 :: s85 :: s86 :: s87 :: s88 :: s89 :: s90 :: s91 :: s92 :: s93 :: s94 :: s95 :: s96 :: s97 :: s98 :: s99 :: s100 :: s101 :: s102 :: s103 :: s104 :: s105 :: s106 :: s107 :: s108 :: s109 :: s110 :: s111 :: s112 :: s113 :: s114 :: s115 :: s116 :: s117 :: s118 :: s119 :: s120 :: s121 :: s122 :: s123 :: s124 :: s125 :: s126 :: s127 :: s128 :: []).toArray, defers := [] } W'

set_option maxRecDepth 100000 in
set_option maxHeartbeats 4000000 in
theorem turns_skip (n c0 j b0 o0 : Nat) (id yt yi : Int) (aw : Option Addr) (mw cw q : Nat) (ar : Option Addr) (mr cr : Nat) (WL RL : List (Int × Int)) (W0 Wt : World) (hj : j < n) (hq : q < mw) (hmw : mw ≤ 1000) (_hmr : mr ≤ 1000) (hW : IsL KO W0 (.slice aw mw cw) WL) (hy : WL.getD q (0, 0) = (yt, yi)) (hid : yi = id) (hm : W0.cell? ⟨b0, o0 + j, none⟩ = some (.int .i64 id)) (hb0 : b0 < W0.heap.size) (hB : Below W0.heap.size W0 Wt) (hR : Own KO W0.heap.size Wt (.slice ar mr cr) RL)
    {s1 s2 s3 s4 s5 s8 s9 s10 s13 s14 s15 s16 s17 s18 s19 s20 s21 s22 s23 s24 s25 s26 s27 s28 s29 s30 s31 s32 s33 s34 s35 s36 s37 s38 s39 s40 s41 s42 s43 s44 s45 s46 s47 s48 s49 s50 s51 s52 s53 s54 s55 s56 s57 s58 s59 s60 s61 s62 s63 s64 s65 s66 s67 s68 s69 s70 s71 s72 s73 s74 s75 s76 s77 s78 s79 s80 s81 s82 s83 s84 s85 s86 s87 s88 s89 s90 s91 s92 s93 s94 s95 s96 s97 s98 s99 s100 s101 s102 s103 s104 s105 s106 s107 s108 s109 s110 s111 s112 s113 s114 s115 s116 s117 s118 s119 s120 s121 s122 s123 s124 s125 s126 s127 s128 : Value} (N : Act → World → Prop) (R : Exit → Act → World → Prop) (b : Code) (hcut : (((Try.f7.body.bind (loopFor 0)).bind fun p => blockIn 1 p.1).bind fun p => loopFor 2 p.1).map Prod.fst = some b) (hN : NxU s1 s4 s5 s8 s9 s10 n c0 j b0 o0 q aw mw cw W0 (RL) N) :
    b.wp Try.prog (Exit.then N R) { tmps := (.slice (some ⟨b0, o0, none⟩) n c0 :: s1 :: s2 :: s3 :: s4 :: s5 :: .slice aw mw cw :: .int .i64 (j : Int) :: s8 :: s9 :: s10 :: .slice ar mr cr :: .int .i64 (q : Int) :: s13 :: s14 :: s15 :: s16 :: s17 :: s18 :: s19 :: s20 :: s21 :: s22 :: s23 :: s24 :: s25 :: s26 :: s27 :: s28 :: s29 :: s30 :: s31 :: s32 :: s33 :: s34 :: s35 :: s36 :: s37 :: s38 :: s39 :: s40 :: s41 :: s42 :: s43 :: s44 :: s45 :: s46 :: s47 :: s48 :: s49 :: s50 :: s51 :: s52 :: s53 :: s54 :: s55 :: s56 :: s57 :: s58 :: s59 :: s60 :: s61 :: s62 :: s63 :: s64 :: s65 :: s66 :: s67 :: s68 :: s69 :: s70 :: s71 :: s72 :: s73 :: s74 :: s75 :: s76 :: s77 :: s78 :: s79 :: s80 :: s81 :: s82 :: s83 :: s84 :: s85 :: s86 :: s87 :: s88 :: s89 :: s90 :: s91 :: s92 :: s93 :: s94 :: s95 :: s96 :: s97 :: s98 :: s99 :: s100 :: s101 :: s102 :: s103 :: s104 :: s105 :: s106 :: s107 :: s108 :: s109 :: s110 :: s111 :: s112 :: s113 :: s114 :: s115 :: s116 :: s117 :: s118 :: s119 :: s120 :: s121 :: s122 :: s123 :: s124 :: s125 :: s126 :: s127 :: s128 :: []).toArray, defers := [] } Wt := by
  have hcc : (((Try.f7.body.bind (loopFor 0)).bind fun p => blockIn 1 p.1).bind fun p => loopFor 2 p.1).map Prod.fst = some (.seq _ _) := rfl
  rw [hcc] at hcut
  cases hcut
  clear hcc
  have hlr := hR.isl.len
  obtain ⟨bw, ow, rfl, hbw, lw⟩ := hW.opens ko hW.len (by omega)
  obtain ⟨k0, k1⟩ := (lw.below hB hbw).off (j := q) (by rw [hW.len]; exact hq) hy
  have cm : Wt.cell? ⟨b0, o0 + j, none⟩ = some (.int .i64 id) := by rw [World.cell?_of_block (w := W0) (a := ⟨b0, o0 + j, none⟩) (hB.block b0 hb0)]; exact hm
  have i0 : (0 : Int) ≤ (j : Int) := by omega
  have i1 : (j : Int) < (n : Int) := by omega
  have i2 : (0 : Int) ≤ (q : Int) := by omega
  have i3 : (q : Int) < (mw : Int) := by omega
  have hwr : IntKind.i64.wrap ((q : Int) + 1) = (q : Int) + 1 := wrapi (by omega) (by omega)
  have HN := hide hN; have HB := hide hB; have HR := hide hR; have HLR := hide hlr
  clear hN hB hR hlr hW lw hbw hy hm hb0
  have xn : (yi != id) = false := by simpa using hid
  clear hid
  go_upto_region 20 with fail
  go_wp2_with fail
  go_quiet (fail)
  go_wp2_with fail
  exact unhide HN _ _ _ _ _ _ _ _ _ _ _ _ _ _ _ _ _ _ _ _ _ _ _ _ _ _ _ _ _ _ _ _ _ _ _ _ _ _ _ _ _ _ _ _ _ _ _ _ _ _ _ _ _ _ _ _ _ _ _ _ _ _ _ _ _ _ _ _ _ _ _ _ _ _ _ _ _ _ _ _ _ _ _ _ _ _ _ _ _ _ _ _ _ _ _ _ _ _ _ _ _ _ _ _ _ _ _ _ _ _ _ _ _ _ _ _ _ _ ar mr cr _ ((unhide HR).below (below_drewN (Below.refl _ _) _)) (unhide HLR) (below_drewN (unhide HB) _)

set_option maxRecDepth 100000 in
set_option maxHeartbeats 4000000 in
theorem turns_keep (n c0 j b0 o0 : Nat) (id yt yi : Int) (aw : Option Addr) (mw cw q : Nat) (ar : Option Addr) (mr cr : Nat) (WL RL : List (Int × Int)) (W0 Wt : World) (hj : j < n) (hq : q < mw) (hmw : mw ≤ 1000) (hmr : mr ≤ 1000) (hW : IsL KO W0 (.slice aw mw cw) WL) (hy : WL.getD q (0, 0) = (yt, yi)) (hid : yi ≠ id) (hm : W0.cell? ⟨b0, o0 + j, none⟩ = some (.int .i64 id)) (hb0 : b0 < W0.heap.size) (hB : Below W0.heap.size W0 Wt) (hR : Own KO W0.heap.size Wt (.slice ar mr cr) RL)
    {s1 s2 s3 s4 s5 s8 s9 s10 s13 s14 s15 s16 s17 s18 s19 s20 s21 s22 s23 s24 s25 s26 s27 s28 s29 s30 s31 s32 s33 s34 s35 s36 s37 s38 s39 s40 s41 s42 s43 s44 s45 s46 s47 s48 s49 s50 s51 s52 s53 s54 s55 s56 s57 s58 s59 s60 s61 s62 s63 s64 s65 s66 s67 s68 s69 s70 s71 s72 s73 s74 s75 s76 s77 s78 s79 s80 s81 s82 s83 s84 s85 s86 s87 s88 s89 s90 s91 s92 s93 s94 s95 s96 s97 s98 s99 s100 s101 s102 s103 s104 s105 s106 s107 s108 s109 s110 s111 s112 s113 s114 s115 s116 s117 s118 s119 s120 s121 s122 s123 s124 s125 s126 s127 s128 : Value} (N : Act → World → Prop) (R : Exit → Act → World → Prop) (b : Code) (hcut : (((Try.f7.body.bind (loopFor 0)).bind fun p => blockIn 1 p.1).bind fun p => loopFor 2 p.1).map Prod.fst = some b) (hN : NxU s1 s4 s5 s8 s9 s10 n c0 j b0 o0 q aw mw cw W0 (RL ++ [(yt, yi)]) N) :
    b.wp Try.prog (Exit.then N R) { tmps := (.slice (some ⟨b0, o0, none⟩) n c0 :: s1 :: s2 :: s3 :: s4 :: s5 :: .slice aw mw cw :: .int .i64 (j : Int) :: s8 :: s9 :: s10 :: .slice ar mr cr :: .int .i64 (q : Int) :: s13 :: s14 :: s15 :: s16 :: s17 :: s18 :: s19 :: s20 :: s21 :: s22 :: s23 :: s24 :: s25 :: s26 :: s27 :: s28 :: s29 :: s30 :: s31 :: s32 :: s33 :: s34 :: s35 :: s36 :: s37 :: s38 :: s39 :: s40 :: s41 :: s42 :: s43 :: s44 :: s45 :: s46 :: s47 :: s48 :: s49 :: s50 :: s51 :: s52 :: s53 :: s54 :: s55 :: s56 :: s57 :: s58 :: s59 :: s60 :: s61 :: s62 :: s63 :: s64 :: s65 :: s66 :: s67 :: s68 :: s69 :: s70 :: s71 :: s72 :: s73 :: s74 :: s75 :: s76 :: s77 :: s78 :: s79 :: s80 :: s81 :: s82 :: s83 :: s84 :: s85 :: s86 :: s87 :: s88 :: s89 :: s90 :: s91 :: s92 :: s93 :: s94 :: s95 :: s96 :: s97 :: s98 :: s99 :: s100 :: s101 :: s102 :: s103 :: s104 :: s105 :: s106 :: s107 :: s108 :: s109 :: s110 :: s111 :: s112 :: s113 :: s114 :: s115 :: s116 :: s117 :: s118 :: s119 :: s120 :: s121 :: s122 :: s123 :: s124 :: s125 :: s126 :: s127 :: s128 :: []).toArray, defers := [] } Wt := by
  have hcc : (((Try.f7.body.bind (loopFor 0)).bind fun p => blockIn 1 p.1).bind fun p => loopFor 2 p.1).map Prod.fst = some (.seq _ _) := rfl
  rw [hcc] at hcut
  cases hcut
  clear hcc
  have hlr := hR.isl.len
  obtain ⟨bw, ow, rfl, hbw, lw⟩ := hW.opens ko hW.len (by omega)
  obtain ⟨k0, k1⟩ := (lw.below hB hbw).off (j := q) (by rw [hW.len]; exact hq) hy
  have cm : Wt.cell? ⟨b0, o0 + j, none⟩ = some (.int .i64 id) := by rw [World.cell?_of_block (w := W0) (a := ⟨b0, o0 + j, none⟩) (hB.block b0 hb0)]; exact hm
  have i0 : (0 : Int) ≤ (j : Int) := by omega
  have i1 : (j : Int) < (n : Int) := by omega
  have i2 : (0 : Int) ≤ (q : Int) := by omega
  have i3 : (q : Int) < (mw : Int) := by omega
  have hwr : IntKind.i64.wrap ((q : Int) + 1) = (q : Int) + 1 := wrapi (by omega) (by omega)
  have HN := hide hN; have HB := hide hB; have HR := hide hR; have HLR := hide hlr
  clear hN hB hR hlr hW lw hbw hy hm hb0
  have xn : (yi != id) = true := by simpa using hid
  clear hid
  go_upto_region 20 with fail
  go_wp2_with fail
  go_quiet (fail)
  have hbq : Below W0.heap.size W0 (Wt.drewN nq) := below_drewN (unhide HB) _
  have hrq : Own KO W0.heap.size (Wt.drewN nq) (.slice ar mr cr) RL := (unhide HR).below (below_drewN (Below.refl _ _) _)
  have k0q : (Wt.drewN nq).cell? ⟨bw, ow + q * 2, none⟩ = some (.int .i64 yt) := k0
  have k1q : (Wt.drewN nq).cell? ⟨bw, ow + q * 2 + 1, none⟩ = some (.int .i64 yi) := k1
  clear k0 k1 cm
  obtain ⟨Wq, eWq⟩ : ∃ X, Wt.drewN nq = X := ⟨_, rfl⟩
  rw [eWq] at hbq hrq k0q k1q ⊢
  have HBQ := hide hbq; have HRQ := hide hrq
  clear eWq hbq hrq HB HR
  go_wp2_with (at_builtin; refine wpList_append ko rfl (.tmp 73) (.tmp 78) rfl W0.heap.size _ RL rfl ((unhide HRQ).below ((Below.refl _ _).alloc (Nat.le_refl _) (.cells #[.int .i64 yt, .int .i64 yi] 52))) _ [(yt, yi)] rfl (isl_one ko _ (yt, yi)) (mr + 1) (by rw [unhide HLR]; rfl) (show (mr + 1) * 16 ≤ _ by omega) (by have := (unhide HBQ).size; rw [World.size_alloc]; omega) ?_; intro ar2 cr2 W2 ho hg; have HO2 := hide ho; have HB2 := hide (((unhide HBQ).alloc (unhide HBQ).size (.cells #[.int .i64 yt, .int .i64 yi] 52)).grown hg ((unhide HBQ).alloc (unhide HBQ).size (.cells #[.int .i64 yt, .int .i64 yi] 52)).size (fun k hk => ((unhide HRQ).lt k hk).1)); clear ho hg k0q k1q)
  exact unhide HN _ _ _ _ _ _ _ _ _ _ _ _ _ _ _ _ _ _ _ _ _ _ _ _ _ _ _ _ _ _ _ _ _ _ _ _ _ _ _ _ _ _ _ _ _ _ _ _ _ _ _ _ _ _ _ _ _ _ _ _ _ _ _ _ _ _ _ _ _ _ _ _ _ _ _ _ _ _ _ _ _ _ _ _ _ _ _ _ _ _ _ _ _ _ _ _ _ _ _ _ _ _ _ _ _ _ _ _ _ _ _ _ _ _ _ _ _ _ ar2 (mr + 1) cr2 _ (unhide HO2) (by rw [List.length_append, unhide HLR]; rfl) (unhide HB2)

/-- What follows the inner loop. -/
def NxV (s1 s4 s5 s8 s9 s10 : Value) (n c0 j b0 o0 : Nat) (id : Int) (aw : Option Addr) (mw cw : Nat) (W0 : World) (WL : List (Int × Int)) (R : Exit → Act → World → Prop) : Prop := ∀ (s2 s3 s13 s14 s15 s16 s17 s18 s19 s20 s21 s22 s23 s24 s25 s26 s27 s28 s29 s30 s31 s32 s33 s34 s35 s36 s37 s38 s39 s40 s41 s42 s43 s44 s45 s46 s47 s48 s49 s50 s51 s52 s53 s54 s55 s56 s57 s58 s59 s60 s61 s62 s63 s64 s65 s66 s67 s68 s69 s70 s71 s72 s73 s74 s75 s76 s77 s78 s79 s80 s81 s82 s83 s84 s85 s86 s87 s88 s89 s90 s91 s92 s93 s94 s95 s96 s97 s98 s99 s100 s101 s102 s103 s104 s105 s106 s107 s108 s109 s110 s111 s112 s113 s114 s115 s116 s117 s118 s119 s120 s121 s122 s123 s124 s125 s126 s127 s128 : Value) (ar' : Option Addr) (mr' cr' : Nat) (W' : World), Own KO W0.heap.size W' (.slice ar' mr' cr') (WL.filter (fun p => !(p.2 == id))) → (WL.filter (fun p => !(p.2 == id))).length = mr' → Below W0.heap.size W0 W' → R (.exit 2) { tmps := (.slice (some ⟨b0, o0, none⟩) n c0 :: s1 :: s2 :: s3 :: s4 :: s5 :: .slice aw mw cw :: .int .i64 (j : Int) :: s8 :: s9 :: s10 :: (.slice ar' mr' cr') :: .int .i64 (mw : Int) :: s13 :: s14 :: s15 :: s16 :: s17 :: s18 :: s19 :: s20 :: s21 :: s22 :: s23 :: s24 :: s25 :: s26 :: s27 :: s28 :: s29 :: s30 :: s31 :: s32 :: s33 :: s34 :: s35 :: s36 :: s37 :: s38 :: s39 :: s40 :: s41 :: s42 :: s43 :: s44 :: s45 :: s46 :: s47 :: s48 :: s49 :: s50 :: s51 :: s52 :: s53 :: s54 :: s55 :: s56 :: s57 :: s58 :: s59 :: s60 :: s61 :: s62 :: s63 :: s64 :: s65 :: s66 :: s67 :: s68 :: s69 :: s70 :: s71 :: s72 :: s73 :: s74 :: s75 :: s76 :: s77 :: s78 :: s79 :: s80 :: s81 :: s82 :: s83 :: s84 :: s85 :: s86 :: s87 :: s88 :: s89 :: s90 :: s91 :: s92 :: s93 :: s94 :: s95 :: s96 :: s97 :: s98 :: s99 :: s100 :: s101 :: s102 :: s103 :: s104 :: s105 :: s106 :: s107 :: s108 :: s109 :: s110 :: s111 :: s112 :: s113 :: s114 :: s115 :: s116 :: s117 :: s118 :: s119 :: s120 :: s121 :: s122 :: s123 :: s124 :: s125 :: s126 :: s127 :: s128 :: []).toArray, defers := [] } W'

set_option maxRecDepth 100000 in
set_option maxHeartbeats 4000000 in
theorem turns_end (n c0 j b0 o0 : Nat) (id : Int) (aw : Option Addr) (mw cw : Nat) (ar : Option Addr) (mr cr : Nat) (WL : List (Int × Int)) (W0 Wt : World) (hB : Below W0.heap.size W0 Wt) (hR : Own KO W0.heap.size Wt (.slice ar mr cr) (WL.filter (fun p => !(p.2 == id))))
    {s1 s2 s3 s4 s5 s8 s9 s10 s13 s14 s15 s16 s17 s18 s19 s20 s21 s22 s23 s24 s25 s26 s27 s28 s29 s30 s31 s32 s33 s34 s35 s36 s37 s38 s39 s40 s41 s42 s43 s44 s45 s46 s47 s48 s49 s50 s51 s52 s53 s54 s55 s56 s57 s58 s59 s60 s61 s62 s63 s64 s65 s66 s67 s68 s69 s70 s71 s72 s73 s74 s75 s76 s77 s78 s79 s80 s81 s82 s83 s84 s85 s86 s87 s88 s89 s90 s91 s92 s93 s94 s95 s96 s97 s98 s99 s100 s101 s102 s103 s104 s105 s106 s107 s108 s109 s110 s111 s112 s113 s114 s115 s116 s117 s118 s119 s120 s121 s122 s123 s124 s125 s126 s127 s128 : Value} (N : Act → World → Prop) (R : Exit → Act → World → Prop) (b : Code) (hcut : (((Try.f7.body.bind (loopFor 0)).bind fun p => blockIn 1 p.1).bind fun p => loopFor 2 p.1).map Prod.fst = some b) (hE : NxV s1 s4 s5 s8 s9 s10 n c0 j b0 o0 id aw mw cw W0 WL R) :
    b.wp Try.prog (Exit.then N R) { tmps := (.slice (some ⟨b0, o0, none⟩) n c0 :: s1 :: s2 :: s3 :: s4 :: s5 :: .slice aw mw cw :: .int .i64 (j : Int) :: s8 :: s9 :: s10 :: .slice ar mr cr :: .int .i64 (mw : Int) :: s13 :: s14 :: s15 :: s16 :: s17 :: s18 :: s19 :: s20 :: s21 :: s22 :: s23 :: s24 :: s25 :: s26 :: s27 :: s28 :: s29 :: s30 :: s31 :: s32 :: s33 :: s34 :: s35 :: s36 :: s37 :: s38 :: s39 :: s40 :: s41 :: s42 :: s43 :: s44 :: s45 :: s46 :: s47 :: s48 :: s49 :: s50 :: s51 :: s52 :: s53 :: s54 :: s55 :: s56 :: s57 :: s58 :: s59 :: s60 :: s61 :: s62 :: s63 :: s64 :: s65 :: s66 :: s67 :: s68 :: s69 :: s70 :: s71 :: s72 :: s73 :: s74 :: s75 :: s76 :: s77 :: s78 :: s79 :: s80 :: s81 :: s82 :: s83 :: s84 :: s85 :: s86 :: s87 :: s88 :: s89 :: s90 :: s91 :: s92 :: s93 :: s94 :: s95 :: s96 :: s97 :: s98 :: s99 :: s100 :: s101 :: s102 :: s103 :: s104 :: s105 :: s106 :: s107 :: s108 :: s109 :: s110 :: s111 :: s112 :: s113 :: s114 :: s115 :: s116 :: s117 :: s118 :: s119 :: s120 :: s121 :: s122 :: s123 :: s124 :: s125 :: s126 :: s127 :: s128 :: []).toArray, defers := [] } Wt := by
  have hcc : (((Try.f7.body.bind (loopFor 0)).bind fun p => blockIn 1 p.1).bind fun p => loopFor 2 p.1).map Prod.fst = some (.seq _ _) := rfl
  rw [hcc] at hcut
  cases hcut
  clear hcc
  have hl := hR.isl.len
  have HE := hide hE; have HB := hide hB; have HR := hide hR; have HL := hide hl
  clear hE hB hR hl
  have i1 : ¬ (mw : Int) < (mw : Int) := by omega
  go_wp2_with fail
  exact unhide HE _ _ _ _ _ _ _ _ _ _ _ _ _ _ _ _ _ _ _ _ _ _ _ _ _ _ _ _ _ _ _ _ _ _ _ _ _ _ _ _ _ _ _ _ _ _ _ _ _ _ _ _ _ _ _ _ _ _ _ _ _ _ _ _ _ _ _ _ _ _ _ _ _ _ _ _ _ _ _ _ _ _ _ _ _ _ _ _ _ _ _ _ _ _ _ _ _ _ _ _ _ _ _ _ _ _ _ _ _ _ _ _ _ _ _ _ _ _ ar mr cr _ (unhide HR) (unhide HL) (unhide HB)

theorem take_step {α : Type} (d : α) (p : α → Bool) : ∀ (l : List α) (q : Nat), q < l.length → (l.take (q + 1)).filter p = (l.take q).filter p ++ (if p (l.getD q d) then [l.getD q d] else [])
  | [], q, h => by simp at h
  | x :: l, 0, _ => by
    by_cases hp : p x = true
    · simp [hp]
    · simp [hp]
  | x :: l, q + 1, h => by
    have ih := take_step d p l q (by simpa using h)
    have e1 : (x :: l).getD (q + 1) d = l.getD q d := by simp
    rw [e1, List.take_succ_cons, List.take_succ_cons, List.filter_cons, List.filter_cons, ih]
    split <;> simp

theorem turns_rounds (n c0 j b0 o0 : Nat) (id : Int) (aw : Option Addr) (mw cw : Nat) (WL : List (Int × Int)) (W0 : World) (hj : j < n) (hmw : mw ≤ 1000) (hW : IsL KO W0 (.slice aw mw cw) WL) (hm : W0.cell? ⟨b0, o0 + j, none⟩ = some (.int .i64 id)) (hb0 : b0 < W0.heap.size) (s1 s4 s5 s8 s9 s10 : Value) (R : Exit → Act → World → Prop) (b : Code) (hcut : (((Try.f7.body.bind (loopFor 0)).bind fun p => blockIn 1 p.1).bind fun p => loopFor 2 p.1).map Prod.fst = some b) (hE : NxV s1 s4 s5 s8 s9 s10 n c0 j b0 o0 id aw mw cw W0 WL R) : ∀ (k q : Nat), q + k = mw → ∀ (s2 s3 s13 s14 s15 s16 s17 s18 s19 s20 s21 s22 s23 s24 s25 s26 s27 s28 s29 s30 s31 s32 s33 s34 s35 s36 s37 s38 s39 s40 s41 s42 s43 s44 s45 s46 s47 s48 s49 s50 s51 s52 s53 s54 s55 s56 s57 s58 s59 s60 s61 s62 s63 s64 s65 s66 s67 s68 s69 s70 s71 s72 s73 s74 s75 s76 s77 s78 s79 s80 s81 s82 s83 s84 s85 s86 s87 s88 s89 s90 s91 s92 s93 s94 s95 s96 s97 s98 s99 s100 s101 s102 s103 s104 s105 s106 s107 s108 s109 s110 s111 s112 s113 s114 s115 s116 s117 s118 s119 s120 s121 s122 s123 s124 s125 s126 s127 s128 : Value) (ar : Option Addr) (mr cr : Nat) (Wt : World), Own KO W0.heap.size Wt (.slice ar mr cr) ((WL.take q).filter (fun p => !(p.2 == id))) → Below W0.heap.size W0 Wt →
    Code.rounds Try.prog b R (k + 1) { tmps := (.slice (some ⟨b0, o0, none⟩) n c0 :: s1 :: s2 :: s3 :: s4 :: s5 :: .slice aw mw cw :: .int .i64 (j : Int) :: s8 :: s9 :: s10 :: .slice ar mr cr :: .int .i64 (q : Int) :: s13 :: s14 :: s15 :: s16 :: s17 :: s18 :: s19 :: s20 :: s21 :: s22 :: s23 :: s24 :: s25 :: s26 :: s27 :: s28 :: s29 :: s30 :: s31 :: s32 :: s33 :: s34 :: s35 :: s36 :: s37 :: s38 :: s39 :: s40 :: s41 :: s42 :: s43 :: s44 :: s45 :: s46 :: s47 :: s48 :: s49 :: s50 :: s51 :: s52 :: s53 :: s54 :: s55 :: s56 :: s57 :: s58 :: s59 :: s60 :: s61 :: s62 :: s63 :: s64 :: s65 :: s66 :: s67 :: s68 :: s69 :: s70 :: s71 :: s72 :: s73 :: s74 :: s75 :: s76 :: s77 :: s78 :: s79 :: s80 :: s81 :: s82 :: s83 :: s84 :: s85 :: s86 :: s87 :: s88 :: s89 :: s90 :: s91 :: s92 :: s93 :: s94 :: s95 :: s96 :: s97 :: s98 :: s99 :: s100 :: s101 :: s102 :: s103 :: s104 :: s105 :: s106 :: s107 :: s108 :: s109 :: s110 :: s111 :: s112 :: s113 :: s114 :: s115 :: s116 :: s117 :: s118 :: s119 :: s120 :: s121 :: s122 :: s123 :: s124 :: s125 :: s126 :: s127 :: s128 :: []).toArray, defers := [] } Wt := by
  intro k
  induction k with
  | zero =>
    intro q hq
    obtain rfl : q = mw := by omega
    intros
    rename_i ar mr cr Wt hR hB
    have e : WL.take q = WL := List.take_of_length_le (by rw [hW.len]; exact Nat.le_refl _)
    rw [e] at hR
    exact turns_end n c0 j b0 o0 id aw q cw ar mr cr WL W0 Wt hB hR _ R b hcut hE
  | succ k ih =>
    intro q hq
    intros
    rename_i ar mr cr Wt hR hB
    have hwl : WL.length = mw := hW.len
    have hmr : mr ≤ 1000 := by
      rw [← hR.isl.len]
      have h1 := List.length_filter_le (fun p : Int × Int => !(p.2 == id)) (WL.take q)
      have h2 := List.length_take_le q WL
      omega
    obtain ⟨⟨yt, yi⟩, hy⟩ : ∃ y, WL.getD q (0, 0) = y := ⟨_, rfl⟩
    have hs := take_step (0, 0) (fun p : Int × Int => !(p.2 == id)) WL q (by omega)
    rw [hy] at hs
    by_cases hid : yi = id
    · refine turns_skip n c0 j b0 o0 id yt yi aw mw cw q ar mr cr WL _ W0 Wt hj (by omega) hmw hmr hW hy hid hm hb0 hB hR _ R b hcut ?_
      rw [if_neg (by simp [hid]), List.append_nil] at hs
      rw [← hs]
      unfold NxU
      intros
      rename_i ar' mr' cr' W' hR' hl' hB'
      exact ih (q + 1) (by omega) _ _ _ _ _ _ _ _ _ _ _ _ _ _ _ _ _ _ _ _ _ _ _ _ _ _ _ _ _ _ _ _ _ _ _ _ _ _ _ _ _ _ _ _ _ _ _ _ _ _ _ _ _ _ _ _ _ _ _ _ _ _ _ _ _ _ _ _ _ _ _ _ _ _ _ _ _ _ _ _ _ _ _ _ _ _ _ _ _ _ _ _ _ _ _ _ _ _ _ _ _ _ _ _ _ _ _ _ _ _ _ _ _ _ _ _ _ _ ar' mr' cr' W' hR' hB'
    · refine turns_keep n c0 j b0 o0 id yt yi aw mw cw q ar mr cr WL _ W0 Wt hj (by omega) hmw hmr hW hy hid hm hb0 hB hR _ R b hcut ?_
      rw [if_pos (by simp [hid])] at hs
      rw [← hs]
      unfold NxU
      intros
      rename_i ar' mr' cr' W' hR' hl' hB'
      exact ih (q + 1) (by omega) _ _ _ _ _ _ _ _ _ _ _ _ _ _ _ _ _ _ _ _ _ _ _ _ _ _ _ _ _ _ _ _ _ _ _ _ _ _ _ _ _ _ _ _ _ _ _ _ _ _ _ _ _ _ _ _ _ _ _ _ _ _ _ _ _ _ _ _ _ _ _ _ _ _ _ _ _ _ _ _ _ _ _ _ _ _ _ _ _ _ _ _ _ _ _ _ _ _ _ _ _ _ _ _ _ _ _ _ _ _ _ _ _ _ _ _ _ _ ar' mr' cr' W' hR' hB'

end Go.Proofs.Ytidpmcanfedbdaa
