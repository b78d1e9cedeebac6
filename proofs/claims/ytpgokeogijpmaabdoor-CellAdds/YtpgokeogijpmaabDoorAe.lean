/-
  taskmilllaw.CellAdds: its tasks are made.
-/
import Derived.Test.YtpgokeogijpmaabDoorAd
namespace Go.Proofs.YtpgokeogijpmaabDoor.Mx
open Go.RowKit

def NxRet (w : World) (Q0 : Exit → Act → World → Prop) : Prop := ∀ (s0 s1 s2 s3 s4 s5 s7 s8 s9 s10 s11 s12 s13 s14 s15 s16 s17 s18 s19 s20 s21 s22 s23 s24 s25 s26 s27 s28 s29 s30 s31 s32 s33 s34 s35 s36 s37 s38 s39 s40 s41 s42 s43 s44 s45 s46 s47 s48 s49 s50 s51 s52 s53 s54 s55 s56 s57 s58 s59 s60 s61 s62 s63 s64 s65 s66 s67 s68 s69 s70 s71 s72 s73 s74 s75 s76 s77 s78 s79 s80 s81 s82 s83 s84 s85 s86 s87 s88 s89 s90 s91 s92 s93 s94 s95 s96 s97 s98 s99 s100 s101 s102 s103 s104 s105 s106 s107 s108 s109 s110 s111 s112 s113 s114 s115 s116 s117 s118 s119 s120 s121 s122 s123 s124 s125 s126 s127 s128 s129 s130 s131 s132 s133 s134 s135 s136 s137 s138 : Value) (W' : World), Below w.heap.size w W' → Q0 .ret { tmps := (s0 :: s1 :: s2 :: s3 :: s4 :: s5 :: .bool true :: s7 :: s8 :: s9 :: s10 :: s11 :: s12 :: s13 :: s14 :: s15 :: s16 :: s17 :: s18 :: s19 :: s20 :: s21 :: s22 :: s23 :: s24 :: s25 :: s26 :: s27 :: s28 :: s29 :: s30 :: s31 :: s32 :: s33 :: s34 :: s35 :: s36 :: s37 :: s38 :: s39 :: s40 :: s41 :: s42 :: s43 :: s44 :: s45 :: s46 :: s47 :: s48 :: s49 :: s50 :: s51 :: s52 :: s53 :: s54 :: s55 :: s56 :: s57 :: s58 :: s59 :: s60 :: s61 :: s62 :: s63 :: s64 :: s65 :: s66 :: s67 :: s68 :: s69 :: s70 :: s71 :: s72 :: s73 :: s74 :: s75 :: s76 :: s77 :: s78 :: s79 :: s80 :: s81 :: s82 :: s83 :: s84 :: s85 :: s86 :: s87 :: s88 :: s89 :: s90 :: s91 :: s92 :: s93 :: s94 :: s95 :: s96 :: s97 :: s98 :: s99 :: s100 :: s101 :: s102 :: s103 :: s104 :: s105 :: s106 :: s107 :: s108 :: s109 :: s110 :: s111 :: s112 :: s113 :: s114 :: s115 :: s116 :: s117 :: s118 :: s119 :: s120 :: s121 :: s122 :: s123 :: s124 :: s125 :: s126 :: s127 :: s128 :: s129 :: s130 :: s131 :: s132 :: s133 :: s134 :: s135 :: s136 :: s137 :: s138 :: []).toArray, defers := [] } W'
def NxI (w : World) (a0 : Option Addr) (m c0 : Nat) (a1 : Option Addr) (n c1 : Nat) (ap : Option Addr) (p cp g c9 : Nat) (ass : List (List Int)) (zs : List Int) (i : Nat) (N : Act → World → Prop) : Prop := ∀ (s3 s4 s5 s6 s11 s12 s13 s14 s15 s16 s17 s18 s19 s20 s21 s22 s23 s24 s25 s26 s27 s28 s29 s30 s31 s32 s33 s34 s35 s36 s37 s38 s39 s40 s41 s42 s43 s44 s45 s46 s47 s48 s49 s50 s51 s52 s53 s54 s55 s56 s57 s58 s59 s60 s61 s62 s63 s64 s65 s66 s67 s68 s69 s70 s71 s72 s73 s74 s75 s76 s77 s78 s79 s80 s81 s82 s83 s84 s85 s86 s87 s88 s89 s90 s91 s92 s93 s94 s95 s96 s97 s98 s99 s100 s101 s102 s103 s104 s105 s106 s107 s108 s109 s110 s111 s112 s113 s114 s115 s116 s117 s118 s119 s120 s121 s122 s123 s124 s125 s126 s127 s128 s129 s130 s131 s132 s133 s134 s135 s136 s137 s138 : Value) (v7 : Value) (us : List Sl) (v8 : Value) (W' : World), Ad w W' m (i + 1) ass v7 us v8 (ordL ass (i + 1)) g c9 (ranMem zs (allT m ass (i + 1))) → N { tmps := (.slice a0 m c0 :: .slice a1 n c1 :: .slice ap p cp :: s3 :: s4 :: s5 :: s6 :: v7 :: v8 :: .slice (some ⟨g, 0, none⟩) m c9 :: .int .i64 ((i : Int) + 1) :: s11 :: s12 :: s13 :: s14 :: s15 :: s16 :: s17 :: s18 :: s19 :: s20 :: s21 :: s22 :: s23 :: s24 :: s25 :: s26 :: s27 :: s28 :: s29 :: s30 :: s31 :: s32 :: s33 :: s34 :: s35 :: s36 :: s37 :: s38 :: s39 :: s40 :: s41 :: s42 :: s43 :: s44 :: s45 :: s46 :: s47 :: s48 :: s49 :: s50 :: s51 :: s52 :: s53 :: s54 :: s55 :: s56 :: s57 :: s58 :: s59 :: s60 :: s61 :: s62 :: s63 :: s64 :: s65 :: s66 :: s67 :: s68 :: s69 :: s70 :: s71 :: s72 :: s73 :: s74 :: s75 :: s76 :: s77 :: s78 :: s79 :: s80 :: s81 :: s82 :: s83 :: s84 :: s85 :: s86 :: s87 :: s88 :: s89 :: s90 :: s91 :: s92 :: s93 :: s94 :: s95 :: s96 :: s97 :: s98 :: s99 :: s100 :: s101 :: s102 :: s103 :: s104 :: s105 :: s106 :: s107 :: s108 :: s109 :: s110 :: s111 :: s112 :: s113 :: s114 :: s115 :: s116 :: s117 :: s118 :: s119 :: s120 :: s121 :: s122 :: s123 :: s124 :: s125 :: s126 :: s127 :: s128 :: s129 :: s130 :: s131 :: s132 :: s133 :: s134 :: s135 :: s136 :: s137 :: s138 :: []).toArray, defers := [] } W'
def NxIE (w : World) (a0 : Option Addr) (m c0 : Nat) (a1 : Option Addr) (n c1 : Nat) (ap : Option Addr) (p cp g c9 : Nat) (ass : List (List Int)) (zs : List Int) (Q0 : Exit → Act → World → Prop) : Prop := ∀ (s3 s4 s5 s6 s11 s12 s13 s14 s15 s16 s17 s18 s19 s20 s21 s22 s23 s24 s25 s26 s27 s28 s29 s30 s31 s32 s33 s34 s35 s36 s37 s38 s39 s40 s41 s42 s43 s44 s45 s46 s47 s48 s49 s50 s51 s52 s53 s54 s55 s56 s57 s58 s59 s60 s61 s62 s63 s64 s65 s66 s67 s68 s69 s70 s71 s72 s73 s74 s75 s76 s77 s78 s79 s80 s81 s82 s83 s84 s85 s86 s87 s88 s89 s90 s91 s92 s93 s94 s95 s96 s97 s98 s99 s100 s101 s102 s103 s104 s105 s106 s107 s108 s109 s110 s111 s112 s113 s114 s115 s116 s117 s118 s119 s120 s121 s122 s123 s124 s125 s126 s127 s128 s129 s130 s131 s132 s133 s134 s135 s136 s137 s138 : Value) (v7 : Value) (us : List Sl) (v8 : Value) (W' : World), Ad w W' m (n) ass v7 us v8 (ordL ass (n)) g c9 (ranMem zs (allT m ass (n))) → Q0 (.exit 0) { tmps := (.slice a0 m c0 :: .slice a1 n c1 :: .slice ap p cp :: s3 :: s4 :: s5 :: s6 :: v7 :: v8 :: .slice (some ⟨g, 0, none⟩) m c9 :: .int .i64 (n : Int) :: s11 :: s12 :: s13 :: s14 :: s15 :: s16 :: s17 :: s18 :: s19 :: s20 :: s21 :: s22 :: s23 :: s24 :: s25 :: s26 :: s27 :: s28 :: s29 :: s30 :: s31 :: s32 :: s33 :: s34 :: s35 :: s36 :: s37 :: s38 :: s39 :: s40 :: s41 :: s42 :: s43 :: s44 :: s45 :: s46 :: s47 :: s48 :: s49 :: s50 :: s51 :: s52 :: s53 :: s54 :: s55 :: s56 :: s57 :: s58 :: s59 :: s60 :: s61 :: s62 :: s63 :: s64 :: s65 :: s66 :: s67 :: s68 :: s69 :: s70 :: s71 :: s72 :: s73 :: s74 :: s75 :: s76 :: s77 :: s78 :: s79 :: s80 :: s81 :: s82 :: s83 :: s84 :: s85 :: s86 :: s87 :: s88 :: s89 :: s90 :: s91 :: s92 :: s93 :: s94 :: s95 :: s96 :: s97 :: s98 :: s99 :: s100 :: s101 :: s102 :: s103 :: s104 :: s105 :: s106 :: s107 :: s108 :: s109 :: s110 :: s111 :: s112 :: s113 :: s114 :: s115 :: s116 :: s117 :: s118 :: s119 :: s120 :: s121 :: s122 :: s123 :: s124 :: s125 :: s126 :: s127 :: s128 :: s129 :: s130 :: s131 :: s132 :: s133 :: s134 :: s135 :: s136 :: s137 :: s138 :: []).toArray, defers := [] } W'
set_option maxRecDepth 100000 in
set_option maxHeartbeats 4000000 in
theorem i_go (w : World) (a0 : Option Addr) (m c0 : Nat) (a1 : Option Addr) (n c1 : Nat) (ap : Option Addr) (p cp g c9 : Nat) (uas us : List Sl) (ass : List (List Int)) (zs : List Int) (i : Nat) (v7 v8 : Value) (hm : 0 < m) (hm2 : m ≤ 32) (hn : n ≤ 20) (hQ : IsAs w (.slice a1 n c1) uas ass) (hi : i < n) (hall : ∀ j, j < i + 1 → (ass.getD j []).length ≤ 20) (Wt : World) (hA : Ad w Wt m (i) ass v7 us v8 (ordL ass (i)) g c9 (ranMem zs (allT m ass (i))))
    {s3 s4 s5 s6 s11 s12 s13 s14 s15 s16 s17 s18 s19 s20 s21 s22 s23 s24 s25 s26 s27 s28 s29 s30 s31 s32 s33 s34 s35 s36 s37 s38 s39 s40 s41 s42 s43 s44 s45 s46 s47 s48 s49 s50 s51 s52 s53 s54 s55 s56 s57 s58 s59 s60 s61 s62 s63 s64 s65 s66 s67 s68 s69 s70 s71 s72 s73 s74 s75 s76 s77 s78 s79 s80 s81 s82 s83 s84 s85 s86 s87 s88 s89 s90 s91 s92 s93 s94 s95 s96 s97 s98 s99 s100 s101 s102 s103 s104 s105 s106 s107 s108 s109 s110 s111 s112 s113 s114 s115 s116 s117 s118 s119 s120 s121 s122 s123 s124 s125 s126 s127 s128 s129 s130 s131 s132 s133 s134 s135 s136 s137 s138 : Value} (N : Act → World → Prop) (Q0 : Exit → Act → World → Prop) (b r : Code) (hcut : (Tryd.f3.body.bind (loopFor 0)) = some (b, r)) (hN : NxI w a0 m c0 a1 n c1 ap p cp g c9 ass zs i N) :
    b.wp Tryd.prog (Exit.then N Q0) { tmps := (.slice a0 m c0 :: .slice a1 n c1 :: .slice ap p cp :: s3 :: s4 :: s5 :: s6 :: v7 :: v8 :: .slice (some ⟨g, 0, none⟩) m c9 :: .int .i64 (i : Int) :: s11 :: s12 :: s13 :: s14 :: s15 :: s16 :: s17 :: s18 :: s19 :: s20 :: s21 :: s22 :: s23 :: s24 :: s25 :: s26 :: s27 :: s28 :: s29 :: s30 :: s31 :: s32 :: s33 :: s34 :: s35 :: s36 :: s37 :: s38 :: s39 :: s40 :: s41 :: s42 :: s43 :: s44 :: s45 :: s46 :: s47 :: s48 :: s49 :: s50 :: s51 :: s52 :: s53 :: s54 :: s55 :: s56 :: s57 :: s58 :: s59 :: s60 :: s61 :: s62 :: s63 :: s64 :: s65 :: s66 :: s67 :: s68 :: s69 :: s70 :: s71 :: s72 :: s73 :: s74 :: s75 :: s76 :: s77 :: s78 :: s79 :: s80 :: s81 :: s82 :: s83 :: s84 :: s85 :: s86 :: s87 :: s88 :: s89 :: s90 :: s91 :: s92 :: s93 :: s94 :: s95 :: s96 :: s97 :: s98 :: s99 :: s100 :: s101 :: s102 :: s103 :: s104 :: s105 :: s106 :: s107 :: s108 :: s109 :: s110 :: s111 :: s112 :: s113 :: s114 :: s115 :: s116 :: s117 :: s118 :: s119 :: s120 :: s121 :: s122 :: s123 :: s124 :: s125 :: s126 :: s127 :: s128 :: s129 :: s130 :: s131 :: s132 :: s133 :: s134 :: s135 :: s136 :: s137 :: s138 :: []).toArray, defers := [] } Wt := by
  have hcc : (Tryd.f3.body.bind (loopFor 0)) = some (_, _) := rfl
  rw [hcc] at hcut
  cases hcut
  clear hcc
  obtain ⟨b1, o1, ua, un, uc, ea1, hun, hc1, -⟩ := hQ.at hi
  subst ea1
  have hlo := ordL_len (ass := ass) i fun j hj => hall j (by omega)
  have hli := hall i (by omega)
  have d1 := hc1 Wt hA.be
  have i0 : (0 : Int) ≤ (i : Int) := by omega
  have i1 : (i : Int) < (n : Int) := by omega
  have x1 : ¬ (20 : Int) < (un : Int) := by omega
  have hwr : IntKind.i64.wrap ((i : Int) + 1) = (i : Int) + 1 := wrapi (by omega) (by omega)
  obtain ⟨a7, c7, e7⟩ := hA.ts.form
  rw [hA.lu] at e7
  subst e7
  obtain ⟨a8, c8, e8⟩ := hA.or.form
  subst e8
  obtain ⟨z, ez⟩ : ∃ z, (ordL ass i).length = z := ⟨_, rfl⟩
  rw [ez] at hA hlo ⊢
  have HN := hide hN; have HA := hide hA; have HQ := hide hQ; have HZ := hide ez; have HU := hide hun.symm
  have hz4 : z + un ≤ 400 := by omega
  have hu2 : un ≤ 20 := by omega
  clear hN hA hQ hc1 hun hall hlo hli ez
  go_wp2_with fail
  refine k_loop w a0 m c0 (some ⟨b1, o1, none⟩) n c1 ap p cp (.slice a7 i c7) g c9 i uas us ass z un (unhide HU) (ordL ass i) (ranMem zs (allT m ass i)) hm hm2 hi hn hz4 hu2 (unhide HZ) (unhide HQ) a8 c8 Wt (unhide HA) _ _ _ _ (by assumption) (by kernel_rfl) ?_
  clear d1 HA
  intros
  rename_i a8' c8' a11 c11 W2 hA2
  have HO1 := hide (hA2.ad.ts.below ((Below.refl _ _).alloc (Nat.le_refl _) (.cells #[.slice a11 un c11] 27)))
  have HS1 := hide (hA2.size (.cells #[.slice a11 un c11] 27))
  have HL1 : Hid (us.length + [((a11, un, c11) : Sl)].length = i + 1) := by show _ = _; rw [hA2.ad.lu]; rfl
  have HA2 := hide hA2
  clear hA2
  go_wp2_with (at_builtin; refine wpList_append2 kq rfl (.tmp 96) (.tmp 98) rfl w.heap.size (.slice a7 i c7) us rfl (unhide HO1) _ [(a11, un, c11)] rfl (isl_one kq W2 (a11, un, c11)) (i + 1) (unhide HL1) (by show (i + 1) * 24 ≤ 140737488355328; omega) (unhide HS1) ?_; intro a9 c9' w9 ho9 hg9 hl9; have hA3 := unhide HA2; rw [← unhide HU] at hA3; have h9 := Ak.grewT hA3 _ hg9 (by rw [unhide HU]; exact ho9); rw [unhide HU] at h9; have HA9 := hide h9; clear ho9 hg9 hl9 hA3 h9)
  refine unhide HN _ _ _ _ _ _ _ _ _ _ _ _ _ _ _ _ _ _ _ _ _ _ _ _ _ _ _ _ _ _ _ _ _ _ _ _ _ _ _ _ _ _ _ _ _ _ _ _ _ _ _ _ _ _ _ _ _ _ _ _ _ _ _ _ _ _ _ _ _ _ _ _ _ _ _ _ _ _ _ _ _ _ _ _ _ _ _ _ _ _ _ _ _ _ _ _ _ _ _ _ _ _ _ _ _ _ _ _ _ _ _ _ _ _ _ _ _ _ _ _ _ _ _ _ _ _ _ _ _ _ _ _ (.slice a9 (i + 1) c9') (us ++ [(a11, un, c11)]) (.slice a8' (z + un) c8') w9 ?_
  have h9 := unhide HA9
  have eT : addT m ass i = addsUp m (ass.getD i []) un := by unfold addT; rw [unhide HU]
  rw [ordL_succ, allT_succ, ranMem_append, eT, unhide HU]
  exact h9
set_option maxRecDepth 100000 in
set_option maxHeartbeats 4000000 in
theorem i_ret (w : World) (a0 : Option Addr) (m c0 : Nat) (a1 : Option Addr) (n c1 : Nat) (ap : Option Addr) (p cp g c9 : Nat) (uas : List Sl) (ass : List (List Int)) (i : Nat) (v7 v8 : Value) (_hn : n ≤ 20) (hQ : IsAs w (.slice a1 n c1) uas ass) (hi : i < n) (hbig : 20 < (ass.getD i []).length) (Wt : World) (hX : Below w.heap.size w Wt)
    {s3 s4 s5 s6 s11 s12 s13 s14 s15 s16 s17 s18 s19 s20 s21 s22 s23 s24 s25 s26 s27 s28 s29 s30 s31 s32 s33 s34 s35 s36 s37 s38 s39 s40 s41 s42 s43 s44 s45 s46 s47 s48 s49 s50 s51 s52 s53 s54 s55 s56 s57 s58 s59 s60 s61 s62 s63 s64 s65 s66 s67 s68 s69 s70 s71 s72 s73 s74 s75 s76 s77 s78 s79 s80 s81 s82 s83 s84 s85 s86 s87 s88 s89 s90 s91 s92 s93 s94 s95 s96 s97 s98 s99 s100 s101 s102 s103 s104 s105 s106 s107 s108 s109 s110 s111 s112 s113 s114 s115 s116 s117 s118 s119 s120 s121 s122 s123 s124 s125 s126 s127 s128 s129 s130 s131 s132 s133 s134 s135 s136 s137 s138 : Value} (N : Act → World → Prop) (Q0 : Exit → Act → World → Prop) (b r : Code) (hcut : (Tryd.f3.body.bind (loopFor 0)) = some (b, r)) (hR : NxRet w Q0) :
    b.wp Tryd.prog (Exit.then N Q0) { tmps := (.slice a0 m c0 :: .slice a1 n c1 :: .slice ap p cp :: s3 :: s4 :: s5 :: s6 :: v7 :: v8 :: .slice (some ⟨g, 0, none⟩) m c9 :: .int .i64 (i : Int) :: s11 :: s12 :: s13 :: s14 :: s15 :: s16 :: s17 :: s18 :: s19 :: s20 :: s21 :: s22 :: s23 :: s24 :: s25 :: s26 :: s27 :: s28 :: s29 :: s30 :: s31 :: s32 :: s33 :: s34 :: s35 :: s36 :: s37 :: s38 :: s39 :: s40 :: s41 :: s42 :: s43 :: s44 :: s45 :: s46 :: s47 :: s48 :: s49 :: s50 :: s51 :: s52 :: s53 :: s54 :: s55 :: s56 :: s57 :: s58 :: s59 :: s60 :: s61 :: s62 :: s63 :: s64 :: s65 :: s66 :: s67 :: s68 :: s69 :: s70 :: s71 :: s72 :: s73 :: s74 :: s75 :: s76 :: s77 :: s78 :: s79 :: s80 :: s81 :: s82 :: s83 :: s84 :: s85 :: s86 :: s87 :: s88 :: s89 :: s90 :: s91 :: s92 :: s93 :: s94 :: s95 :: s96 :: s97 :: s98 :: s99 :: s100 :: s101 :: s102 :: s103 :: s104 :: s105 :: s106 :: s107 :: s108 :: s109 :: s110 :: s111 :: s112 :: s113 :: s114 :: s115 :: s116 :: s117 :: s118 :: s119 :: s120 :: s121 :: s122 :: s123 :: s124 :: s125 :: s126 :: s127 :: s128 :: s129 :: s130 :: s131 :: s132 :: s133 :: s134 :: s135 :: s136 :: s137 :: s138 :: []).toArray, defers := [] } Wt := by
  have hcc : (Tryd.f3.body.bind (loopFor 0)) = some (_, _) := rfl
  rw [hcc] at hcut
  cases hcut
  clear hcc
  obtain ⟨b1, o1, ua, un, uc, rfl, hun, hc1, -⟩ := hQ.at hi
  have d1 := hc1 Wt hX
  have i0 : (0 : Int) ≤ (i : Int) := by omega
  have i1 : (i : Int) < (n : Int) := by omega
  have x1 : (20 : Int) < (un : Int) := by omega
  have HR := hide hR; have HX := hide hX
  clear hR hX hQ hc1 hun hbig
  go_wp2_with fail
  exact unhide HR _ _ _ _ _ _ _ _ _ _ _ _ _ _ _ _ _ _ _ _ _ _ _ _ _ _ _ _ _ _ _ _ _ _ _ _ _ _ _ _ _ _ _ _ _ _ _ _ _ _ _ _ _ _ _ _ _ _ _ _ _ _ _ _ _ _ _ _ _ _ _ _ _ _ _ _ _ _ _ _ _ _ _ _ _ _ _ _ _ _ _ _ _ _ _ _ _ _ _ _ _ _ _ _ _ _ _ _ _ _ _ _ _ _ _ _ _ _ _ _ _ _ _ _ _ _ _ _ _ _ _ _ _ _ _ _ _ _ _ (unhide HX)
set_option maxRecDepth 100000 in
set_option maxHeartbeats 4000000 in
theorem i_end (w : World) (a0 : Option Addr) (m c0 : Nat) (a1 : Option Addr) (n c1 : Nat) (ap : Option Addr) (p cp g c9 : Nat) (ass : List (List Int)) (zs : List Int) (us : List Sl) (v7 v8 : Value) (Wt : World) (hA : Ad w Wt m (n) ass v7 us v8 (ordL ass (n)) g c9 (ranMem zs (allT m ass (n))))
    {s3 s4 s5 s6 s11 s12 s13 s14 s15 s16 s17 s18 s19 s20 s21 s22 s23 s24 s25 s26 s27 s28 s29 s30 s31 s32 s33 s34 s35 s36 s37 s38 s39 s40 s41 s42 s43 s44 s45 s46 s47 s48 s49 s50 s51 s52 s53 s54 s55 s56 s57 s58 s59 s60 s61 s62 s63 s64 s65 s66 s67 s68 s69 s70 s71 s72 s73 s74 s75 s76 s77 s78 s79 s80 s81 s82 s83 s84 s85 s86 s87 s88 s89 s90 s91 s92 s93 s94 s95 s96 s97 s98 s99 s100 s101 s102 s103 s104 s105 s106 s107 s108 s109 s110 s111 s112 s113 s114 s115 s116 s117 s118 s119 s120 s121 s122 s123 s124 s125 s126 s127 s128 s129 s130 s131 s132 s133 s134 s135 s136 s137 s138 : Value} (N : Act → World → Prop) (Q0 : Exit → Act → World → Prop) (b r : Code) (hcut : (Tryd.f3.body.bind (loopFor 0)) = some (b, r)) (hE : NxIE w a0 m c0 a1 n c1 ap p cp g c9 ass zs Q0) :
    b.wp Tryd.prog (Exit.then N Q0) { tmps := (.slice a0 m c0 :: .slice a1 n c1 :: .slice ap p cp :: s3 :: s4 :: s5 :: s6 :: v7 :: v8 :: .slice (some ⟨g, 0, none⟩) m c9 :: .int .i64 (n : Int) :: s11 :: s12 :: s13 :: s14 :: s15 :: s16 :: s17 :: s18 :: s19 :: s20 :: s21 :: s22 :: s23 :: s24 :: s25 :: s26 :: s27 :: s28 :: s29 :: s30 :: s31 :: s32 :: s33 :: s34 :: s35 :: s36 :: s37 :: s38 :: s39 :: s40 :: s41 :: s42 :: s43 :: s44 :: s45 :: s46 :: s47 :: s48 :: s49 :: s50 :: s51 :: s52 :: s53 :: s54 :: s55 :: s56 :: s57 :: s58 :: s59 :: s60 :: s61 :: s62 :: s63 :: s64 :: s65 :: s66 :: s67 :: s68 :: s69 :: s70 :: s71 :: s72 :: s73 :: s74 :: s75 :: s76 :: s77 :: s78 :: s79 :: s80 :: s81 :: s82 :: s83 :: s84 :: s85 :: s86 :: s87 :: s88 :: s89 :: s90 :: s91 :: s92 :: s93 :: s94 :: s95 :: s96 :: s97 :: s98 :: s99 :: s100 :: s101 :: s102 :: s103 :: s104 :: s105 :: s106 :: s107 :: s108 :: s109 :: s110 :: s111 :: s112 :: s113 :: s114 :: s115 :: s116 :: s117 :: s118 :: s119 :: s120 :: s121 :: s122 :: s123 :: s124 :: s125 :: s126 :: s127 :: s128 :: s129 :: s130 :: s131 :: s132 :: s133 :: s134 :: s135 :: s136 :: s137 :: s138 :: []).toArray, defers := [] } Wt := by
  have hcc : (Tryd.f3.body.bind (loopFor 0)) = some (_, _) := rfl
  rw [hcc] at hcut
  cases hcut
  clear hcc
  have HE := hide hE; have HA := hide hA
  clear hE hA
  have i1 : ¬ (n : Int) < (n : Int) := by omega
  go_wp2_with fail
  exact unhide HE _ _ _ _ _ _ _ _ _ _ _ _ _ _ _ _ _ _ _ _ _ _ _ _ _ _ _ _ _ _ _ _ _ _ _ _ _ _ _ _ _ _ _ _ _ _ _ _ _ _ _ _ _ _ _ _ _ _ _ _ _ _ _ _ _ _ _ _ _ _ _ _ _ _ _ _ _ _ _ _ _ _ _ _ _ _ _ _ _ _ _ _ _ _ _ _ _ _ _ _ _ _ _ _ _ _ _ _ _ _ _ _ _ _ _ _ _ _ _ _ _ _ _ _ _ _ _ _ _ _ _ _ _ _ _ _ (unhide HA)
theorem i_rounds (w : World) (a0 : Option Addr) (m c0 : Nat) (a1 : Option Addr) (n c1 : Nat) (ap : Option Addr) (p cp g c9 : Nat) (uas : List Sl) (ass : List (List Int)) (zs : List Int) (hm : 0 < m) (hm2 : m ≤ 32) (hn : n ≤ 20) (hQ : IsAs w (.slice a1 n c1) uas ass) (Q0 : Exit → Act → World → Prop) (b r : Code) (hcut : (Tryd.f3.body.bind (loopFor 0)) = some (b, r)) (hE : (∀ j, j < n → (ass.getD j []).length ≤ 20) → NxIE w a0 m c0 a1 n c1 ap p cp g c9 ass zs Q0) (hR : NxRet w Q0) :
    ∀ (t i : Nat), i + t = n → (∀ j, j < i → (ass.getD j []).length ≤ 20) → ∀ (s3 s4 s5 s6 s11 s12 s13 s14 s15 s16 s17 s18 s19 s20 s21 s22 s23 s24 s25 s26 s27 s28 s29 s30 s31 s32 s33 s34 s35 s36 s37 s38 s39 s40 s41 s42 s43 s44 s45 s46 s47 s48 s49 s50 s51 s52 s53 s54 s55 s56 s57 s58 s59 s60 s61 s62 s63 s64 s65 s66 s67 s68 s69 s70 s71 s72 s73 s74 s75 s76 s77 s78 s79 s80 s81 s82 s83 s84 s85 s86 s87 s88 s89 s90 s91 s92 s93 s94 s95 s96 s97 s98 s99 s100 s101 s102 s103 s104 s105 s106 s107 s108 s109 s110 s111 s112 s113 s114 s115 s116 s117 s118 s119 s120 s121 s122 s123 s124 s125 s126 s127 s128 s129 s130 s131 s132 s133 s134 s135 s136 s137 s138 : Value) (v7 : Value) (us : List Sl) (v8 : Value) (Wt : World), Ad w Wt m (i) ass v7 us v8 (ordL ass (i)) g c9 (ranMem zs (allT m ass (i))) → Code.rounds Tryd.prog b Q0 (t + 1) { tmps := (.slice a0 m c0 :: .slice a1 n c1 :: .slice ap p cp :: s3 :: s4 :: s5 :: s6 :: v7 :: v8 :: .slice (some ⟨g, 0, none⟩) m c9 :: .int .i64 (i : Int) :: s11 :: s12 :: s13 :: s14 :: s15 :: s16 :: s17 :: s18 :: s19 :: s20 :: s21 :: s22 :: s23 :: s24 :: s25 :: s26 :: s27 :: s28 :: s29 :: s30 :: s31 :: s32 :: s33 :: s34 :: s35 :: s36 :: s37 :: s38 :: s39 :: s40 :: s41 :: s42 :: s43 :: s44 :: s45 :: s46 :: s47 :: s48 :: s49 :: s50 :: s51 :: s52 :: s53 :: s54 :: s55 :: s56 :: s57 :: s58 :: s59 :: s60 :: s61 :: s62 :: s63 :: s64 :: s65 :: s66 :: s67 :: s68 :: s69 :: s70 :: s71 :: s72 :: s73 :: s74 :: s75 :: s76 :: s77 :: s78 :: s79 :: s80 :: s81 :: s82 :: s83 :: s84 :: s85 :: s86 :: s87 :: s88 :: s89 :: s90 :: s91 :: s92 :: s93 :: s94 :: s95 :: s96 :: s97 :: s98 :: s99 :: s100 :: s101 :: s102 :: s103 :: s104 :: s105 :: s106 :: s107 :: s108 :: s109 :: s110 :: s111 :: s112 :: s113 :: s114 :: s115 :: s116 :: s117 :: s118 :: s119 :: s120 :: s121 :: s122 :: s123 :: s124 :: s125 :: s126 :: s127 :: s128 :: s129 :: s130 :: s131 :: s132 :: s133 :: s134 :: s135 :: s136 :: s137 :: s138 :: []).toArray, defers := [] } Wt := by
  intro t
  induction t with
  | zero =>
    intro i hi hj
    obtain rfl : i = n := by omega
    intros
    rename_i v7 us v8 Wt hA
    exact i_end w a0 m c0 a1 i c1 ap p cp g c9 ass zs us v7 v8 Wt hA _ Q0 b r hcut (hE hj)
  | succ t ih =>
    intro i hi hj
    intros
    rename_i v7 us v8 Wt hA
    by_cases hb : 20 < (ass.getD i []).length
    · exact i_ret w a0 m c0 a1 n c1 ap p cp g c9 uas ass i v7 v8 hn hQ (by omega) hb Wt hA.be _ Q0 b r hcut hR
    · have hj' : ∀ j, j < i + 1 → (ass.getD j []).length ≤ 20 := fun j h => if e : j = i then by rw [e]; omega else hj j (by omega)
      refine i_go w a0 m c0 a1 n c1 ap p cp g c9 uas us ass zs i v7 v8 hm hm2 hn hQ (by omega) hj' Wt hA _ Q0 b r hcut ?_
      unfold NxI
      intros
      rename_i v7' us' v8' W' hA'
      exact ih (i + 1) (by omega) hj' _ _ _ _ _ _ _ _ _ _ _ _ _ _ _ _ _ _ _ _ _ _ _ _ _ _ _ _ _ _ _ _ _ _ _ _ _ _ _ _ _ _ _ _ _ _ _ _ _ _ _ _ _ _ _ _ _ _ _ _ _ _ _ _ _ _ _ _ _ _ _ _ _ _ _ _ _ _ _ _ _ _ _ _ _ _ _ _ _ _ _ _ _ _ _ _ _ _ _ _ _ _ _ _ _ _ _ _ _ _ _ _ _ _ _ _ _ _ _ _ _ _ _ _ _ _ _ _ _ _ _ _ v7' us' v8' W' hA'

end Go.Proofs.YtpgokeogijpmaabDoor.Mx
