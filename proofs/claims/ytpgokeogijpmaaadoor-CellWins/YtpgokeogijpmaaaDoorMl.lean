/-
  taskmilllaw.CellWins, put together.
-/
import Derived.Test.YtpgokeogijpmaaaDoorMk
namespace Go.Proofs.YtpgokeogijpmaaaDoor.Mx
open Go.RowKit

theorem in_ret {K : Act → World → Prop} {Q : Exit → Act → World → Prop} {n : Nat} {a : Act} {w : World} : Exit.inBlock n (Exit.then K Q) .ret a w = Q .ret a w := by simp [Exit.inBlock, Exit.then]
set_option maxRecDepth 100000 in
set_option maxHeartbeats 4000000 in
theorem ret_any (w : World) (K : Act → World → Prop) (n : Nat) : NxRet w (Exit.inBlock n (Exit.then K (bodyPost Tryd.prog Tryd.f8 fun e w' => e = .returned (.bool true) ∧ Below w.heap.size w w'))) := by
  unfold NxRet
  intros
  rename_i W' hX
  rw [in_ret]
  go_ret
  exact ⟨rfl, hX⟩

def NxA4 (w : World) (h : Int) (a1 : Option Addr) (n c1 : Nat) (a7 : Option Addr) (c7 q : Nat) (ws : List Int) (us : List Sl) (ps : List Int) (i : Nat) (N : Act → World → Prop) : Prop := ∀ (s2 s3 s4 s5 s6 s8 s9 s12 s13 s14 s15 s16 s17 s18 s19 s20 s21 s22 s23 s24 s25 s26 s27 s28 s29 s30 s31 s32 s33 s34 s35 s36 s37 s38 s39 s40 s41 s42 s43 s44 s45 s46 s47 s48 s49 s50 s51 s52 s53 s54 s55 s56 s57 s58 s59 s60 s61 s62 s63 s64 s65 s66 s67 s68 s69 s70 s71 s72 s73 s74 s75 s76 s77 s78 s79 s80 s81 s82 s83 s84 s85 s86 s87 s88 s89 s90 s91 s92 s93 s94 s95 s96 s97 s98 s99 s100 s101 s102 s103 s104 s105 s106 s107 s108 s109 s110 s111 s112 s113 s114 s115 s116 s117 s118 s119 s120 s121 s122 s123 s124 s125 s126 s127 s128 s129 s130 s131 s132 s133 s134 s135 s136 s137 s138 s139 s140 s141 s142 s143 s144 s145 s146 s147 s148 s149 s150 s151 s152 s153 s154 s155 s156 s157 s158 s159 s160 s161 : Value) (a10 : Option Addr) (c10 : Nat) (W' : World), Wi w W' h ws (.slice a7 n c7) us → Own KI w.heap.size W' (.slice a10 (q + (i + 1)) c10) (ps ++ upTo ((i + 1))) → N { tmps := (.int .i64 h :: .slice a1 n c1 :: s2 :: s3 :: s4 :: s5 :: s6 :: .slice a7 n c7 :: s8 :: s9 :: .slice a10 (q + (i + 1)) c10 :: .int .i64 ((i : Int) + 1) :: s12 :: s13 :: s14 :: s15 :: s16 :: s17 :: s18 :: s19 :: s20 :: s21 :: s22 :: s23 :: s24 :: s25 :: s26 :: s27 :: s28 :: s29 :: s30 :: s31 :: s32 :: s33 :: s34 :: s35 :: s36 :: s37 :: s38 :: s39 :: s40 :: s41 :: s42 :: s43 :: s44 :: s45 :: s46 :: s47 :: s48 :: s49 :: s50 :: s51 :: s52 :: s53 :: s54 :: s55 :: s56 :: s57 :: s58 :: s59 :: s60 :: s61 :: s62 :: s63 :: s64 :: s65 :: s66 :: s67 :: s68 :: s69 :: s70 :: s71 :: s72 :: s73 :: s74 :: s75 :: s76 :: s77 :: s78 :: s79 :: s80 :: s81 :: s82 :: s83 :: s84 :: s85 :: s86 :: s87 :: s88 :: s89 :: s90 :: s91 :: s92 :: s93 :: s94 :: s95 :: s96 :: s97 :: s98 :: s99 :: s100 :: s101 :: s102 :: s103 :: s104 :: s105 :: s106 :: s107 :: s108 :: s109 :: s110 :: s111 :: s112 :: s113 :: s114 :: s115 :: s116 :: s117 :: s118 :: s119 :: s120 :: s121 :: s122 :: s123 :: s124 :: s125 :: s126 :: s127 :: s128 :: s129 :: s130 :: s131 :: s132 :: s133 :: s134 :: s135 :: s136 :: s137 :: s138 :: s139 :: s140 :: s141 :: s142 :: s143 :: s144 :: s145 :: s146 :: s147 :: s148 :: s149 :: s150 :: s151 :: s152 :: s153 :: s154 :: s155 :: s156 :: s157 :: s158 :: s159 :: s160 :: s161 :: []).toArray, defers := [] } W'
def NxE4 (w : World) (h : Int) (a1 : Option Addr) (n c1 : Nat) (a7 : Option Addr) (c7 q : Nat) (ws : List Int) (us : List Sl) (ps : List Int) (Q0 : Exit → Act → World → Prop) : Prop := ∀ (s2 s3 s4 s5 s6 s8 s9 s12 s13 s14 s15 s16 s17 s18 s19 s20 s21 s22 s23 s24 s25 s26 s27 s28 s29 s30 s31 s32 s33 s34 s35 s36 s37 s38 s39 s40 s41 s42 s43 s44 s45 s46 s47 s48 s49 s50 s51 s52 s53 s54 s55 s56 s57 s58 s59 s60 s61 s62 s63 s64 s65 s66 s67 s68 s69 s70 s71 s72 s73 s74 s75 s76 s77 s78 s79 s80 s81 s82 s83 s84 s85 s86 s87 s88 s89 s90 s91 s92 s93 s94 s95 s96 s97 s98 s99 s100 s101 s102 s103 s104 s105 s106 s107 s108 s109 s110 s111 s112 s113 s114 s115 s116 s117 s118 s119 s120 s121 s122 s123 s124 s125 s126 s127 s128 s129 s130 s131 s132 s133 s134 s135 s136 s137 s138 s139 s140 s141 s142 s143 s144 s145 s146 s147 s148 s149 s150 s151 s152 s153 s154 s155 s156 s157 s158 s159 s160 s161 : Value) (a10 : Option Addr) (c10 : Nat) (W' : World), Wi w W' h ws (.slice a7 n c7) us → Own KI w.heap.size W' (.slice a10 (q + n) c10) (ps ++ upTo (n)) → Q0 (.exit 4) { tmps := (.int .i64 h :: .slice a1 n c1 :: s2 :: s3 :: s4 :: s5 :: s6 :: .slice a7 n c7 :: s8 :: s9 :: .slice a10 (q + n) c10 :: .int .i64 (n : Int) :: s12 :: s13 :: s14 :: s15 :: s16 :: s17 :: s18 :: s19 :: s20 :: s21 :: s22 :: s23 :: s24 :: s25 :: s26 :: s27 :: s28 :: s29 :: s30 :: s31 :: s32 :: s33 :: s34 :: s35 :: s36 :: s37 :: s38 :: s39 :: s40 :: s41 :: s42 :: s43 :: s44 :: s45 :: s46 :: s47 :: s48 :: s49 :: s50 :: s51 :: s52 :: s53 :: s54 :: s55 :: s56 :: s57 :: s58 :: s59 :: s60 :: s61 :: s62 :: s63 :: s64 :: s65 :: s66 :: s67 :: s68 :: s69 :: s70 :: s71 :: s72 :: s73 :: s74 :: s75 :: s76 :: s77 :: s78 :: s79 :: s80 :: s81 :: s82 :: s83 :: s84 :: s85 :: s86 :: s87 :: s88 :: s89 :: s90 :: s91 :: s92 :: s93 :: s94 :: s95 :: s96 :: s97 :: s98 :: s99 :: s100 :: s101 :: s102 :: s103 :: s104 :: s105 :: s106 :: s107 :: s108 :: s109 :: s110 :: s111 :: s112 :: s113 :: s114 :: s115 :: s116 :: s117 :: s118 :: s119 :: s120 :: s121 :: s122 :: s123 :: s124 :: s125 :: s126 :: s127 :: s128 :: s129 :: s130 :: s131 :: s132 :: s133 :: s134 :: s135 :: s136 :: s137 :: s138 :: s139 :: s140 :: s141 :: s142 :: s143 :: s144 :: s145 :: s146 :: s147 :: s148 :: s149 :: s150 :: s151 :: s152 :: s153 :: s154 :: s155 :: s156 :: s157 :: s158 :: s159 :: s160 :: s161 :: []).toArray, defers := [] } W'
set_option maxRecDepth 100000 in
set_option maxHeartbeats 4000000 in
theorem l4_go (w : World) (h : Int) (a1 : Option Addr) (n c1 : Nat) (a7 : Option Addr) (c7 q : Nat) (ws : List Int) (us : List Sl) (ps : List Int) (i : Nat) (hi : i < n) (hn : n ≤ 64) (hq : q ≤ 4000) (hlp : ps.length = q) (a10 : Option Addr) (c10 : Nat) (Wt : World) (hI : Wi w Wt h ws (.slice a7 n c7) us) (hO : Own KI w.heap.size Wt (.slice a10 (q + i) c10) (ps ++ upTo i))
    {s2 s3 s4 s5 s6 s8 s9 s12 s13 s14 s15 s16 s17 s18 s19 s20 s21 s22 s23 s24 s25 s26 s27 s28 s29 s30 s31 s32 s33 s34 s35 s36 s37 s38 s39 s40 s41 s42 s43 s44 s45 s46 s47 s48 s49 s50 s51 s52 s53 s54 s55 s56 s57 s58 s59 s60 s61 s62 s63 s64 s65 s66 s67 s68 s69 s70 s71 s72 s73 s74 s75 s76 s77 s78 s79 s80 s81 s82 s83 s84 s85 s86 s87 s88 s89 s90 s91 s92 s93 s94 s95 s96 s97 s98 s99 s100 s101 s102 s103 s104 s105 s106 s107 s108 s109 s110 s111 s112 s113 s114 s115 s116 s117 s118 s119 s120 s121 s122 s123 s124 s125 s126 s127 s128 s129 s130 s131 s132 s133 s134 s135 s136 s137 s138 s139 s140 s141 s142 s143 s144 s145 s146 s147 s148 s149 s150 s151 s152 s153 s154 s155 s156 s157 s158 s159 s160 s161 : Value} (N : Act → World → Prop) (Q0 : Exit → Act → World → Prop) (b r : Code) (hcut : (Tryd.f8.body.bind (loopFor 4)) = some (b, r)) (hN : NxA4 w h a1 n c1 a7 c7 q ws us ps i N) :
    b.wp Tryd.prog (Exit.then N Q0) { tmps := (.int .i64 h :: .slice a1 n c1 :: s2 :: s3 :: s4 :: s5 :: s6 :: .slice a7 n c7 :: s8 :: s9 :: .slice a10 (q + i) c10 :: .int .i64 (i : Int) :: s12 :: s13 :: s14 :: s15 :: s16 :: s17 :: s18 :: s19 :: s20 :: s21 :: s22 :: s23 :: s24 :: s25 :: s26 :: s27 :: s28 :: s29 :: s30 :: s31 :: s32 :: s33 :: s34 :: s35 :: s36 :: s37 :: s38 :: s39 :: s40 :: s41 :: s42 :: s43 :: s44 :: s45 :: s46 :: s47 :: s48 :: s49 :: s50 :: s51 :: s52 :: s53 :: s54 :: s55 :: s56 :: s57 :: s58 :: s59 :: s60 :: s61 :: s62 :: s63 :: s64 :: s65 :: s66 :: s67 :: s68 :: s69 :: s70 :: s71 :: s72 :: s73 :: s74 :: s75 :: s76 :: s77 :: s78 :: s79 :: s80 :: s81 :: s82 :: s83 :: s84 :: s85 :: s86 :: s87 :: s88 :: s89 :: s90 :: s91 :: s92 :: s93 :: s94 :: s95 :: s96 :: s97 :: s98 :: s99 :: s100 :: s101 :: s102 :: s103 :: s104 :: s105 :: s106 :: s107 :: s108 :: s109 :: s110 :: s111 :: s112 :: s113 :: s114 :: s115 :: s116 :: s117 :: s118 :: s119 :: s120 :: s121 :: s122 :: s123 :: s124 :: s125 :: s126 :: s127 :: s128 :: s129 :: s130 :: s131 :: s132 :: s133 :: s134 :: s135 :: s136 :: s137 :: s138 :: s139 :: s140 :: s141 :: s142 :: s143 :: s144 :: s145 :: s146 :: s147 :: s148 :: s149 :: s150 :: s151 :: s152 :: s153 :: s154 :: s155 :: s156 :: s157 :: s158 :: s159 :: s160 :: s161 :: []).toArray, defers := [] } Wt := by
  have hcc : (Tryd.f8.body.bind (loopFor 4)) = some (_, _) := rfl
  rw [hcc] at hcut
  cases hcut
  clear hcc
  have i0 : (0 : Int) ≤ (i : Int) := by omega
  have i1 : (i : Int) < (n : Int) := by omega
  have hwr : IntKind.i64.wrap ((i : Int) + 1) = (i : Int) + 1 := wrapi (by omega) (by omega)
  have HN := hide hN; have HI := hide hI; have HO := hide hO
  have HO1 := hide (hO.below ((Below.refl _ _).alloc (Nat.le_refl _) (.cells #[.int .i64 (i : Int)] 3)))
  have HL1 := hide (isl_one ki Wt (i : Int))
  have HS : Hid (w.heap.size ≤ (Wt.alloc (.cells #[.int .i64 (i : Int)] 3)).heap.size) := Nat.le_trans hI.be.size (Nat.le_trans (Nat.le_succ _) (Nat.le_of_eq (World.size_alloc _ _).symm))
  have HL : Hid ((ps ++ upTo i).length + [(i : Int)].length = q + (i + 1)) := by show _ = _; rw [List.length_append, upTo_len, hlp]; rfl
  clear hN hI hO hlp
  go_wp2_with (at_builtin; refine wpList_append ki rfl (.tmp 82) (.tmp 84) rfl w.heap.size (.slice a10 (q + i) c10) (ps ++ upTo i) rfl (unhide HO1) _ [(i : Int)] rfl (unhide HL1) (q + (i + 1)) (unhide HL) (by show (q + (i + 1)) * 8 ≤ 140737488355328; omega) (unhide HS) ?_; intro a8 c8 w8 ho8 hg8; have HO8 := hide ho8; have HI8 := hide ((unhide HI).grown (unhide HO) _ hg8); clear ho8 hg8)
  exact unhide HN _ _ _ _ _ _ _ _ _ _ _ _ _ _ _ _ _ _ _ _ _ _ _ _ _ _ _ _ _ _ _ _ _ _ _ _ _ _ _ _ _ _ _ _ _ _ _ _ _ _ _ _ _ _ _ _ _ _ _ _ _ _ _ _ _ _ _ _ _ _ _ _ _ _ _ _ _ _ _ _ _ _ _ _ _ _ _ _ _ _ _ _ _ _ _ _ _ _ _ _ _ _ _ _ _ _ _ _ _ _ _ _ _ _ _ _ _ _ _ _ _ _ _ _ _ _ _ _ _ _ _ _ _ _ _ _ _ _ _ _ _ _ _ _ _ _ _ _ _ _ _ _ _ _ _ _ _ _ _ _ (unhide HI8) (by rw [upTo_succ, ← List.append_assoc]; exact unhide HO8)
set_option maxRecDepth 100000 in
set_option maxHeartbeats 4000000 in
theorem l4_end (w : World) (h : Int) (a1 : Option Addr) (n c1 : Nat) (a7 : Option Addr) (c7 q : Nat) (ws : List Int) (us : List Sl) (ps : List Int) (a10 : Option Addr) (c10 : Nat) (Wt : World) (hI : Wi w Wt h ws (.slice a7 n c7) us) (hO : Own KI w.heap.size Wt (.slice a10 (q + n) c10) (ps ++ upTo n))
    {s2 s3 s4 s5 s6 s8 s9 s12 s13 s14 s15 s16 s17 s18 s19 s20 s21 s22 s23 s24 s25 s26 s27 s28 s29 s30 s31 s32 s33 s34 s35 s36 s37 s38 s39 s40 s41 s42 s43 s44 s45 s46 s47 s48 s49 s50 s51 s52 s53 s54 s55 s56 s57 s58 s59 s60 s61 s62 s63 s64 s65 s66 s67 s68 s69 s70 s71 s72 s73 s74 s75 s76 s77 s78 s79 s80 s81 s82 s83 s84 s85 s86 s87 s88 s89 s90 s91 s92 s93 s94 s95 s96 s97 s98 s99 s100 s101 s102 s103 s104 s105 s106 s107 s108 s109 s110 s111 s112 s113 s114 s115 s116 s117 s118 s119 s120 s121 s122 s123 s124 s125 s126 s127 s128 s129 s130 s131 s132 s133 s134 s135 s136 s137 s138 s139 s140 s141 s142 s143 s144 s145 s146 s147 s148 s149 s150 s151 s152 s153 s154 s155 s156 s157 s158 s159 s160 s161 : Value} (N : Act → World → Prop) (Q0 : Exit → Act → World → Prop) (b r : Code) (hcut : (Tryd.f8.body.bind (loopFor 4)) = some (b, r)) (hE : NxE4 w h a1 n c1 a7 c7 q ws us ps Q0) :
    b.wp Tryd.prog (Exit.then N Q0) { tmps := (.int .i64 h :: .slice a1 n c1 :: s2 :: s3 :: s4 :: s5 :: s6 :: .slice a7 n c7 :: s8 :: s9 :: .slice a10 (q + n) c10 :: .int .i64 (n : Int) :: s12 :: s13 :: s14 :: s15 :: s16 :: s17 :: s18 :: s19 :: s20 :: s21 :: s22 :: s23 :: s24 :: s25 :: s26 :: s27 :: s28 :: s29 :: s30 :: s31 :: s32 :: s33 :: s34 :: s35 :: s36 :: s37 :: s38 :: s39 :: s40 :: s41 :: s42 :: s43 :: s44 :: s45 :: s46 :: s47 :: s48 :: s49 :: s50 :: s51 :: s52 :: s53 :: s54 :: s55 :: s56 :: s57 :: s58 :: s59 :: s60 :: s61 :: s62 :: s63 :: s64 :: s65 :: s66 :: s67 :: s68 :: s69 :: s70 :: s71 :: s72 :: s73 :: s74 :: s75 :: s76 :: s77 :: s78 :: s79 :: s80 :: s81 :: s82 :: s83 :: s84 :: s85 :: s86 :: s87 :: s88 :: s89 :: s90 :: s91 :: s92 :: s93 :: s94 :: s95 :: s96 :: s97 :: s98 :: s99 :: s100 :: s101 :: s102 :: s103 :: s104 :: s105 :: s106 :: s107 :: s108 :: s109 :: s110 :: s111 :: s112 :: s113 :: s114 :: s115 :: s116 :: s117 :: s118 :: s119 :: s120 :: s121 :: s122 :: s123 :: s124 :: s125 :: s126 :: s127 :: s128 :: s129 :: s130 :: s131 :: s132 :: s133 :: s134 :: s135 :: s136 :: s137 :: s138 :: s139 :: s140 :: s141 :: s142 :: s143 :: s144 :: s145 :: s146 :: s147 :: s148 :: s149 :: s150 :: s151 :: s152 :: s153 :: s154 :: s155 :: s156 :: s157 :: s158 :: s159 :: s160 :: s161 :: []).toArray, defers := [] } Wt := by
  have hcc : (Tryd.f8.body.bind (loopFor 4)) = some (_, _) := rfl
  rw [hcc] at hcut
  cases hcut
  clear hcc
  have HE := hide hE; have HI := hide hI; have HO := hide hO
  clear hE hI hO
  have i1 : ¬ (n : Int) < (n : Int) := by omega
  go_wp2_with fail
  exact unhide HE _ _ _ _ _ _ _ _ _ _ _ _ _ _ _ _ _ _ _ _ _ _ _ _ _ _ _ _ _ _ _ _ _ _ _ _ _ _ _ _ _ _ _ _ _ _ _ _ _ _ _ _ _ _ _ _ _ _ _ _ _ _ _ _ _ _ _ _ _ _ _ _ _ _ _ _ _ _ _ _ _ _ _ _ _ _ _ _ _ _ _ _ _ _ _ _ _ _ _ _ _ _ _ _ _ _ _ _ _ _ _ _ _ _ _ _ _ _ _ _ _ _ _ _ _ _ _ _ _ _ _ _ _ _ _ _ _ _ _ _ _ _ _ _ _ _ _ _ _ _ _ _ _ _ _ _ _ _ _ _ (unhide HI) (unhide HO)
theorem l4_rounds (w : World) (h : Int) (a1 : Option Addr) (n c1 : Nat) (a7 : Option Addr) (c7 q : Nat) (ws : List Int) (us : List Sl) (ps : List Int) (hn : n ≤ 64) (hq : q ≤ 4000) (hlp : ps.length = q) (Q0 : Exit → Act → World → Prop) (b r : Code) (hcut : (Tryd.f8.body.bind (loopFor 4)) = some (b, r)) (hE : NxE4 w h a1 n c1 a7 c7 q ws us ps Q0) :
    ∀ (k i : Nat), i + k = n → ∀ (s2 s3 s4 s5 s6 s8 s9 s12 s13 s14 s15 s16 s17 s18 s19 s20 s21 s22 s23 s24 s25 s26 s27 s28 s29 s30 s31 s32 s33 s34 s35 s36 s37 s38 s39 s40 s41 s42 s43 s44 s45 s46 s47 s48 s49 s50 s51 s52 s53 s54 s55 s56 s57 s58 s59 s60 s61 s62 s63 s64 s65 s66 s67 s68 s69 s70 s71 s72 s73 s74 s75 s76 s77 s78 s79 s80 s81 s82 s83 s84 s85 s86 s87 s88 s89 s90 s91 s92 s93 s94 s95 s96 s97 s98 s99 s100 s101 s102 s103 s104 s105 s106 s107 s108 s109 s110 s111 s112 s113 s114 s115 s116 s117 s118 s119 s120 s121 s122 s123 s124 s125 s126 s127 s128 s129 s130 s131 s132 s133 s134 s135 s136 s137 s138 s139 s140 s141 s142 s143 s144 s145 s146 s147 s148 s149 s150 s151 s152 s153 s154 s155 s156 s157 s158 s159 s160 s161 : Value) (a10 : Option Addr) (c10 : Nat) (Wt : World), Wi w Wt h ws (.slice a7 n c7) us → Own KI w.heap.size Wt (.slice a10 (q + i) c10) (ps ++ upTo (i)) → Code.rounds Tryd.prog b Q0 (k + 1) { tmps := (.int .i64 h :: .slice a1 n c1 :: s2 :: s3 :: s4 :: s5 :: s6 :: .slice a7 n c7 :: s8 :: s9 :: .slice a10 (q + i) c10 :: .int .i64 (i : Int) :: s12 :: s13 :: s14 :: s15 :: s16 :: s17 :: s18 :: s19 :: s20 :: s21 :: s22 :: s23 :: s24 :: s25 :: s26 :: s27 :: s28 :: s29 :: s30 :: s31 :: s32 :: s33 :: s34 :: s35 :: s36 :: s37 :: s38 :: s39 :: s40 :: s41 :: s42 :: s43 :: s44 :: s45 :: s46 :: s47 :: s48 :: s49 :: s50 :: s51 :: s52 :: s53 :: s54 :: s55 :: s56 :: s57 :: s58 :: s59 :: s60 :: s61 :: s62 :: s63 :: s64 :: s65 :: s66 :: s67 :: s68 :: s69 :: s70 :: s71 :: s72 :: s73 :: s74 :: s75 :: s76 :: s77 :: s78 :: s79 :: s80 :: s81 :: s82 :: s83 :: s84 :: s85 :: s86 :: s87 :: s88 :: s89 :: s90 :: s91 :: s92 :: s93 :: s94 :: s95 :: s96 :: s97 :: s98 :: s99 :: s100 :: s101 :: s102 :: s103 :: s104 :: s105 :: s106 :: s107 :: s108 :: s109 :: s110 :: s111 :: s112 :: s113 :: s114 :: s115 :: s116 :: s117 :: s118 :: s119 :: s120 :: s121 :: s122 :: s123 :: s124 :: s125 :: s126 :: s127 :: s128 :: s129 :: s130 :: s131 :: s132 :: s133 :: s134 :: s135 :: s136 :: s137 :: s138 :: s139 :: s140 :: s141 :: s142 :: s143 :: s144 :: s145 :: s146 :: s147 :: s148 :: s149 :: s150 :: s151 :: s152 :: s153 :: s154 :: s155 :: s156 :: s157 :: s158 :: s159 :: s160 :: s161 :: []).toArray, defers := [] } Wt := by
  intro k
  induction k with
  | zero =>
    intro i hi
    obtain rfl : i = n := by omega
    intros
    rename_i a10 c10 Wt hI hO
    exact l4_end w h a1 i c1 a7 c7 q ws us ps a10 c10 Wt hI hO _ Q0 b r hcut hE
  | succ k ih =>
    intro i hi
    intros
    rename_i a10 c10 Wt hI hO
    refine l4_go w h a1 n c1 a7 c7 q ws us ps i (by omega) hn hq hlp a10 c10 Wt hI hO _ Q0 b r hcut ?_
    unfold NxA4
    intros
    rename_i a10' c10' W' hI' hO'
    exact ih (i + 1) (by omega) _ _ _ _ _ _ _ _ _ _ _ _ _ _ _ _ _ _ _ _ _ _ _ _ _ _ _ _ _ _ _ _ _ _ _ _ _ _ _ _ _ _ _ _ _ _ _ _ _ _ _ _ _ _ _ _ _ _ _ _ _ _ _ _ _ _ _ _ _ _ _ _ _ _ _ _ _ _ _ _ _ _ _ _ _ _ _ _ _ _ _ _ _ _ _ _ _ _ _ _ _ _ _ _ _ _ _ _ _ _ _ _ _ _ _ _ _ _ _ _ _ _ _ _ _ _ _ _ _ _ _ _ _ _ _ _ _ _ _ _ _ _ _ _ _ _ _ _ _ _ _ _ _ _ _ _ _ a10' c10' W' hI' hO'
theorem l4_loop (w : World) (h : Int) (a1 : Option Addr) (n c1 : Nat) (a7 : Option Addr) (c7 q : Nat) (ws : List Int) (us : List Sl) (ps : List Int) (hn0 : 0 < n) (hn : n ≤ 64) (hq : q ≤ 4000) (hlp : ps.length = q) (hW : IsL KI w (.slice a1 n c1) ws) (hne : ∀ i, i < n → ws.getD i 0 ≠ h) (hps : ∀ x ∈ ps, 0 ≤ x ∧ x < n) (a10 : Option Addr) (c10 : Nat) (Wt : World) (hI : Wi w Wt h ws (.slice a7 n c7) us) (hO : Own KI w.heap.size Wt (.slice a10 q c10) ps)
    (K : Act → World → Prop) (b r : Code) (hK : ∀ a w', r.wp Tryd.prog (bodyPost Tryd.prog Tryd.f8 fun e w' => e = .returned (.bool true) ∧ Below w.heap.size w w') a w' → K a w') (hcut : (Tryd.f8.body.bind (loopFor 4)) = some (b, r)) {s2 s3 s4 s5 s6 s8 s9 s12 s13 s14 s15 s16 s17 s18 s19 s20 s21 s22 s23 s24 s25 s26 s27 s28 s29 s30 s31 s32 s33 s34 s35 s36 s37 s38 s39 s40 s41 s42 s43 s44 s45 s46 s47 s48 s49 s50 s51 s52 s53 s54 s55 s56 s57 s58 s59 s60 s61 s62 s63 s64 s65 s66 s67 s68 s69 s70 s71 s72 s73 s74 s75 s76 s77 s78 s79 s80 s81 s82 s83 s84 s85 s86 s87 s88 s89 s90 s91 s92 s93 s94 s95 s96 s97 s98 s99 s100 s101 s102 s103 s104 s105 s106 s107 s108 s109 s110 s111 s112 s113 s114 s115 s116 s117 s118 s119 s120 s121 s122 s123 s124 s125 s126 s127 s128 s129 s130 s131 s132 s133 s134 s135 s136 s137 s138 s139 s140 s141 s142 s143 s144 s145 s146 s147 s148 s149 s150 s151 s152 s153 s154 s155 s156 s157 s158 s159 s160 s161 : Value} :
    (Code.loop b).wp Tryd.prog (Exit.inBlock 4 (Exit.then K (bodyPost Tryd.prog Tryd.f8 fun e w' => e = .returned (.bool true) ∧ Below w.heap.size w w'))) { tmps := (.int .i64 h :: .slice a1 n c1 :: s2 :: s3 :: s4 :: s5 :: s6 :: .slice a7 n c7 :: s8 :: s9 :: .slice a10 q c10 :: .int .i64 0 :: s12 :: s13 :: s14 :: s15 :: s16 :: s17 :: s18 :: s19 :: s20 :: s21 :: s22 :: s23 :: s24 :: s25 :: s26 :: s27 :: s28 :: s29 :: s30 :: s31 :: s32 :: s33 :: s34 :: s35 :: s36 :: s37 :: s38 :: s39 :: s40 :: s41 :: s42 :: s43 :: s44 :: s45 :: s46 :: s47 :: s48 :: s49 :: s50 :: s51 :: s52 :: s53 :: s54 :: s55 :: s56 :: s57 :: s58 :: s59 :: s60 :: s61 :: s62 :: s63 :: s64 :: s65 :: s66 :: s67 :: s68 :: s69 :: s70 :: s71 :: s72 :: s73 :: s74 :: s75 :: s76 :: s77 :: s78 :: s79 :: s80 :: s81 :: s82 :: s83 :: s84 :: s85 :: s86 :: s87 :: s88 :: s89 :: s90 :: s91 :: s92 :: s93 :: s94 :: s95 :: s96 :: s97 :: s98 :: s99 :: s100 :: s101 :: s102 :: s103 :: s104 :: s105 :: s106 :: s107 :: s108 :: s109 :: s110 :: s111 :: s112 :: s113 :: s114 :: s115 :: s116 :: s117 :: s118 :: s119 :: s120 :: s121 :: s122 :: s123 :: s124 :: s125 :: s126 :: s127 :: s128 :: s129 :: s130 :: s131 :: s132 :: s133 :: s134 :: s135 :: s136 :: s137 :: s138 :: s139 :: s140 :: s141 :: s142 :: s143 :: s144 :: s145 :: s146 :: s147 :: s148 :: s149 :: s150 :: s151 :: s152 :: s153 :: s154 :: s155 :: s156 :: s157 :: s158 :: s159 :: s160 :: s161 :: []).toArray, defers := [] } Wt := by
  refine wp_loop_rounds (n + 1) ?_
  refine l4_rounds w h a1 n c1 a7 c7 q ws us ps hn hq hlp _ b r hcut ?_ n 0 (by omega) _ _ _ _ _ _ _ _ _ _ _ _ _ _ _ _ _ _ _ _ _ _ _ _ _ _ _ _ _ _ _ _ _ _ _ _ _ _ _ _ _ _ _ _ _ _ _ _ _ _ _ _ _ _ _ _ _ _ _ _ _ _ _ _ _ _ _ _ _ _ _ _ _ _ _ _ _ _ _ _ _ _ _ _ _ _ _ _ _ _ _ _ _ _ _ _ _ _ _ _ _ _ _ _ _ _ _ _ _ _ _ _ _ _ _ _ _ _ _ _ _ _ _ _ _ _ _ _ _ _ _ _ _ _ _ _ _ _ _ _ _ _ _ _ _ _ _ _ _ _ _ _ _ _ _ _ _ a10 c10 Wt hI (by rw [show upTo 0 = [] from rfl, List.append_nil]; exact hO)
  unfold NxE4
  intros
  rename_i a10' c10' W' hI' hO'
  exact in_b0 (hK _ _ (wins_mid w h a1 n c1 ws a7 c7 us a10' (q + n) c10' ps hn0 hn hW hne hps (by omega) W' hI' hO' b r hcut))

set_option maxRecDepth 100000 in
set_option maxHeartbeats 4000000 in
theorem part17 (w : World) (h : Int) (a1 : Option Addr) (n c1 : Nat) (ap : Option Addr) (q cp : Nat) (a7 : Option Addr) (c7 : Nat) (ws : List Int) (us : List Sl) (ps : List Int) (hn0 : 0 < n) (hn : n ≤ 64) (hq : q ≤ 4000) (hW : IsL KI w (.slice a1 n c1) ws) (hP : IsL KI w (.slice ap q cp) ps) (hne : ∀ i, i < n → ws.getD i 0 ≠ h) (hps : ∀ x ∈ ps, 0 ≤ x ∧ x < n) (Wt : World) (hI : Wi w Wt h ws (.slice a7 n c7) us)
    {s3 s4 s5 s6 s8 s9 s10 s11 s12 s13 s14 s15 s16 s17 s18 s19 s20 s21 s22 s23 s24 s25 s26 s27 s28 s29 s30 s31 s32 s33 s34 s35 s36 s37 s38 s39 s40 s41 s42 s43 s44 s45 s46 s47 s48 s49 s50 s51 s52 s53 s54 s55 s56 s57 s58 s59 s60 s61 s62 s63 s64 s65 s66 s67 s68 s69 s70 s71 s72 s73 s74 s75 s76 s77 s78 s79 s80 s81 s82 s83 s84 s85 s86 s87 s88 s89 s90 s91 s92 s93 s94 s95 s96 s97 s98 s99 s100 s101 s102 s103 s104 s105 s106 s107 s108 s109 s110 s111 s112 s113 s114 s115 s116 s117 s118 s119 s120 s121 s122 s123 s124 s125 s126 s127 s128 s129 s130 s131 s132 s133 s134 s135 s136 s137 s138 s139 s140 s141 s142 s143 s144 s145 s146 s147 s148 s149 s150 s151 s152 s153 s154 s155 s156 s157 s158 s159 s160 s161 : Value} (b r : Code) (hcut : (Tryd.f8.body.bind (loopFor 2)) = some (b, r)) :
    r.wp Tryd.prog (bodyPost Tryd.prog Tryd.f8 fun e w' => e = .returned (.bool true) ∧ Below w.heap.size w w') { tmps := (.int .i64 h :: .slice a1 n c1 :: .slice ap q cp :: s3 :: s4 :: s5 :: s6 :: .slice a7 n c7 :: s8 :: s9 :: s10 :: s11 :: s12 :: s13 :: s14 :: s15 :: s16 :: s17 :: s18 :: s19 :: s20 :: s21 :: s22 :: s23 :: s24 :: s25 :: s26 :: s27 :: s28 :: s29 :: s30 :: s31 :: s32 :: s33 :: s34 :: s35 :: s36 :: s37 :: s38 :: s39 :: s40 :: s41 :: s42 :: s43 :: s44 :: s45 :: s46 :: s47 :: s48 :: s49 :: s50 :: s51 :: s52 :: s53 :: s54 :: s55 :: s56 :: s57 :: s58 :: s59 :: s60 :: s61 :: s62 :: s63 :: s64 :: s65 :: s66 :: s67 :: s68 :: s69 :: s70 :: s71 :: s72 :: s73 :: s74 :: s75 :: s76 :: s77 :: s78 :: s79 :: s80 :: s81 :: s82 :: s83 :: s84 :: s85 :: s86 :: s87 :: s88 :: s89 :: s90 :: s91 :: s92 :: s93 :: s94 :: s95 :: s96 :: s97 :: s98 :: s99 :: s100 :: s101 :: s102 :: s103 :: s104 :: s105 :: s106 :: s107 :: s108 :: s109 :: s110 :: s111 :: s112 :: s113 :: s114 :: s115 :: s116 :: s117 :: s118 :: s119 :: s120 :: s121 :: s122 :: s123 :: s124 :: s125 :: s126 :: s127 :: s128 :: s129 :: s130 :: s131 :: s132 :: s133 :: s134 :: s135 :: s136 :: s137 :: s138 :: s139 :: s140 :: s141 :: s142 :: s143 :: s144 :: s145 :: s146 :: s147 :: s148 :: s149 :: s150 :: s151 :: s152 :: s153 :: s154 :: s155 :: s156 :: s157 :: s158 :: s159 :: s160 :: s161 :: []).toArray, defers := [] } Wt := by
  have hcc : (Tryd.f8.body.bind (loopFor 2)) = some (_, _) := rfl
  rw [hcc] at hcut
  cases hcut
  clear hcc
  have hlp := hP.len
  have HOW : Hid (Calls Tryd.prog 9 #[.slice ap q cp] Wt fun e w' => ∃ a' c', e = .returned (.slice a' q c') ∧ Own KI Wt.heap.size w' (.slice a' q c') ps ∧ Below Wt.heap.size Wt w') := by
    have h1 := isl_ints (hP.below hI.be)
    refine (own_any Wt (.slice ap q cp) ps.length _ h1 (ints_one ps) (by omega)).mono ?_
    rintro e w' ⟨v', rfl, h2, h3⟩
    have h4 := ints_isl h2
    obtain ⟨a', c', rfl⟩ := h4.form
    rw [hlp] at h4 ⊢
    exact ⟨a', c', rfl, h4, h3⟩
  have HI := hide hI; have HW := hide hW; have HNE := hide hne; have HPS := hide hps; have HLP := hide hlp
  clear hI hW hP hne hps hlp
  go_upto_region 18 with (go_at_call 9; refine (unhide HOW).mono ?_; rintro e w2 ⟨a10, c10, rfl, ho2, hb2⟩; have HO2 := hide (ho2.base (unhide HI).be.size); have HI2 := hide ((unhide HI).keep hb2); clear ho2 hb2)
  go_wp2_with fail
  exact l4_loop w h a1 n c1 a7 c7 q ws us ps hn0 hn hq (unhide HLP) (unhide HW) (unhide HNE) (unhide HPS) a10 c10 w2 (unhide HI2) (unhide HO2) _ _ _ (by assumption) (by kernel_rfl)

def NxA2 (h : Int) (a1 : Option Addr) (n c1 : Nat) (ap : Option Addr) (q cp : Nat) (a7 : Option Addr) (c7 : Nat) (i : Nat) (W : World) (N : Act → World → Prop) : Prop := ∀ (s3 s4 s5 s6 s8 s10 s11 s12 s13 s14 s15 s16 s17 s18 s19 s20 s21 s22 s23 s24 s25 s26 s27 s28 s29 s30 s31 s32 s33 s34 s35 s36 s37 s38 s39 s40 s41 s42 s43 s44 s45 s46 s47 s48 s49 s50 s51 s52 s53 s54 s55 s56 s57 s58 s59 s60 s61 s62 s63 s64 s65 s66 s67 s68 s69 s70 s71 s72 s73 s74 s75 s76 s77 s78 s79 s80 s81 s82 s83 s84 s85 s86 s87 s88 s89 s90 s91 s92 s93 s94 s95 s96 s97 s98 s99 s100 s101 s102 s103 s104 s105 s106 s107 s108 s109 s110 s111 s112 s113 s114 s115 s116 s117 s118 s119 s120 s121 s122 s123 s124 s125 s126 s127 s128 s129 s130 s131 s132 s133 s134 s135 s136 s137 s138 s139 s140 s141 s142 s143 s144 s145 s146 s147 s148 s149 s150 s151 s152 s153 s154 s155 s156 s157 s158 s159 s160 s161 : Value), N { tmps := (.int .i64 h :: .slice a1 n c1 :: .slice ap q cp :: s3 :: s4 :: s5 :: s6 :: .slice a7 n c7 :: s8 :: .int .i64 ((i : Int) + 1) :: s10 :: s11 :: s12 :: s13 :: s14 :: s15 :: s16 :: s17 :: s18 :: s19 :: s20 :: s21 :: s22 :: s23 :: s24 :: s25 :: s26 :: s27 :: s28 :: s29 :: s30 :: s31 :: s32 :: s33 :: s34 :: s35 :: s36 :: s37 :: s38 :: s39 :: s40 :: s41 :: s42 :: s43 :: s44 :: s45 :: s46 :: s47 :: s48 :: s49 :: s50 :: s51 :: s52 :: s53 :: s54 :: s55 :: s56 :: s57 :: s58 :: s59 :: s60 :: s61 :: s62 :: s63 :: s64 :: s65 :: s66 :: s67 :: s68 :: s69 :: s70 :: s71 :: s72 :: s73 :: s74 :: s75 :: s76 :: s77 :: s78 :: s79 :: s80 :: s81 :: s82 :: s83 :: s84 :: s85 :: s86 :: s87 :: s88 :: s89 :: s90 :: s91 :: s92 :: s93 :: s94 :: s95 :: s96 :: s97 :: s98 :: s99 :: s100 :: s101 :: s102 :: s103 :: s104 :: s105 :: s106 :: s107 :: s108 :: s109 :: s110 :: s111 :: s112 :: s113 :: s114 :: s115 :: s116 :: s117 :: s118 :: s119 :: s120 :: s121 :: s122 :: s123 :: s124 :: s125 :: s126 :: s127 :: s128 :: s129 :: s130 :: s131 :: s132 :: s133 :: s134 :: s135 :: s136 :: s137 :: s138 :: s139 :: s140 :: s141 :: s142 :: s143 :: s144 :: s145 :: s146 :: s147 :: s148 :: s149 :: s150 :: s151 :: s152 :: s153 :: s154 :: s155 :: s156 :: s157 :: s158 :: s159 :: s160 :: s161 :: []).toArray, defers := [] } W
def NxE2 (h : Int) (a1 : Option Addr) (n c1 : Nat) (ap : Option Addr) (q cp : Nat) (a7 : Option Addr) (c7 : Nat) (W : World) (Q0 : Exit → Act → World → Prop) : Prop := ∀ (s3 s4 s5 s6 s8 s10 s11 s12 s13 s14 s15 s16 s17 s18 s19 s20 s21 s22 s23 s24 s25 s26 s27 s28 s29 s30 s31 s32 s33 s34 s35 s36 s37 s38 s39 s40 s41 s42 s43 s44 s45 s46 s47 s48 s49 s50 s51 s52 s53 s54 s55 s56 s57 s58 s59 s60 s61 s62 s63 s64 s65 s66 s67 s68 s69 s70 s71 s72 s73 s74 s75 s76 s77 s78 s79 s80 s81 s82 s83 s84 s85 s86 s87 s88 s89 s90 s91 s92 s93 s94 s95 s96 s97 s98 s99 s100 s101 s102 s103 s104 s105 s106 s107 s108 s109 s110 s111 s112 s113 s114 s115 s116 s117 s118 s119 s120 s121 s122 s123 s124 s125 s126 s127 s128 s129 s130 s131 s132 s133 s134 s135 s136 s137 s138 s139 s140 s141 s142 s143 s144 s145 s146 s147 s148 s149 s150 s151 s152 s153 s154 s155 s156 s157 s158 s159 s160 s161 : Value), Q0 (.exit 2) { tmps := (.int .i64 h :: .slice a1 n c1 :: .slice ap q cp :: s3 :: s4 :: s5 :: s6 :: .slice a7 n c7 :: s8 :: .int .i64 (q : Int) :: s10 :: s11 :: s12 :: s13 :: s14 :: s15 :: s16 :: s17 :: s18 :: s19 :: s20 :: s21 :: s22 :: s23 :: s24 :: s25 :: s26 :: s27 :: s28 :: s29 :: s30 :: s31 :: s32 :: s33 :: s34 :: s35 :: s36 :: s37 :: s38 :: s39 :: s40 :: s41 :: s42 :: s43 :: s44 :: s45 :: s46 :: s47 :: s48 :: s49 :: s50 :: s51 :: s52 :: s53 :: s54 :: s55 :: s56 :: s57 :: s58 :: s59 :: s60 :: s61 :: s62 :: s63 :: s64 :: s65 :: s66 :: s67 :: s68 :: s69 :: s70 :: s71 :: s72 :: s73 :: s74 :: s75 :: s76 :: s77 :: s78 :: s79 :: s80 :: s81 :: s82 :: s83 :: s84 :: s85 :: s86 :: s87 :: s88 :: s89 :: s90 :: s91 :: s92 :: s93 :: s94 :: s95 :: s96 :: s97 :: s98 :: s99 :: s100 :: s101 :: s102 :: s103 :: s104 :: s105 :: s106 :: s107 :: s108 :: s109 :: s110 :: s111 :: s112 :: s113 :: s114 :: s115 :: s116 :: s117 :: s118 :: s119 :: s120 :: s121 :: s122 :: s123 :: s124 :: s125 :: s126 :: s127 :: s128 :: s129 :: s130 :: s131 :: s132 :: s133 :: s134 :: s135 :: s136 :: s137 :: s138 :: s139 :: s140 :: s141 :: s142 :: s143 :: s144 :: s145 :: s146 :: s147 :: s148 :: s149 :: s150 :: s151 :: s152 :: s153 :: s154 :: s155 :: s156 :: s157 :: s158 :: s159 :: s160 :: s161 :: []).toArray, defers := [] } W
set_option maxRecDepth 100000 in
set_option maxHeartbeats 4000000 in
theorem l2_go (h : Int) (a1 : Option Addr) (n c1 : Nat) (ap : Option Addr) (q cp : Nat) (a7 : Option Addr) (c7 : Nat) (ps : List Int) (i : Nat) (hi : i < q) (hq : q ≤ 4000) (Wt : World) (hP : IsL KI Wt (.slice ap q cp) ps) (x : Int) (hx : ps.getD i 0 = x) (h0 : ¬ x < 0) (h1 : ¬ (n : Int) ≤ x)
    {s3 s4 s5 s6 s8 s10 s11 s12 s13 s14 s15 s16 s17 s18 s19 s20 s21 s22 s23 s24 s25 s26 s27 s28 s29 s30 s31 s32 s33 s34 s35 s36 s37 s38 s39 s40 s41 s42 s43 s44 s45 s46 s47 s48 s49 s50 s51 s52 s53 s54 s55 s56 s57 s58 s59 s60 s61 s62 s63 s64 s65 s66 s67 s68 s69 s70 s71 s72 s73 s74 s75 s76 s77 s78 s79 s80 s81 s82 s83 s84 s85 s86 s87 s88 s89 s90 s91 s92 s93 s94 s95 s96 s97 s98 s99 s100 s101 s102 s103 s104 s105 s106 s107 s108 s109 s110 s111 s112 s113 s114 s115 s116 s117 s118 s119 s120 s121 s122 s123 s124 s125 s126 s127 s128 s129 s130 s131 s132 s133 s134 s135 s136 s137 s138 s139 s140 s141 s142 s143 s144 s145 s146 s147 s148 s149 s150 s151 s152 s153 s154 s155 s156 s157 s158 s159 s160 s161 : Value} (N : Act → World → Prop) (Q0 : Exit → Act → World → Prop) (b r : Code) (hcut : (Tryd.f8.body.bind (loopFor 2)) = some (b, r)) (hN : NxA2 h a1 n c1 ap q cp a7 c7 i Wt N) :
    b.wp Tryd.prog (Exit.then N Q0) { tmps := (.int .i64 h :: .slice a1 n c1 :: .slice ap q cp :: s3 :: s4 :: s5 :: s6 :: .slice a7 n c7 :: s8 :: .int .i64 (i : Int) :: s10 :: s11 :: s12 :: s13 :: s14 :: s15 :: s16 :: s17 :: s18 :: s19 :: s20 :: s21 :: s22 :: s23 :: s24 :: s25 :: s26 :: s27 :: s28 :: s29 :: s30 :: s31 :: s32 :: s33 :: s34 :: s35 :: s36 :: s37 :: s38 :: s39 :: s40 :: s41 :: s42 :: s43 :: s44 :: s45 :: s46 :: s47 :: s48 :: s49 :: s50 :: s51 :: s52 :: s53 :: s54 :: s55 :: s56 :: s57 :: s58 :: s59 :: s60 :: s61 :: s62 :: s63 :: s64 :: s65 :: s66 :: s67 :: s68 :: s69 :: s70 :: s71 :: s72 :: s73 :: s74 :: s75 :: s76 :: s77 :: s78 :: s79 :: s80 :: s81 :: s82 :: s83 :: s84 :: s85 :: s86 :: s87 :: s88 :: s89 :: s90 :: s91 :: s92 :: s93 :: s94 :: s95 :: s96 :: s97 :: s98 :: s99 :: s100 :: s101 :: s102 :: s103 :: s104 :: s105 :: s106 :: s107 :: s108 :: s109 :: s110 :: s111 :: s112 :: s113 :: s114 :: s115 :: s116 :: s117 :: s118 :: s119 :: s120 :: s121 :: s122 :: s123 :: s124 :: s125 :: s126 :: s127 :: s128 :: s129 :: s130 :: s131 :: s132 :: s133 :: s134 :: s135 :: s136 :: s137 :: s138 :: s139 :: s140 :: s141 :: s142 :: s143 :: s144 :: s145 :: s146 :: s147 :: s148 :: s149 :: s150 :: s151 :: s152 :: s153 :: s154 :: s155 :: s156 :: s157 :: s158 :: s159 :: s160 :: s161 :: []).toArray, defers := [] } Wt := by
  have hcc : (Tryd.f8.body.bind (loopFor 2)) = some (_, _) := rfl
  rw [hcc] at hcut
  cases hcut
  clear hcc
  obtain ⟨b0, o0, rfl, hb0, l0⟩ := hP.opens ki hP.len (by omega)
  have cx := l0.ints (j := i) (by rw [hP.len]; exact hi)
  rw [hx] at cx
  have i0 : (0 : Int) ≤ (i : Int) := by omega
  have i1 : (i : Int) < (q : Int) := by omega
  have hwr : IntKind.i64.wrap ((i : Int) + 1) = (i : Int) + 1 := wrapi (by omega) (by omega)
  clear hx
  have HN := hide hN
  clear hN hP l0
  go_wp2_with fail
  exact unhide HN _ _ _ _ _ _ _ _ _ _ _ _ _ _ _ _ _ _ _ _ _ _ _ _ _ _ _ _ _ _ _ _ _ _ _ _ _ _ _ _ _ _ _ _ _ _ _ _ _ _ _ _ _ _ _ _ _ _ _ _ _ _ _ _ _ _ _ _ _ _ _ _ _ _ _ _ _ _ _ _ _ _ _ _ _ _ _ _ _ _ _ _ _ _ _ _ _ _ _ _ _ _ _ _ _ _ _ _ _ _ _ _ _ _ _ _ _ _ _ _ _ _ _ _ _ _ _ _ _ _ _ _ _ _ _ _ _ _ _ _ _ _ _ _ _ _ _ _ _ _ _ _ _ _ _ _ _
set_option maxRecDepth 100000 in
set_option maxHeartbeats 4000000 in
theorem l2_low (h : Int) (a1 : Option Addr) (n c1 : Nat) (ap : Option Addr) (q cp : Nat) (a7 : Option Addr) (c7 : Nat) (ps : List Int) (i : Nat) (hi : i < q) (hq : q ≤ 4000) (Wt : World) (hP : IsL KI Wt (.slice ap q cp) ps) (x : Int) (hx : ps.getD i 0 = x) (h0 : x < 0)
    {s3 s4 s5 s6 s8 s10 s11 s12 s13 s14 s15 s16 s17 s18 s19 s20 s21 s22 s23 s24 s25 s26 s27 s28 s29 s30 s31 s32 s33 s34 s35 s36 s37 s38 s39 s40 s41 s42 s43 s44 s45 s46 s47 s48 s49 s50 s51 s52 s53 s54 s55 s56 s57 s58 s59 s60 s61 s62 s63 s64 s65 s66 s67 s68 s69 s70 s71 s72 s73 s74 s75 s76 s77 s78 s79 s80 s81 s82 s83 s84 s85 s86 s87 s88 s89 s90 s91 s92 s93 s94 s95 s96 s97 s98 s99 s100 s101 s102 s103 s104 s105 s106 s107 s108 s109 s110 s111 s112 s113 s114 s115 s116 s117 s118 s119 s120 s121 s122 s123 s124 s125 s126 s127 s128 s129 s130 s131 s132 s133 s134 s135 s136 s137 s138 s139 s140 s141 s142 s143 s144 s145 s146 s147 s148 s149 s150 s151 s152 s153 s154 s155 s156 s157 s158 s159 s160 s161 : Value} (N : Act → World → Prop) (Q0 : Exit → Act → World → Prop) (b r : Code) (hcut : (Tryd.f8.body.bind (loopFor 2)) = some (b, r)) (w : World) (hX : Below w.heap.size w Wt) (hR : NxRet w Q0) :
    b.wp Tryd.prog (Exit.then N Q0) { tmps := (.int .i64 h :: .slice a1 n c1 :: .slice ap q cp :: s3 :: s4 :: s5 :: s6 :: .slice a7 n c7 :: s8 :: .int .i64 (i : Int) :: s10 :: s11 :: s12 :: s13 :: s14 :: s15 :: s16 :: s17 :: s18 :: s19 :: s20 :: s21 :: s22 :: s23 :: s24 :: s25 :: s26 :: s27 :: s28 :: s29 :: s30 :: s31 :: s32 :: s33 :: s34 :: s35 :: s36 :: s37 :: s38 :: s39 :: s40 :: s41 :: s42 :: s43 :: s44 :: s45 :: s46 :: s47 :: s48 :: s49 :: s50 :: s51 :: s52 :: s53 :: s54 :: s55 :: s56 :: s57 :: s58 :: s59 :: s60 :: s61 :: s62 :: s63 :: s64 :: s65 :: s66 :: s67 :: s68 :: s69 :: s70 :: s71 :: s72 :: s73 :: s74 :: s75 :: s76 :: s77 :: s78 :: s79 :: s80 :: s81 :: s82 :: s83 :: s84 :: s85 :: s86 :: s87 :: s88 :: s89 :: s90 :: s91 :: s92 :: s93 :: s94 :: s95 :: s96 :: s97 :: s98 :: s99 :: s100 :: s101 :: s102 :: s103 :: s104 :: s105 :: s106 :: s107 :: s108 :: s109 :: s110 :: s111 :: s112 :: s113 :: s114 :: s115 :: s116 :: s117 :: s118 :: s119 :: s120 :: s121 :: s122 :: s123 :: s124 :: s125 :: s126 :: s127 :: s128 :: s129 :: s130 :: s131 :: s132 :: s133 :: s134 :: s135 :: s136 :: s137 :: s138 :: s139 :: s140 :: s141 :: s142 :: s143 :: s144 :: s145 :: s146 :: s147 :: s148 :: s149 :: s150 :: s151 :: s152 :: s153 :: s154 :: s155 :: s156 :: s157 :: s158 :: s159 :: s160 :: s161 :: []).toArray, defers := [] } Wt := by
  have hcc : (Tryd.f8.body.bind (loopFor 2)) = some (_, _) := rfl
  rw [hcc] at hcut
  cases hcut
  clear hcc
  obtain ⟨b0, o0, rfl, hb0, l0⟩ := hP.opens ki hP.len (by omega)
  have cx := l0.ints (j := i) (by rw [hP.len]; exact hi)
  rw [hx] at cx
  have i0 : (0 : Int) ≤ (i : Int) := by omega
  have i1 : (i : Int) < (q : Int) := by omega
  have hwr : IntKind.i64.wrap ((i : Int) + 1) = (i : Int) + 1 := wrapi (by omega) (by omega)
  clear hx
  have HR := hide hR; have HX := hide hX
  clear hR hX hP l0
  go_wp2_with fail
  exact unhide HR _ _ _ _ _ _ _ _ _ _ _ _ _ _ _ _ _ _ _ _ _ _ _ _ _ _ _ _ _ _ _ _ _ _ _ _ _ _ _ _ _ _ _ _ _ _ _ _ _ _ _ _ _ _ _ _ _ _ _ _ _ _ _ _ _ _ _ _ _ _ _ _ _ _ _ _ _ _ _ _ _ _ _ _ _ _ _ _ _ _ _ _ _ _ _ _ _ _ _ _ _ _ _ _ _ _ _ _ _ _ _ _ _ _ _ _ _ _ _ _ _ _ _ _ _ _ _ _ _ _ _ _ _ _ _ _ _ _ _ _ _ _ _ _ _ _ _ _ _ _ _ _ _ _ _ _ _ _ _ _ _ _ (unhide HX)
set_option maxRecDepth 100000 in
set_option maxHeartbeats 4000000 in
theorem l2_high (h : Int) (a1 : Option Addr) (n c1 : Nat) (ap : Option Addr) (q cp : Nat) (a7 : Option Addr) (c7 : Nat) (ps : List Int) (i : Nat) (hi : i < q) (hq : q ≤ 4000) (Wt : World) (hP : IsL KI Wt (.slice ap q cp) ps) (x : Int) (hx : ps.getD i 0 = x) (h0 : ¬ x < 0) (h1 : (n : Int) ≤ x)
    {s3 s4 s5 s6 s8 s10 s11 s12 s13 s14 s15 s16 s17 s18 s19 s20 s21 s22 s23 s24 s25 s26 s27 s28 s29 s30 s31 s32 s33 s34 s35 s36 s37 s38 s39 s40 s41 s42 s43 s44 s45 s46 s47 s48 s49 s50 s51 s52 s53 s54 s55 s56 s57 s58 s59 s60 s61 s62 s63 s64 s65 s66 s67 s68 s69 s70 s71 s72 s73 s74 s75 s76 s77 s78 s79 s80 s81 s82 s83 s84 s85 s86 s87 s88 s89 s90 s91 s92 s93 s94 s95 s96 s97 s98 s99 s100 s101 s102 s103 s104 s105 s106 s107 s108 s109 s110 s111 s112 s113 s114 s115 s116 s117 s118 s119 s120 s121 s122 s123 s124 s125 s126 s127 s128 s129 s130 s131 s132 s133 s134 s135 s136 s137 s138 s139 s140 s141 s142 s143 s144 s145 s146 s147 s148 s149 s150 s151 s152 s153 s154 s155 s156 s157 s158 s159 s160 s161 : Value} (N : Act → World → Prop) (Q0 : Exit → Act → World → Prop) (b r : Code) (hcut : (Tryd.f8.body.bind (loopFor 2)) = some (b, r)) (w : World) (hX : Below w.heap.size w Wt) (hR : NxRet w Q0) :
    b.wp Tryd.prog (Exit.then N Q0) { tmps := (.int .i64 h :: .slice a1 n c1 :: .slice ap q cp :: s3 :: s4 :: s5 :: s6 :: .slice a7 n c7 :: s8 :: .int .i64 (i : Int) :: s10 :: s11 :: s12 :: s13 :: s14 :: s15 :: s16 :: s17 :: s18 :: s19 :: s20 :: s21 :: s22 :: s23 :: s24 :: s25 :: s26 :: s27 :: s28 :: s29 :: s30 :: s31 :: s32 :: s33 :: s34 :: s35 :: s36 :: s37 :: s38 :: s39 :: s40 :: s41 :: s42 :: s43 :: s44 :: s45 :: s46 :: s47 :: s48 :: s49 :: s50 :: s51 :: s52 :: s53 :: s54 :: s55 :: s56 :: s57 :: s58 :: s59 :: s60 :: s61 :: s62 :: s63 :: s64 :: s65 :: s66 :: s67 :: s68 :: s69 :: s70 :: s71 :: s72 :: s73 :: s74 :: s75 :: s76 :: s77 :: s78 :: s79 :: s80 :: s81 :: s82 :: s83 :: s84 :: s85 :: s86 :: s87 :: s88 :: s89 :: s90 :: s91 :: s92 :: s93 :: s94 :: s95 :: s96 :: s97 :: s98 :: s99 :: s100 :: s101 :: s102 :: s103 :: s104 :: s105 :: s106 :: s107 :: s108 :: s109 :: s110 :: s111 :: s112 :: s113 :: s114 :: s115 :: s116 :: s117 :: s118 :: s119 :: s120 :: s121 :: s122 :: s123 :: s124 :: s125 :: s126 :: s127 :: s128 :: s129 :: s130 :: s131 :: s132 :: s133 :: s134 :: s135 :: s136 :: s137 :: s138 :: s139 :: s140 :: s141 :: s142 :: s143 :: s144 :: s145 :: s146 :: s147 :: s148 :: s149 :: s150 :: s151 :: s152 :: s153 :: s154 :: s155 :: s156 :: s157 :: s158 :: s159 :: s160 :: s161 :: []).toArray, defers := [] } Wt := by
  have hcc : (Tryd.f8.body.bind (loopFor 2)) = some (_, _) := rfl
  rw [hcc] at hcut
  cases hcut
  clear hcc
  obtain ⟨b0, o0, rfl, hb0, l0⟩ := hP.opens ki hP.len (by omega)
  have cx := l0.ints (j := i) (by rw [hP.len]; exact hi)
  rw [hx] at cx
  have i0 : (0 : Int) ≤ (i : Int) := by omega
  have i1 : (i : Int) < (q : Int) := by omega
  have hwr : IntKind.i64.wrap ((i : Int) + 1) = (i : Int) + 1 := wrapi (by omega) (by omega)
  clear hx
  have HR := hide hR; have HX := hide hX
  clear hR hX hP l0
  go_wp2_with fail
  exact unhide HR _ _ _ _ _ _ _ _ _ _ _ _ _ _ _ _ _ _ _ _ _ _ _ _ _ _ _ _ _ _ _ _ _ _ _ _ _ _ _ _ _ _ _ _ _ _ _ _ _ _ _ _ _ _ _ _ _ _ _ _ _ _ _ _ _ _ _ _ _ _ _ _ _ _ _ _ _ _ _ _ _ _ _ _ _ _ _ _ _ _ _ _ _ _ _ _ _ _ _ _ _ _ _ _ _ _ _ _ _ _ _ _ _ _ _ _ _ _ _ _ _ _ _ _ _ _ _ _ _ _ _ _ _ _ _ _ _ _ _ _ _ _ _ _ _ _ _ _ _ _ _ _ _ _ _ _ _ _ _ _ _ _ (unhide HX)
set_option maxRecDepth 100000 in
set_option maxHeartbeats 4000000 in
theorem l2_end (h : Int) (a1 : Option Addr) (n c1 : Nat) (ap : Option Addr) (q cp : Nat) (a7 : Option Addr) (c7 : Nat) (Wt : World)
    {s3 s4 s5 s6 s8 s10 s11 s12 s13 s14 s15 s16 s17 s18 s19 s20 s21 s22 s23 s24 s25 s26 s27 s28 s29 s30 s31 s32 s33 s34 s35 s36 s37 s38 s39 s40 s41 s42 s43 s44 s45 s46 s47 s48 s49 s50 s51 s52 s53 s54 s55 s56 s57 s58 s59 s60 s61 s62 s63 s64 s65 s66 s67 s68 s69 s70 s71 s72 s73 s74 s75 s76 s77 s78 s79 s80 s81 s82 s83 s84 s85 s86 s87 s88 s89 s90 s91 s92 s93 s94 s95 s96 s97 s98 s99 s100 s101 s102 s103 s104 s105 s106 s107 s108 s109 s110 s111 s112 s113 s114 s115 s116 s117 s118 s119 s120 s121 s122 s123 s124 s125 s126 s127 s128 s129 s130 s131 s132 s133 s134 s135 s136 s137 s138 s139 s140 s141 s142 s143 s144 s145 s146 s147 s148 s149 s150 s151 s152 s153 s154 s155 s156 s157 s158 s159 s160 s161 : Value} (N : Act → World → Prop) (Q0 : Exit → Act → World → Prop) (b r : Code) (hcut : (Tryd.f8.body.bind (loopFor 2)) = some (b, r)) (hE : NxE2 h a1 n c1 ap q cp a7 c7 Wt Q0) :
    b.wp Tryd.prog (Exit.then N Q0) { tmps := (.int .i64 h :: .slice a1 n c1 :: .slice ap q cp :: s3 :: s4 :: s5 :: s6 :: .slice a7 n c7 :: s8 :: .int .i64 (q : Int) :: s10 :: s11 :: s12 :: s13 :: s14 :: s15 :: s16 :: s17 :: s18 :: s19 :: s20 :: s21 :: s22 :: s23 :: s24 :: s25 :: s26 :: s27 :: s28 :: s29 :: s30 :: s31 :: s32 :: s33 :: s34 :: s35 :: s36 :: s37 :: s38 :: s39 :: s40 :: s41 :: s42 :: s43 :: s44 :: s45 :: s46 :: s47 :: s48 :: s49 :: s50 :: s51 :: s52 :: s53 :: s54 :: s55 :: s56 :: s57 :: s58 :: s59 :: s60 :: s61 :: s62 :: s63 :: s64 :: s65 :: s66 :: s67 :: s68 :: s69 :: s70 :: s71 :: s72 :: s73 :: s74 :: s75 :: s76 :: s77 :: s78 :: s79 :: s80 :: s81 :: s82 :: s83 :: s84 :: s85 :: s86 :: s87 :: s88 :: s89 :: s90 :: s91 :: s92 :: s93 :: s94 :: s95 :: s96 :: s97 :: s98 :: s99 :: s100 :: s101 :: s102 :: s103 :: s104 :: s105 :: s106 :: s107 :: s108 :: s109 :: s110 :: s111 :: s112 :: s113 :: s114 :: s115 :: s116 :: s117 :: s118 :: s119 :: s120 :: s121 :: s122 :: s123 :: s124 :: s125 :: s126 :: s127 :: s128 :: s129 :: s130 :: s131 :: s132 :: s133 :: s134 :: s135 :: s136 :: s137 :: s138 :: s139 :: s140 :: s141 :: s142 :: s143 :: s144 :: s145 :: s146 :: s147 :: s148 :: s149 :: s150 :: s151 :: s152 :: s153 :: s154 :: s155 :: s156 :: s157 :: s158 :: s159 :: s160 :: s161 :: []).toArray, defers := [] } Wt := by
  have hcc : (Tryd.f8.body.bind (loopFor 2)) = some (_, _) := rfl
  rw [hcc] at hcut
  cases hcut
  clear hcc
  have HE := hide hE
  clear hE
  have i1 : ¬ (q : Int) < (q : Int) := by omega
  go_wp2_with fail
  exact unhide HE _ _ _ _ _ _ _ _ _ _ _ _ _ _ _ _ _ _ _ _ _ _ _ _ _ _ _ _ _ _ _ _ _ _ _ _ _ _ _ _ _ _ _ _ _ _ _ _ _ _ _ _ _ _ _ _ _ _ _ _ _ _ _ _ _ _ _ _ _ _ _ _ _ _ _ _ _ _ _ _ _ _ _ _ _ _ _ _ _ _ _ _ _ _ _ _ _ _ _ _ _ _ _ _ _ _ _ _ _ _ _ _ _ _ _ _ _ _ _ _ _ _ _ _ _ _ _ _ _ _ _ _ _ _ _ _ _ _ _ _ _ _ _ _ _ _ _ _ _ _ _ _ _ _ _ _ _
theorem l2_rounds (w : World) (h : Int) (a1 : Option Addr) (n c1 : Nat) (ap : Option Addr) (q cp : Nat) (a7 : Option Addr) (c7 : Nat) (ps : List Int) (hq : q ≤ 4000) (Wt : World) (hX : Below w.heap.size w Wt) (hP : IsL KI Wt (.slice ap q cp) ps) (Q0 : Exit → Act → World → Prop) (b r : Code) (hcut : (Tryd.f8.body.bind (loopFor 2)) = some (b, r)) (hE : (∀ i, i < q → 0 ≤ ps.getD i 0 ∧ ps.getD i 0 < n) → NxE2 h a1 n c1 ap q cp a7 c7 Wt Q0) (hR : NxRet w Q0) :
    ∀ (k i : Nat), i + k = q → (∀ j, j < i → 0 ≤ ps.getD j 0 ∧ ps.getD j 0 < n) → ∀ (s3 s4 s5 s6 s8 s10 s11 s12 s13 s14 s15 s16 s17 s18 s19 s20 s21 s22 s23 s24 s25 s26 s27 s28 s29 s30 s31 s32 s33 s34 s35 s36 s37 s38 s39 s40 s41 s42 s43 s44 s45 s46 s47 s48 s49 s50 s51 s52 s53 s54 s55 s56 s57 s58 s59 s60 s61 s62 s63 s64 s65 s66 s67 s68 s69 s70 s71 s72 s73 s74 s75 s76 s77 s78 s79 s80 s81 s82 s83 s84 s85 s86 s87 s88 s89 s90 s91 s92 s93 s94 s95 s96 s97 s98 s99 s100 s101 s102 s103 s104 s105 s106 s107 s108 s109 s110 s111 s112 s113 s114 s115 s116 s117 s118 s119 s120 s121 s122 s123 s124 s125 s126 s127 s128 s129 s130 s131 s132 s133 s134 s135 s136 s137 s138 s139 s140 s141 s142 s143 s144 s145 s146 s147 s148 s149 s150 s151 s152 s153 s154 s155 s156 s157 s158 s159 s160 s161 : Value), Code.rounds Tryd.prog b Q0 (k + 1) { tmps := (.int .i64 h :: .slice a1 n c1 :: .slice ap q cp :: s3 :: s4 :: s5 :: s6 :: .slice a7 n c7 :: s8 :: .int .i64 (i : Int) :: s10 :: s11 :: s12 :: s13 :: s14 :: s15 :: s16 :: s17 :: s18 :: s19 :: s20 :: s21 :: s22 :: s23 :: s24 :: s25 :: s26 :: s27 :: s28 :: s29 :: s30 :: s31 :: s32 :: s33 :: s34 :: s35 :: s36 :: s37 :: s38 :: s39 :: s40 :: s41 :: s42 :: s43 :: s44 :: s45 :: s46 :: s47 :: s48 :: s49 :: s50 :: s51 :: s52 :: s53 :: s54 :: s55 :: s56 :: s57 :: s58 :: s59 :: s60 :: s61 :: s62 :: s63 :: s64 :: s65 :: s66 :: s67 :: s68 :: s69 :: s70 :: s71 :: s72 :: s73 :: s74 :: s75 :: s76 :: s77 :: s78 :: s79 :: s80 :: s81 :: s82 :: s83 :: s84 :: s85 :: s86 :: s87 :: s88 :: s89 :: s90 :: s91 :: s92 :: s93 :: s94 :: s95 :: s96 :: s97 :: s98 :: s99 :: s100 :: s101 :: s102 :: s103 :: s104 :: s105 :: s106 :: s107 :: s108 :: s109 :: s110 :: s111 :: s112 :: s113 :: s114 :: s115 :: s116 :: s117 :: s118 :: s119 :: s120 :: s121 :: s122 :: s123 :: s124 :: s125 :: s126 :: s127 :: s128 :: s129 :: s130 :: s131 :: s132 :: s133 :: s134 :: s135 :: s136 :: s137 :: s138 :: s139 :: s140 :: s141 :: s142 :: s143 :: s144 :: s145 :: s146 :: s147 :: s148 :: s149 :: s150 :: s151 :: s152 :: s153 :: s154 :: s155 :: s156 :: s157 :: s158 :: s159 :: s160 :: s161 :: []).toArray, defers := [] } Wt := by
  intro k
  induction k with
  | zero =>
    intro i hi hj
    obtain rfl : i = q := by omega
    intros
    exact l2_end h a1 n c1 ap i cp a7 c7 Wt _ Q0 b r hcut (hE hj)
  | succ k ih =>
    intro i hi hj
    intros
    by_cases h0 : ps.getD i 0 < 0
    · exact l2_low h a1 n c1 ap q cp a7 c7 ps i (by omega) hq Wt hP _ rfl h0 _ Q0 b r hcut w hX hR
    by_cases h1 : (n : Int) ≤ ps.getD i 0
    · exact l2_high h a1 n c1 ap q cp a7 c7 ps i (by omega) hq Wt hP _ rfl h0 h1 _ Q0 b r hcut w hX hR
    refine l2_go h a1 n c1 ap q cp a7 c7 ps i (by omega) hq Wt hP _ rfl h0 h1 _ Q0 b r hcut ?_
    unfold NxA2
    intros
    exact ih (i + 1) (by omega) (fun j hj' => if e : j = i then by rw [e]; omega else hj j (by omega)) _ _ _ _ _ _ _ _ _ _ _ _ _ _ _ _ _ _ _ _ _ _ _ _ _ _ _ _ _ _ _ _ _ _ _ _ _ _ _ _ _ _ _ _ _ _ _ _ _ _ _ _ _ _ _ _ _ _ _ _ _ _ _ _ _ _ _ _ _ _ _ _ _ _ _ _ _ _ _ _ _ _ _ _ _ _ _ _ _ _ _ _ _ _ _ _ _ _ _ _ _ _ _ _ _ _ _ _ _ _ _ _ _ _ _ _ _ _ _ _ _ _ _ _ _ _ _ _ _ _ _ _ _ _ _ _ _ _ _ _ _ _ _ _ _ _ _ _ _ _ _ _ _ _ _ _ _
theorem l2_loop (w : World) (h : Int) (a1 : Option Addr) (n c1 : Nat) (ap : Option Addr) (q cp : Nat) (a7 : Option Addr) (c7 : Nat) (ws : List Int) (us : List Sl) (ps : List Int) (hn0 : 0 < n) (hn : n ≤ 64) (hq : q ≤ 4000) (hW : IsL KI w (.slice a1 n c1) ws) (hP : IsL KI w (.slice ap q cp) ps) (hne : ∀ i, i < n → ws.getD i 0 ≠ h) (Wt : World) (hI : Wi w Wt h ws (.slice a7 n c7) us)
    (K : Act → World → Prop) (b r : Code) (hK : ∀ a w', r.wp Tryd.prog (bodyPost Tryd.prog Tryd.f8 fun e w' => e = .returned (.bool true) ∧ Below w.heap.size w w') a w' → K a w') (hcut : (Tryd.f8.body.bind (loopFor 2)) = some (b, r)) {s3 s4 s5 s6 s8 s10 s11 s12 s13 s14 s15 s16 s17 s18 s19 s20 s21 s22 s23 s24 s25 s26 s27 s28 s29 s30 s31 s32 s33 s34 s35 s36 s37 s38 s39 s40 s41 s42 s43 s44 s45 s46 s47 s48 s49 s50 s51 s52 s53 s54 s55 s56 s57 s58 s59 s60 s61 s62 s63 s64 s65 s66 s67 s68 s69 s70 s71 s72 s73 s74 s75 s76 s77 s78 s79 s80 s81 s82 s83 s84 s85 s86 s87 s88 s89 s90 s91 s92 s93 s94 s95 s96 s97 s98 s99 s100 s101 s102 s103 s104 s105 s106 s107 s108 s109 s110 s111 s112 s113 s114 s115 s116 s117 s118 s119 s120 s121 s122 s123 s124 s125 s126 s127 s128 s129 s130 s131 s132 s133 s134 s135 s136 s137 s138 s139 s140 s141 s142 s143 s144 s145 s146 s147 s148 s149 s150 s151 s152 s153 s154 s155 s156 s157 s158 s159 s160 s161 : Value} :
    (Code.loop b).wp Tryd.prog (Exit.inBlock 2 (Exit.then K (bodyPost Tryd.prog Tryd.f8 fun e w' => e = .returned (.bool true) ∧ Below w.heap.size w w'))) { tmps := (.int .i64 h :: .slice a1 n c1 :: .slice ap q cp :: s3 :: s4 :: s5 :: s6 :: .slice a7 n c7 :: s8 :: .int .i64 0 :: s10 :: s11 :: s12 :: s13 :: s14 :: s15 :: s16 :: s17 :: s18 :: s19 :: s20 :: s21 :: s22 :: s23 :: s24 :: s25 :: s26 :: s27 :: s28 :: s29 :: s30 :: s31 :: s32 :: s33 :: s34 :: s35 :: s36 :: s37 :: s38 :: s39 :: s40 :: s41 :: s42 :: s43 :: s44 :: s45 :: s46 :: s47 :: s48 :: s49 :: s50 :: s51 :: s52 :: s53 :: s54 :: s55 :: s56 :: s57 :: s58 :: s59 :: s60 :: s61 :: s62 :: s63 :: s64 :: s65 :: s66 :: s67 :: s68 :: s69 :: s70 :: s71 :: s72 :: s73 :: s74 :: s75 :: s76 :: s77 :: s78 :: s79 :: s80 :: s81 :: s82 :: s83 :: s84 :: s85 :: s86 :: s87 :: s88 :: s89 :: s90 :: s91 :: s92 :: s93 :: s94 :: s95 :: s96 :: s97 :: s98 :: s99 :: s100 :: s101 :: s102 :: s103 :: s104 :: s105 :: s106 :: s107 :: s108 :: s109 :: s110 :: s111 :: s112 :: s113 :: s114 :: s115 :: s116 :: s117 :: s118 :: s119 :: s120 :: s121 :: s122 :: s123 :: s124 :: s125 :: s126 :: s127 :: s128 :: s129 :: s130 :: s131 :: s132 :: s133 :: s134 :: s135 :: s136 :: s137 :: s138 :: s139 :: s140 :: s141 :: s142 :: s143 :: s144 :: s145 :: s146 :: s147 :: s148 :: s149 :: s150 :: s151 :: s152 :: s153 :: s154 :: s155 :: s156 :: s157 :: s158 :: s159 :: s160 :: s161 :: []).toArray, defers := [] } Wt := by
  refine wp_loop_rounds (q + 1) ?_
  refine l2_rounds w h a1 n c1 ap q cp a7 c7 ps hq Wt hI.be (hP.below hI.be) _ b r hcut ?_ (ret_any w K 2) q 0 (by omega) (fun j hj => by omega) _ _ _ _ _ _ _ _ _ _ _ _ _ _ _ _ _ _ _ _ _ _ _ _ _ _ _ _ _ _ _ _ _ _ _ _ _ _ _ _ _ _ _ _ _ _ _ _ _ _ _ _ _ _ _ _ _ _ _ _ _ _ _ _ _ _ _ _ _ _ _ _ _ _ _ _ _ _ _ _ _ _ _ _ _ _ _ _ _ _ _ _ _ _ _ _ _ _ _ _ _ _ _ _ _ _ _ _ _ _ _ _ _ _ _ _ _ _ _ _ _ _ _ _ _ _ _ _ _ _ _ _ _ _ _ _ _ _ _ _ _ _ _ _ _ _ _ _ _ _ _ _ _ _ _ _ _
  intro hall
  unfold NxE2
  intros
  have hlp := hP.len
  exact in_b0 (hK _ _ (part17 w h a1 n c1 ap q cp a7 c7 ws us ps hn0 hn hq hW hP hne (fun x hx => by
    obtain ⟨j, hj, e⟩ := List.getElem_of_mem hx
    have := hall j (by omega)
    rw [List.getD_eq_getElem?_getD, List.getElem?_eq_getElem hj] at this
    rw [← e]
    exact this) Wt hI b r hcut))

set_option maxRecDepth 100000 in
set_option maxHeartbeats 4000000 in
theorem part12 (w : World) (h : Int) (a1 : Option Addr) (n c1 : Nat) (ap : Option Addr) (q cp : Nat) (a7 : Option Addr) (c7 : Nat) (ws : List Int) (us : List Sl) (ps : List Int) (hn0 : 0 < n) (hn : n ≤ 64) (hq : q ≤ 4000) (hW : IsL KI w (.slice a1 n c1) ws) (hP : IsL KI w (.slice ap q cp) ps) (hne : ∀ i, i < n → ws.getD i 0 ≠ h) (Wt : World) (hI : Wi w Wt h ws (.slice a7 n c7) us)
    {s3 s4 s5 s6 s8 s9 s10 s11 s12 s13 s14 s15 s16 s17 s18 s19 s20 s21 s22 s23 s24 s25 s26 s27 s28 s29 s30 s31 s32 s33 s34 s35 s36 s37 s38 s39 s40 s41 s42 s43 s44 s45 s46 s47 s48 s49 s50 s51 s52 s53 s54 s55 s56 s57 s58 s59 s60 s61 s62 s63 s64 s65 s66 s67 s68 s69 s70 s71 s72 s73 s74 s75 s76 s77 s78 s79 s80 s81 s82 s83 s84 s85 s86 s87 s88 s89 s90 s91 s92 s93 s94 s95 s96 s97 s98 s99 s100 s101 s102 s103 s104 s105 s106 s107 s108 s109 s110 s111 s112 s113 s114 s115 s116 s117 s118 s119 s120 s121 s122 s123 s124 s125 s126 s127 s128 s129 s130 s131 s132 s133 s134 s135 s136 s137 s138 s139 s140 s141 s142 s143 s144 s145 s146 s147 s148 s149 s150 s151 s152 s153 s154 s155 s156 s157 s158 s159 s160 s161 : Value} (b r : Code) (hcut : (Tryd.f8.body.bind (loopFor 0)) = some (b, r)) :
    r.wp Tryd.prog (bodyPost Tryd.prog Tryd.f8 fun e w' => e = .returned (.bool true) ∧ Below w.heap.size w w') { tmps := (.int .i64 h :: .slice a1 n c1 :: .slice ap q cp :: s3 :: s4 :: s5 :: s6 :: .slice a7 n c7 :: s8 :: s9 :: s10 :: s11 :: s12 :: s13 :: s14 :: s15 :: s16 :: s17 :: s18 :: s19 :: s20 :: s21 :: s22 :: s23 :: s24 :: s25 :: s26 :: s27 :: s28 :: s29 :: s30 :: s31 :: s32 :: s33 :: s34 :: s35 :: s36 :: s37 :: s38 :: s39 :: s40 :: s41 :: s42 :: s43 :: s44 :: s45 :: s46 :: s47 :: s48 :: s49 :: s50 :: s51 :: s52 :: s53 :: s54 :: s55 :: s56 :: s57 :: s58 :: s59 :: s60 :: s61 :: s62 :: s63 :: s64 :: s65 :: s66 :: s67 :: s68 :: s69 :: s70 :: s71 :: s72 :: s73 :: s74 :: s75 :: s76 :: s77 :: s78 :: s79 :: s80 :: s81 :: s82 :: s83 :: s84 :: s85 :: s86 :: s87 :: s88 :: s89 :: s90 :: s91 :: s92 :: s93 :: s94 :: s95 :: s96 :: s97 :: s98 :: s99 :: s100 :: s101 :: s102 :: s103 :: s104 :: s105 :: s106 :: s107 :: s108 :: s109 :: s110 :: s111 :: s112 :: s113 :: s114 :: s115 :: s116 :: s117 :: s118 :: s119 :: s120 :: s121 :: s122 :: s123 :: s124 :: s125 :: s126 :: s127 :: s128 :: s129 :: s130 :: s131 :: s132 :: s133 :: s134 :: s135 :: s136 :: s137 :: s138 :: s139 :: s140 :: s141 :: s142 :: s143 :: s144 :: s145 :: s146 :: s147 :: s148 :: s149 :: s150 :: s151 :: s152 :: s153 :: s154 :: s155 :: s156 :: s157 :: s158 :: s159 :: s160 :: s161 :: []).toArray, defers := [] } Wt := by
  have hcc : (Tryd.f8.body.bind (loopFor 0)) = some (_, _) := rfl
  rw [hcc] at hcut
  cases hcut
  clear hcc
  have HI := hide hI; have HW := hide hW; have HP := hide hP; have HNE := hide hne
  clear hI hW hP hne
  go_wp2_with fail
  exact l2_loop w h a1 n c1 ap q cp a7 c7 ws us ps hn0 hn hq (unhide HW) (unhide HP) (unhide HNE) Wt (unhide HI) _ _ _ (by assumption) (by kernel_rfl)

theorem l0_loop (w : World) (h : Int) (a1 : Option Addr) (n c1 : Nat) (ap : Option Addr) (q cp : Nat) (ws ps : List Int) (hn0 : 0 < n) (hn : n ≤ 64) (hq : q ≤ 4000) (hW : IsL KI w (.slice a1 n c1) ws) (hP : IsL KI w (.slice ap q cp) ps) (Wt : World) (hX : Below w.heap.size w Wt)
    (K : Act → World → Prop) (b r : Code) (hK : ∀ a w', r.wp Tryd.prog (bodyPost Tryd.prog Tryd.f8 fun e w' => e = .returned (.bool true) ∧ Below w.heap.size w w') a w' → K a w') (hcut : (Tryd.f8.body.bind (loopFor 0)) = some (b, r)) {s3 s4 s5 s6 s9 s10 s11 s12 s13 s14 s15 s16 s17 s18 s19 s20 s21 s22 s23 s24 s25 s26 s27 s28 s29 s30 s31 s32 s33 s34 s35 s36 s37 s38 s39 s40 s41 s42 s43 s44 s45 s46 s47 s48 s49 s50 s51 s52 s53 s54 s55 s56 s57 s58 s59 s60 s61 s62 s63 s64 s65 s66 s67 s68 s69 s70 s71 s72 s73 s74 s75 s76 s77 s78 s79 s80 s81 s82 s83 s84 s85 s86 s87 s88 s89 s90 s91 s92 s93 s94 s95 s96 s97 s98 s99 s100 s101 s102 s103 s104 s105 s106 s107 s108 s109 s110 s111 s112 s113 s114 s115 s116 s117 s118 s119 s120 s121 s122 s123 s124 s125 s126 s127 s128 s129 s130 s131 s132 s133 s134 s135 s136 s137 s138 s139 s140 s141 s142 s143 s144 s145 s146 s147 s148 s149 s150 s151 s152 s153 s154 s155 s156 s157 s158 s159 s160 s161 : Value} :
    (Code.loop b).wp Tryd.prog (Exit.inBlock 0 (Exit.then K (bodyPost Tryd.prog Tryd.f8 fun e w' => e = .returned (.bool true) ∧ Below w.heap.size w w'))) { tmps := (.int .i64 h :: .slice a1 n c1 :: .slice ap q cp :: s3 :: s4 :: s5 :: s6 :: .slice none 0 0 :: .int .i64 0 :: s9 :: s10 :: s11 :: s12 :: s13 :: s14 :: s15 :: s16 :: s17 :: s18 :: s19 :: s20 :: s21 :: s22 :: s23 :: s24 :: s25 :: s26 :: s27 :: s28 :: s29 :: s30 :: s31 :: s32 :: s33 :: s34 :: s35 :: s36 :: s37 :: s38 :: s39 :: s40 :: s41 :: s42 :: s43 :: s44 :: s45 :: s46 :: s47 :: s48 :: s49 :: s50 :: s51 :: s52 :: s53 :: s54 :: s55 :: s56 :: s57 :: s58 :: s59 :: s60 :: s61 :: s62 :: s63 :: s64 :: s65 :: s66 :: s67 :: s68 :: s69 :: s70 :: s71 :: s72 :: s73 :: s74 :: s75 :: s76 :: s77 :: s78 :: s79 :: s80 :: s81 :: s82 :: s83 :: s84 :: s85 :: s86 :: s87 :: s88 :: s89 :: s90 :: s91 :: s92 :: s93 :: s94 :: s95 :: s96 :: s97 :: s98 :: s99 :: s100 :: s101 :: s102 :: s103 :: s104 :: s105 :: s106 :: s107 :: s108 :: s109 :: s110 :: s111 :: s112 :: s113 :: s114 :: s115 :: s116 :: s117 :: s118 :: s119 :: s120 :: s121 :: s122 :: s123 :: s124 :: s125 :: s126 :: s127 :: s128 :: s129 :: s130 :: s131 :: s132 :: s133 :: s134 :: s135 :: s136 :: s137 :: s138 :: s139 :: s140 :: s141 :: s142 :: s143 :: s144 :: s145 :: s146 :: s147 :: s148 :: s149 :: s150 :: s151 :: s152 :: s153 :: s154 :: s155 :: s156 :: s157 :: s158 :: s159 :: s160 :: s161 :: []).toArray, defers := [] } Wt := by
  refine wp_loop_rounds (n + 1) ?_
  refine l0_rounds w h a1 n c1 ap q cp ws hn hW _ b r hcut ?_ (ret_any w K 0) n 0 (by omega) (fun j hj => by omega) _ _ _ _ _ _ _ _ _ _ _ _ _ _ _ _ _ _ _ _ _ _ _ _ _ _ _ _ _ _ _ _ _ _ _ _ _ _ _ _ _ _ _ _ _ _ _ _ _ _ _ _ _ _ _ _ _ _ _ _ _ _ _ _ _ _ _ _ _ _ _ _ _ _ _ _ _ _ _ _ _ _ _ _ _ _ _ _ _ _ _ _ _ _ _ _ _ _ _ _ _ _ _ _ _ _ _ _ _ _ _ _ _ _ _ _ _ _ _ _ _ _ _ _ _ _ _ _ _ _ _ _ _ _ _ _ _ _ _ _ _ _ _ _ _ _ _ _ _ _ _ _ _ _ _ _ _ (.slice none 0 0) [] Wt hX (own_nil _ _) ⟨rfl, fun k hk => by omega⟩
  intro hne
  unfold NxE0
  intros
  rename_i v7 us W' hX' hO' hT'
  have hlu := hT'.len
  obtain ⟨a7, c7, e7⟩ := hO'.form
  rw [hlu] at e7
  subst e7
  have hlw := hW.len
  exact in_b0 (hK _ _ (part12 w h a1 n c1 ap q cp a7 c7 ws us ps hn0 hn hq hW hP hne W' ⟨hX', hO', by rw [hlw]; exact hT'⟩ b r hcut))

set_option maxRecDepth 100000 in
set_option maxHeartbeats 4000000 in
theorem wins_walk (w : World) (h : Int) (v1 v2 : Value) (ws ps : List Int) (hW : IsL KI w v1 ws) (hP : IsL KI w v2 ps) : Calls Tryd.prog 8 #[.int .i64 h, v1, v2] w fun e w' => e = .returned (.bool true) ∧ Below w.heap.size w w' := by
  have hnot : ∀ (x : Bool) (w : World), (Op.unary .not (.bool x)).run Tryd.prog w = .ok (.bool (!x)) w := fun _ _ => rfl
  obtain ⟨a1, c1, rfl⟩ := hW.form
  obtain ⟨ap, cp, rfl⟩ := hP.form
  obtain ⟨n, en⟩ : ∃ n, ws.length = n := ⟨_, rfl⟩
  obtain ⟨q, eq⟩ : ∃ n, ps.length = n := ⟨_, rfl⟩
  rw [en] at hW ⊢
  rw [eq] at hP ⊢
  have HW := hide hW; have HP := hide hP
  clear hW hP en eq
  by_cases h1 : n < 1
  · have x1 : (n : Int) < 1 := by omega
    go_enter Tryd.func8, Tryd.ntmps8
    go_wp2_with (go_at_call 14; refine (begun_any _).mono ?_; rintro e w1 ⟨rfl, hb1⟩; have HX := hide hb1; clear hb1)
    go_ret
    exact ⟨rfl, unhide HX⟩
  by_cases h2 : 64 < n
  · have x1 : ¬ (n : Int) < 1 := by omega
    have x2 : (64 : Int) < (n : Int) := by omega
    go_enter Tryd.func8, Tryd.ntmps8
    go_wp2_with (go_at_call 14; refine (begun_any _).mono ?_; rintro e w1 ⟨rfl, hb1⟩; have HX := hide hb1; clear hb1)
    go_ret
    exact ⟨rfl, unhide HX⟩
  by_cases h3 : 4000 < q
  · have x1 : ¬ (n : Int) < 1 := by omega
    have x2 : ¬ (64 : Int) < (n : Int) := by omega
    have x3 : (4000 : Int) < (q : Int) := by omega
    go_enter Tryd.func8, Tryd.ntmps8
    go_wp2_with (go_at_call 14; refine (begun_any _).mono ?_; rintro e w1 ⟨rfl, hb1⟩; have HX := hide hb1; clear hb1)
    go_ret
    exact ⟨rfl, unhide HX⟩
  have x1 : ¬ (n : Int) < 1 := by omega
  have x2 : ¬ (64 : Int) < (n : Int) := by omega
  have x3 : ¬ (4000 : Int) < (q : Int) := by omega
  go_enter Tryd.func8, Tryd.ntmps8
  go_upto_region 5 with (go_at_call 14; refine (begun_any _).mono ?_; rintro e w1 ⟨rfl, hb1⟩; have HX := hide hb1; clear hb1)
  go_wp2_with fail
  exact l0_loop w h a1 n c1 ap q cp ws ps (by omega) (by omega) (by omega) (unhide HW) (unhide HP) w1 (unhide HX) _ _ _ (by assumption) (by kernel_rfl)

end Go.Proofs.YtpgokeogijpmaaaDoor.Mx
