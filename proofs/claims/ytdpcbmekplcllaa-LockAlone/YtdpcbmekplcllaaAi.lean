/-
  taskmilllaw.LockAlone: the search for one who holds the lock.
-/
import Derived.Test.YtdpcbmekplcllaaAg
import Derived.Test.YtdpcbmekplcllaaAe
namespace Go.Proofs.Ytdpcbmekplcllaa
open Go.RowKit

def loopOf : Code → Option Code
  | .loop b => some b
  | _ => none
/-- What follows a round of the search. -/
def NxF (BM BL BK BE i j : Nat) (Wt : World) (N : Act → World → Prop) : Prop := ∀ (s0 s2 s8 s9 s10 s11 s13 s14 s15 s16 s17 s18 s19 s20 s21 s22 s23 s24 s25 s26 s27 s28 s29 s30 s31 s32 s33 s34 s35 s36 s37 s38 s39 s40 s41 s42 s43 s44 s45 s46 s47 s48 s49 s50 s51 s52 s53 s54 s55 s56 s57 s58 s59 s60 s61 s62 s63 s64 s65 s66 s67 s68 s69 s70 s71 s72 s73 s74 s75 s76 s77 s78 s79 s80 s81 s82 s83 s84 s85 s86 s87 s88 s89 s90 s91 s92 s93 s94 s95 s96 s97 s98 s99 s100 s101 s102 s103 s104 s105 s106 s107 s108 s109 s110 s111 s112 s113 s114 s115 s116 s117 s118 s119 s120 s121 s122 s123 s124 s125 s126 s127 s128 s129 s130 s131 s132 s133 s134 s135 s136 s137 s138 s139 s140 s141 s142 s143 s144 s145 s146 s147 s148 s149 s150 s151 s152 s153 s154 s155 s156 s157 s158 s159 s160 s161 s162 s163 s164 s165 s166 s167 s168 s169 s170 s171 s172 s173 s174 s175 s176 s177 s178 s179 : Value) (W' : World), Below Wt.heap.size Wt W' → N { tmps := (s0 :: .pointer (some ⟨BM, 0, none⟩) :: s2 :: .pointer (some ⟨BL, 0, none⟩) :: .pointer (some ⟨BK, 0, none⟩) :: .pointer (some ⟨BE, 0, none⟩) :: .func (Fn.func 23) #[] #[.pointer (some ⟨BM, 0, none⟩), .pointer (some ⟨BK, 0, none⟩), .pointer (some ⟨BE, 0, none⟩)] :: .int .i64 (j : Int) :: s8 :: s9 :: s10 :: s11 :: .int .i64 ((i : Int) + 1 + 1) :: s13 :: s14 :: s15 :: s16 :: s17 :: s18 :: s19 :: s20 :: s21 :: s22 :: s23 :: s24 :: s25 :: s26 :: s27 :: s28 :: s29 :: s30 :: s31 :: s32 :: s33 :: s34 :: s35 :: s36 :: s37 :: s38 :: s39 :: s40 :: s41 :: s42 :: s43 :: s44 :: s45 :: s46 :: s47 :: s48 :: s49 :: s50 :: s51 :: s52 :: s53 :: s54 :: s55 :: s56 :: s57 :: s58 :: s59 :: s60 :: s61 :: s62 :: s63 :: s64 :: s65 :: s66 :: s67 :: s68 :: s69 :: s70 :: s71 :: s72 :: s73 :: s74 :: s75 :: s76 :: s77 :: s78 :: s79 :: s80 :: s81 :: s82 :: s83 :: s84 :: s85 :: s86 :: s87 :: s88 :: s89 :: s90 :: s91 :: s92 :: s93 :: s94 :: s95 :: s96 :: s97 :: s98 :: s99 :: s100 :: s101 :: s102 :: s103 :: s104 :: s105 :: s106 :: s107 :: s108 :: s109 :: s110 :: s111 :: s112 :: s113 :: s114 :: s115 :: s116 :: s117 :: s118 :: s119 :: s120 :: s121 :: s122 :: s123 :: s124 :: s125 :: s126 :: s127 :: s128 :: s129 :: s130 :: s131 :: s132 :: s133 :: s134 :: s135 :: s136 :: s137 :: s138 :: s139 :: s140 :: s141 :: s142 :: s143 :: s144 :: s145 :: s146 :: s147 :: s148 :: s149 :: s150 :: s151 :: s152 :: s153 :: s154 :: s155 :: s156 :: s157 :: s158 :: s159 :: s160 :: s161 :: s162 :: s163 :: s164 :: s165 :: s166 :: s167 :: s168 :: s169 :: s170 :: s171 :: s172 :: s173 :: s174 :: s175 :: s176 :: s177 :: s178 :: s179 :: []).toArray, defers := [] } W'
/-- What follows the search. -/
def NxG (BM BL BK BE j t : Nat) (Wt : World) (Q0 : Exit → Act → World → Prop) : Prop := ∀ (s0 s2 s8 s9 s10 s11 s13 s14 s15 s16 s17 s18 s19 s20 s21 s22 s23 s24 s25 s26 s27 s28 s29 s30 s31 s32 s33 s34 s35 s36 s37 s38 s39 s40 s41 s42 s43 s44 s45 s46 s47 s48 s49 s50 s51 s52 s53 s54 s55 s56 s57 s58 s59 s60 s61 s62 s63 s64 s65 s66 s67 s68 s69 s70 s71 s72 s73 s74 s75 s76 s77 s78 s79 s80 s81 s82 s83 s84 s85 s86 s87 s88 s89 s90 s91 s92 s93 s94 s95 s96 s97 s98 s99 s100 s101 s102 s103 s104 s105 s106 s107 s108 s109 s110 s111 s112 s113 s114 s115 s116 s117 s118 s119 s120 s121 s122 s123 s124 s125 s126 s127 s128 s129 s130 s131 s132 s133 s134 s135 s136 s137 s138 s139 s140 s141 s142 s143 s144 s145 s146 s147 s148 s149 s150 s151 s152 s153 s154 s155 s156 s157 s158 s159 s160 s161 s162 s163 s164 s165 s166 s167 s168 s169 s170 s171 s172 s173 s174 s175 s176 s177 s178 s179 : Value) (W' : World), Below Wt.heap.size Wt W' → Q0 (.exit 3) { tmps := (s0 :: .pointer (some ⟨BM, 0, none⟩) :: s2 :: .pointer (some ⟨BL, 0, none⟩) :: .pointer (some ⟨BK, 0, none⟩) :: .pointer (some ⟨BE, 0, none⟩) :: .func (Fn.func 23) #[] #[.pointer (some ⟨BM, 0, none⟩), .pointer (some ⟨BK, 0, none⟩), .pointer (some ⟨BE, 0, none⟩)] :: .int .i64 (j : Int) :: s8 :: s9 :: s10 :: s11 :: .int .i64 (t : Int) :: s13 :: s14 :: s15 :: s16 :: s17 :: s18 :: s19 :: s20 :: s21 :: s22 :: s23 :: s24 :: s25 :: s26 :: s27 :: s28 :: s29 :: s30 :: s31 :: s32 :: s33 :: s34 :: s35 :: s36 :: s37 :: s38 :: s39 :: s40 :: s41 :: s42 :: s43 :: s44 :: s45 :: s46 :: s47 :: s48 :: s49 :: s50 :: s51 :: s52 :: s53 :: s54 :: s55 :: s56 :: s57 :: s58 :: s59 :: s60 :: s61 :: s62 :: s63 :: s64 :: s65 :: s66 :: s67 :: s68 :: s69 :: s70 :: s71 :: s72 :: s73 :: s74 :: s75 :: s76 :: s77 :: s78 :: s79 :: s80 :: s81 :: s82 :: s83 :: s84 :: s85 :: s86 :: s87 :: s88 :: s89 :: s90 :: s91 :: s92 :: s93 :: s94 :: s95 :: s96 :: s97 :: s98 :: s99 :: s100 :: s101 :: s102 :: s103 :: s104 :: s105 :: s106 :: s107 :: s108 :: s109 :: s110 :: s111 :: s112 :: s113 :: s114 :: s115 :: s116 :: s117 :: s118 :: s119 :: s120 :: s121 :: s122 :: s123 :: s124 :: s125 :: s126 :: s127 :: s128 :: s129 :: s130 :: s131 :: s132 :: s133 :: s134 :: s135 :: s136 :: s137 :: s138 :: s139 :: s140 :: s141 :: s142 :: s143 :: s144 :: s145 :: s146 :: s147 :: s148 :: s149 :: s150 :: s151 :: s152 :: s153 :: s154 :: s155 :: s156 :: s157 :: s158 :: s159 :: s160 :: s161 :: s162 :: s163 :: s164 :: s165 :: s166 :: s167 :: s168 :: s169 :: s170 :: s171 :: s172 :: s173 :: s174 :: s175 :: s176 :: s177 :: s178 :: s179 :: []).toArray, defers := [] } W'

set_option maxRecDepth 100000 in
set_option maxHeartbeats 4000000 in
theorem find_go (BM BL BK BE G n j b0 o0 : Nat) (cm : Nat) (ks : List Int) (e : Int) (mv : Int) (hmv : mv = 2 ∨ mv = 3) (hj : j < n) (hn : n ≤ 200) (i : Nat) (hi : i < n) (hk : ks.getD (i + 1) 0 ≠ mv - 1) (Wt : World) (hS : St Wt BM BK BE G n (some ⟨b0, o0, none⟩) cm ks e) (hm : Wt.cell? ⟨b0, o0 + j, none⟩ = some (.int .i64 mv)) (_hb0 : b0 < Wt.heap.size)
    {s0 s2 s8 s9 s10 s11 s13 s14 s15 s16 s17 s18 s19 s20 s21 s22 s23 s24 s25 s26 s27 s28 s29 s30 s31 s32 s33 s34 s35 s36 s37 s38 s39 s40 s41 s42 s43 s44 s45 s46 s47 s48 s49 s50 s51 s52 s53 s54 s55 s56 s57 s58 s59 s60 s61 s62 s63 s64 s65 s66 s67 s68 s69 s70 s71 s72 s73 s74 s75 s76 s77 s78 s79 s80 s81 s82 s83 s84 s85 s86 s87 s88 s89 s90 s91 s92 s93 s94 s95 s96 s97 s98 s99 s100 s101 s102 s103 s104 s105 s106 s107 s108 s109 s110 s111 s112 s113 s114 s115 s116 s117 s118 s119 s120 s121 s122 s123 s124 s125 s126 s127 s128 s129 s130 s131 s132 s133 s134 s135 s136 s137 s138 s139 s140 s141 s142 s143 s144 s145 s146 s147 s148 s149 s150 s151 s152 s153 s154 s155 s156 s157 s158 s159 s160 s161 s162 s163 s164 s165 s166 s167 s168 s169 s170 s171 s172 s173 s174 s175 s176 s177 s178 s179 : Value} (N : Act → World → Prop) (Q0 : Exit → Act → World → Prop) (b r : Code) (hcut : (((((((Try.f5.body.bind (loopFor 0)).bind fun p => blockIn 1 p.1).bind fun q => blk2 2 q.1).bind arms).bind fun q => arms q.2).bind fun q => blockIn 3 q.1).bind fun q => (loopOf q.1).map fun b => (b, q.2)) = some (b, r)) (hN : NxF BM BL BK BE i j Wt N) :
    b.wp Try.prog (Exit.then N Q0) { tmps := (s0 :: .pointer (some ⟨BM, 0, none⟩) :: s2 :: .pointer (some ⟨BL, 0, none⟩) :: .pointer (some ⟨BK, 0, none⟩) :: .pointer (some ⟨BE, 0, none⟩) :: .func (Fn.func 23) #[] #[.pointer (some ⟨BM, 0, none⟩), .pointer (some ⟨BK, 0, none⟩), .pointer (some ⟨BE, 0, none⟩)] :: .int .i64 (j : Int) :: s8 :: s9 :: s10 :: s11 :: .int .i64 ((i : Int) + 1) :: s13 :: s14 :: s15 :: s16 :: s17 :: s18 :: s19 :: s20 :: s21 :: s22 :: s23 :: s24 :: s25 :: s26 :: s27 :: s28 :: s29 :: s30 :: s31 :: s32 :: s33 :: s34 :: s35 :: s36 :: s37 :: s38 :: s39 :: s40 :: s41 :: s42 :: s43 :: s44 :: s45 :: s46 :: s47 :: s48 :: s49 :: s50 :: s51 :: s52 :: s53 :: s54 :: s55 :: s56 :: s57 :: s58 :: s59 :: s60 :: s61 :: s62 :: s63 :: s64 :: s65 :: s66 :: s67 :: s68 :: s69 :: s70 :: s71 :: s72 :: s73 :: s74 :: s75 :: s76 :: s77 :: s78 :: s79 :: s80 :: s81 :: s82 :: s83 :: s84 :: s85 :: s86 :: s87 :: s88 :: s89 :: s90 :: s91 :: s92 :: s93 :: s94 :: s95 :: s96 :: s97 :: s98 :: s99 :: s100 :: s101 :: s102 :: s103 :: s104 :: s105 :: s106 :: s107 :: s108 :: s109 :: s110 :: s111 :: s112 :: s113 :: s114 :: s115 :: s116 :: s117 :: s118 :: s119 :: s120 :: s121 :: s122 :: s123 :: s124 :: s125 :: s126 :: s127 :: s128 :: s129 :: s130 :: s131 :: s132 :: s133 :: s134 :: s135 :: s136 :: s137 :: s138 :: s139 :: s140 :: s141 :: s142 :: s143 :: s144 :: s145 :: s146 :: s147 :: s148 :: s149 :: s150 :: s151 :: s152 :: s153 :: s154 :: s155 :: s156 :: s157 :: s158 :: s159 :: s160 :: s161 :: s162 :: s163 :: s164 :: s165 :: s166 :: s167 :: s168 :: s169 :: s170 :: s171 :: s172 :: s173 :: s174 :: s175 :: s176 :: s177 :: s178 :: s179 :: []).toArray, defers := [] } Wt := by
  have hcc : (((((((Try.f5.body.bind (loopFor 0)).bind fun p => blockIn 1 p.1).bind fun q => blk2 2 q.1).bind arms).bind fun q => arms q.2).bind fun q => blockIn 3 q.1).bind fun q => (loopOf q.1).map fun b => (b, q.2)) = some (_, _) := rfl
  rw [hcc] at hcut
  cases hcut
  clear hcc
  have i0 : (0 : Int) ≤ (j : Int) := by omega
  have i1 : (j : Int) < (n : Int) := by omega
  have hw1 : IntKind.i64.wrap ((i : Int) + 1 + 1) = (i : Int) + 1 + 1 := wrapi (by omega) (by omega)
  have hw2 : IntKind.i64.wrap (mv - 1) = mv - 1 := wrapi (by omega) (by omega)
  obtain ⟨m0, mf0, ml⟩ := block1 hS.m
  obtain ⟨k0, kf0, kl⟩ := block1 hS.k
  have HN := hide hN
  have hGl : G < Wt.heap.size := (hS.r.lt G rfl).2
  have g0 : (i : Int) + 1 ≤ (n : Int) := by omega
  have j0 : (0 : Int) ≤ (i : Int) + 1 := by omega
  have j1 : (i : Int) + 1 < ((n + 1 : Nat) : Int) := by omega
  have j2 : (i : Int) + 1 < (n : Int) + 1 := by omega
  have j3 : ((i : Int) + 1).toNat = i + 1 := by omega
  obtain ⟨r0, rf0⟩ := own_inti hS.r (j := i + 1) (by rw [hS.l]; omega)
  obtain ⟨v, ev⟩ : ∃ v, ks.getD (i + 1) 0 = v := ⟨_, rfl⟩
  rw [ev] at hk r0
  have x1 : (v != mv - 1) = true := by simpa using hk
  clear hN hS hk ev
  have x0 : decide ((i : Int) + 1 ≤ (n : Int)) = true := decide_eq_true g0
  go_wp2_with fail
  go_quiet (fail)
  go_wp2_with fail
  exact unhide HN _ _ _ _ _ _ _ _ _ _ _ _ _ _ _ _ _ _ _ _ _ _ _ _ _ _ _ _ _ _ _ _ _ _ _ _ _ _ _ _ _ _ _ _ _ _ _ _ _ _ _ _ _ _ _ _ _ _ _ _ _ _ _ _ _ _ _ _ _ _ _ _ _ _ _ _ _ _ _ _ _ _ _ _ _ _ _ _ _ _ _ _ _ _ _ _ _ _ _ _ _ _ _ _ _ _ _ _ _ _ _ _ _ _ _ _ _ _ _ _ _ _ _ _ _ _ _ _ _ _ _ _ _ _ _ _ _ _ _ _ _ _ _ _ _ _ _ _ _ _ _ _ _ _ _ _ _ _ _ _ _ _ _ _ _ _ _ _ _ _ _ _ _ _ (below_drewN (Below.refl _ _) _)

set_option maxRecDepth 100000 in
set_option maxHeartbeats 4000000 in
theorem find_hit (BM BL BK BE G n j b0 o0 : Nat) (cm : Nat) (ks : List Int) (e : Int) (mv : Int) (hmv : mv = 2 ∨ mv = 3) (hj : j < n) (hn : n ≤ 200) (i : Nat) (hi : i < n) (hk : ks.getD (i + 1) 0 = mv - 1) (Wt : World) (hS : St Wt BM BK BE G n (some ⟨b0, o0, none⟩) cm ks e) (hm : Wt.cell? ⟨b0, o0 + j, none⟩ = some (.int .i64 mv)) (_hb0 : b0 < Wt.heap.size)
    {s0 s2 s8 s9 s10 s11 s13 s14 s15 s16 s17 s18 s19 s20 s21 s22 s23 s24 s25 s26 s27 s28 s29 s30 s31 s32 s33 s34 s35 s36 s37 s38 s39 s40 s41 s42 s43 s44 s45 s46 s47 s48 s49 s50 s51 s52 s53 s54 s55 s56 s57 s58 s59 s60 s61 s62 s63 s64 s65 s66 s67 s68 s69 s70 s71 s72 s73 s74 s75 s76 s77 s78 s79 s80 s81 s82 s83 s84 s85 s86 s87 s88 s89 s90 s91 s92 s93 s94 s95 s96 s97 s98 s99 s100 s101 s102 s103 s104 s105 s106 s107 s108 s109 s110 s111 s112 s113 s114 s115 s116 s117 s118 s119 s120 s121 s122 s123 s124 s125 s126 s127 s128 s129 s130 s131 s132 s133 s134 s135 s136 s137 s138 s139 s140 s141 s142 s143 s144 s145 s146 s147 s148 s149 s150 s151 s152 s153 s154 s155 s156 s157 s158 s159 s160 s161 s162 s163 s164 s165 s166 s167 s168 s169 s170 s171 s172 s173 s174 s175 s176 s177 s178 s179 : Value} (N : Act → World → Prop) (Q0 : Exit → Act → World → Prop) (b r : Code) (hcut : (((((((Try.f5.body.bind (loopFor 0)).bind fun p => blockIn 1 p.1).bind fun q => blk2 2 q.1).bind arms).bind fun q => arms q.2).bind fun q => blockIn 3 q.1).bind fun q => (loopOf q.1).map fun b => (b, q.2)) = some (b, r)) (hN : NxG BM BL BK BE j (i + 1) Wt Q0) :
    b.wp Try.prog (Exit.then N Q0) { tmps := (s0 :: .pointer (some ⟨BM, 0, none⟩) :: s2 :: .pointer (some ⟨BL, 0, none⟩) :: .pointer (some ⟨BK, 0, none⟩) :: .pointer (some ⟨BE, 0, none⟩) :: .func (Fn.func 23) #[] #[.pointer (some ⟨BM, 0, none⟩), .pointer (some ⟨BK, 0, none⟩), .pointer (some ⟨BE, 0, none⟩)] :: .int .i64 (j : Int) :: s8 :: s9 :: s10 :: s11 :: .int .i64 ((i : Int) + 1) :: s13 :: s14 :: s15 :: s16 :: s17 :: s18 :: s19 :: s20 :: s21 :: s22 :: s23 :: s24 :: s25 :: s26 :: s27 :: s28 :: s29 :: s30 :: s31 :: s32 :: s33 :: s34 :: s35 :: s36 :: s37 :: s38 :: s39 :: s40 :: s41 :: s42 :: s43 :: s44 :: s45 :: s46 :: s47 :: s48 :: s49 :: s50 :: s51 :: s52 :: s53 :: s54 :: s55 :: s56 :: s57 :: s58 :: s59 :: s60 :: s61 :: s62 :: s63 :: s64 :: s65 :: s66 :: s67 :: s68 :: s69 :: s70 :: s71 :: s72 :: s73 :: s74 :: s75 :: s76 :: s77 :: s78 :: s79 :: s80 :: s81 :: s82 :: s83 :: s84 :: s85 :: s86 :: s87 :: s88 :: s89 :: s90 :: s91 :: s92 :: s93 :: s94 :: s95 :: s96 :: s97 :: s98 :: s99 :: s100 :: s101 :: s102 :: s103 :: s104 :: s105 :: s106 :: s107 :: s108 :: s109 :: s110 :: s111 :: s112 :: s113 :: s114 :: s115 :: s116 :: s117 :: s118 :: s119 :: s120 :: s121 :: s122 :: s123 :: s124 :: s125 :: s126 :: s127 :: s128 :: s129 :: s130 :: s131 :: s132 :: s133 :: s134 :: s135 :: s136 :: s137 :: s138 :: s139 :: s140 :: s141 :: s142 :: s143 :: s144 :: s145 :: s146 :: s147 :: s148 :: s149 :: s150 :: s151 :: s152 :: s153 :: s154 :: s155 :: s156 :: s157 :: s158 :: s159 :: s160 :: s161 :: s162 :: s163 :: s164 :: s165 :: s166 :: s167 :: s168 :: s169 :: s170 :: s171 :: s172 :: s173 :: s174 :: s175 :: s176 :: s177 :: s178 :: s179 :: []).toArray, defers := [] } Wt := by
  have hcc : (((((((Try.f5.body.bind (loopFor 0)).bind fun p => blockIn 1 p.1).bind fun q => blk2 2 q.1).bind arms).bind fun q => arms q.2).bind fun q => blockIn 3 q.1).bind fun q => (loopOf q.1).map fun b => (b, q.2)) = some (_, _) := rfl
  rw [hcc] at hcut
  cases hcut
  clear hcc
  have i0 : (0 : Int) ≤ (j : Int) := by omega
  have i1 : (j : Int) < (n : Int) := by omega
  have hw1 : IntKind.i64.wrap ((i : Int) + 1 + 1) = (i : Int) + 1 + 1 := wrapi (by omega) (by omega)
  have hw2 : IntKind.i64.wrap (mv - 1) = mv - 1 := wrapi (by omega) (by omega)
  obtain ⟨m0, mf0, ml⟩ := block1 hS.m
  obtain ⟨k0, kf0, kl⟩ := block1 hS.k
  have HN := hide hN
  have hGl : G < Wt.heap.size := (hS.r.lt G rfl).2
  have g0 : (i : Int) + 1 ≤ (n : Int) := by omega
  have j0 : (0 : Int) ≤ (i : Int) + 1 := by omega
  have j1 : (i : Int) + 1 < ((n + 1 : Nat) : Int) := by omega
  have j2 : (i : Int) + 1 < (n : Int) + 1 := by omega
  have j3 : ((i : Int) + 1).toNat = i + 1 := by omega
  obtain ⟨r0, rf0⟩ := own_inti hS.r (j := i + 1) (by rw [hS.l]; omega)
  obtain ⟨v, ev⟩ : ∃ v, ks.getD (i + 1) 0 = v := ⟨_, rfl⟩
  rw [ev] at hk r0
  have x1 : (v != mv - 1) = false := by simpa using hk
  clear hN hS hk ev
  have x0 : decide ((i : Int) + 1 ≤ (n : Int)) = true := decide_eq_true g0
  go_wp2_with fail
  go_quiet (fail)
  go_wp2_with fail
  exact unhide HN _ _ _ _ _ _ _ _ _ _ _ _ _ _ _ _ _ _ _ _ _ _ _ _ _ _ _ _ _ _ _ _ _ _ _ _ _ _ _ _ _ _ _ _ _ _ _ _ _ _ _ _ _ _ _ _ _ _ _ _ _ _ _ _ _ _ _ _ _ _ _ _ _ _ _ _ _ _ _ _ _ _ _ _ _ _ _ _ _ _ _ _ _ _ _ _ _ _ _ _ _ _ _ _ _ _ _ _ _ _ _ _ _ _ _ _ _ _ _ _ _ _ _ _ _ _ _ _ _ _ _ _ _ _ _ _ _ _ _ _ _ _ _ _ _ _ _ _ _ _ _ _ _ _ _ _ _ _ _ _ _ _ _ _ _ _ _ _ _ _ _ _ _ _ (below_drewN (Below.refl _ _) _)

set_option maxRecDepth 100000 in
set_option maxHeartbeats 4000000 in
theorem find_end (BM BL BK BE G n j b0 o0 : Nat) (cm : Nat) (ks : List Int) (e : Int) (mv : Int) (hmv : mv = 2 ∨ mv = 3) (hj : j < n) (hn : n ≤ 200) (i : Nat) (hi : i = n) (Wt : World) (hS : St Wt BM BK BE G n (some ⟨b0, o0, none⟩) cm ks e) (_hm : Wt.cell? ⟨b0, o0 + j, none⟩ = some (.int .i64 mv)) (_hb0 : b0 < Wt.heap.size)
    {s0 s2 s8 s9 s10 s11 s13 s14 s15 s16 s17 s18 s19 s20 s21 s22 s23 s24 s25 s26 s27 s28 s29 s30 s31 s32 s33 s34 s35 s36 s37 s38 s39 s40 s41 s42 s43 s44 s45 s46 s47 s48 s49 s50 s51 s52 s53 s54 s55 s56 s57 s58 s59 s60 s61 s62 s63 s64 s65 s66 s67 s68 s69 s70 s71 s72 s73 s74 s75 s76 s77 s78 s79 s80 s81 s82 s83 s84 s85 s86 s87 s88 s89 s90 s91 s92 s93 s94 s95 s96 s97 s98 s99 s100 s101 s102 s103 s104 s105 s106 s107 s108 s109 s110 s111 s112 s113 s114 s115 s116 s117 s118 s119 s120 s121 s122 s123 s124 s125 s126 s127 s128 s129 s130 s131 s132 s133 s134 s135 s136 s137 s138 s139 s140 s141 s142 s143 s144 s145 s146 s147 s148 s149 s150 s151 s152 s153 s154 s155 s156 s157 s158 s159 s160 s161 s162 s163 s164 s165 s166 s167 s168 s169 s170 s171 s172 s173 s174 s175 s176 s177 s178 s179 : Value} (N : Act → World → Prop) (Q0 : Exit → Act → World → Prop) (b r : Code) (hcut : (((((((Try.f5.body.bind (loopFor 0)).bind fun p => blockIn 1 p.1).bind fun q => blk2 2 q.1).bind arms).bind fun q => arms q.2).bind fun q => blockIn 3 q.1).bind fun q => (loopOf q.1).map fun b => (b, q.2)) = some (b, r)) (hN : NxG BM BL BK BE j (i + 1) Wt Q0) :
    b.wp Try.prog (Exit.then N Q0) { tmps := (s0 :: .pointer (some ⟨BM, 0, none⟩) :: s2 :: .pointer (some ⟨BL, 0, none⟩) :: .pointer (some ⟨BK, 0, none⟩) :: .pointer (some ⟨BE, 0, none⟩) :: .func (Fn.func 23) #[] #[.pointer (some ⟨BM, 0, none⟩), .pointer (some ⟨BK, 0, none⟩), .pointer (some ⟨BE, 0, none⟩)] :: .int .i64 (j : Int) :: s8 :: s9 :: s10 :: s11 :: .int .i64 ((i : Int) + 1) :: s13 :: s14 :: s15 :: s16 :: s17 :: s18 :: s19 :: s20 :: s21 :: s22 :: s23 :: s24 :: s25 :: s26 :: s27 :: s28 :: s29 :: s30 :: s31 :: s32 :: s33 :: s34 :: s35 :: s36 :: s37 :: s38 :: s39 :: s40 :: s41 :: s42 :: s43 :: s44 :: s45 :: s46 :: s47 :: s48 :: s49 :: s50 :: s51 :: s52 :: s53 :: s54 :: s55 :: s56 :: s57 :: s58 :: s59 :: s60 :: s61 :: s62 :: s63 :: s64 :: s65 :: s66 :: s67 :: s68 :: s69 :: s70 :: s71 :: s72 :: s73 :: s74 :: s75 :: s76 :: s77 :: s78 :: s79 :: s80 :: s81 :: s82 :: s83 :: s84 :: s85 :: s86 :: s87 :: s88 :: s89 :: s90 :: s91 :: s92 :: s93 :: s94 :: s95 :: s96 :: s97 :: s98 :: s99 :: s100 :: s101 :: s102 :: s103 :: s104 :: s105 :: s106 :: s107 :: s108 :: s109 :: s110 :: s111 :: s112 :: s113 :: s114 :: s115 :: s116 :: s117 :: s118 :: s119 :: s120 :: s121 :: s122 :: s123 :: s124 :: s125 :: s126 :: s127 :: s128 :: s129 :: s130 :: s131 :: s132 :: s133 :: s134 :: s135 :: s136 :: s137 :: s138 :: s139 :: s140 :: s141 :: s142 :: s143 :: s144 :: s145 :: s146 :: s147 :: s148 :: s149 :: s150 :: s151 :: s152 :: s153 :: s154 :: s155 :: s156 :: s157 :: s158 :: s159 :: s160 :: s161 :: s162 :: s163 :: s164 :: s165 :: s166 :: s167 :: s168 :: s169 :: s170 :: s171 :: s172 :: s173 :: s174 :: s175 :: s176 :: s177 :: s178 :: s179 :: []).toArray, defers := [] } Wt := by
  have hcc : (((((((Try.f5.body.bind (loopFor 0)).bind fun p => blockIn 1 p.1).bind fun q => blk2 2 q.1).bind arms).bind fun q => arms q.2).bind fun q => blockIn 3 q.1).bind fun q => (loopOf q.1).map fun b => (b, q.2)) = some (_, _) := rfl
  rw [hcc] at hcut
  cases hcut
  clear hcc
  have i0 : (0 : Int) ≤ (j : Int) := by omega
  have i1 : (j : Int) < (n : Int) := by omega
  have hw1 : IntKind.i64.wrap ((i : Int) + 1 + 1) = (i : Int) + 1 + 1 := wrapi (by omega) (by omega)
  have hw2 : IntKind.i64.wrap (mv - 1) = mv - 1 := wrapi (by omega) (by omega)
  obtain ⟨m0, mf0, ml⟩ := block1 hS.m
  obtain ⟨k0, kf0, kl⟩ := block1 hS.k
  have HN := hide hN
  have hGl : G < Wt.heap.size := (hS.r.lt G rfl).2
  have g0 : ¬ (i : Int) + 1 ≤ (n : Int) := by omega
  clear hN hS _hm
  subst hi
  have x0 : decide ((i : Int) + 1 ≤ (i : Int)) = false := decide_eq_false g0
  go_wp2_with fail
  go_quiet (fail)
  go_wp2_with fail
  exact unhide HN _ _ _ _ _ _ _ _ _ _ _ _ _ _ _ _ _ _ _ _ _ _ _ _ _ _ _ _ _ _ _ _ _ _ _ _ _ _ _ _ _ _ _ _ _ _ _ _ _ _ _ _ _ _ _ _ _ _ _ _ _ _ _ _ _ _ _ _ _ _ _ _ _ _ _ _ _ _ _ _ _ _ _ _ _ _ _ _ _ _ _ _ _ _ _ _ _ _ _ _ _ _ _ _ _ _ _ _ _ _ _ _ _ _ _ _ _ _ _ _ _ _ _ _ _ _ _ _ _ _ _ _ _ _ _ _ _ _ _ _ _ _ _ _ _ _ _ _ _ _ _ _ _ _ _ _ _ _ _ _ _ _ _ _ _ _ _ _ _ _ _ _ _ _ (below_drewN (Below.refl _ _) _)

theorem find_rounds (BM BL BK BE G n j b0 o0 : Nat) (cm : Nat) (ks : List Int) (e : Int) (mv : Int) (hmv : mv = 2 ∨ mv = 3) (hj : j < n) (hn : n ≤ 200) (W0 : World) (hS : St W0 BM BK BE G n (some ⟨b0, o0, none⟩) cm ks e) (hm : W0.cell? ⟨b0, o0 + j, none⟩ = some (.int .i64 mv)) (hb0 : b0 < W0.heap.size) (Q0 : Exit → Act → World → Prop) (b r : Code) (hcut : (((((((Try.f5.body.bind (loopFor 0)).bind fun p => blockIn 1 p.1).bind fun q => blk2 2 q.1).bind arms).bind fun q => arms q.2).bind fun q => blockIn 3 q.1).bind fun q => (loopOf q.1).map fun b => (b, q.2)) = some (b, r))
    (hE : ∀ t : Nat, 1 ≤ t → t ≤ n + 1 → (t ≤ n → ks.getD t 0 = mv - 1) → (t = n + 1 → ∀ u, 1 ≤ u → u ≤ n → ks.getD u 0 ≠ mv - 1) → NxG BM BL BK BE j t W0 Q0) :
    ∀ (k i : Nat), i + k = n → (∀ u, 1 ≤ u → u ≤ i → ks.getD u 0 ≠ mv - 1) → ∀ (s0 s2 s8 s9 s10 s11 s13 s14 s15 s16 s17 s18 s19 s20 s21 s22 s23 s24 s25 s26 s27 s28 s29 s30 s31 s32 s33 s34 s35 s36 s37 s38 s39 s40 s41 s42 s43 s44 s45 s46 s47 s48 s49 s50 s51 s52 s53 s54 s55 s56 s57 s58 s59 s60 s61 s62 s63 s64 s65 s66 s67 s68 s69 s70 s71 s72 s73 s74 s75 s76 s77 s78 s79 s80 s81 s82 s83 s84 s85 s86 s87 s88 s89 s90 s91 s92 s93 s94 s95 s96 s97 s98 s99 s100 s101 s102 s103 s104 s105 s106 s107 s108 s109 s110 s111 s112 s113 s114 s115 s116 s117 s118 s119 s120 s121 s122 s123 s124 s125 s126 s127 s128 s129 s130 s131 s132 s133 s134 s135 s136 s137 s138 s139 s140 s141 s142 s143 s144 s145 s146 s147 s148 s149 s150 s151 s152 s153 s154 s155 s156 s157 s158 s159 s160 s161 s162 s163 s164 s165 s166 s167 s168 s169 s170 s171 s172 s173 s174 s175 s176 s177 s178 s179 : Value) (Wt : World), Below W0.heap.size W0 Wt → Code.rounds Try.prog b Q0 (k + 1) { tmps := (s0 :: .pointer (some ⟨BM, 0, none⟩) :: s2 :: .pointer (some ⟨BL, 0, none⟩) :: .pointer (some ⟨BK, 0, none⟩) :: .pointer (some ⟨BE, 0, none⟩) :: .func (Fn.func 23) #[] #[.pointer (some ⟨BM, 0, none⟩), .pointer (some ⟨BK, 0, none⟩), .pointer (some ⟨BE, 0, none⟩)] :: .int .i64 (j : Int) :: s8 :: s9 :: s10 :: s11 :: .int .i64 ((i : Int) + 1) :: s13 :: s14 :: s15 :: s16 :: s17 :: s18 :: s19 :: s20 :: s21 :: s22 :: s23 :: s24 :: s25 :: s26 :: s27 :: s28 :: s29 :: s30 :: s31 :: s32 :: s33 :: s34 :: s35 :: s36 :: s37 :: s38 :: s39 :: s40 :: s41 :: s42 :: s43 :: s44 :: s45 :: s46 :: s47 :: s48 :: s49 :: s50 :: s51 :: s52 :: s53 :: s54 :: s55 :: s56 :: s57 :: s58 :: s59 :: s60 :: s61 :: s62 :: s63 :: s64 :: s65 :: s66 :: s67 :: s68 :: s69 :: s70 :: s71 :: s72 :: s73 :: s74 :: s75 :: s76 :: s77 :: s78 :: s79 :: s80 :: s81 :: s82 :: s83 :: s84 :: s85 :: s86 :: s87 :: s88 :: s89 :: s90 :: s91 :: s92 :: s93 :: s94 :: s95 :: s96 :: s97 :: s98 :: s99 :: s100 :: s101 :: s102 :: s103 :: s104 :: s105 :: s106 :: s107 :: s108 :: s109 :: s110 :: s111 :: s112 :: s113 :: s114 :: s115 :: s116 :: s117 :: s118 :: s119 :: s120 :: s121 :: s122 :: s123 :: s124 :: s125 :: s126 :: s127 :: s128 :: s129 :: s130 :: s131 :: s132 :: s133 :: s134 :: s135 :: s136 :: s137 :: s138 :: s139 :: s140 :: s141 :: s142 :: s143 :: s144 :: s145 :: s146 :: s147 :: s148 :: s149 :: s150 :: s151 :: s152 :: s153 :: s154 :: s155 :: s156 :: s157 :: s158 :: s159 :: s160 :: s161 :: s162 :: s163 :: s164 :: s165 :: s166 :: s167 :: s168 :: s169 :: s170 :: s171 :: s172 :: s173 :: s174 :: s175 :: s176 :: s177 :: s178 :: s179 :: []).toArray, defers := [] } Wt := by
  intro k
  induction k with
  | zero =>
    intro i hi hu
    intros
    rename_i Wt hB
    have hm' : Wt.cell? ⟨b0, o0 + j, none⟩ = some (.int .i64 mv) := by rw [World.cell?_of_block (w := W0) (a := ⟨b0, o0 + j, none⟩) (hB.block b0 hb0)]; exact hm
    refine find_end BM BL BK BE G n j b0 o0 cm ks e mv hmv hj hn i (by omega) Wt (hS.keep hB) hm' (Nat.lt_of_lt_of_le hb0 hB.size) _ Q0 b r hcut ?_
    have h0 := hE (i + 1) (by omega) (by omega) (fun h => by omega) (fun _ u h1 h2 => hu u h1 (by omega))
    unfold NxG at h0 ⊢
    intros
    rename_i W' hB'
    exact h0 _ _ _ _ _ _ _ _ _ _ _ _ _ _ _ _ _ _ _ _ _ _ _ _ _ _ _ _ _ _ _ _ _ _ _ _ _ _ _ _ _ _ _ _ _ _ _ _ _ _ _ _ _ _ _ _ _ _ _ _ _ _ _ _ _ _ _ _ _ _ _ _ _ _ _ _ _ _ _ _ _ _ _ _ _ _ _ _ _ _ _ _ _ _ _ _ _ _ _ _ _ _ _ _ _ _ _ _ _ _ _ _ _ _ _ _ _ _ _ _ _ _ _ _ _ _ _ _ _ _ _ _ _ _ _ _ _ _ _ _ _ _ _ _ _ _ _ _ _ _ _ _ _ _ _ _ _ _ _ _ _ _ _ _ _ _ _ _ _ _ _ _ _ W' (Below.next hB hB' (Nat.le_refl _))
  | succ k ih =>
    intro i hi hu
    intros
    rename_i Wt hB
    have hm' : Wt.cell? ⟨b0, o0 + j, none⟩ = some (.int .i64 mv) := by rw [World.cell?_of_block (w := W0) (a := ⟨b0, o0 + j, none⟩) (hB.block b0 hb0)]; exact hm
    by_cases hk : ks.getD (i + 1) 0 = mv - 1
    · refine find_hit BM BL BK BE G n j b0 o0 cm ks e mv hmv hj hn i (by omega) hk Wt (hS.keep hB) hm' (Nat.lt_of_lt_of_le hb0 hB.size) _ Q0 b r hcut ?_
      have h0 := hE (i + 1) (by omega) (by omega) (fun h => hk) (fun h => by omega)
      unfold NxG at h0 ⊢
      intros
      rename_i W' hB'
      exact h0 _ _ _ _ _ _ _ _ _ _ _ _ _ _ _ _ _ _ _ _ _ _ _ _ _ _ _ _ _ _ _ _ _ _ _ _ _ _ _ _ _ _ _ _ _ _ _ _ _ _ _ _ _ _ _ _ _ _ _ _ _ _ _ _ _ _ _ _ _ _ _ _ _ _ _ _ _ _ _ _ _ _ _ _ _ _ _ _ _ _ _ _ _ _ _ _ _ _ _ _ _ _ _ _ _ _ _ _ _ _ _ _ _ _ _ _ _ _ _ _ _ _ _ _ _ _ _ _ _ _ _ _ _ _ _ _ _ _ _ _ _ _ _ _ _ _ _ _ _ _ _ _ _ _ _ _ _ _ _ _ _ _ _ _ _ _ _ _ _ _ _ _ _ W' (Below.next hB hB' (Nat.le_refl _))
    · refine find_go BM BL BK BE G n j b0 o0 cm ks e mv hmv hj hn i (by omega) hk Wt (hS.keep hB) hm' (Nat.lt_of_lt_of_le hb0 hB.size) _ Q0 b r hcut ?_
      unfold NxF
      intros
      rename_i W' hB'
      refine ih (i + 1) (by omega) (fun u h1 h2 => ?_) _ _ _ _ _ _ _ _ _ _ _ _ _ _ _ _ _ _ _ _ _ _ _ _ _ _ _ _ _ _ _ _ _ _ _ _ _ _ _ _ _ _ _ _ _ _ _ _ _ _ _ _ _ _ _ _ _ _ _ _ _ _ _ _ _ _ _ _ _ _ _ _ _ _ _ _ _ _ _ _ _ _ _ _ _ _ _ _ _ _ _ _ _ _ _ _ _ _ _ _ _ _ _ _ _ _ _ _ _ _ _ _ _ _ _ _ _ _ _ _ _ _ _ _ _ _ _ _ _ _ _ _ _ _ _ _ _ _ _ _ _ _ _ _ _ _ _ _ _ _ _ _ _ _ _ _ _ _ _ _ _ _ _ _ _ _ _ _ _ _ _ _ _ W' (Below.next hB hB' (Nat.le_refl _))
      by_cases hq : u = i + 1
      · rw [hq]; exact hk
      · exact hu u h1 (by omega)

end Go.Proofs.Ytdpcbmekplcllaa
