/-
  taskmilllaw.LockAlone, put together.
-/
import Derived.Test.YtdpcbmekplcllaaAl
namespace Go.Proofs.Ytdpcbmekplcllaa
open Go.RowKit

theorem mv_any (w : World) (BM BL BK BE G n : Nat) (am : Option Addr) (cm : Nat) (xs : List Int) (hIL : IsL KI w (.slice am n cm) xs) (hn : n ≤ 200) (ho : Ord w BM BL BK BE G) (j : Nat) (hj : j < n) (P : Lk) (ks : List Int) (e : Int) (a : Option Addr) (c : Nat) (Wt : World) (hO : Ou w BM BL BK BE G n am cm j P ks e a c Wt)
    {s0 s2 s8 s9 s10 s11 s12 s13 s14 s15 s16 s17 s18 s19 s20 s21 s22 s23 s24 s25 s26 s27 s28 s29 s30 s31 s32 s33 s34 s35 s36 s37 s38 s39 s40 s41 s42 s43 s44 s45 s46 s47 s48 s49 s50 s51 s52 s53 s54 s55 s56 s57 s58 s59 s60 s61 s62 s63 s64 s65 s66 s67 s68 s69 s70 s71 s72 s73 s74 s75 s76 s77 s78 s79 s80 s81 s82 s83 s84 s85 s86 s87 s88 s89 s90 s91 s92 s93 s94 s95 s96 s97 s98 s99 s100 s101 s102 s103 s104 s105 s106 s107 s108 s109 s110 s111 s112 s113 s114 s115 s116 s117 s118 s119 s120 s121 s122 s123 s124 s125 s126 s127 s128 s129 s130 s131 s132 s133 s134 s135 s136 s137 s138 s139 s140 s141 s142 s143 s144 s145 s146 s147 s148 s149 s150 s151 s152 s153 s154 s155 s156 s157 s158 s159 s160 s161 s162 s163 s164 s165 s166 s167 s168 s169 s170 s171 s172 s173 s174 s175 s176 s177 s178 s179 : Value} (N : Act → World → Prop) (Q0 : Exit → Act → World → Prop) (b r : Code) (hcut : (Try.f5.body.bind (loopFor 0)) = some (b, r)) (hN : NxO w BM BL BK BE G n am cm j N) :
    b.wp Try.prog (Exit.then N Q0) { tmps := (s0 :: .pointer (some ⟨BM, 0, none⟩) :: s2 :: .pointer (some ⟨BL, 0, none⟩) :: .pointer (some ⟨BK, 0, none⟩) :: .pointer (some ⟨BE, 0, none⟩) :: .func (Fn.func 23) #[] #[.pointer (some ⟨BM, 0, none⟩), .pointer (some ⟨BK, 0, none⟩), .pointer (some ⟨BE, 0, none⟩)] :: .int .i64 (j : Int) :: s8 :: s9 :: s10 :: s11 :: s12 :: s13 :: s14 :: s15 :: s16 :: s17 :: s18 :: s19 :: s20 :: s21 :: s22 :: s23 :: s24 :: s25 :: s26 :: s27 :: s28 :: s29 :: s30 :: s31 :: s32 :: s33 :: s34 :: s35 :: s36 :: s37 :: s38 :: s39 :: s40 :: s41 :: s42 :: s43 :: s44 :: s45 :: s46 :: s47 :: s48 :: s49 :: s50 :: s51 :: s52 :: s53 :: s54 :: s55 :: s56 :: s57 :: s58 :: s59 :: s60 :: s61 :: s62 :: s63 :: s64 :: s65 :: s66 :: s67 :: s68 :: s69 :: s70 :: s71 :: s72 :: s73 :: s74 :: s75 :: s76 :: s77 :: s78 :: s79 :: s80 :: s81 :: s82 :: s83 :: s84 :: s85 :: s86 :: s87 :: s88 :: s89 :: s90 :: s91 :: s92 :: s93 :: s94 :: s95 :: s96 :: s97 :: s98 :: s99 :: s100 :: s101 :: s102 :: s103 :: s104 :: s105 :: s106 :: s107 :: s108 :: s109 :: s110 :: s111 :: s112 :: s113 :: s114 :: s115 :: s116 :: s117 :: s118 :: s119 :: s120 :: s121 :: s122 :: s123 :: s124 :: s125 :: s126 :: s127 :: s128 :: s129 :: s130 :: s131 :: s132 :: s133 :: s134 :: s135 :: s136 :: s137 :: s138 :: s139 :: s140 :: s141 :: s142 :: s143 :: s144 :: s145 :: s146 :: s147 :: s148 :: s149 :: s150 :: s151 :: s152 :: s153 :: s154 :: s155 :: s156 :: s157 :: s158 :: s159 :: s160 :: s161 :: s162 :: s163 :: s164 :: s165 :: s166 :: s167 :: s168 :: s169 :: s170 :: s171 :: s172 :: s173 :: s174 :: s175 :: s176 :: s177 :: s178 :: s179 :: []).toArray, defers := [] } Wt := by
  by_cases v0 : xs.getD j 0 = 0
  · obtain ⟨hf, h | h⟩ := al_enter hO.al hj false
    · exact mv_enter0_true w BM BL BK BE G n am cm xs hIL hn ho j hj P ks e a c Wt hO v0 hf h.1 h.2.1 h.2.2 N Q0 b r hcut hN
    · exact mv_enter0_false w BM BL BK BE G n am cm xs hIL hn ho j hj P ks e a c Wt hO v0 hf h.1 h.2 N Q0 b r hcut hN
  by_cases v1 : xs.getD j 0 = 1
  · obtain ⟨hf, h | h⟩ := al_enter hO.al hj true
    · exact mv_enter1_true w BM BL BK BE G n am cm xs hIL hn ho j hj P ks e a c Wt hO v1 hf h.1 h.2.1 h.2.2 N Q0 b r hcut hN
    · exact mv_enter1_false w BM BL BK BE G n am cm xs hIL hn ho j hj P ks e a c Wt hO v1 hf h.1 h.2 N Q0 b r hcut hN
  by_cases v2 : xs.getD j 0 = 2
  · exact mv_leave2 w BM BL BK BE G n am cm xs hIL hn ho j hj P ks e a c Wt hO v2 N Q0 b r hcut hN
  by_cases v3 : xs.getD j 0 = 3
  · exact mv_leave3 w BM BL BK BE G n am cm xs hIL hn ho j hj P ks e a c Wt hO v3 N Q0 b r hcut hN
  exact mv_other w BM BL BK BE G n am cm xs hIL hn ho j hj P ks e a c Wt hO _ rfl v0 v1 v2 v3 N Q0 b r hcut hN

/-- What follows the loop. -/
def NxE (w : World) (BM BL BK BE _G n : Nat) (_am : Option Addr) (_cm : Nat) (Q0 : Exit → Act → World → Prop) : Prop := ∀ (s0 s2 s8 s9 s10 s11 s12 s13 s14 s15 s16 s17 s18 s19 s20 s21 s22 s23 s24 s25 s26 s27 s28 s29 s30 s31 s32 s33 s34 s35 s36 s37 s38 s39 s40 s41 s42 s43 s44 s45 s46 s47 s48 s49 s50 s51 s52 s53 s54 s55 s56 s57 s58 s59 s60 s61 s62 s63 s64 s65 s66 s67 s68 s69 s70 s71 s72 s73 s74 s75 s76 s77 s78 s79 s80 s81 s82 s83 s84 s85 s86 s87 s88 s89 s90 s91 s92 s93 s94 s95 s96 s97 s98 s99 s100 s101 s102 s103 s104 s105 s106 s107 s108 s109 s110 s111 s112 s113 s114 s115 s116 s117 s118 s119 s120 s121 s122 s123 s124 s125 s126 s127 s128 s129 s130 s131 s132 s133 s134 s135 s136 s137 s138 s139 s140 s141 s142 s143 s144 s145 s146 s147 s148 s149 s150 s151 s152 s153 s154 s155 s156 s157 s158 s159 s160 s161 s162 s163 s164 s165 s166 s167 s168 s169 s170 s171 s172 s173 s174 s175 s176 s177 s178 s179 : Value) (W' : World), Below w.heap.size w W' → Q0 (.exit 0) { tmps := (s0 :: .pointer (some ⟨BM, 0, none⟩) :: s2 :: .pointer (some ⟨BL, 0, none⟩) :: .pointer (some ⟨BK, 0, none⟩) :: .pointer (some ⟨BE, 0, none⟩) :: .func (Fn.func 23) #[] #[.pointer (some ⟨BM, 0, none⟩), .pointer (some ⟨BK, 0, none⟩), .pointer (some ⟨BE, 0, none⟩)] :: .int .i64 (n : Int) :: s8 :: s9 :: s10 :: s11 :: s12 :: s13 :: s14 :: s15 :: s16 :: s17 :: s18 :: s19 :: s20 :: s21 :: s22 :: s23 :: s24 :: s25 :: s26 :: s27 :: s28 :: s29 :: s30 :: s31 :: s32 :: s33 :: s34 :: s35 :: s36 :: s37 :: s38 :: s39 :: s40 :: s41 :: s42 :: s43 :: s44 :: s45 :: s46 :: s47 :: s48 :: s49 :: s50 :: s51 :: s52 :: s53 :: s54 :: s55 :: s56 :: s57 :: s58 :: s59 :: s60 :: s61 :: s62 :: s63 :: s64 :: s65 :: s66 :: s67 :: s68 :: s69 :: s70 :: s71 :: s72 :: s73 :: s74 :: s75 :: s76 :: s77 :: s78 :: s79 :: s80 :: s81 :: s82 :: s83 :: s84 :: s85 :: s86 :: s87 :: s88 :: s89 :: s90 :: s91 :: s92 :: s93 :: s94 :: s95 :: s96 :: s97 :: s98 :: s99 :: s100 :: s101 :: s102 :: s103 :: s104 :: s105 :: s106 :: s107 :: s108 :: s109 :: s110 :: s111 :: s112 :: s113 :: s114 :: s115 :: s116 :: s117 :: s118 :: s119 :: s120 :: s121 :: s122 :: s123 :: s124 :: s125 :: s126 :: s127 :: s128 :: s129 :: s130 :: s131 :: s132 :: s133 :: s134 :: s135 :: s136 :: s137 :: s138 :: s139 :: s140 :: s141 :: s142 :: s143 :: s144 :: s145 :: s146 :: s147 :: s148 :: s149 :: s150 :: s151 :: s152 :: s153 :: s154 :: s155 :: s156 :: s157 :: s158 :: s159 :: s160 :: s161 :: s162 :: s163 :: s164 :: s165 :: s166 :: s167 :: s168 :: s169 :: s170 :: s171 :: s172 :: s173 :: s174 :: s175 :: s176 :: s177 :: s178 :: s179 :: []).toArray, defers := [] } W'

set_option maxRecDepth 100000 in
set_option maxHeartbeats 4000000 in
theorem mv_end (w : World) (BM BL BK BE G n : Nat) (am : Option Addr) (cm : Nat) (P : Lk) (ks : List Int) (e : Int) (a : Option Addr) (c : Nat) (Wt : World) (hO : Ou w BM BL BK BE G n am cm n P ks e a c Wt)
    {s0 s2 s8 s9 s10 s11 s12 s13 s14 s15 s16 s17 s18 s19 s20 s21 s22 s23 s24 s25 s26 s27 s28 s29 s30 s31 s32 s33 s34 s35 s36 s37 s38 s39 s40 s41 s42 s43 s44 s45 s46 s47 s48 s49 s50 s51 s52 s53 s54 s55 s56 s57 s58 s59 s60 s61 s62 s63 s64 s65 s66 s67 s68 s69 s70 s71 s72 s73 s74 s75 s76 s77 s78 s79 s80 s81 s82 s83 s84 s85 s86 s87 s88 s89 s90 s91 s92 s93 s94 s95 s96 s97 s98 s99 s100 s101 s102 s103 s104 s105 s106 s107 s108 s109 s110 s111 s112 s113 s114 s115 s116 s117 s118 s119 s120 s121 s122 s123 s124 s125 s126 s127 s128 s129 s130 s131 s132 s133 s134 s135 s136 s137 s138 s139 s140 s141 s142 s143 s144 s145 s146 s147 s148 s149 s150 s151 s152 s153 s154 s155 s156 s157 s158 s159 s160 s161 s162 s163 s164 s165 s166 s167 s168 s169 s170 s171 s172 s173 s174 s175 s176 s177 s178 s179 : Value} (N : Act → World → Prop) (Q0 : Exit → Act → World → Prop) (b r : Code) (hcut : (Try.f5.body.bind (loopFor 0)) = some (b, r)) (hE : NxE w BM BL BK BE G n am cm Q0) :
    b.wp Try.prog (Exit.then N Q0) { tmps := (s0 :: .pointer (some ⟨BM, 0, none⟩) :: s2 :: .pointer (some ⟨BL, 0, none⟩) :: .pointer (some ⟨BK, 0, none⟩) :: .pointer (some ⟨BE, 0, none⟩) :: .func (Fn.func 23) #[] #[.pointer (some ⟨BM, 0, none⟩), .pointer (some ⟨BK, 0, none⟩), .pointer (some ⟨BE, 0, none⟩)] :: .int .i64 (n : Int) :: s8 :: s9 :: s10 :: s11 :: s12 :: s13 :: s14 :: s15 :: s16 :: s17 :: s18 :: s19 :: s20 :: s21 :: s22 :: s23 :: s24 :: s25 :: s26 :: s27 :: s28 :: s29 :: s30 :: s31 :: s32 :: s33 :: s34 :: s35 :: s36 :: s37 :: s38 :: s39 :: s40 :: s41 :: s42 :: s43 :: s44 :: s45 :: s46 :: s47 :: s48 :: s49 :: s50 :: s51 :: s52 :: s53 :: s54 :: s55 :: s56 :: s57 :: s58 :: s59 :: s60 :: s61 :: s62 :: s63 :: s64 :: s65 :: s66 :: s67 :: s68 :: s69 :: s70 :: s71 :: s72 :: s73 :: s74 :: s75 :: s76 :: s77 :: s78 :: s79 :: s80 :: s81 :: s82 :: s83 :: s84 :: s85 :: s86 :: s87 :: s88 :: s89 :: s90 :: s91 :: s92 :: s93 :: s94 :: s95 :: s96 :: s97 :: s98 :: s99 :: s100 :: s101 :: s102 :: s103 :: s104 :: s105 :: s106 :: s107 :: s108 :: s109 :: s110 :: s111 :: s112 :: s113 :: s114 :: s115 :: s116 :: s117 :: s118 :: s119 :: s120 :: s121 :: s122 :: s123 :: s124 :: s125 :: s126 :: s127 :: s128 :: s129 :: s130 :: s131 :: s132 :: s133 :: s134 :: s135 :: s136 :: s137 :: s138 :: s139 :: s140 :: s141 :: s142 :: s143 :: s144 :: s145 :: s146 :: s147 :: s148 :: s149 :: s150 :: s151 :: s152 :: s153 :: s154 :: s155 :: s156 :: s157 :: s158 :: s159 :: s160 :: s161 :: s162 :: s163 :: s164 :: s165 :: s166 :: s167 :: s168 :: s169 :: s170 :: s171 :: s172 :: s173 :: s174 :: s175 :: s176 :: s177 :: s178 :: s179 :: []).toArray, defers := [] } Wt := by
  have hcc : (Try.f5.body.bind (loopFor 0)) = some (_, _) := rfl
  rw [hcc] at hcut
  cases hcut
  clear hcc
  obtain ⟨m0, mf0, ml⟩ := block1 hO.st.m
  have HE := hide hE; have HX := hide hO.be
  clear hE hO
  have i1 : ¬ (n : Int) < (n : Int) := by omega
  go_wp2_with fail
  exact unhide HE _ _ _ _ _ _ _ _ _ _ _ _ _ _ _ _ _ _ _ _ _ _ _ _ _ _ _ _ _ _ _ _ _ _ _ _ _ _ _ _ _ _ _ _ _ _ _ _ _ _ _ _ _ _ _ _ _ _ _ _ _ _ _ _ _ _ _ _ _ _ _ _ _ _ _ _ _ _ _ _ _ _ _ _ _ _ _ _ _ _ _ _ _ _ _ _ _ _ _ _ _ _ _ _ _ _ _ _ _ _ _ _ _ _ _ _ _ _ _ _ _ _ _ _ _ _ _ _ _ _ _ _ _ _ _ _ _ _ _ _ _ _ _ _ _ _ _ _ _ _ _ _ _ _ _ _ _ _ _ _ _ _ _ _ _ _ _ _ _ _ _ _ _ _ _ (unhide HX)

theorem mv_rounds (w : World) (BM BL BK BE G n : Nat) (am : Option Addr) (cm : Nat) (xs : List Int) (hIL : IsL KI w (.slice am n cm) xs) (hn : n ≤ 200) (ho : Ord w BM BL BK BE G) (Q0 : Exit → Act → World → Prop) (b r : Code) (hcut : (Try.f5.body.bind (loopFor 0)) = some (b, r)) (hE : NxE w BM BL BK BE G n am cm Q0) : ∀ (k j : Nat), j + k = n → ∀ (s0 s2 s8 s9 s10 s11 s12 s13 s14 s15 s16 s17 s18 s19 s20 s21 s22 s23 s24 s25 s26 s27 s28 s29 s30 s31 s32 s33 s34 s35 s36 s37 s38 s39 s40 s41 s42 s43 s44 s45 s46 s47 s48 s49 s50 s51 s52 s53 s54 s55 s56 s57 s58 s59 s60 s61 s62 s63 s64 s65 s66 s67 s68 s69 s70 s71 s72 s73 s74 s75 s76 s77 s78 s79 s80 s81 s82 s83 s84 s85 s86 s87 s88 s89 s90 s91 s92 s93 s94 s95 s96 s97 s98 s99 s100 s101 s102 s103 s104 s105 s106 s107 s108 s109 s110 s111 s112 s113 s114 s115 s116 s117 s118 s119 s120 s121 s122 s123 s124 s125 s126 s127 s128 s129 s130 s131 s132 s133 s134 s135 s136 s137 s138 s139 s140 s141 s142 s143 s144 s145 s146 s147 s148 s149 s150 s151 s152 s153 s154 s155 s156 s157 s158 s159 s160 s161 s162 s163 s164 s165 s166 s167 s168 s169 s170 s171 s172 s173 s174 s175 s176 s177 s178 s179 : Value) (P : Lk) (ks : List Int) (e : Int) (a : Option Addr) (c : Nat) (Wt : World), Ou w BM BL BK BE G n am cm j P ks e a c Wt →
    Code.rounds Try.prog b Q0 (k + 1) { tmps := (s0 :: .pointer (some ⟨BM, 0, none⟩) :: s2 :: .pointer (some ⟨BL, 0, none⟩) :: .pointer (some ⟨BK, 0, none⟩) :: .pointer (some ⟨BE, 0, none⟩) :: .func (Fn.func 23) #[] #[.pointer (some ⟨BM, 0, none⟩), .pointer (some ⟨BK, 0, none⟩), .pointer (some ⟨BE, 0, none⟩)] :: .int .i64 (j : Int) :: s8 :: s9 :: s10 :: s11 :: s12 :: s13 :: s14 :: s15 :: s16 :: s17 :: s18 :: s19 :: s20 :: s21 :: s22 :: s23 :: s24 :: s25 :: s26 :: s27 :: s28 :: s29 :: s30 :: s31 :: s32 :: s33 :: s34 :: s35 :: s36 :: s37 :: s38 :: s39 :: s40 :: s41 :: s42 :: s43 :: s44 :: s45 :: s46 :: s47 :: s48 :: s49 :: s50 :: s51 :: s52 :: s53 :: s54 :: s55 :: s56 :: s57 :: s58 :: s59 :: s60 :: s61 :: s62 :: s63 :: s64 :: s65 :: s66 :: s67 :: s68 :: s69 :: s70 :: s71 :: s72 :: s73 :: s74 :: s75 :: s76 :: s77 :: s78 :: s79 :: s80 :: s81 :: s82 :: s83 :: s84 :: s85 :: s86 :: s87 :: s88 :: s89 :: s90 :: s91 :: s92 :: s93 :: s94 :: s95 :: s96 :: s97 :: s98 :: s99 :: s100 :: s101 :: s102 :: s103 :: s104 :: s105 :: s106 :: s107 :: s108 :: s109 :: s110 :: s111 :: s112 :: s113 :: s114 :: s115 :: s116 :: s117 :: s118 :: s119 :: s120 :: s121 :: s122 :: s123 :: s124 :: s125 :: s126 :: s127 :: s128 :: s129 :: s130 :: s131 :: s132 :: s133 :: s134 :: s135 :: s136 :: s137 :: s138 :: s139 :: s140 :: s141 :: s142 :: s143 :: s144 :: s145 :: s146 :: s147 :: s148 :: s149 :: s150 :: s151 :: s152 :: s153 :: s154 :: s155 :: s156 :: s157 :: s158 :: s159 :: s160 :: s161 :: s162 :: s163 :: s164 :: s165 :: s166 :: s167 :: s168 :: s169 :: s170 :: s171 :: s172 :: s173 :: s174 :: s175 :: s176 :: s177 :: s178 :: s179 :: []).toArray, defers := [] } Wt := by
  intro k
  induction k with
  | zero =>
    intro j hj
    obtain rfl : j = n := by omega
    intros
    rename_i P ks e a c Wt hO
    exact mv_end w BM BL BK BE G j am cm P ks e a c Wt hO _ Q0 b r hcut hE
  | succ k ih =>
    intro j hj
    intros
    rename_i P ks e a c Wt hO
    refine mv_any w BM BL BK BE G n am cm xs hIL hn ho j (by omega) P ks e a c Wt hO _ Q0 b r hcut ?_
    unfold NxO
    intros
    rename_i P' ks' e' a' c' W' hO'
    exact ih (j + 1) (by omega) _ _ _ _ _ _ _ _ _ _ _ _ _ _ _ _ _ _ _ _ _ _ _ _ _ _ _ _ _ _ _ _ _ _ _ _ _ _ _ _ _ _ _ _ _ _ _ _ _ _ _ _ _ _ _ _ _ _ _ _ _ _ _ _ _ _ _ _ _ _ _ _ _ _ _ _ _ _ _ _ _ _ _ _ _ _ _ _ _ _ _ _ _ _ _ _ _ _ _ _ _ _ _ _ _ _ _ _ _ _ _ _ _ _ _ _ _ _ _ _ _ _ _ _ _ _ _ _ _ _ _ _ _ _ _ _ _ _ _ _ _ _ _ _ _ _ _ _ _ _ _ _ _ _ _ _ _ _ _ _ _ _ _ _ _ _ _ _ _ _ _ _ _ _ P' ks' e' a' c' W' hO'

set_option maxRecDepth 100000 in
set_option maxHeartbeats 4000000 in
theorem alone_tail (w : World) (Wt : World) (hX : Below w.heap.size w Wt)
    {s0 s1 s2 s3 s4 s5 s6 s7 s8 s9 s10 s11 s12 s13 s14 s15 s16 s17 s18 s19 s20 s21 s22 s23 s24 s25 s26 s27 s28 s29 s30 s31 s32 s33 s34 s35 s36 s37 s38 s39 s40 s41 s42 s43 s44 s45 s46 s47 s48 s49 s50 s51 s52 s53 s54 s55 s56 s57 s58 s59 s60 s61 s62 s63 s64 s65 s66 s67 s68 s69 s70 s71 s72 s73 s74 s75 s76 s77 s78 s79 s80 s81 s82 s83 s84 s85 s86 s87 s88 s89 s90 s91 s92 s93 s94 s95 s96 s97 s98 s99 s100 s101 s102 s103 s104 s105 s106 s107 s108 s109 s110 s111 s112 s113 s114 s115 s116 s117 s118 s119 s120 s121 s122 s123 s124 s125 s126 s127 s128 s129 s130 s131 s132 s133 s134 s135 s136 s137 s138 s139 s140 s141 s142 s143 s144 s145 s146 s147 s148 s149 s150 s151 s152 s153 s154 s155 s156 s157 s158 s159 s160 s161 s162 s163 s164 s165 s166 s167 s168 s169 s170 s171 s172 s173 s174 s175 s176 s177 s178 s179 : Value} (b r : Code) (hcut : (Try.f5.body.bind (loopFor 0)) = some (b, r)) :
    r.wp Try.prog (bodyPost Try.prog Try.f5 fun e w' => e = .returned (.bool true) ∧ Below w.heap.size w w') { tmps := (s0 :: s1 :: s2 :: s3 :: s4 :: s5 :: s6 :: s7 :: s8 :: s9 :: s10 :: s11 :: s12 :: s13 :: s14 :: s15 :: s16 :: s17 :: s18 :: s19 :: s20 :: s21 :: s22 :: s23 :: s24 :: s25 :: s26 :: s27 :: s28 :: s29 :: s30 :: s31 :: s32 :: s33 :: s34 :: s35 :: s36 :: s37 :: s38 :: s39 :: s40 :: s41 :: s42 :: s43 :: s44 :: s45 :: s46 :: s47 :: s48 :: s49 :: s50 :: s51 :: s52 :: s53 :: s54 :: s55 :: s56 :: s57 :: s58 :: s59 :: s60 :: s61 :: s62 :: s63 :: s64 :: s65 :: s66 :: s67 :: s68 :: s69 :: s70 :: s71 :: s72 :: s73 :: s74 :: s75 :: s76 :: s77 :: s78 :: s79 :: s80 :: s81 :: s82 :: s83 :: s84 :: s85 :: s86 :: s87 :: s88 :: s89 :: s90 :: s91 :: s92 :: s93 :: s94 :: s95 :: s96 :: s97 :: s98 :: s99 :: s100 :: s101 :: s102 :: s103 :: s104 :: s105 :: s106 :: s107 :: s108 :: s109 :: s110 :: s111 :: s112 :: s113 :: s114 :: s115 :: s116 :: s117 :: s118 :: s119 :: s120 :: s121 :: s122 :: s123 :: s124 :: s125 :: s126 :: s127 :: s128 :: s129 :: s130 :: s131 :: s132 :: s133 :: s134 :: s135 :: s136 :: s137 :: s138 :: s139 :: s140 :: s141 :: s142 :: s143 :: s144 :: s145 :: s146 :: s147 :: s148 :: s149 :: s150 :: s151 :: s152 :: s153 :: s154 :: s155 :: s156 :: s157 :: s158 :: s159 :: s160 :: s161 :: s162 :: s163 :: s164 :: s165 :: s166 :: s167 :: s168 :: s169 :: s170 :: s171 :: s172 :: s173 :: s174 :: s175 :: s176 :: s177 :: s178 :: s179 :: []).toArray, defers := [] } Wt := by
  have hcc : (Try.f5.body.bind (loopFor 0)) = some (_, _) := rfl
  rw [hcc] at hcut
  cases hcut
  clear hcc
  have HX := hide hX
  clear hX
  go_wp2_with fail
  go_ret
  exact ⟨rfl, unhide HX⟩

theorem alone_loop (w : World) (BM BL BK BE G n : Nat) (am : Option Addr) (cm : Nat) (xs : List Int) (hIL : IsL KI w (.slice am n cm) xs) (hn : n ≤ 200) (ho : Ord w BM BL BK BE G) (K : Act → World → Prop) (b r : Code) (hK : ∀ a w', r.wp Try.prog (bodyPost Try.prog Try.f5 fun e w' => e = .returned (.bool true) ∧ Below w.heap.size w w') a w' → K a w') (hcut : (Try.f5.body.bind (loopFor 0)) = some (b, r)) (Wt : World) (hS : St Wt BM BK BE G n am cm (List.replicate (n + 1) 0) 0) (hL : Wt.heap[BL]? = some (.cells #[.int .i64 0, .bool false, .slice none 0 0] 24)) (hX : Below w.heap.size w Wt)
    {s0 s2 s8 s9 s10 s11 s12 s13 s14 s15 s16 s17 s18 s19 s20 s21 s22 s23 s24 s25 s26 s27 s28 s29 s30 s31 s32 s33 s34 s35 s36 s37 s38 s39 s40 s41 s42 s43 s44 s45 s46 s47 s48 s49 s50 s51 s52 s53 s54 s55 s56 s57 s58 s59 s60 s61 s62 s63 s64 s65 s66 s67 s68 s69 s70 s71 s72 s73 s74 s75 s76 s77 s78 s79 s80 s81 s82 s83 s84 s85 s86 s87 s88 s89 s90 s91 s92 s93 s94 s95 s96 s97 s98 s99 s100 s101 s102 s103 s104 s105 s106 s107 s108 s109 s110 s111 s112 s113 s114 s115 s116 s117 s118 s119 s120 s121 s122 s123 s124 s125 s126 s127 s128 s129 s130 s131 s132 s133 s134 s135 s136 s137 s138 s139 s140 s141 s142 s143 s144 s145 s146 s147 s148 s149 s150 s151 s152 s153 s154 s155 s156 s157 s158 s159 s160 s161 s162 s163 s164 s165 s166 s167 s168 s169 s170 s171 s172 s173 s174 s175 s176 s177 s178 s179 : Value} : (Code.loop b).wp Try.prog (Exit.inBlock 0 (Exit.then K (bodyPost Try.prog Try.f5 fun e w' => e = .returned (.bool true) ∧ Below w.heap.size w w'))) { tmps := (s0 :: .pointer (some ⟨BM, 0, none⟩) :: s2 :: .pointer (some ⟨BL, 0, none⟩) :: .pointer (some ⟨BK, 0, none⟩) :: .pointer (some ⟨BE, 0, none⟩) :: .func (Fn.func 23) #[] #[.pointer (some ⟨BM, 0, none⟩), .pointer (some ⟨BK, 0, none⟩), .pointer (some ⟨BE, 0, none⟩)] :: .int .i64 0 :: s8 :: s9 :: s10 :: s11 :: s12 :: s13 :: s14 :: s15 :: s16 :: s17 :: s18 :: s19 :: s20 :: s21 :: s22 :: s23 :: s24 :: s25 :: s26 :: s27 :: s28 :: s29 :: s30 :: s31 :: s32 :: s33 :: s34 :: s35 :: s36 :: s37 :: s38 :: s39 :: s40 :: s41 :: s42 :: s43 :: s44 :: s45 :: s46 :: s47 :: s48 :: s49 :: s50 :: s51 :: s52 :: s53 :: s54 :: s55 :: s56 :: s57 :: s58 :: s59 :: s60 :: s61 :: s62 :: s63 :: s64 :: s65 :: s66 :: s67 :: s68 :: s69 :: s70 :: s71 :: s72 :: s73 :: s74 :: s75 :: s76 :: s77 :: s78 :: s79 :: s80 :: s81 :: s82 :: s83 :: s84 :: s85 :: s86 :: s87 :: s88 :: s89 :: s90 :: s91 :: s92 :: s93 :: s94 :: s95 :: s96 :: s97 :: s98 :: s99 :: s100 :: s101 :: s102 :: s103 :: s104 :: s105 :: s106 :: s107 :: s108 :: s109 :: s110 :: s111 :: s112 :: s113 :: s114 :: s115 :: s116 :: s117 :: s118 :: s119 :: s120 :: s121 :: s122 :: s123 :: s124 :: s125 :: s126 :: s127 :: s128 :: s129 :: s130 :: s131 :: s132 :: s133 :: s134 :: s135 :: s136 :: s137 :: s138 :: s139 :: s140 :: s141 :: s142 :: s143 :: s144 :: s145 :: s146 :: s147 :: s148 :: s149 :: s150 :: s151 :: s152 :: s153 :: s154 :: s155 :: s156 :: s157 :: s158 :: s159 :: s160 :: s161 :: s162 :: s163 :: s164 :: s165 :: s166 :: s167 :: s168 :: s169 :: s170 :: s171 :: s172 :: s173 :: s174 :: s175 :: s176 :: s177 :: s178 :: s179 :: []).toArray, defers := [] } Wt := by
  refine wp_loop_rounds (n + 1) ?_
  refine mv_rounds w BM BL BK BE G n am cm xs hIL hn ho _ b r hcut ?_ n 0 (by omega) _ _ _ _ _ _ _ _ _ _ _ _ _ _ _ _ _ _ _ _ _ _ _ _ _ _ _ _ _ _ _ _ _ _ _ _ _ _ _ _ _ _ _ _ _ _ _ _ _ _ _ _ _ _ _ _ _ _ _ _ _ _ _ _ _ _ _ _ _ _ _ _ _ _ _ _ _ _ _ _ _ _ _ _ _ _ _ _ _ _ _ _ _ _ _ _ _ _ _ _ _ _ _ _ _ _ _ _ _ _ _ _ _ _ _ _ _ _ _ _ _ _ _ _ _ _ _ _ _ _ _ _ _ _ _ _ _ _ _ _ _ _ _ _ _ _ _ _ _ _ _ _ _ _ _ _ _ _ _ _ _ _ _ _ _ _ _ _ _ _ _ _ _ _ zeroL (List.replicate (n + 1) 0) 0 none 0 Wt ⟨al_zero hn, hS, hL, new_nil _ _, hX⟩
  unfold NxE
  intros
  rename_i W' hX'
  exact in_b0 (hK _ _ (alone_tail w W' hX' b r hcut))

set_option maxRecDepth 100000 in
set_option maxHeartbeats 4000000 in
theorem alone_walk (w : World) (v : Value) (xs : List Int) (h : IsL KI w v xs) : Calls Try.prog 5 #[v] w fun e w' => e = .returned (.bool true) ∧ Below w.heap.size w w' := by
  have hnot : ∀ (x : Bool) (w : World), (Op.unary .not (.bool x)).run Try.prog w = .ok (.bool (!x)) w := fun _ _ => rfl
  obtain ⟨am, cm, rfl⟩ := h.form
  have HIL := hide h
  obtain ⟨n, en⟩ : ∃ n, xs.length = n := ⟨_, rfl⟩
  rw [en] at HIL ⊢
  have HLN := hide en
  clear h en
  have HM0 := hide (new_block w (.cells #[.slice am n cm] 36))
  have HXA := hide ((Below.refl w.heap.size w).alloc (Nat.le_refl _) (.cells #[.slice am n cm] 36))
  have HWS : Hid (w.heap.size < (w.alloc (.cells #[.slice am n cm] 36)).heap.size) := size_of (unhide HM0)
  go_enter Try.func5, Try.ntmps5
  go_upto_region 3 with (go_at_call 8; refine (begun_any _).mono ?_; rintro e w1 ⟨rfl, hb1⟩; have HX := hide (Below.next (unhide HXA) hb1 (Nat.le_refl _)); have HM := hide (keep_below (unhide HM0) hb1); clear hb1 HXA HM0)
  obtain ⟨m0, mf0, ml⟩ := block1 (unhide HM)
  by_cases hn1 : 200 < n
  · have hn2 : (200 : Int) < (n : Int) := by omega
    go_wp2_with fail
    go_ret
    exact ⟨rfl, unhide HX⟩
  have hn2 : ¬ (200 : Int) < (n : Int) := by omega
  have hwn : IntKind.i64.wrap ((n : Int) + 1) = (n : Int) + 1 := wrapi (by omega) (by omega)
  go_upto_region 6 with fail
  clear m0 mf0 ml
  have HX_1 := hide ((unhide HX).alloc (Nat.le_trans (show w.heap.size ≤ w.heap.size from Nat.le_refl _) (unhide HX).size) (.cells #[.int .i64 0, .bool false, .slice none 0 0] 24))
  have Km_1 := hide (keep_alloc (unhide HM) (.cells #[.int .i64 0, .bool false, .slice none 0 0] 24))
  have Kl_1 := hide (new_block w1 (.cells #[.int .i64 0, .bool false, .slice none 0 0] 24))
  have hlm_l : w.heap.size < w1.heap.size := size_of (unhide HM)
  obtain ⟨BL, eBL⟩ : ∃ X, w1.heap.size = X := ⟨_, rfl⟩
  obtain ⟨W2, eW2⟩ : ∃ X, w1.alloc (.cells #[.int .i64 0, .bool false, .slice none 0 0] 24) = X := ⟨_, rfl⟩
  rw [eBL, eW2] at Kl_1; rw [eW2] at HX_1 Km_1; rw [eBL] at hlm_l; rw [eBL, eW2]
  clear eBL eW2 HX HM
  obtain ⟨m0, mf0, ml⟩ := block1 (unhide Km_1)
  obtain ⟨W3, hmk, hmo, hmb⟩ := make_row W2 (n + 1) (by omega)
  have hmk2 : (Instr.makeSlice 36 (.int .i64 ((n : Int) + 1)) (.int .i64 ((n : Int) + 1))).run Try.prog W2 = .ok (.slice (some ⟨W2.heap.size, 0, none⟩) (n + 1) (n + 1)) W3 := by simpa using hmk
  clear hmk
  have hlg : BL < W2.heap.size := size_of (unhide Kl_1)
  go_upto_region 7 with fail
  clear hmk2
  clear m0 mf0 ml
  (have HX_2 := hide (Below.next (unhide HX_1) hmb (by first | exact Nat.le_refl _ | (have := unhide HBA; omega))); have Km_2 := hide (keep_below (unhide Km_1) hmb); have Kl_2 := hide (keep_below (unhide Kl_1) hmb); clear HX_1 Km_1 Kl_1)
  obtain ⟨G, eG⟩ : ∃ X, W2.heap.size = X := ⟨_, rfl⟩
  rw [eG] at hmo hlg ⊢
  have HOW := hide hmo
  have hgk : G < W3.heap.size := (hmo.lt G rfl).2
  clear hmb hmo eG
  have HX_3 := hide ((unhide HX_2).alloc (Nat.le_trans (show w.heap.size ≤ w.heap.size from Nat.le_refl _) (unhide HX_2).size) (.cells #[.slice (some ⟨G, 0, none⟩) (n + 1) (n + 1)] 36))
  have Km_3 := hide (keep_alloc (unhide Km_2) (.cells #[.slice (some ⟨G, 0, none⟩) (n + 1) (n + 1)] 36))
  have Kl_3 := hide (keep_alloc (unhide Kl_2) (.cells #[.slice (some ⟨G, 0, none⟩) (n + 1) (n + 1)] 36))
  have Or_3 := hide ((unhide HOW).below ((Below.refl _ _).alloc (Nat.le_refl _) (.cells #[.slice (some ⟨G, 0, none⟩) (n + 1) (n + 1)] 36)))
  have Kk_3 := hide (new_block W3 (.cells #[.slice (some ⟨G, 0, none⟩) (n + 1) (n + 1)] 36))
  have hlm_k : w.heap.size < W3.heap.size := size_of (unhide Km_2)
  have hll_k : BL < W3.heap.size := size_of (unhide Kl_2)
  obtain ⟨BK, eBK⟩ : ∃ X, W3.heap.size = X := ⟨_, rfl⟩
  obtain ⟨W4, eW4⟩ : ∃ X, W3.alloc (.cells #[.slice (some ⟨G, 0, none⟩) (n + 1) (n + 1)] 36) = X := ⟨_, rfl⟩
  rw [eBK, eW4] at Kk_3; rw [eW4] at HX_3 Km_3 Kl_3 Or_3; rw [eBK] at hlm_k hll_k hgk; rw [eBK, eW4]
  clear eBK eW4 HX_2 Km_2 Kl_2 HOW
  go_upto_region 8 with fail
  have HX_4 := hide ((unhide HX_3).alloc (Nat.le_trans (show w.heap.size ≤ w.heap.size from Nat.le_refl _) (unhide HX_3).size) (.cells #[.int .i64 0] 3))
  have Km_4 := hide (keep_alloc (unhide Km_3) (.cells #[.int .i64 0] 3))
  have Kl_4 := hide (keep_alloc (unhide Kl_3) (.cells #[.int .i64 0] 3))
  have Kk_4 := hide (keep_alloc (unhide Kk_3) (.cells #[.int .i64 0] 3))
  have Or_4 := hide ((unhide Or_3).below ((Below.refl _ _).alloc (Nat.le_refl _) (.cells #[.int .i64 0] 3)))
  have Ke_4 := hide (new_block W4 (.cells #[.int .i64 0] 3))
  have hlm_e : w.heap.size < W4.heap.size := size_of (unhide Km_3)
  have hll_e : BL < W4.heap.size := size_of (unhide Kl_3)
  have hlk_e : BK < W4.heap.size := size_of (unhide Kk_3)
  obtain ⟨BE, eBE⟩ : ∃ X, W4.heap.size = X := ⟨_, rfl⟩
  obtain ⟨W5, eW5⟩ : ∃ X, W4.alloc (.cells #[.int .i64 0] 3) = X := ⟨_, rfl⟩
  rw [eBE, eW5] at Ke_4; rw [eW5] at HX_4 Km_4 Kl_4 Kk_4 Or_4; rw [eBE] at hlm_e hll_e hlk_e; rw [eBE, eW5]
  clear eBE eW5 HX_3 Km_3 Kl_3 Kk_3 Or_3
  have HST : Hid (St W5 w.heap.size BK BE G n am cm (List.replicate (n + 1) 0) 0) := ⟨unhide Km_4, unhide Kk_4, unhide Ke_4, unhide Or_4, List.length_replicate, by omega, by omega, by omega, by omega, by omega⟩
  go_wp2_with fail
  exact alone_loop w w.heap.size BL BK BE G n am cm xs (unhide HIL) (by omega) ⟨Nat.le_refl _, by omega, by omega, by omega, by omega⟩ _ _ _ (by assumption) (by kernel_rfl) W5 (unhide HST) (unhide Kl_4) (unhide HX_4)

end Go.Proofs.Ytdpcbmekplcllaa
