/-
  taskmilllaw.LockAlone: a move to leave.
-/
import Derived.Test.YtdpcbmekplcllaaAk
namespace Go.Proofs.Ytdpcbmekplcllaa
open Go.RowKit

set_option maxRecDepth 100000 in
set_option maxHeartbeats 4000000 in
theorem floop2 (w : World) (BM BL BK BE G n : Nat) (cm b0 o0 : Nat) (hn : n ≤ 200) (ho : Ord w BM BL BK BE G) (j : Nat) (hj : j < n) (P : Lk) (ks : List Int) (e : Int) (a : Option Addr) (c : Nat) (Wt : World) (hO : Ou w BM BL BK BE G n (some ⟨b0, o0, none⟩) cm j P ks e a c Wt) (hm : Wt.cell? ⟨b0, o0 + j, none⟩ = some (.int .i64 2)) (hb0 : b0 < Wt.heap.size)
    {s0 s2 s8 s9 s10 s11 s13 s14 s15 s16 s17 s18 s19 s20 s21 s22 s23 s24 s25 s26 s27 s28 s29 s30 s31 s32 s33 s34 s35 s36 s37 s38 s39 s40 s41 s42 s43 s44 s45 s46 s47 s48 s49 s50 s51 s52 s53 s54 s55 s56 s57 s58 s59 s60 s61 s62 s63 s64 s65 s66 s67 s68 s69 s70 s71 s72 s73 s74 s75 s76 s77 s78 s79 s80 s81 s82 s83 s84 s85 s86 s87 s88 s89 s90 s91 s92 s93 s94 s95 s96 s97 s98 s99 s100 s101 s102 s103 s104 s105 s106 s107 s108 s109 s110 s111 s112 s113 s114 s115 s116 s117 s118 s119 s120 s121 s122 s123 s124 s125 s126 s127 s128 s129 s130 s131 s132 s133 s134 s135 s136 s137 s138 s139 s140 s141 s142 s143 s144 s145 s146 s147 s148 s149 s150 s151 s152 s153 s154 s155 s156 s157 s158 s159 s160 s161 s162 s163 s164 s165 s166 s167 s168 s169 s170 s171 s172 s173 s174 s175 s176 s177 s178 s179 : Value} (K3 K2 K4 N : Act → World → Prop) (Q0 : Exit → Act → World → Prop) (b r y z : Code) (hK3 : ∀ a w', r.wp Try.prog (Exit.inBlock 2 (Exit.then K2 (Exit.inBlock 1 (Exit.then K4 (Exit.then N Q0))))) a w' → K3 a w') (hK2 : ∀ a w', y.wp Try.prog (Exit.inBlock 1 (Exit.then K4 (Exit.then N Q0))) a w' → K2 a w') (hK4 : ∀ a w', z.wp Try.prog (Exit.then N Q0) a w' → K4 a w') (hcut : ((((((((Try.f5.body.bind (loopFor 0)).bind fun p => blockIn 1 p.1).bind fun q => blk2 2 q.1).bind arms).bind fun q => arms q.2).bind fun q => blockIn 3 q.1).bind fun q => (loopOf q.1).map fun b => (b, q.2)).bind fun p => ((Try.f5.body.bind (loopFor 0)).bind fun p => blockIn 1 p.1).bind fun q => (after2 2 q.1).map fun y => (p.1, p.2, y, q.2)) = some (b, r, y, z)) (hN : NxO w BM BL BK BE G n (some ⟨b0, o0, none⟩) cm j N) :
    (Code.loop b).wp Try.prog (Exit.inBlock 3 (Exit.then K3 (Exit.inBlock 2 (Exit.then K2 (Exit.inBlock 1 (Exit.then K4 (Exit.then N Q0))))))) { tmps := (s0 :: .pointer (some ⟨BM, 0, none⟩) :: s2 :: .pointer (some ⟨BL, 0, none⟩) :: .pointer (some ⟨BK, 0, none⟩) :: .pointer (some ⟨BE, 0, none⟩) :: .func (Fn.func 23) #[] #[.pointer (some ⟨BM, 0, none⟩), .pointer (some ⟨BK, 0, none⟩), .pointer (some ⟨BE, 0, none⟩)] :: .int .i64 (j : Int) :: s8 :: s9 :: s10 :: s11 :: .int .i64 1 :: s13 :: s14 :: s15 :: s16 :: s17 :: s18 :: s19 :: s20 :: s21 :: s22 :: s23 :: s24 :: s25 :: s26 :: s27 :: s28 :: s29 :: s30 :: s31 :: s32 :: s33 :: s34 :: s35 :: s36 :: s37 :: s38 :: s39 :: s40 :: s41 :: s42 :: s43 :: s44 :: s45 :: s46 :: s47 :: s48 :: s49 :: s50 :: s51 :: s52 :: s53 :: s54 :: s55 :: s56 :: s57 :: s58 :: s59 :: s60 :: s61 :: s62 :: s63 :: s64 :: s65 :: s66 :: s67 :: s68 :: s69 :: s70 :: s71 :: s72 :: s73 :: s74 :: s75 :: s76 :: s77 :: s78 :: s79 :: s80 :: s81 :: s82 :: s83 :: s84 :: s85 :: s86 :: s87 :: s88 :: s89 :: s90 :: s91 :: s92 :: s93 :: s94 :: s95 :: s96 :: s97 :: s98 :: s99 :: s100 :: s101 :: s102 :: s103 :: s104 :: s105 :: s106 :: s107 :: s108 :: s109 :: s110 :: s111 :: s112 :: s113 :: s114 :: s115 :: s116 :: s117 :: s118 :: s119 :: s120 :: s121 :: s122 :: s123 :: s124 :: s125 :: s126 :: s127 :: s128 :: s129 :: s130 :: s131 :: s132 :: s133 :: s134 :: s135 :: s136 :: s137 :: s138 :: s139 :: s140 :: s141 :: s142 :: s143 :: s144 :: s145 :: s146 :: s147 :: s148 :: s149 :: s150 :: s151 :: s152 :: s153 :: s154 :: s155 :: s156 :: s157 :: s158 :: s159 :: s160 :: s161 :: s162 :: s163 :: s164 :: s165 :: s166 :: s167 :: s168 :: s169 :: s170 :: s171 :: s172 :: s173 :: s174 :: s175 :: s176 :: s177 :: s178 :: s179 :: []).toArray, defers := [] } Wt := by
  have hcut2 : (((((((Try.f5.body.bind (loopFor 0)).bind fun p => blockIn 1 p.1).bind fun q => blk2 2 q.1).bind arms).bind fun q => arms q.2).bind fun q => blockIn 3 q.1).bind fun q => (loopOf q.1).map fun b => (b, q.2)) = some (b, r) := by
    have hcc : ((((((((Try.f5.body.bind (loopFor 0)).bind fun p => blockIn 1 p.1).bind fun q => blk2 2 q.1).bind arms).bind fun q => arms q.2).bind fun q => blockIn 3 q.1).bind fun q => (loopOf q.1).map fun b => (b, q.2)).bind fun p => ((Try.f5.body.bind (loopFor 0)).bind fun p => blockIn 1 p.1).bind fun q => (after2 2 q.1).map fun y => (p.1, p.2, y, q.2)) = some (_, _, _, _) := rfl
    rw [hcc] at hcut
    cases hcut
    rfl
  refine wp_loop_rounds (n + 1) ?_
  refine find_rounds BM BL BK BE G n j b0 o0 cm ks e 2 (by omega) hj hn Wt hO.st hm hb0 _ b r hcut2 ?_ n 0 (by omega) (fun u h1 h2 => by omega) _ _ _ _ _ _ _ _ _ _ _ _ _ _ _ _ _ _ _ _ _ _ _ _ _ _ _ _ _ _ _ _ _ _ _ _ _ _ _ _ _ _ _ _ _ _ _ _ _ _ _ _ _ _ _ _ _ _ _ _ _ _ _ _ _ _ _ _ _ _ _ _ _ _ _ _ _ _ _ _ _ _ _ _ _ _ _ _ _ _ _ _ _ _ _ _ _ _ _ _ _ _ _ _ _ _ _ _ _ _ _ _ _ _ _ _ _ _ _ _ _ _ _ _ _ _ _ _ _ _ _ _ _ _ _ _ _ _ _ _ _ _ _ _ _ _ _ _ _ _ _ _ _ _ _ _ _ _ _ _ _ _ _ _ _ _ _ _ _ _ _ _ _ Wt (Below.refl _ _)
  intro t h1 h2 h3 h4
  unfold NxG
  intros
  rename_i W' hB'
  have hO' : Ou w BM BL BK BE G n (some ⟨b0, o0, none⟩) cm j P ks e a c W' := ⟨hO.al, hO.st.keep hB', keep_below hO.lk hB', hO.li.below hB', Below.next hO.be hB' (Nat.le_refl _)⟩
  have hm' : W'.cell? ⟨b0, o0 + j, none⟩ = some (.int .i64 2) := by rw [World.cell?_of_block (w := Wt) (a := ⟨b0, o0 + j, none⟩) (hB'.block b0 hb0)]; exact hm
  refine in_b0 (hK3 _ _ ?_)
  have hA := al_step hO.al hj
  by_cases hq : t ≤ n
  · obtain ⟨a1, a2, a3⟩ := al_leave hA false h1 hq (h3 hq)
    exact lv2_found w BM BL BK BE G n cm b0 o0 hn ho j t hj h1 hq P ks e a c W' hO' hm' (Nat.lt_of_lt_of_le hb0 hB'.size) a1 a2 a3 K2 K4 N Q0 b r y z hK2 hK4 hcut hN
  · obtain rfl : t = n + 1 := by omega
    exact lv2_none w BM BL BK BE G n cm b0 o0 hn ho j _ hj rfl P ks e a c W' hO' hm' (Nat.lt_of_lt_of_le hb0 hB'.size) (al_nobody hA false (h4 rfl)) hA K2 K4 N Q0 b r y z hK2 hK4 hcut hN

set_option maxRecDepth 100000 in
set_option maxHeartbeats 4000000 in
theorem mv_leave2 (w : World) (BM BL BK BE G n : Nat) (am : Option Addr) (cm : Nat) (xs : List Int) (hIL : IsL KI w (.slice am n cm) xs) (hn : n ≤ 200) (ho : Ord w BM BL BK BE G) (j : Nat) (hj : j < n) (P : Lk) (ks : List Int) (e : Int) (a : Option Addr) (c : Nat) (Wt : World) (hO : Ou w BM BL BK BE G n am cm j P ks e a c Wt) (hv : xs.getD j 0 = 2)
    {s0 s2 s8 s9 s10 s11 s12 s13 s14 s15 s16 s17 s18 s19 s20 s21 s22 s23 s24 s25 s26 s27 s28 s29 s30 s31 s32 s33 s34 s35 s36 s37 s38 s39 s40 s41 s42 s43 s44 s45 s46 s47 s48 s49 s50 s51 s52 s53 s54 s55 s56 s57 s58 s59 s60 s61 s62 s63 s64 s65 s66 s67 s68 s69 s70 s71 s72 s73 s74 s75 s76 s77 s78 s79 s80 s81 s82 s83 s84 s85 s86 s87 s88 s89 s90 s91 s92 s93 s94 s95 s96 s97 s98 s99 s100 s101 s102 s103 s104 s105 s106 s107 s108 s109 s110 s111 s112 s113 s114 s115 s116 s117 s118 s119 s120 s121 s122 s123 s124 s125 s126 s127 s128 s129 s130 s131 s132 s133 s134 s135 s136 s137 s138 s139 s140 s141 s142 s143 s144 s145 s146 s147 s148 s149 s150 s151 s152 s153 s154 s155 s156 s157 s158 s159 s160 s161 s162 s163 s164 s165 s166 s167 s168 s169 s170 s171 s172 s173 s174 s175 s176 s177 s178 s179 : Value} (N : Act → World → Prop) (Q0 : Exit → Act → World → Prop) (b r : Code) (hcut : (Try.f5.body.bind (loopFor 0)) = some (b, r)) (hN : NxO w BM BL BK BE G n am cm j N) :
    b.wp Try.prog (Exit.then N Q0) { tmps := (s0 :: .pointer (some ⟨BM, 0, none⟩) :: s2 :: .pointer (some ⟨BL, 0, none⟩) :: .pointer (some ⟨BK, 0, none⟩) :: .pointer (some ⟨BE, 0, none⟩) :: .func (Fn.func 23) #[] #[.pointer (some ⟨BM, 0, none⟩), .pointer (some ⟨BK, 0, none⟩), .pointer (some ⟨BE, 0, none⟩)] :: .int .i64 (j : Int) :: s8 :: s9 :: s10 :: s11 :: s12 :: s13 :: s14 :: s15 :: s16 :: s17 :: s18 :: s19 :: s20 :: s21 :: s22 :: s23 :: s24 :: s25 :: s26 :: s27 :: s28 :: s29 :: s30 :: s31 :: s32 :: s33 :: s34 :: s35 :: s36 :: s37 :: s38 :: s39 :: s40 :: s41 :: s42 :: s43 :: s44 :: s45 :: s46 :: s47 :: s48 :: s49 :: s50 :: s51 :: s52 :: s53 :: s54 :: s55 :: s56 :: s57 :: s58 :: s59 :: s60 :: s61 :: s62 :: s63 :: s64 :: s65 :: s66 :: s67 :: s68 :: s69 :: s70 :: s71 :: s72 :: s73 :: s74 :: s75 :: s76 :: s77 :: s78 :: s79 :: s80 :: s81 :: s82 :: s83 :: s84 :: s85 :: s86 :: s87 :: s88 :: s89 :: s90 :: s91 :: s92 :: s93 :: s94 :: s95 :: s96 :: s97 :: s98 :: s99 :: s100 :: s101 :: s102 :: s103 :: s104 :: s105 :: s106 :: s107 :: s108 :: s109 :: s110 :: s111 :: s112 :: s113 :: s114 :: s115 :: s116 :: s117 :: s118 :: s119 :: s120 :: s121 :: s122 :: s123 :: s124 :: s125 :: s126 :: s127 :: s128 :: s129 :: s130 :: s131 :: s132 :: s133 :: s134 :: s135 :: s136 :: s137 :: s138 :: s139 :: s140 :: s141 :: s142 :: s143 :: s144 :: s145 :: s146 :: s147 :: s148 :: s149 :: s150 :: s151 :: s152 :: s153 :: s154 :: s155 :: s156 :: s157 :: s158 :: s159 :: s160 :: s161 :: s162 :: s163 :: s164 :: s165 :: s166 :: s167 :: s168 :: s169 :: s170 :: s171 :: s172 :: s173 :: s174 :: s175 :: s176 :: s177 :: s178 :: s179 :: []).toArray, defers := [] } Wt := by
  have hord := ho
  have HOD := hide hord
  clear hord
  have hcc : (Try.f5.body.bind (loopFor 0)) = some (_, _) := rfl
  rw [hcc] at hcut
  cases hcut
  clear hcc
  obtain ⟨ho1, ho2, ho3, ho4, ho5⟩ := ho
  obtain ⟨b0, o0, rfl, hb0, l0⟩ := hIL.opens ki hIL.len (by omega)
  have cx := (l0.below hO.be hb0).ints (j := j) (by rw [hIL.len]; exact hj)
  rw [hv] at cx
  have hbw : b0 < Wt.heap.size := Nat.lt_of_lt_of_le hb0 hO.be.size
  have i0 : (0 : Int) ≤ (j : Int) := by omega
  have i1 : (j : Int) < (n : Int) := by omega
  have hwr : IntKind.i64.wrap ((j : Int) + 1) = (j : Int) + 1 := wrapi (by omega) (by omega)
  obtain ⟨m0, mf0, ml⟩ := block1 hO.st.m
  have HN := hide hN; have HO := hide hO; have HCX := hide cx; have HBW := hide hbw
  have hsz : BE < Wt.heap.size := size_of hO.st.e
  clear hIL hN hO l0 hb0 hv
  go_upto_region 25 with fail
  clear cx m0 mf0
  go_wp2_with fail
  exact floop2 w BM BL BK BE G n cm b0 o0 hn (unhide HOD) j hj P ks e a c Wt (unhide HO) (unhide HCX) (unhide HBW) _ _ _ N Q0 _ _ _ _ (by assumption) (by assumption) (by assumption) (by kernel_rfl) (unhide HN)

set_option maxRecDepth 100000 in
set_option maxHeartbeats 4000000 in
theorem floop3 (w : World) (BM BL BK BE G n : Nat) (cm b0 o0 : Nat) (hn : n ≤ 200) (ho : Ord w BM BL BK BE G) (j : Nat) (hj : j < n) (P : Lk) (ks : List Int) (e : Int) (a : Option Addr) (c : Nat) (Wt : World) (hO : Ou w BM BL BK BE G n (some ⟨b0, o0, none⟩) cm j P ks e a c Wt) (hm : Wt.cell? ⟨b0, o0 + j, none⟩ = some (.int .i64 3)) (hb0 : b0 < Wt.heap.size)
    {s0 s2 s8 s9 s10 s11 s13 s14 s15 s16 s17 s18 s19 s20 s21 s22 s23 s24 s25 s26 s27 s28 s29 s30 s31 s32 s33 s34 s35 s36 s37 s38 s39 s40 s41 s42 s43 s44 s45 s46 s47 s48 s49 s50 s51 s52 s53 s54 s55 s56 s57 s58 s59 s60 s61 s62 s63 s64 s65 s66 s67 s68 s69 s70 s71 s72 s73 s74 s75 s76 s77 s78 s79 s80 s81 s82 s83 s84 s85 s86 s87 s88 s89 s90 s91 s92 s93 s94 s95 s96 s97 s98 s99 s100 s101 s102 s103 s104 s105 s106 s107 s108 s109 s110 s111 s112 s113 s114 s115 s116 s117 s118 s119 s120 s121 s122 s123 s124 s125 s126 s127 s128 s129 s130 s131 s132 s133 s134 s135 s136 s137 s138 s139 s140 s141 s142 s143 s144 s145 s146 s147 s148 s149 s150 s151 s152 s153 s154 s155 s156 s157 s158 s159 s160 s161 s162 s163 s164 s165 s166 s167 s168 s169 s170 s171 s172 s173 s174 s175 s176 s177 s178 s179 : Value} (K3 K2 K4 N : Act → World → Prop) (Q0 : Exit → Act → World → Prop) (b r y z : Code) (hK3 : ∀ a w', r.wp Try.prog (Exit.inBlock 2 (Exit.then K2 (Exit.inBlock 1 (Exit.then K4 (Exit.then N Q0))))) a w' → K3 a w') (hK2 : ∀ a w', y.wp Try.prog (Exit.inBlock 1 (Exit.then K4 (Exit.then N Q0))) a w' → K2 a w') (hK4 : ∀ a w', z.wp Try.prog (Exit.then N Q0) a w' → K4 a w') (hcut : ((((((((Try.f5.body.bind (loopFor 0)).bind fun p => blockIn 1 p.1).bind fun q => blk2 2 q.1).bind arms).bind fun q => arms q.2).bind fun q => blockIn 3 q.1).bind fun q => (loopOf q.1).map fun b => (b, q.2)).bind fun p => ((Try.f5.body.bind (loopFor 0)).bind fun p => blockIn 1 p.1).bind fun q => (after2 2 q.1).map fun y => (p.1, p.2, y, q.2)) = some (b, r, y, z)) (hN : NxO w BM BL BK BE G n (some ⟨b0, o0, none⟩) cm j N) :
    (Code.loop b).wp Try.prog (Exit.inBlock 3 (Exit.then K3 (Exit.inBlock 2 (Exit.then K2 (Exit.inBlock 1 (Exit.then K4 (Exit.then N Q0))))))) { tmps := (s0 :: .pointer (some ⟨BM, 0, none⟩) :: s2 :: .pointer (some ⟨BL, 0, none⟩) :: .pointer (some ⟨BK, 0, none⟩) :: .pointer (some ⟨BE, 0, none⟩) :: .func (Fn.func 23) #[] #[.pointer (some ⟨BM, 0, none⟩), .pointer (some ⟨BK, 0, none⟩), .pointer (some ⟨BE, 0, none⟩)] :: .int .i64 (j : Int) :: s8 :: s9 :: s10 :: s11 :: .int .i64 1 :: s13 :: s14 :: s15 :: s16 :: s17 :: s18 :: s19 :: s20 :: s21 :: s22 :: s23 :: s24 :: s25 :: s26 :: s27 :: s28 :: s29 :: s30 :: s31 :: s32 :: s33 :: s34 :: s35 :: s36 :: s37 :: s38 :: s39 :: s40 :: s41 :: s42 :: s43 :: s44 :: s45 :: s46 :: s47 :: s48 :: s49 :: s50 :: s51 :: s52 :: s53 :: s54 :: s55 :: s56 :: s57 :: s58 :: s59 :: s60 :: s61 :: s62 :: s63 :: s64 :: s65 :: s66 :: s67 :: s68 :: s69 :: s70 :: s71 :: s72 :: s73 :: s74 :: s75 :: s76 :: s77 :: s78 :: s79 :: s80 :: s81 :: s82 :: s83 :: s84 :: s85 :: s86 :: s87 :: s88 :: s89 :: s90 :: s91 :: s92 :: s93 :: s94 :: s95 :: s96 :: s97 :: s98 :: s99 :: s100 :: s101 :: s102 :: s103 :: s104 :: s105 :: s106 :: s107 :: s108 :: s109 :: s110 :: s111 :: s112 :: s113 :: s114 :: s115 :: s116 :: s117 :: s118 :: s119 :: s120 :: s121 :: s122 :: s123 :: s124 :: s125 :: s126 :: s127 :: s128 :: s129 :: s130 :: s131 :: s132 :: s133 :: s134 :: s135 :: s136 :: s137 :: s138 :: s139 :: s140 :: s141 :: s142 :: s143 :: s144 :: s145 :: s146 :: s147 :: s148 :: s149 :: s150 :: s151 :: s152 :: s153 :: s154 :: s155 :: s156 :: s157 :: s158 :: s159 :: s160 :: s161 :: s162 :: s163 :: s164 :: s165 :: s166 :: s167 :: s168 :: s169 :: s170 :: s171 :: s172 :: s173 :: s174 :: s175 :: s176 :: s177 :: s178 :: s179 :: []).toArray, defers := [] } Wt := by
  have hcut2 : (((((((Try.f5.body.bind (loopFor 0)).bind fun p => blockIn 1 p.1).bind fun q => blk2 2 q.1).bind arms).bind fun q => arms q.2).bind fun q => blockIn 3 q.1).bind fun q => (loopOf q.1).map fun b => (b, q.2)) = some (b, r) := by
    have hcc : ((((((((Try.f5.body.bind (loopFor 0)).bind fun p => blockIn 1 p.1).bind fun q => blk2 2 q.1).bind arms).bind fun q => arms q.2).bind fun q => blockIn 3 q.1).bind fun q => (loopOf q.1).map fun b => (b, q.2)).bind fun p => ((Try.f5.body.bind (loopFor 0)).bind fun p => blockIn 1 p.1).bind fun q => (after2 2 q.1).map fun y => (p.1, p.2, y, q.2)) = some (_, _, _, _) := rfl
    rw [hcc] at hcut
    cases hcut
    rfl
  refine wp_loop_rounds (n + 1) ?_
  refine find_rounds BM BL BK BE G n j b0 o0 cm ks e 3 (by omega) hj hn Wt hO.st hm hb0 _ b r hcut2 ?_ n 0 (by omega) (fun u h1 h2 => by omega) _ _ _ _ _ _ _ _ _ _ _ _ _ _ _ _ _ _ _ _ _ _ _ _ _ _ _ _ _ _ _ _ _ _ _ _ _ _ _ _ _ _ _ _ _ _ _ _ _ _ _ _ _ _ _ _ _ _ _ _ _ _ _ _ _ _ _ _ _ _ _ _ _ _ _ _ _ _ _ _ _ _ _ _ _ _ _ _ _ _ _ _ _ _ _ _ _ _ _ _ _ _ _ _ _ _ _ _ _ _ _ _ _ _ _ _ _ _ _ _ _ _ _ _ _ _ _ _ _ _ _ _ _ _ _ _ _ _ _ _ _ _ _ _ _ _ _ _ _ _ _ _ _ _ _ _ _ _ _ _ _ _ _ _ _ _ _ _ _ _ _ _ _ Wt (Below.refl _ _)
  intro t h1 h2 h3 h4
  unfold NxG
  intros
  rename_i W' hB'
  have hO' : Ou w BM BL BK BE G n (some ⟨b0, o0, none⟩) cm j P ks e a c W' := ⟨hO.al, hO.st.keep hB', keep_below hO.lk hB', hO.li.below hB', Below.next hO.be hB' (Nat.le_refl _)⟩
  have hm' : W'.cell? ⟨b0, o0 + j, none⟩ = some (.int .i64 3) := by rw [World.cell?_of_block (w := Wt) (a := ⟨b0, o0 + j, none⟩) (hB'.block b0 hb0)]; exact hm
  refine in_b0 (hK3 _ _ ?_)
  have hA := al_step hO.al hj
  by_cases hq : t ≤ n
  · obtain ⟨a1, a2, a3⟩ := al_leave hA true h1 hq (h3 hq)
    exact lv3_found w BM BL BK BE G n cm b0 o0 hn ho j t hj h1 hq P ks e a c W' hO' hm' (Nat.lt_of_lt_of_le hb0 hB'.size) a1 a2 a3 K2 K4 N Q0 b r y z hK2 hK4 hcut hN
  · obtain rfl : t = n + 1 := by omega
    exact lv3_none w BM BL BK BE G n cm b0 o0 hn ho j _ hj rfl P ks e a c W' hO' hm' (Nat.lt_of_lt_of_le hb0 hB'.size) (al_nobody hA true (h4 rfl)) hA K2 K4 N Q0 b r y z hK2 hK4 hcut hN

set_option maxRecDepth 100000 in
set_option maxHeartbeats 4000000 in
theorem mv_leave3 (w : World) (BM BL BK BE G n : Nat) (am : Option Addr) (cm : Nat) (xs : List Int) (hIL : IsL KI w (.slice am n cm) xs) (hn : n ≤ 200) (ho : Ord w BM BL BK BE G) (j : Nat) (hj : j < n) (P : Lk) (ks : List Int) (e : Int) (a : Option Addr) (c : Nat) (Wt : World) (hO : Ou w BM BL BK BE G n am cm j P ks e a c Wt) (hv : xs.getD j 0 = 3)
    {s0 s2 s8 s9 s10 s11 s12 s13 s14 s15 s16 s17 s18 s19 s20 s21 s22 s23 s24 s25 s26 s27 s28 s29 s30 s31 s32 s33 s34 s35 s36 s37 s38 s39 s40 s41 s42 s43 s44 s45 s46 s47 s48 s49 s50 s51 s52 s53 s54 s55 s56 s57 s58 s59 s60 s61 s62 s63 s64 s65 s66 s67 s68 s69 s70 s71 s72 s73 s74 s75 s76 s77 s78 s79 s80 s81 s82 s83 s84 s85 s86 s87 s88 s89 s90 s91 s92 s93 s94 s95 s96 s97 s98 s99 s100 s101 s102 s103 s104 s105 s106 s107 s108 s109 s110 s111 s112 s113 s114 s115 s116 s117 s118 s119 s120 s121 s122 s123 s124 s125 s126 s127 s128 s129 s130 s131 s132 s133 s134 s135 s136 s137 s138 s139 s140 s141 s142 s143 s144 s145 s146 s147 s148 s149 s150 s151 s152 s153 s154 s155 s156 s157 s158 s159 s160 s161 s162 s163 s164 s165 s166 s167 s168 s169 s170 s171 s172 s173 s174 s175 s176 s177 s178 s179 : Value} (N : Act → World → Prop) (Q0 : Exit → Act → World → Prop) (b r : Code) (hcut : (Try.f5.body.bind (loopFor 0)) = some (b, r)) (hN : NxO w BM BL BK BE G n am cm j N) :
    b.wp Try.prog (Exit.then N Q0) { tmps := (s0 :: .pointer (some ⟨BM, 0, none⟩) :: s2 :: .pointer (some ⟨BL, 0, none⟩) :: .pointer (some ⟨BK, 0, none⟩) :: .pointer (some ⟨BE, 0, none⟩) :: .func (Fn.func 23) #[] #[.pointer (some ⟨BM, 0, none⟩), .pointer (some ⟨BK, 0, none⟩), .pointer (some ⟨BE, 0, none⟩)] :: .int .i64 (j : Int) :: s8 :: s9 :: s10 :: s11 :: s12 :: s13 :: s14 :: s15 :: s16 :: s17 :: s18 :: s19 :: s20 :: s21 :: s22 :: s23 :: s24 :: s25 :: s26 :: s27 :: s28 :: s29 :: s30 :: s31 :: s32 :: s33 :: s34 :: s35 :: s36 :: s37 :: s38 :: s39 :: s40 :: s41 :: s42 :: s43 :: s44 :: s45 :: s46 :: s47 :: s48 :: s49 :: s50 :: s51 :: s52 :: s53 :: s54 :: s55 :: s56 :: s57 :: s58 :: s59 :: s60 :: s61 :: s62 :: s63 :: s64 :: s65 :: s66 :: s67 :: s68 :: s69 :: s70 :: s71 :: s72 :: s73 :: s74 :: s75 :: s76 :: s77 :: s78 :: s79 :: s80 :: s81 :: s82 :: s83 :: s84 :: s85 :: s86 :: s87 :: s88 :: s89 :: s90 :: s91 :: s92 :: s93 :: s94 :: s95 :: s96 :: s97 :: s98 :: s99 :: s100 :: s101 :: s102 :: s103 :: s104 :: s105 :: s106 :: s107 :: s108 :: s109 :: s110 :: s111 :: s112 :: s113 :: s114 :: s115 :: s116 :: s117 :: s118 :: s119 :: s120 :: s121 :: s122 :: s123 :: s124 :: s125 :: s126 :: s127 :: s128 :: s129 :: s130 :: s131 :: s132 :: s133 :: s134 :: s135 :: s136 :: s137 :: s138 :: s139 :: s140 :: s141 :: s142 :: s143 :: s144 :: s145 :: s146 :: s147 :: s148 :: s149 :: s150 :: s151 :: s152 :: s153 :: s154 :: s155 :: s156 :: s157 :: s158 :: s159 :: s160 :: s161 :: s162 :: s163 :: s164 :: s165 :: s166 :: s167 :: s168 :: s169 :: s170 :: s171 :: s172 :: s173 :: s174 :: s175 :: s176 :: s177 :: s178 :: s179 :: []).toArray, defers := [] } Wt := by
  have hord := ho
  have HOD := hide hord
  clear hord
  have hcc : (Try.f5.body.bind (loopFor 0)) = some (_, _) := rfl
  rw [hcc] at hcut
  cases hcut
  clear hcc
  obtain ⟨ho1, ho2, ho3, ho4, ho5⟩ := ho
  obtain ⟨b0, o0, rfl, hb0, l0⟩ := hIL.opens ki hIL.len (by omega)
  have cx := (l0.below hO.be hb0).ints (j := j) (by rw [hIL.len]; exact hj)
  rw [hv] at cx
  have hbw : b0 < Wt.heap.size := Nat.lt_of_lt_of_le hb0 hO.be.size
  have i0 : (0 : Int) ≤ (j : Int) := by omega
  have i1 : (j : Int) < (n : Int) := by omega
  have hwr : IntKind.i64.wrap ((j : Int) + 1) = (j : Int) + 1 := wrapi (by omega) (by omega)
  obtain ⟨m0, mf0, ml⟩ := block1 hO.st.m
  have HN := hide hN; have HO := hide hO; have HCX := hide cx; have HBW := hide hbw
  have hsz : BE < Wt.heap.size := size_of hO.st.e
  clear hIL hN hO l0 hb0 hv
  go_upto_region 25 with fail
  clear cx m0 mf0
  go_wp2_with fail
  exact floop3 w BM BL BK BE G n cm b0 o0 hn (unhide HOD) j hj P ks e a c Wt (unhide HO) (unhide HCX) (unhide HBW) _ _ _ N Q0 _ _ _ _ (by assumption) (by assumption) (by assumption) (by kernel_rfl) (unhide HN)

end Go.Proofs.Ytdpcbmekplcllaa
