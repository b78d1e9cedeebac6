/-
  taskmilllaw.LockAlone: what holds all the time; the look at all tasks behind each move.
-/
import Derived.Test.YtdpcbmekplcllaaAb
namespace Go.Proofs.Ytdpcbmekplcllaa
open Go.RowKit

/-- What holds ahead of the move j. -/
structure Ou (w : World) (BM BL BK BE G n : Nat) (am : Option Addr) (cm : Nat) (j : Nat) (P : Lk) (ks : List Int) (e : Int) (a : Option Addr) (c : Nat) (W : World) : Prop where
  al : Al n j P ks e
  st : St W BM BK BE G n am cm ks e
  lk : W.heap[BL]? = some (.cells #[.int .i64 P.readers, .bool P.writer, .slice a P.line.length c] 24)
  li : New KP (BE + 1) W (.slice a P.line.length c) P.line
  be : Below w.heap.size w W
/-- The variables lie in this order. -/
def Ord (w : World) (BM BL BK BE G : Nat) : Prop := w.heap.size ≤ BM ∧ BM < BL ∧ BL < G ∧ G < BK ∧ BK < BE
/-- What follows a move. -/
def NxO (w : World) (BM BL BK BE G n : Nat) (am : Option Addr) (cm : Nat) (j : Nat) (N : Act → World → Prop) : Prop := ∀ (s0 s2 s8 s9 s10 s11 s12 s13 s14 s15 s16 s17 s18 s19 s20 s21 s22 s23 s24 s25 s26 s27 s28 s29 s30 s31 s32 s33 s34 s35 s36 s37 s38 s39 s40 s41 s42 s43 s44 s45 s46 s47 s48 s49 s50 s51 s52 s53 s54 s55 s56 s57 s58 s59 s60 s61 s62 s63 s64 s65 s66 s67 s68 s69 s70 s71 s72 s73 s74 s75 s76 s77 s78 s79 s80 s81 s82 s83 s84 s85 s86 s87 s88 s89 s90 s91 s92 s93 s94 s95 s96 s97 s98 s99 s100 s101 s102 s103 s104 s105 s106 s107 s108 s109 s110 s111 s112 s113 s114 s115 s116 s117 s118 s119 s120 s121 s122 s123 s124 s125 s126 s127 s128 s129 s130 s131 s132 s133 s134 s135 s136 s137 s138 s139 s140 s141 s142 s143 s144 s145 s146 s147 s148 s149 s150 s151 s152 s153 s154 s155 s156 s157 s158 s159 s160 s161 s162 s163 s164 s165 s166 s167 s168 s169 s170 s171 s172 s173 s174 s175 s176 s177 s178 s179 : Value) (P : Lk) (ks : List Int) (e : Int) (a : Option Addr) (c : Nat) (W' : World), Ou w BM BL BK BE G n am cm (j + 1) P ks e a c W' → N { tmps := (s0 :: .pointer (some ⟨BM, 0, none⟩) :: s2 :: .pointer (some ⟨BL, 0, none⟩) :: .pointer (some ⟨BK, 0, none⟩) :: .pointer (some ⟨BE, 0, none⟩) :: .func (Fn.func 23) #[] #[.pointer (some ⟨BM, 0, none⟩), .pointer (some ⟨BK, 0, none⟩), .pointer (some ⟨BE, 0, none⟩)] :: .int .i64 ((j : Int) + 1) :: s8 :: s9 :: s10 :: s11 :: s12 :: s13 :: s14 :: s15 :: s16 :: s17 :: s18 :: s19 :: s20 :: s21 :: s22 :: s23 :: s24 :: s25 :: s26 :: s27 :: s28 :: s29 :: s30 :: s31 :: s32 :: s33 :: s34 :: s35 :: s36 :: s37 :: s38 :: s39 :: s40 :: s41 :: s42 :: s43 :: s44 :: s45 :: s46 :: s47 :: s48 :: s49 :: s50 :: s51 :: s52 :: s53 :: s54 :: s55 :: s56 :: s57 :: s58 :: s59 :: s60 :: s61 :: s62 :: s63 :: s64 :: s65 :: s66 :: s67 :: s68 :: s69 :: s70 :: s71 :: s72 :: s73 :: s74 :: s75 :: s76 :: s77 :: s78 :: s79 :: s80 :: s81 :: s82 :: s83 :: s84 :: s85 :: s86 :: s87 :: s88 :: s89 :: s90 :: s91 :: s92 :: s93 :: s94 :: s95 :: s96 :: s97 :: s98 :: s99 :: s100 :: s101 :: s102 :: s103 :: s104 :: s105 :: s106 :: s107 :: s108 :: s109 :: s110 :: s111 :: s112 :: s113 :: s114 :: s115 :: s116 :: s117 :: s118 :: s119 :: s120 :: s121 :: s122 :: s123 :: s124 :: s125 :: s126 :: s127 :: s128 :: s129 :: s130 :: s131 :: s132 :: s133 :: s134 :: s135 :: s136 :: s137 :: s138 :: s139 :: s140 :: s141 :: s142 :: s143 :: s144 :: s145 :: s146 :: s147 :: s148 :: s149 :: s150 :: s151 :: s152 :: s153 :: s154 :: s155 :: s156 :: s157 :: s158 :: s159 :: s160 :: s161 :: s162 :: s163 :: s164 :: s165 :: s166 :: s167 :: s168 :: s169 :: s170 :: s171 :: s172 :: s173 :: s174 :: s175 :: s176 :: s177 :: s178 :: s179 :: []).toArray, defers := [] } W'

def cn (ks : List Int) (i : Nat) (v : Int) : Nat := ((ks.drop 1).take i).count v
theorem cn_zero (ks : List Int) (v : Int) : cn ks 0 v = 0 := by unfold cn; simp
theorem cn_all {ks : List Int} {n : Nat} (h : ks.length = n + 1) (v : Int) : cn ks n v = cnt ks v := by
  unfold cn cnt
  rw [List.take_of_length_le (by rw [List.length_drop]; omega)]
theorem cn_succ {ks : List Int} {n i : Nat} (h : ks.length = n + 1) (hi : i < n) (v : Int) : (cn ks (i + 1) v : Int) = cn ks i v + (if ks.getD (i + 1) 0 = v then 1 else 0) := by
  unfold cn
  have hl : i < (ks.drop 1).length := by rw [List.length_drop]; omega
  rw [List.take_succ_eq_append_getElem hl, List.count_append, List.getElem_drop, List.count_singleton]
  have hg : ks.getD (i + 1) 0 = ks[1 + i] := by
    rw [List.getD_eq_getElem?_getD, Nat.add_comm i 1, List.getElem?_eq_getElem (by omega)]
    rfl
  rw [hg]
  by_cases hv : ks[1 + i] = v <;> simp [hv]
theorem cn_le (ks : List Int) (i : Nat) (v : Int) : cn ks i v ≤ i := by
  unfold cn
  have := List.count_le_length (l := (ks.drop 1).take i) (a := v)
  rw [List.length_take] at this
  omega

/-- What follows a round of the count. -/
def NxC (BM BL BK BE i j : Nat) (cr2 cw2 : Int) (Wt : World) (N : Act → World → Prop) : Prop := ∀ (s0 s2 s8 s9 s10 s11 s12 s13 s14 s15 s16 s20 s21 s22 s23 s24 s25 s26 s27 s28 s29 s30 s31 s32 s33 s34 s35 s36 s37 s38 s39 s40 s41 s42 s43 s44 s45 s46 s47 s48 s49 s50 s51 s52 s53 s54 s55 s56 s57 s58 s59 s60 s61 s62 s63 s64 s65 s66 s67 s68 s69 s70 s71 s72 s73 s74 s75 s76 s77 s78 s79 s80 s81 s82 s83 s84 s85 s86 s87 s88 s89 s90 s91 s92 s93 s94 s95 s96 s97 s98 s99 s100 s101 s102 s103 s104 s105 s106 s107 s108 s109 s110 s111 s112 s113 s114 s115 s116 s117 s118 s119 s120 s121 s122 s123 s124 s125 s126 s127 s128 s129 s130 s131 s132 s133 s134 s135 s136 s137 s138 s139 s140 s141 s142 s143 s144 s145 s146 s147 s148 s149 s150 s151 s152 s153 s154 s155 s156 s157 s158 s159 s160 s161 s162 s163 s164 s165 s166 s167 s168 s169 s170 s171 s172 s173 s174 s175 s176 s177 s178 s179 : Value), N { tmps := (s0 :: .pointer (some ⟨BM, 0, none⟩) :: s2 :: .pointer (some ⟨BL, 0, none⟩) :: .pointer (some ⟨BK, 0, none⟩) :: .pointer (some ⟨BE, 0, none⟩) :: .func (Fn.func 23) #[] #[.pointer (some ⟨BM, 0, none⟩), .pointer (some ⟨BK, 0, none⟩), .pointer (some ⟨BE, 0, none⟩)] :: .int .i64 (j : Int) :: s8 :: s9 :: s10 :: s11 :: s12 :: s13 :: s14 :: s15 :: s16 :: .int .i64 cr2 :: .int .i64 cw2 :: .int .i64 ((i : Int) + 1 + 1) :: s20 :: s21 :: s22 :: s23 :: s24 :: s25 :: s26 :: s27 :: s28 :: s29 :: s30 :: s31 :: s32 :: s33 :: s34 :: s35 :: s36 :: s37 :: s38 :: s39 :: s40 :: s41 :: s42 :: s43 :: s44 :: s45 :: s46 :: s47 :: s48 :: s49 :: s50 :: s51 :: s52 :: s53 :: s54 :: s55 :: s56 :: s57 :: s58 :: s59 :: s60 :: s61 :: s62 :: s63 :: s64 :: s65 :: s66 :: s67 :: s68 :: s69 :: s70 :: s71 :: s72 :: s73 :: s74 :: s75 :: s76 :: s77 :: s78 :: s79 :: s80 :: s81 :: s82 :: s83 :: s84 :: s85 :: s86 :: s87 :: s88 :: s89 :: s90 :: s91 :: s92 :: s93 :: s94 :: s95 :: s96 :: s97 :: s98 :: s99 :: s100 :: s101 :: s102 :: s103 :: s104 :: s105 :: s106 :: s107 :: s108 :: s109 :: s110 :: s111 :: s112 :: s113 :: s114 :: s115 :: s116 :: s117 :: s118 :: s119 :: s120 :: s121 :: s122 :: s123 :: s124 :: s125 :: s126 :: s127 :: s128 :: s129 :: s130 :: s131 :: s132 :: s133 :: s134 :: s135 :: s136 :: s137 :: s138 :: s139 :: s140 :: s141 :: s142 :: s143 :: s144 :: s145 :: s146 :: s147 :: s148 :: s149 :: s150 :: s151 :: s152 :: s153 :: s154 :: s155 :: s156 :: s157 :: s158 :: s159 :: s160 :: s161 :: s162 :: s163 :: s164 :: s165 :: s166 :: s167 :: s168 :: s169 :: s170 :: s171 :: s172 :: s173 :: s174 :: s175 :: s176 :: s177 :: s178 :: s179 :: []).toArray, defers := [] } Wt

set_option maxRecDepth 100000 in
set_option maxHeartbeats 4000000 in
theorem ct_1 (BM BL BK BE G n i j : Nat) (am : Option Addr) (cm : Nat) (ks : List Int) (e : Int) (cr cw v : Int) (hi : i < n) (hn : n ≤ 200) (h0 : 0 ≤ cr) (h1 : cr ≤ 200) (h2 : 0 ≤ cw) (h3 : cw ≤ 200) (hk : ks.getD (i + 1) 0 = v) (hv : v = 1) (Wt : World) (hS : St Wt BM BK BE G n am cm ks e)
    {s0 s2 s8 s9 s10 s11 s12 s13 s14 s15 s16 s20 s21 s22 s23 s24 s25 s26 s27 s28 s29 s30 s31 s32 s33 s34 s35 s36 s37 s38 s39 s40 s41 s42 s43 s44 s45 s46 s47 s48 s49 s50 s51 s52 s53 s54 s55 s56 s57 s58 s59 s60 s61 s62 s63 s64 s65 s66 s67 s68 s69 s70 s71 s72 s73 s74 s75 s76 s77 s78 s79 s80 s81 s82 s83 s84 s85 s86 s87 s88 s89 s90 s91 s92 s93 s94 s95 s96 s97 s98 s99 s100 s101 s102 s103 s104 s105 s106 s107 s108 s109 s110 s111 s112 s113 s114 s115 s116 s117 s118 s119 s120 s121 s122 s123 s124 s125 s126 s127 s128 s129 s130 s131 s132 s133 s134 s135 s136 s137 s138 s139 s140 s141 s142 s143 s144 s145 s146 s147 s148 s149 s150 s151 s152 s153 s154 s155 s156 s157 s158 s159 s160 s161 s162 s163 s164 s165 s166 s167 s168 s169 s170 s171 s172 s173 s174 s175 s176 s177 s178 s179 : Value} (N : Act → World → Prop) (Q0 : Exit → Act → World → Prop) (b r : Code) (hcut : (((Try.f5.body.bind (loopFor 0)).bind fun p => blockIn 1 p.1).bind fun q => loopFor 5 q.1) = some (b, r)) (hN : NxC BM BL BK BE i j (cr + 1) cw Wt N) :
    b.wp Try.prog (Exit.then N Q0) { tmps := (s0 :: .pointer (some ⟨BM, 0, none⟩) :: s2 :: .pointer (some ⟨BL, 0, none⟩) :: .pointer (some ⟨BK, 0, none⟩) :: .pointer (some ⟨BE, 0, none⟩) :: .func (Fn.func 23) #[] #[.pointer (some ⟨BM, 0, none⟩), .pointer (some ⟨BK, 0, none⟩), .pointer (some ⟨BE, 0, none⟩)] :: .int .i64 (j : Int) :: s8 :: s9 :: s10 :: s11 :: s12 :: s13 :: s14 :: s15 :: s16 :: .int .i64 cr :: .int .i64 cw :: .int .i64 ((i : Int) + 1) :: s20 :: s21 :: s22 :: s23 :: s24 :: s25 :: s26 :: s27 :: s28 :: s29 :: s30 :: s31 :: s32 :: s33 :: s34 :: s35 :: s36 :: s37 :: s38 :: s39 :: s40 :: s41 :: s42 :: s43 :: s44 :: s45 :: s46 :: s47 :: s48 :: s49 :: s50 :: s51 :: s52 :: s53 :: s54 :: s55 :: s56 :: s57 :: s58 :: s59 :: s60 :: s61 :: s62 :: s63 :: s64 :: s65 :: s66 :: s67 :: s68 :: s69 :: s70 :: s71 :: s72 :: s73 :: s74 :: s75 :: s76 :: s77 :: s78 :: s79 :: s80 :: s81 :: s82 :: s83 :: s84 :: s85 :: s86 :: s87 :: s88 :: s89 :: s90 :: s91 :: s92 :: s93 :: s94 :: s95 :: s96 :: s97 :: s98 :: s99 :: s100 :: s101 :: s102 :: s103 :: s104 :: s105 :: s106 :: s107 :: s108 :: s109 :: s110 :: s111 :: s112 :: s113 :: s114 :: s115 :: s116 :: s117 :: s118 :: s119 :: s120 :: s121 :: s122 :: s123 :: s124 :: s125 :: s126 :: s127 :: s128 :: s129 :: s130 :: s131 :: s132 :: s133 :: s134 :: s135 :: s136 :: s137 :: s138 :: s139 :: s140 :: s141 :: s142 :: s143 :: s144 :: s145 :: s146 :: s147 :: s148 :: s149 :: s150 :: s151 :: s152 :: s153 :: s154 :: s155 :: s156 :: s157 :: s158 :: s159 :: s160 :: s161 :: s162 :: s163 :: s164 :: s165 :: s166 :: s167 :: s168 :: s169 :: s170 :: s171 :: s172 :: s173 :: s174 :: s175 :: s176 :: s177 :: s178 :: s179 :: []).toArray, defers := [] } Wt := by
  have hcc : (((Try.f5.body.bind (loopFor 0)).bind fun p => blockIn 1 p.1).bind fun q => loopFor 5 q.1) = some (_, _) := rfl
  rw [hcc] at hcut
  cases hcut
  clear hcc
  have i0 : (0 : Int) ≤ (i : Int) + 1 := by omega
  have i1 : (i : Int) + 1 ≤ (n : Int) := by omega
  have i2 : (i : Int) + 1 < ((n + 1 : Nat) : Int) := by omega
  have i3 : (i : Int) + 1 < (n : Int) + 1 := by omega
  have i4 : ((i : Int) + 1).toNat = i + 1 := by omega
  have hw1 : IntKind.i64.wrap ((i : Int) + 1 + 1) = (i : Int) + 1 + 1 := wrapi (by omega) (by omega)
  have hw2 : IntKind.i64.wrap (cr + 1) = cr + 1 := wrapi (by omega) (by omega)
  have hw3 : IntKind.i64.wrap (cw + 1) = cw + 1 := wrapi (by omega) (by omega)
  obtain ⟨r0, rf0⟩ := own_inti hS.r (j := i + 1) (by rw [hS.l]; omega)
  rw [hk] at r0
  subst hv
  obtain ⟨m0, mf0, ml⟩ := block1 hS.m
  obtain ⟨k0, kf0, kl⟩ := block1 hS.k
  have hGl : G < Wt.heap.size := (hS.r.lt G rfl).2
  have HN := hide hN
  clear hN hS hk h0 h1 h2 h3
  go_wp2_with fail
  exact unhide HN _ _ _ _ _ _ _ _ _ _ _ _ _ _ _ _ _ _ _ _ _ _ _ _ _ _ _ _ _ _ _ _ _ _ _ _ _ _ _ _ _ _ _ _ _ _ _ _ _ _ _ _ _ _ _ _ _ _ _ _ _ _ _ _ _ _ _ _ _ _ _ _ _ _ _ _ _ _ _ _ _ _ _ _ _ _ _ _ _ _ _ _ _ _ _ _ _ _ _ _ _ _ _ _ _ _ _ _ _ _ _ _ _ _ _ _ _ _ _ _ _ _ _ _ _ _ _ _ _ _ _ _ _ _ _ _ _ _ _ _ _ _ _ _ _ _ _ _ _ _ _ _ _ _ _ _ _ _ _ _ _ _ _ _ _ _ _ _ _ _ _

set_option maxRecDepth 100000 in
set_option maxHeartbeats 4000000 in
theorem ct_2 (BM BL BK BE G n i j : Nat) (am : Option Addr) (cm : Nat) (ks : List Int) (e : Int) (cr cw v : Int) (hi : i < n) (hn : n ≤ 200) (h0 : 0 ≤ cr) (h1 : cr ≤ 200) (h2 : 0 ≤ cw) (h3 : cw ≤ 200) (hk : ks.getD (i + 1) 0 = v) (hv : v = 2) (Wt : World) (hS : St Wt BM BK BE G n am cm ks e)
    {s0 s2 s8 s9 s10 s11 s12 s13 s14 s15 s16 s20 s21 s22 s23 s24 s25 s26 s27 s28 s29 s30 s31 s32 s33 s34 s35 s36 s37 s38 s39 s40 s41 s42 s43 s44 s45 s46 s47 s48 s49 s50 s51 s52 s53 s54 s55 s56 s57 s58 s59 s60 s61 s62 s63 s64 s65 s66 s67 s68 s69 s70 s71 s72 s73 s74 s75 s76 s77 s78 s79 s80 s81 s82 s83 s84 s85 s86 s87 s88 s89 s90 s91 s92 s93 s94 s95 s96 s97 s98 s99 s100 s101 s102 s103 s104 s105 s106 s107 s108 s109 s110 s111 s112 s113 s114 s115 s116 s117 s118 s119 s120 s121 s122 s123 s124 s125 s126 s127 s128 s129 s130 s131 s132 s133 s134 s135 s136 s137 s138 s139 s140 s141 s142 s143 s144 s145 s146 s147 s148 s149 s150 s151 s152 s153 s154 s155 s156 s157 s158 s159 s160 s161 s162 s163 s164 s165 s166 s167 s168 s169 s170 s171 s172 s173 s174 s175 s176 s177 s178 s179 : Value} (N : Act → World → Prop) (Q0 : Exit → Act → World → Prop) (b r : Code) (hcut : (((Try.f5.body.bind (loopFor 0)).bind fun p => blockIn 1 p.1).bind fun q => loopFor 5 q.1) = some (b, r)) (hN : NxC BM BL BK BE i j cr (cw + 1) Wt N) :
    b.wp Try.prog (Exit.then N Q0) { tmps := (s0 :: .pointer (some ⟨BM, 0, none⟩) :: s2 :: .pointer (some ⟨BL, 0, none⟩) :: .pointer (some ⟨BK, 0, none⟩) :: .pointer (some ⟨BE, 0, none⟩) :: .func (Fn.func 23) #[] #[.pointer (some ⟨BM, 0, none⟩), .pointer (some ⟨BK, 0, none⟩), .pointer (some ⟨BE, 0, none⟩)] :: .int .i64 (j : Int) :: s8 :: s9 :: s10 :: s11 :: s12 :: s13 :: s14 :: s15 :: s16 :: .int .i64 cr :: .int .i64 cw :: .int .i64 ((i : Int) + 1) :: s20 :: s21 :: s22 :: s23 :: s24 :: s25 :: s26 :: s27 :: s28 :: s29 :: s30 :: s31 :: s32 :: s33 :: s34 :: s35 :: s36 :: s37 :: s38 :: s39 :: s40 :: s41 :: s42 :: s43 :: s44 :: s45 :: s46 :: s47 :: s48 :: s49 :: s50 :: s51 :: s52 :: s53 :: s54 :: s55 :: s56 :: s57 :: s58 :: s59 :: s60 :: s61 :: s62 :: s63 :: s64 :: s65 :: s66 :: s67 :: s68 :: s69 :: s70 :: s71 :: s72 :: s73 :: s74 :: s75 :: s76 :: s77 :: s78 :: s79 :: s80 :: s81 :: s82 :: s83 :: s84 :: s85 :: s86 :: s87 :: s88 :: s89 :: s90 :: s91 :: s92 :: s93 :: s94 :: s95 :: s96 :: s97 :: s98 :: s99 :: s100 :: s101 :: s102 :: s103 :: s104 :: s105 :: s106 :: s107 :: s108 :: s109 :: s110 :: s111 :: s112 :: s113 :: s114 :: s115 :: s116 :: s117 :: s118 :: s119 :: s120 :: s121 :: s122 :: s123 :: s124 :: s125 :: s126 :: s127 :: s128 :: s129 :: s130 :: s131 :: s132 :: s133 :: s134 :: s135 :: s136 :: s137 :: s138 :: s139 :: s140 :: s141 :: s142 :: s143 :: s144 :: s145 :: s146 :: s147 :: s148 :: s149 :: s150 :: s151 :: s152 :: s153 :: s154 :: s155 :: s156 :: s157 :: s158 :: s159 :: s160 :: s161 :: s162 :: s163 :: s164 :: s165 :: s166 :: s167 :: s168 :: s169 :: s170 :: s171 :: s172 :: s173 :: s174 :: s175 :: s176 :: s177 :: s178 :: s179 :: []).toArray, defers := [] } Wt := by
  have hcc : (((Try.f5.body.bind (loopFor 0)).bind fun p => blockIn 1 p.1).bind fun q => loopFor 5 q.1) = some (_, _) := rfl
  rw [hcc] at hcut
  cases hcut
  clear hcc
  have i0 : (0 : Int) ≤ (i : Int) + 1 := by omega
  have i1 : (i : Int) + 1 ≤ (n : Int) := by omega
  have i2 : (i : Int) + 1 < ((n + 1 : Nat) : Int) := by omega
  have i3 : (i : Int) + 1 < (n : Int) + 1 := by omega
  have i4 : ((i : Int) + 1).toNat = i + 1 := by omega
  have hw1 : IntKind.i64.wrap ((i : Int) + 1 + 1) = (i : Int) + 1 + 1 := wrapi (by omega) (by omega)
  have hw2 : IntKind.i64.wrap (cr + 1) = cr + 1 := wrapi (by omega) (by omega)
  have hw3 : IntKind.i64.wrap (cw + 1) = cw + 1 := wrapi (by omega) (by omega)
  obtain ⟨r0, rf0⟩ := own_inti hS.r (j := i + 1) (by rw [hS.l]; omega)
  rw [hk] at r0
  subst hv
  obtain ⟨m0, mf0, ml⟩ := block1 hS.m
  obtain ⟨k0, kf0, kl⟩ := block1 hS.k
  have hGl : G < Wt.heap.size := (hS.r.lt G rfl).2
  have HN := hide hN
  clear hN hS hk h0 h1 h2 h3
  go_wp2_with fail
  exact unhide HN _ _ _ _ _ _ _ _ _ _ _ _ _ _ _ _ _ _ _ _ _ _ _ _ _ _ _ _ _ _ _ _ _ _ _ _ _ _ _ _ _ _ _ _ _ _ _ _ _ _ _ _ _ _ _ _ _ _ _ _ _ _ _ _ _ _ _ _ _ _ _ _ _ _ _ _ _ _ _ _ _ _ _ _ _ _ _ _ _ _ _ _ _ _ _ _ _ _ _ _ _ _ _ _ _ _ _ _ _ _ _ _ _ _ _ _ _ _ _ _ _ _ _ _ _ _ _ _ _ _ _ _ _ _ _ _ _ _ _ _ _ _ _ _ _ _ _ _ _ _ _ _ _ _ _ _ _ _ _ _ _ _ _ _ _ _ _ _ _ _ _

set_option maxRecDepth 100000 in
set_option maxHeartbeats 4000000 in
theorem ct_0 (BM BL BK BE G n i j : Nat) (am : Option Addr) (cm : Nat) (ks : List Int) (e : Int) (cr cw v : Int) (hi : i < n) (hn : n ≤ 200) (h0 : 0 ≤ cr) (h1 : cr ≤ 200) (h2 : 0 ≤ cw) (h3 : cw ≤ 200) (hk : ks.getD (i + 1) 0 = v) (hv1 : v ≠ 1) (hv2 : v ≠ 2) (Wt : World) (hS : St Wt BM BK BE G n am cm ks e)
    {s0 s2 s8 s9 s10 s11 s12 s13 s14 s15 s16 s20 s21 s22 s23 s24 s25 s26 s27 s28 s29 s30 s31 s32 s33 s34 s35 s36 s37 s38 s39 s40 s41 s42 s43 s44 s45 s46 s47 s48 s49 s50 s51 s52 s53 s54 s55 s56 s57 s58 s59 s60 s61 s62 s63 s64 s65 s66 s67 s68 s69 s70 s71 s72 s73 s74 s75 s76 s77 s78 s79 s80 s81 s82 s83 s84 s85 s86 s87 s88 s89 s90 s91 s92 s93 s94 s95 s96 s97 s98 s99 s100 s101 s102 s103 s104 s105 s106 s107 s108 s109 s110 s111 s112 s113 s114 s115 s116 s117 s118 s119 s120 s121 s122 s123 s124 s125 s126 s127 s128 s129 s130 s131 s132 s133 s134 s135 s136 s137 s138 s139 s140 s141 s142 s143 s144 s145 s146 s147 s148 s149 s150 s151 s152 s153 s154 s155 s156 s157 s158 s159 s160 s161 s162 s163 s164 s165 s166 s167 s168 s169 s170 s171 s172 s173 s174 s175 s176 s177 s178 s179 : Value} (N : Act → World → Prop) (Q0 : Exit → Act → World → Prop) (b r : Code) (hcut : (((Try.f5.body.bind (loopFor 0)).bind fun p => blockIn 1 p.1).bind fun q => loopFor 5 q.1) = some (b, r)) (hN : NxC BM BL BK BE i j cr cw Wt N) :
    b.wp Try.prog (Exit.then N Q0) { tmps := (s0 :: .pointer (some ⟨BM, 0, none⟩) :: s2 :: .pointer (some ⟨BL, 0, none⟩) :: .pointer (some ⟨BK, 0, none⟩) :: .pointer (some ⟨BE, 0, none⟩) :: .func (Fn.func 23) #[] #[.pointer (some ⟨BM, 0, none⟩), .pointer (some ⟨BK, 0, none⟩), .pointer (some ⟨BE, 0, none⟩)] :: .int .i64 (j : Int) :: s8 :: s9 :: s10 :: s11 :: s12 :: s13 :: s14 :: s15 :: s16 :: .int .i64 cr :: .int .i64 cw :: .int .i64 ((i : Int) + 1) :: s20 :: s21 :: s22 :: s23 :: s24 :: s25 :: s26 :: s27 :: s28 :: s29 :: s30 :: s31 :: s32 :: s33 :: s34 :: s35 :: s36 :: s37 :: s38 :: s39 :: s40 :: s41 :: s42 :: s43 :: s44 :: s45 :: s46 :: s47 :: s48 :: s49 :: s50 :: s51 :: s52 :: s53 :: s54 :: s55 :: s56 :: s57 :: s58 :: s59 :: s60 :: s61 :: s62 :: s63 :: s64 :: s65 :: s66 :: s67 :: s68 :: s69 :: s70 :: s71 :: s72 :: s73 :: s74 :: s75 :: s76 :: s77 :: s78 :: s79 :: s80 :: s81 :: s82 :: s83 :: s84 :: s85 :: s86 :: s87 :: s88 :: s89 :: s90 :: s91 :: s92 :: s93 :: s94 :: s95 :: s96 :: s97 :: s98 :: s99 :: s100 :: s101 :: s102 :: s103 :: s104 :: s105 :: s106 :: s107 :: s108 :: s109 :: s110 :: s111 :: s112 :: s113 :: s114 :: s115 :: s116 :: s117 :: s118 :: s119 :: s120 :: s121 :: s122 :: s123 :: s124 :: s125 :: s126 :: s127 :: s128 :: s129 :: s130 :: s131 :: s132 :: s133 :: s134 :: s135 :: s136 :: s137 :: s138 :: s139 :: s140 :: s141 :: s142 :: s143 :: s144 :: s145 :: s146 :: s147 :: s148 :: s149 :: s150 :: s151 :: s152 :: s153 :: s154 :: s155 :: s156 :: s157 :: s158 :: s159 :: s160 :: s161 :: s162 :: s163 :: s164 :: s165 :: s166 :: s167 :: s168 :: s169 :: s170 :: s171 :: s172 :: s173 :: s174 :: s175 :: s176 :: s177 :: s178 :: s179 :: []).toArray, defers := [] } Wt := by
  have hcc : (((Try.f5.body.bind (loopFor 0)).bind fun p => blockIn 1 p.1).bind fun q => loopFor 5 q.1) = some (_, _) := rfl
  rw [hcc] at hcut
  cases hcut
  clear hcc
  have i0 : (0 : Int) ≤ (i : Int) + 1 := by omega
  have i1 : (i : Int) + 1 ≤ (n : Int) := by omega
  have i2 : (i : Int) + 1 < ((n + 1 : Nat) : Int) := by omega
  have i3 : (i : Int) + 1 < (n : Int) + 1 := by omega
  have i4 : ((i : Int) + 1).toNat = i + 1 := by omega
  have hw1 : IntKind.i64.wrap ((i : Int) + 1 + 1) = (i : Int) + 1 + 1 := wrapi (by omega) (by omega)
  have hw2 : IntKind.i64.wrap (cr + 1) = cr + 1 := wrapi (by omega) (by omega)
  have hw3 : IntKind.i64.wrap (cw + 1) = cw + 1 := wrapi (by omega) (by omega)
  obtain ⟨r0, rf0⟩ := own_inti hS.r (j := i + 1) (by rw [hS.l]; omega)
  rw [hk] at r0
  have x1 : (v == 1) = false := by simpa using hv1
  have x2 : (v == 2) = false := by simpa using hv2
  clear hv1 hv2
  obtain ⟨m0, mf0, ml⟩ := block1 hS.m
  obtain ⟨k0, kf0, kl⟩ := block1 hS.k
  have hGl : G < Wt.heap.size := (hS.r.lt G rfl).2
  have HN := hide hN
  clear hN hS hk h0 h1 h2 h3
  go_wp2_with fail
  exact unhide HN _ _ _ _ _ _ _ _ _ _ _ _ _ _ _ _ _ _ _ _ _ _ _ _ _ _ _ _ _ _ _ _ _ _ _ _ _ _ _ _ _ _ _ _ _ _ _ _ _ _ _ _ _ _ _ _ _ _ _ _ _ _ _ _ _ _ _ _ _ _ _ _ _ _ _ _ _ _ _ _ _ _ _ _ _ _ _ _ _ _ _ _ _ _ _ _ _ _ _ _ _ _ _ _ _ _ _ _ _ _ _ _ _ _ _ _ _ _ _ _ _ _ _ _ _ _ _ _ _ _ _ _ _ _ _ _ _ _ _ _ _ _ _ _ _ _ _ _ _ _ _ _ _ _ _ _ _ _ _ _ _ _ _ _ _ _ _ _ _ _ _

theorem ct_any (BM BL BK BE G n i j : Nat) (am : Option Addr) (cm : Nat) (ks : List Int) (e : Int) (hi : i < n) (hn : n ≤ 200) (Wt : World) (hS : St Wt BM BK BE G n am cm ks e) (cr cw cr2 cw2 : Int) (h1 : cr = cn ks i 1) (h2 : cw = cn ks i 2) (h3 : cr2 = cn ks (i + 1) 1) (h4 : cw2 = cn ks (i + 1) 2)
    {s0 s2 s8 s9 s10 s11 s12 s13 s14 s15 s16 s20 s21 s22 s23 s24 s25 s26 s27 s28 s29 s30 s31 s32 s33 s34 s35 s36 s37 s38 s39 s40 s41 s42 s43 s44 s45 s46 s47 s48 s49 s50 s51 s52 s53 s54 s55 s56 s57 s58 s59 s60 s61 s62 s63 s64 s65 s66 s67 s68 s69 s70 s71 s72 s73 s74 s75 s76 s77 s78 s79 s80 s81 s82 s83 s84 s85 s86 s87 s88 s89 s90 s91 s92 s93 s94 s95 s96 s97 s98 s99 s100 s101 s102 s103 s104 s105 s106 s107 s108 s109 s110 s111 s112 s113 s114 s115 s116 s117 s118 s119 s120 s121 s122 s123 s124 s125 s126 s127 s128 s129 s130 s131 s132 s133 s134 s135 s136 s137 s138 s139 s140 s141 s142 s143 s144 s145 s146 s147 s148 s149 s150 s151 s152 s153 s154 s155 s156 s157 s158 s159 s160 s161 s162 s163 s164 s165 s166 s167 s168 s169 s170 s171 s172 s173 s174 s175 s176 s177 s178 s179 : Value} (N : Act → World → Prop) (Q0 : Exit → Act → World → Prop) (b r : Code) (hcut : (((Try.f5.body.bind (loopFor 0)).bind fun p => blockIn 1 p.1).bind fun q => loopFor 5 q.1) = some (b, r)) (hN : NxC BM BL BK BE i j cr2 cw2 Wt N) :
    b.wp Try.prog (Exit.then N Q0) { tmps := (s0 :: .pointer (some ⟨BM, 0, none⟩) :: s2 :: .pointer (some ⟨BL, 0, none⟩) :: .pointer (some ⟨BK, 0, none⟩) :: .pointer (some ⟨BE, 0, none⟩) :: .func (Fn.func 23) #[] #[.pointer (some ⟨BM, 0, none⟩), .pointer (some ⟨BK, 0, none⟩), .pointer (some ⟨BE, 0, none⟩)] :: .int .i64 (j : Int) :: s8 :: s9 :: s10 :: s11 :: s12 :: s13 :: s14 :: s15 :: s16 :: .int .i64 cr :: .int .i64 cw :: .int .i64 ((i : Int) + 1) :: s20 :: s21 :: s22 :: s23 :: s24 :: s25 :: s26 :: s27 :: s28 :: s29 :: s30 :: s31 :: s32 :: s33 :: s34 :: s35 :: s36 :: s37 :: s38 :: s39 :: s40 :: s41 :: s42 :: s43 :: s44 :: s45 :: s46 :: s47 :: s48 :: s49 :: s50 :: s51 :: s52 :: s53 :: s54 :: s55 :: s56 :: s57 :: s58 :: s59 :: s60 :: s61 :: s62 :: s63 :: s64 :: s65 :: s66 :: s67 :: s68 :: s69 :: s70 :: s71 :: s72 :: s73 :: s74 :: s75 :: s76 :: s77 :: s78 :: s79 :: s80 :: s81 :: s82 :: s83 :: s84 :: s85 :: s86 :: s87 :: s88 :: s89 :: s90 :: s91 :: s92 :: s93 :: s94 :: s95 :: s96 :: s97 :: s98 :: s99 :: s100 :: s101 :: s102 :: s103 :: s104 :: s105 :: s106 :: s107 :: s108 :: s109 :: s110 :: s111 :: s112 :: s113 :: s114 :: s115 :: s116 :: s117 :: s118 :: s119 :: s120 :: s121 :: s122 :: s123 :: s124 :: s125 :: s126 :: s127 :: s128 :: s129 :: s130 :: s131 :: s132 :: s133 :: s134 :: s135 :: s136 :: s137 :: s138 :: s139 :: s140 :: s141 :: s142 :: s143 :: s144 :: s145 :: s146 :: s147 :: s148 :: s149 :: s150 :: s151 :: s152 :: s153 :: s154 :: s155 :: s156 :: s157 :: s158 :: s159 :: s160 :: s161 :: s162 :: s163 :: s164 :: s165 :: s166 :: s167 :: s168 :: s169 :: s170 :: s171 :: s172 :: s173 :: s174 :: s175 :: s176 :: s177 :: s178 :: s179 :: []).toArray, defers := [] } Wt := by
  have e1 := cn_succ hS.l hi 1
  have e2 := cn_succ hS.l hi 2
  rw [← h1, ← h3] at e1
  rw [← h2, ← h4] at e2
  have l1 := cn_le ks i 1
  have l2 := cn_le ks i 2
  by_cases hv1 : ks.getD (i + 1) 0 = 1
  · rw [if_pos hv1] at e1
    rw [if_neg (by omega)] at e2
    obtain rfl : cr2 = cr + 1 := e1
    obtain rfl : cw2 = cw := by omega
    exact ct_1 BM BL BK BE G n i j am cm ks e cr cw2 _ hi hn (by omega) (by omega) (by omega) (by omega) rfl hv1 Wt hS N Q0 b r hcut hN
  by_cases hv2 : ks.getD (i + 1) 0 = 2
  · rw [if_pos hv2] at e2
    rw [if_neg (by omega)] at e1
    obtain rfl : cw2 = cw + 1 := e2
    obtain rfl : cr2 = cr := by omega
    exact ct_2 BM BL BK BE G n i j am cm ks e cr2 cw _ hi hn (by omega) (by omega) (by omega) (by omega) rfl hv2 Wt hS N Q0 b r hcut hN
  · rw [if_neg hv1] at e1
    rw [if_neg hv2] at e2
    obtain rfl : cr2 = cr := by omega
    obtain rfl : cw2 = cw := by omega
    exact ct_0 BM BL BK BE G n i j am cm ks e cr2 cw2 _ hi hn (by omega) (by omega) (by omega) (by omega) rfl hv1 hv2 Wt hS N Q0 b r hcut hN

/-- What follows the count. -/
def NxCE (BM BL BK BE n j : Nat) (cr cw : Int) (Wt : World) (Q0 : Exit → Act → World → Prop) : Prop := ∀ (s0 s2 s8 s9 s10 s11 s12 s13 s14 s15 s16 s20 s21 s22 s23 s24 s25 s26 s27 s28 s29 s30 s31 s32 s33 s34 s35 s36 s37 s38 s39 s40 s41 s42 s43 s44 s45 s46 s47 s48 s49 s50 s51 s52 s53 s54 s55 s56 s57 s58 s59 s60 s61 s62 s63 s64 s65 s66 s67 s68 s69 s70 s71 s72 s73 s74 s75 s76 s77 s78 s79 s80 s81 s82 s83 s84 s85 s86 s87 s88 s89 s90 s91 s92 s93 s94 s95 s96 s97 s98 s99 s100 s101 s102 s103 s104 s105 s106 s107 s108 s109 s110 s111 s112 s113 s114 s115 s116 s117 s118 s119 s120 s121 s122 s123 s124 s125 s126 s127 s128 s129 s130 s131 s132 s133 s134 s135 s136 s137 s138 s139 s140 s141 s142 s143 s144 s145 s146 s147 s148 s149 s150 s151 s152 s153 s154 s155 s156 s157 s158 s159 s160 s161 s162 s163 s164 s165 s166 s167 s168 s169 s170 s171 s172 s173 s174 s175 s176 s177 s178 s179 : Value), Q0 (.exit 5) { tmps := (s0 :: .pointer (some ⟨BM, 0, none⟩) :: s2 :: .pointer (some ⟨BL, 0, none⟩) :: .pointer (some ⟨BK, 0, none⟩) :: .pointer (some ⟨BE, 0, none⟩) :: .func (Fn.func 23) #[] #[.pointer (some ⟨BM, 0, none⟩), .pointer (some ⟨BK, 0, none⟩), .pointer (some ⟨BE, 0, none⟩)] :: .int .i64 (j : Int) :: s8 :: s9 :: s10 :: s11 :: s12 :: s13 :: s14 :: s15 :: s16 :: .int .i64 cr :: .int .i64 cw :: .int .i64 ((n : Int) + 1) :: s20 :: s21 :: s22 :: s23 :: s24 :: s25 :: s26 :: s27 :: s28 :: s29 :: s30 :: s31 :: s32 :: s33 :: s34 :: s35 :: s36 :: s37 :: s38 :: s39 :: s40 :: s41 :: s42 :: s43 :: s44 :: s45 :: s46 :: s47 :: s48 :: s49 :: s50 :: s51 :: s52 :: s53 :: s54 :: s55 :: s56 :: s57 :: s58 :: s59 :: s60 :: s61 :: s62 :: s63 :: s64 :: s65 :: s66 :: s67 :: s68 :: s69 :: s70 :: s71 :: s72 :: s73 :: s74 :: s75 :: s76 :: s77 :: s78 :: s79 :: s80 :: s81 :: s82 :: s83 :: s84 :: s85 :: s86 :: s87 :: s88 :: s89 :: s90 :: s91 :: s92 :: s93 :: s94 :: s95 :: s96 :: s97 :: s98 :: s99 :: s100 :: s101 :: s102 :: s103 :: s104 :: s105 :: s106 :: s107 :: s108 :: s109 :: s110 :: s111 :: s112 :: s113 :: s114 :: s115 :: s116 :: s117 :: s118 :: s119 :: s120 :: s121 :: s122 :: s123 :: s124 :: s125 :: s126 :: s127 :: s128 :: s129 :: s130 :: s131 :: s132 :: s133 :: s134 :: s135 :: s136 :: s137 :: s138 :: s139 :: s140 :: s141 :: s142 :: s143 :: s144 :: s145 :: s146 :: s147 :: s148 :: s149 :: s150 :: s151 :: s152 :: s153 :: s154 :: s155 :: s156 :: s157 :: s158 :: s159 :: s160 :: s161 :: s162 :: s163 :: s164 :: s165 :: s166 :: s167 :: s168 :: s169 :: s170 :: s171 :: s172 :: s173 :: s174 :: s175 :: s176 :: s177 :: s178 :: s179 :: []).toArray, defers := [] } Wt

set_option maxRecDepth 100000 in
set_option maxHeartbeats 4000000 in
theorem ct_end (BM BL BK BE G n j : Nat) (am : Option Addr) (cm : Nat) (ks : List Int) (e : Int) (Wt : World) (hS : St Wt BM BK BE G n am cm ks e) (cr cw : Int)
    {s0 s2 s8 s9 s10 s11 s12 s13 s14 s15 s16 s20 s21 s22 s23 s24 s25 s26 s27 s28 s29 s30 s31 s32 s33 s34 s35 s36 s37 s38 s39 s40 s41 s42 s43 s44 s45 s46 s47 s48 s49 s50 s51 s52 s53 s54 s55 s56 s57 s58 s59 s60 s61 s62 s63 s64 s65 s66 s67 s68 s69 s70 s71 s72 s73 s74 s75 s76 s77 s78 s79 s80 s81 s82 s83 s84 s85 s86 s87 s88 s89 s90 s91 s92 s93 s94 s95 s96 s97 s98 s99 s100 s101 s102 s103 s104 s105 s106 s107 s108 s109 s110 s111 s112 s113 s114 s115 s116 s117 s118 s119 s120 s121 s122 s123 s124 s125 s126 s127 s128 s129 s130 s131 s132 s133 s134 s135 s136 s137 s138 s139 s140 s141 s142 s143 s144 s145 s146 s147 s148 s149 s150 s151 s152 s153 s154 s155 s156 s157 s158 s159 s160 s161 s162 s163 s164 s165 s166 s167 s168 s169 s170 s171 s172 s173 s174 s175 s176 s177 s178 s179 : Value} (N : Act → World → Prop) (Q0 : Exit → Act → World → Prop) (b r : Code) (hcut : (((Try.f5.body.bind (loopFor 0)).bind fun p => blockIn 1 p.1).bind fun q => loopFor 5 q.1) = some (b, r)) (hE : NxCE BM BL BK BE n j cr cw Wt Q0) :
    b.wp Try.prog (Exit.then N Q0) { tmps := (s0 :: .pointer (some ⟨BM, 0, none⟩) :: s2 :: .pointer (some ⟨BL, 0, none⟩) :: .pointer (some ⟨BK, 0, none⟩) :: .pointer (some ⟨BE, 0, none⟩) :: .func (Fn.func 23) #[] #[.pointer (some ⟨BM, 0, none⟩), .pointer (some ⟨BK, 0, none⟩), .pointer (some ⟨BE, 0, none⟩)] :: .int .i64 (j : Int) :: s8 :: s9 :: s10 :: s11 :: s12 :: s13 :: s14 :: s15 :: s16 :: .int .i64 cr :: .int .i64 cw :: .int .i64 ((n : Int) + 1) :: s20 :: s21 :: s22 :: s23 :: s24 :: s25 :: s26 :: s27 :: s28 :: s29 :: s30 :: s31 :: s32 :: s33 :: s34 :: s35 :: s36 :: s37 :: s38 :: s39 :: s40 :: s41 :: s42 :: s43 :: s44 :: s45 :: s46 :: s47 :: s48 :: s49 :: s50 :: s51 :: s52 :: s53 :: s54 :: s55 :: s56 :: s57 :: s58 :: s59 :: s60 :: s61 :: s62 :: s63 :: s64 :: s65 :: s66 :: s67 :: s68 :: s69 :: s70 :: s71 :: s72 :: s73 :: s74 :: s75 :: s76 :: s77 :: s78 :: s79 :: s80 :: s81 :: s82 :: s83 :: s84 :: s85 :: s86 :: s87 :: s88 :: s89 :: s90 :: s91 :: s92 :: s93 :: s94 :: s95 :: s96 :: s97 :: s98 :: s99 :: s100 :: s101 :: s102 :: s103 :: s104 :: s105 :: s106 :: s107 :: s108 :: s109 :: s110 :: s111 :: s112 :: s113 :: s114 :: s115 :: s116 :: s117 :: s118 :: s119 :: s120 :: s121 :: s122 :: s123 :: s124 :: s125 :: s126 :: s127 :: s128 :: s129 :: s130 :: s131 :: s132 :: s133 :: s134 :: s135 :: s136 :: s137 :: s138 :: s139 :: s140 :: s141 :: s142 :: s143 :: s144 :: s145 :: s146 :: s147 :: s148 :: s149 :: s150 :: s151 :: s152 :: s153 :: s154 :: s155 :: s156 :: s157 :: s158 :: s159 :: s160 :: s161 :: s162 :: s163 :: s164 :: s165 :: s166 :: s167 :: s168 :: s169 :: s170 :: s171 :: s172 :: s173 :: s174 :: s175 :: s176 :: s177 :: s178 :: s179 :: []).toArray, defers := [] } Wt := by
  have hcc : (((Try.f5.body.bind (loopFor 0)).bind fun p => blockIn 1 p.1).bind fun q => loopFor 5 q.1) = some (_, _) := rfl
  rw [hcc] at hcut
  cases hcut
  clear hcc
  obtain ⟨m0, mf0, ml⟩ := block1 hS.m
  have HE := hide hE
  clear hE hS
  have i1 : ¬ (n : Int) + 1 ≤ (n : Int) := by omega
  go_wp2_with fail
  exact unhide HE _ _ _ _ _ _ _ _ _ _ _ _ _ _ _ _ _ _ _ _ _ _ _ _ _ _ _ _ _ _ _ _ _ _ _ _ _ _ _ _ _ _ _ _ _ _ _ _ _ _ _ _ _ _ _ _ _ _ _ _ _ _ _ _ _ _ _ _ _ _ _ _ _ _ _ _ _ _ _ _ _ _ _ _ _ _ _ _ _ _ _ _ _ _ _ _ _ _ _ _ _ _ _ _ _ _ _ _ _ _ _ _ _ _ _ _ _ _ _ _ _ _ _ _ _ _ _ _ _ _ _ _ _ _ _ _ _ _ _ _ _ _ _ _ _ _ _ _ _ _ _ _ _ _ _ _ _ _ _ _ _ _ _ _ _ _ _ _ _ _ _

theorem ct_rounds (BM BL BK BE G n j : Nat) (am : Option Addr) (cm : Nat) (ks : List Int) (e : Int) (hn : n ≤ 200) (Wt : World) (hS : St Wt BM BK BE G n am cm ks e) (Q0 : Exit → Act → World → Prop) (b r : Code) (hcut : (((Try.f5.body.bind (loopFor 0)).bind fun p => blockIn 1 p.1).bind fun q => loopFor 5 q.1) = some (b, r)) (hE : NxCE BM BL BK BE n j (cnt ks 1) (cnt ks 2) Wt Q0) :
    ∀ (k i : Nat), i + k = n → ∀ (s0 s2 s8 s9 s10 s11 s12 s13 s14 s15 s16 s20 s21 s22 s23 s24 s25 s26 s27 s28 s29 s30 s31 s32 s33 s34 s35 s36 s37 s38 s39 s40 s41 s42 s43 s44 s45 s46 s47 s48 s49 s50 s51 s52 s53 s54 s55 s56 s57 s58 s59 s60 s61 s62 s63 s64 s65 s66 s67 s68 s69 s70 s71 s72 s73 s74 s75 s76 s77 s78 s79 s80 s81 s82 s83 s84 s85 s86 s87 s88 s89 s90 s91 s92 s93 s94 s95 s96 s97 s98 s99 s100 s101 s102 s103 s104 s105 s106 s107 s108 s109 s110 s111 s112 s113 s114 s115 s116 s117 s118 s119 s120 s121 s122 s123 s124 s125 s126 s127 s128 s129 s130 s131 s132 s133 s134 s135 s136 s137 s138 s139 s140 s141 s142 s143 s144 s145 s146 s147 s148 s149 s150 s151 s152 s153 s154 s155 s156 s157 s158 s159 s160 s161 s162 s163 s164 s165 s166 s167 s168 s169 s170 s171 s172 s173 s174 s175 s176 s177 s178 s179 : Value) (cr cw : Int), cr = cn ks i 1 → cw = cn ks i 2 → Code.rounds Try.prog b Q0 (k + 1) { tmps := (s0 :: .pointer (some ⟨BM, 0, none⟩) :: s2 :: .pointer (some ⟨BL, 0, none⟩) :: .pointer (some ⟨BK, 0, none⟩) :: .pointer (some ⟨BE, 0, none⟩) :: .func (Fn.func 23) #[] #[.pointer (some ⟨BM, 0, none⟩), .pointer (some ⟨BK, 0, none⟩), .pointer (some ⟨BE, 0, none⟩)] :: .int .i64 (j : Int) :: s8 :: s9 :: s10 :: s11 :: s12 :: s13 :: s14 :: s15 :: s16 :: .int .i64 cr :: .int .i64 cw :: .int .i64 ((i : Int) + 1) :: s20 :: s21 :: s22 :: s23 :: s24 :: s25 :: s26 :: s27 :: s28 :: s29 :: s30 :: s31 :: s32 :: s33 :: s34 :: s35 :: s36 :: s37 :: s38 :: s39 :: s40 :: s41 :: s42 :: s43 :: s44 :: s45 :: s46 :: s47 :: s48 :: s49 :: s50 :: s51 :: s52 :: s53 :: s54 :: s55 :: s56 :: s57 :: s58 :: s59 :: s60 :: s61 :: s62 :: s63 :: s64 :: s65 :: s66 :: s67 :: s68 :: s69 :: s70 :: s71 :: s72 :: s73 :: s74 :: s75 :: s76 :: s77 :: s78 :: s79 :: s80 :: s81 :: s82 :: s83 :: s84 :: s85 :: s86 :: s87 :: s88 :: s89 :: s90 :: s91 :: s92 :: s93 :: s94 :: s95 :: s96 :: s97 :: s98 :: s99 :: s100 :: s101 :: s102 :: s103 :: s104 :: s105 :: s106 :: s107 :: s108 :: s109 :: s110 :: s111 :: s112 :: s113 :: s114 :: s115 :: s116 :: s117 :: s118 :: s119 :: s120 :: s121 :: s122 :: s123 :: s124 :: s125 :: s126 :: s127 :: s128 :: s129 :: s130 :: s131 :: s132 :: s133 :: s134 :: s135 :: s136 :: s137 :: s138 :: s139 :: s140 :: s141 :: s142 :: s143 :: s144 :: s145 :: s146 :: s147 :: s148 :: s149 :: s150 :: s151 :: s152 :: s153 :: s154 :: s155 :: s156 :: s157 :: s158 :: s159 :: s160 :: s161 :: s162 :: s163 :: s164 :: s165 :: s166 :: s167 :: s168 :: s169 :: s170 :: s171 :: s172 :: s173 :: s174 :: s175 :: s176 :: s177 :: s178 :: s179 :: []).toArray, defers := [] } Wt := by
  intro k
  induction k with
  | zero =>
    intro i hi
    obtain rfl : i = n := by omega
    intros
    rename_i cr cw h1 h2
    rw [cn_all hS.l] at h1 h2
    subst h1 h2
    exact ct_end BM BL BK BE G i j am cm ks e Wt hS _ _ _ Q0 b r hcut hE
  | succ k ih =>
    intro i hi
    intros
    rename_i cr cw h1 h2
    refine ct_any BM BL BK BE G n i j am cm ks e (by omega) hn Wt hS cr cw _ _ h1 h2 rfl rfl _ Q0 b r hcut ?_
    unfold NxC
    intros
    have e1 : (i : Int) + 1 + 1 = ((i + 1 : Nat) : Int) + 1 := rfl
    rw [e1]
    exact ih (i + 1) (by omega) _ _ _ _ _ _ _ _ _ _ _ _ _ _ _ _ _ _ _ _ _ _ _ _ _ _ _ _ _ _ _ _ _ _ _ _ _ _ _ _ _ _ _ _ _ _ _ _ _ _ _ _ _ _ _ _ _ _ _ _ _ _ _ _ _ _ _ _ _ _ _ _ _ _ _ _ _ _ _ _ _ _ _ _ _ _ _ _ _ _ _ _ _ _ _ _ _ _ _ _ _ _ _ _ _ _ _ _ _ _ _ _ _ _ _ _ _ _ _ _ _ _ _ _ _ _ _ _ _ _ _ _ _ _ _ _ _ _ _ _ _ _ _ _ _ _ _ _ _ _ _ _ _ _ _ _ _ _ _ _ _ _ _ _ _ _ _ _ _ _ _ _ _ rfl rfl

theorem in_b5 {K : Act → World → Prop} {Q : Exit → Act → World → Prop} {n : Nat} {a : Act} {w : World} (h : K a w) : Exit.inBlock n (Exit.then K Q) (.exit n) a w := in_b0 h

set_option maxRecDepth 100000 in
set_option maxHeartbeats 4000000 in
theorem cend_true (w : World) (BM BL BK BE G n : Nat) (am : Option Addr) (cm : Nat) (j : Nat) (R : Int) (ln : List Po) (ks : List Int) (e : Int) (a : Option Addr) (c : Nat) (hn : n ≤ 200) (Wt : World) (hO : Ou w BM BL BK BE G n am cm (j + 1) ⟨R, true, ln⟩ ks e a c Wt) (cr cw : Int) (h1 : cr = cnt ks 1) (h2 : cw = cnt ks 2)
    {s0 s2 s8 s9 s10 s11 s12 s13 s14 s15 s16 s20 s21 s22 s23 s24 s25 s26 s27 s28 s29 s30 s31 s32 s33 s34 s35 s36 s37 s38 s39 s40 s41 s42 s43 s44 s45 s46 s47 s48 s49 s50 s51 s52 s53 s54 s55 s56 s57 s58 s59 s60 s61 s62 s63 s64 s65 s66 s67 s68 s69 s70 s71 s72 s73 s74 s75 s76 s77 s78 s79 s80 s81 s82 s83 s84 s85 s86 s87 s88 s89 s90 s91 s92 s93 s94 s95 s96 s97 s98 s99 s100 s101 s102 s103 s104 s105 s106 s107 s108 s109 s110 s111 s112 s113 s114 s115 s116 s117 s118 s119 s120 s121 s122 s123 s124 s125 s126 s127 s128 s129 s130 s131 s132 s133 s134 s135 s136 s137 s138 s139 s140 s141 s142 s143 s144 s145 s146 s147 s148 s149 s150 s151 s152 s153 s154 s155 s156 s157 s158 s159 s160 s161 s162 s163 s164 s165 s166 s167 s168 s169 s170 s171 s172 s173 s174 s175 s176 s177 s178 s179 : Value} (K4 N : Act → World → Prop) (Q0 : Exit → Act → World → Prop) (z : Code) (hK4 : ∀ a w', z.wp Try.prog (Exit.then N Q0) a w' → K4 a w') (b r : Code) (hcut : (((Try.f5.body.bind (loopFor 0)).bind fun p => blockIn 1 p.1).bind fun q => (loopFor 5 q.1).map fun c => (c.1, c.2, q.2)) = some (b, r, z)) (hN : NxO w BM BL BK BE G n am cm j N) :
    r.wp Try.prog (Exit.inBlock 1 (Exit.then K4 (Exit.then N Q0))) { tmps := (s0 :: .pointer (some ⟨BM, 0, none⟩) :: s2 :: .pointer (some ⟨BL, 0, none⟩) :: .pointer (some ⟨BK, 0, none⟩) :: .pointer (some ⟨BE, 0, none⟩) :: .func (Fn.func 23) #[] #[.pointer (some ⟨BM, 0, none⟩), .pointer (some ⟨BK, 0, none⟩), .pointer (some ⟨BE, 0, none⟩)] :: .int .i64 (j : Int) :: s8 :: s9 :: s10 :: s11 :: s12 :: s13 :: s14 :: s15 :: s16 :: .int .i64 cr :: .int .i64 cw :: .int .i64 ((n : Int) + 1) :: s20 :: s21 :: s22 :: s23 :: s24 :: s25 :: s26 :: s27 :: s28 :: s29 :: s30 :: s31 :: s32 :: s33 :: s34 :: s35 :: s36 :: s37 :: s38 :: s39 :: s40 :: s41 :: s42 :: s43 :: s44 :: s45 :: s46 :: s47 :: s48 :: s49 :: s50 :: s51 :: s52 :: s53 :: s54 :: s55 :: s56 :: s57 :: s58 :: s59 :: s60 :: s61 :: s62 :: s63 :: s64 :: s65 :: s66 :: s67 :: s68 :: s69 :: s70 :: s71 :: s72 :: s73 :: s74 :: s75 :: s76 :: s77 :: s78 :: s79 :: s80 :: s81 :: s82 :: s83 :: s84 :: s85 :: s86 :: s87 :: s88 :: s89 :: s90 :: s91 :: s92 :: s93 :: s94 :: s95 :: s96 :: s97 :: s98 :: s99 :: s100 :: s101 :: s102 :: s103 :: s104 :: s105 :: s106 :: s107 :: s108 :: s109 :: s110 :: s111 :: s112 :: s113 :: s114 :: s115 :: s116 :: s117 :: s118 :: s119 :: s120 :: s121 :: s122 :: s123 :: s124 :: s125 :: s126 :: s127 :: s128 :: s129 :: s130 :: s131 :: s132 :: s133 :: s134 :: s135 :: s136 :: s137 :: s138 :: s139 :: s140 :: s141 :: s142 :: s143 :: s144 :: s145 :: s146 :: s147 :: s148 :: s149 :: s150 :: s151 :: s152 :: s153 :: s154 :: s155 :: s156 :: s157 :: s158 :: s159 :: s160 :: s161 :: s162 :: s163 :: s164 :: s165 :: s166 :: s167 :: s168 :: s169 :: s170 :: s171 :: s172 :: s173 :: s174 :: s175 :: s176 :: s177 :: s178 :: s179 :: []).toArray, defers := [] } Wt := by
  have hcc : (((Try.f5.body.bind (loopFor 0)).bind fun p => blockIn 1 p.1).bind fun q => (loopFor 5 q.1).map fun c => (c.1, c.2, q.2)) = some (_, _, _) := rfl
  rw [hcc] at hcut
  cases hcut
  clear hcc
  have hcr := hO.al.cr
  have hcw := hO.al.cw
  have hwr : true = true → R = 0 := hO.al.good.wr
  have hr0 := hO.al.good.r0
  have hle := hO.al.le
  rw [← h1] at hcr
  rw [← h2] at hcw
  simp only at hcr hcw hr0
  clear h1 h2
  obtain rfl : R = 0 := hwr rfl
  obtain rfl : cr = 0 := hcr
  obtain rfl : cw = 1 := by simpa using hcw
  clear hcw hwr
  have HCK : Hid (∀ W, IsLock W (.agg #[.int .i64 0, .bool true, .slice a ln.length c]) ⟨0, true, ln⟩ → Calls Try.prog 10 #[.agg #[.int .i64 0, .bool true, .slice a ln.length c]] W fun e w' => e = .returned (.agg #[.int .i64 0, .int .i64 0]) ∧ Below W.heap.size W w') := fun W hW => by
    have := check_any W _ _ hW (by have := hO.al.good.len; simp only at this ⊢; omega)
    rw [hO.al.good.fault] at this
    exact this
  have xx : ∀ b : Int, (b != b) = false := fun b => by simp
  have hfd : ∀ w : World, (Instr.field 28 (.agg #[.int .i64 0, .int .i64 0]) 0).run Try.prog w = .ok (.int .i64 0) w := fun _ => by kernel_rfl
  have hwj : IntKind.i64.wrap ((j : Int) + 1) = (j : Int) + 1 := wrapi (by omega) (by omega)
  obtain ⟨⟨p0, p1, p2⟩, ⟨pf0, pf1, pf2⟩, pl⟩ := block3 hO.lk
  have HO := hide hO; have HN := hide hN
  clear hO hN hle hr0
  go_wp2_with (go_at_call 10; refine (unhide HCK _ ⟨_, rfl, (unhide HO).li.1⟩).mono ?_; rintro e w2 ⟨rfl, hb2⟩; have HB := hide hb2; clear hb2)
  exact unhide HN _ _ _ _ _ _ _ _ _ _ _ _ _ _ _ _ _ _ _ _ _ _ _ _ _ _ _ _ _ _ _ _ _ _ _ _ _ _ _ _ _ _ _ _ _ _ _ _ _ _ _ _ _ _ _ _ _ _ _ _ _ _ _ _ _ _ _ _ _ _ _ _ _ _ _ _ _ _ _ _ _ _ _ _ _ _ _ _ _ _ _ _ _ _ _ _ _ _ _ _ _ _ _ _ _ _ _ _ _ _ _ _ _ _ _ _ _ _ _ _ _ _ _ _ _ _ _ _ _ _ _ _ _ _ _ _ _ _ _ _ _ _ _ _ _ _ _ _ _ _ _ _ _ _ _ _ _ _ _ _ _ _ _ _ _ _ _ _ _ _ _ _ _ _ _ _ _ _ _ _ ⟨(unhide HO).al, (unhide HO).st.keep (unhide HB), keep_below (unhide HO).lk (unhide HB), (unhide HO).li.below (unhide HB), Below.next (unhide HO).be (unhide HB) (Nat.le_refl _)⟩
set_option maxRecDepth 100000 in
set_option maxHeartbeats 4000000 in
theorem cend_false (w : World) (BM BL BK BE G n : Nat) (am : Option Addr) (cm : Nat) (j : Nat) (R : Int) (ln : List Po) (ks : List Int) (e : Int) (a : Option Addr) (c : Nat) (hn : n ≤ 200) (Wt : World) (hO : Ou w BM BL BK BE G n am cm (j + 1) ⟨R, false, ln⟩ ks e a c Wt) (cr cw : Int) (h1 : cr = cnt ks 1) (h2 : cw = cnt ks 2)
    {s0 s2 s8 s9 s10 s11 s12 s13 s14 s15 s16 s20 s21 s22 s23 s24 s25 s26 s27 s28 s29 s30 s31 s32 s33 s34 s35 s36 s37 s38 s39 s40 s41 s42 s43 s44 s45 s46 s47 s48 s49 s50 s51 s52 s53 s54 s55 s56 s57 s58 s59 s60 s61 s62 s63 s64 s65 s66 s67 s68 s69 s70 s71 s72 s73 s74 s75 s76 s77 s78 s79 s80 s81 s82 s83 s84 s85 s86 s87 s88 s89 s90 s91 s92 s93 s94 s95 s96 s97 s98 s99 s100 s101 s102 s103 s104 s105 s106 s107 s108 s109 s110 s111 s112 s113 s114 s115 s116 s117 s118 s119 s120 s121 s122 s123 s124 s125 s126 s127 s128 s129 s130 s131 s132 s133 s134 s135 s136 s137 s138 s139 s140 s141 s142 s143 s144 s145 s146 s147 s148 s149 s150 s151 s152 s153 s154 s155 s156 s157 s158 s159 s160 s161 s162 s163 s164 s165 s166 s167 s168 s169 s170 s171 s172 s173 s174 s175 s176 s177 s178 s179 : Value} (K4 N : Act → World → Prop) (Q0 : Exit → Act → World → Prop) (z : Code) (hK4 : ∀ a w', z.wp Try.prog (Exit.then N Q0) a w' → K4 a w') (b r : Code) (hcut : (((Try.f5.body.bind (loopFor 0)).bind fun p => blockIn 1 p.1).bind fun q => (loopFor 5 q.1).map fun c => (c.1, c.2, q.2)) = some (b, r, z)) (hN : NxO w BM BL BK BE G n am cm j N) :
    r.wp Try.prog (Exit.inBlock 1 (Exit.then K4 (Exit.then N Q0))) { tmps := (s0 :: .pointer (some ⟨BM, 0, none⟩) :: s2 :: .pointer (some ⟨BL, 0, none⟩) :: .pointer (some ⟨BK, 0, none⟩) :: .pointer (some ⟨BE, 0, none⟩) :: .func (Fn.func 23) #[] #[.pointer (some ⟨BM, 0, none⟩), .pointer (some ⟨BK, 0, none⟩), .pointer (some ⟨BE, 0, none⟩)] :: .int .i64 (j : Int) :: s8 :: s9 :: s10 :: s11 :: s12 :: s13 :: s14 :: s15 :: s16 :: .int .i64 cr :: .int .i64 cw :: .int .i64 ((n : Int) + 1) :: s20 :: s21 :: s22 :: s23 :: s24 :: s25 :: s26 :: s27 :: s28 :: s29 :: s30 :: s31 :: s32 :: s33 :: s34 :: s35 :: s36 :: s37 :: s38 :: s39 :: s40 :: s41 :: s42 :: s43 :: s44 :: s45 :: s46 :: s47 :: s48 :: s49 :: s50 :: s51 :: s52 :: s53 :: s54 :: s55 :: s56 :: s57 :: s58 :: s59 :: s60 :: s61 :: s62 :: s63 :: s64 :: s65 :: s66 :: s67 :: s68 :: s69 :: s70 :: s71 :: s72 :: s73 :: s74 :: s75 :: s76 :: s77 :: s78 :: s79 :: s80 :: s81 :: s82 :: s83 :: s84 :: s85 :: s86 :: s87 :: s88 :: s89 :: s90 :: s91 :: s92 :: s93 :: s94 :: s95 :: s96 :: s97 :: s98 :: s99 :: s100 :: s101 :: s102 :: s103 :: s104 :: s105 :: s106 :: s107 :: s108 :: s109 :: s110 :: s111 :: s112 :: s113 :: s114 :: s115 :: s116 :: s117 :: s118 :: s119 :: s120 :: s121 :: s122 :: s123 :: s124 :: s125 :: s126 :: s127 :: s128 :: s129 :: s130 :: s131 :: s132 :: s133 :: s134 :: s135 :: s136 :: s137 :: s138 :: s139 :: s140 :: s141 :: s142 :: s143 :: s144 :: s145 :: s146 :: s147 :: s148 :: s149 :: s150 :: s151 :: s152 :: s153 :: s154 :: s155 :: s156 :: s157 :: s158 :: s159 :: s160 :: s161 :: s162 :: s163 :: s164 :: s165 :: s166 :: s167 :: s168 :: s169 :: s170 :: s171 :: s172 :: s173 :: s174 :: s175 :: s176 :: s177 :: s178 :: s179 :: []).toArray, defers := [] } Wt := by
  have hcc : (((Try.f5.body.bind (loopFor 0)).bind fun p => blockIn 1 p.1).bind fun q => (loopFor 5 q.1).map fun c => (c.1, c.2, q.2)) = some (_, _, _) := rfl
  rw [hcc] at hcut
  cases hcut
  clear hcc
  have hcr := hO.al.cr
  have hcw := hO.al.cw
  have hwr : false = true → R = 0 := hO.al.good.wr
  have hr0 := hO.al.good.r0
  have hle := hO.al.le
  rw [← h1] at hcr
  rw [← h2] at hcw
  simp only at hcr hcw hr0
  clear h1 h2
  obtain rfl : cr = R := hcr
  obtain rfl : cw = 0 := by simpa using hcw
  clear hcw hwr
  have HCK : Hid (∀ W, IsLock W (.agg #[.int .i64 cr, .bool false, .slice a ln.length c]) ⟨cr, false, ln⟩ → Calls Try.prog 10 #[.agg #[.int .i64 cr, .bool false, .slice a ln.length c]] W fun e w' => e = .returned (.agg #[.int .i64 0, .int .i64 0]) ∧ Below W.heap.size W w') := fun W hW => by
    have := check_any W _ _ hW (by have := hO.al.good.len; simp only at this ⊢; omega)
    rw [hO.al.good.fault] at this
    exact this
  have xx : ∀ b : Int, (b != b) = false := fun b => by simp
  have hfd : ∀ w : World, (Instr.field 28 (.agg #[.int .i64 0, .int .i64 0]) 0).run Try.prog w = .ok (.int .i64 0) w := fun _ => by kernel_rfl
  have hwj : IntKind.i64.wrap ((j : Int) + 1) = (j : Int) + 1 := wrapi (by omega) (by omega)
  obtain ⟨⟨p0, p1, p2⟩, ⟨pf0, pf1, pf2⟩, pl⟩ := block3 hO.lk
  have HO := hide hO; have HN := hide hN
  clear hO hN hle hr0
  go_wp2_with (go_at_call 10; refine (unhide HCK _ ⟨_, rfl, (unhide HO).li.1⟩).mono ?_; rintro e w2 ⟨rfl, hb2⟩; have HB := hide hb2; clear hb2)
  exact unhide HN _ _ _ _ _ _ _ _ _ _ _ _ _ _ _ _ _ _ _ _ _ _ _ _ _ _ _ _ _ _ _ _ _ _ _ _ _ _ _ _ _ _ _ _ _ _ _ _ _ _ _ _ _ _ _ _ _ _ _ _ _ _ _ _ _ _ _ _ _ _ _ _ _ _ _ _ _ _ _ _ _ _ _ _ _ _ _ _ _ _ _ _ _ _ _ _ _ _ _ _ _ _ _ _ _ _ _ _ _ _ _ _ _ _ _ _ _ _ _ _ _ _ _ _ _ _ _ _ _ _ _ _ _ _ _ _ _ _ _ _ _ _ _ _ _ _ _ _ _ _ _ _ _ _ _ _ _ _ _ _ _ _ _ _ _ _ _ _ _ _ _ _ _ _ _ _ _ _ _ _ ⟨(unhide HO).al, (unhide HO).st.keep (unhide HB), keep_below (unhide HO).lk (unhide HB), (unhide HO).li.below (unhide HB), Below.next (unhide HO).be (unhide HB) (Nat.le_refl _)⟩

theorem cend_any (w : World) (BM BL BK BE G n : Nat) (am : Option Addr) (cm : Nat) (j : Nat) (P : Lk) (ks : List Int) (e : Int) (a : Option Addr) (c : Nat) (hn : n ≤ 200) (Wt : World) (hO : Ou w BM BL BK BE G n am cm (j + 1) P ks e a c Wt) (cr cw : Int) (h1 : cr = cnt ks 1) (h2 : cw = cnt ks 2)
    {s0 s2 s8 s9 s10 s11 s12 s13 s14 s15 s16 s20 s21 s22 s23 s24 s25 s26 s27 s28 s29 s30 s31 s32 s33 s34 s35 s36 s37 s38 s39 s40 s41 s42 s43 s44 s45 s46 s47 s48 s49 s50 s51 s52 s53 s54 s55 s56 s57 s58 s59 s60 s61 s62 s63 s64 s65 s66 s67 s68 s69 s70 s71 s72 s73 s74 s75 s76 s77 s78 s79 s80 s81 s82 s83 s84 s85 s86 s87 s88 s89 s90 s91 s92 s93 s94 s95 s96 s97 s98 s99 s100 s101 s102 s103 s104 s105 s106 s107 s108 s109 s110 s111 s112 s113 s114 s115 s116 s117 s118 s119 s120 s121 s122 s123 s124 s125 s126 s127 s128 s129 s130 s131 s132 s133 s134 s135 s136 s137 s138 s139 s140 s141 s142 s143 s144 s145 s146 s147 s148 s149 s150 s151 s152 s153 s154 s155 s156 s157 s158 s159 s160 s161 s162 s163 s164 s165 s166 s167 s168 s169 s170 s171 s172 s173 s174 s175 s176 s177 s178 s179 : Value} (K4 N : Act → World → Prop) (Q0 : Exit → Act → World → Prop) (z : Code) (hK4 : ∀ a w', z.wp Try.prog (Exit.then N Q0) a w' → K4 a w') (b r : Code) (hcut : (((Try.f5.body.bind (loopFor 0)).bind fun p => blockIn 1 p.1).bind fun q => (loopFor 5 q.1).map fun c => (c.1, c.2, q.2)) = some (b, r, z)) (hN : NxO w BM BL BK BE G n am cm j N) :
    r.wp Try.prog (Exit.inBlock 1 (Exit.then K4 (Exit.then N Q0))) { tmps := (s0 :: .pointer (some ⟨BM, 0, none⟩) :: s2 :: .pointer (some ⟨BL, 0, none⟩) :: .pointer (some ⟨BK, 0, none⟩) :: .pointer (some ⟨BE, 0, none⟩) :: .func (Fn.func 23) #[] #[.pointer (some ⟨BM, 0, none⟩), .pointer (some ⟨BK, 0, none⟩), .pointer (some ⟨BE, 0, none⟩)] :: .int .i64 (j : Int) :: s8 :: s9 :: s10 :: s11 :: s12 :: s13 :: s14 :: s15 :: s16 :: .int .i64 cr :: .int .i64 cw :: .int .i64 ((n : Int) + 1) :: s20 :: s21 :: s22 :: s23 :: s24 :: s25 :: s26 :: s27 :: s28 :: s29 :: s30 :: s31 :: s32 :: s33 :: s34 :: s35 :: s36 :: s37 :: s38 :: s39 :: s40 :: s41 :: s42 :: s43 :: s44 :: s45 :: s46 :: s47 :: s48 :: s49 :: s50 :: s51 :: s52 :: s53 :: s54 :: s55 :: s56 :: s57 :: s58 :: s59 :: s60 :: s61 :: s62 :: s63 :: s64 :: s65 :: s66 :: s67 :: s68 :: s69 :: s70 :: s71 :: s72 :: s73 :: s74 :: s75 :: s76 :: s77 :: s78 :: s79 :: s80 :: s81 :: s82 :: s83 :: s84 :: s85 :: s86 :: s87 :: s88 :: s89 :: s90 :: s91 :: s92 :: s93 :: s94 :: s95 :: s96 :: s97 :: s98 :: s99 :: s100 :: s101 :: s102 :: s103 :: s104 :: s105 :: s106 :: s107 :: s108 :: s109 :: s110 :: s111 :: s112 :: s113 :: s114 :: s115 :: s116 :: s117 :: s118 :: s119 :: s120 :: s121 :: s122 :: s123 :: s124 :: s125 :: s126 :: s127 :: s128 :: s129 :: s130 :: s131 :: s132 :: s133 :: s134 :: s135 :: s136 :: s137 :: s138 :: s139 :: s140 :: s141 :: s142 :: s143 :: s144 :: s145 :: s146 :: s147 :: s148 :: s149 :: s150 :: s151 :: s152 :: s153 :: s154 :: s155 :: s156 :: s157 :: s158 :: s159 :: s160 :: s161 :: s162 :: s163 :: s164 :: s165 :: s166 :: s167 :: s168 :: s169 :: s170 :: s171 :: s172 :: s173 :: s174 :: s175 :: s176 :: s177 :: s178 :: s179 :: []).toArray, defers := [] } Wt := by
  obtain ⟨R, wt, ln⟩ := P
  cases wt with
  | true => exact cend_true w BM BL BK BE G n am cm j R ln ks e a c hn Wt hO cr cw h1 h2 K4 N Q0 z hK4 b r hcut hN
  | false => exact cend_false w BM BL BK BE G n am cm j R ln ks e a c hn Wt hO cr cw h1 h2 K4 N Q0 z hK4 b r hcut hN

theorem ct_loop (w : World) (BM BL BK BE G n : Nat) (am : Option Addr) (cm : Nat) (j : Nat) (P : Lk) (ks : List Int) (e : Int) (a : Option Addr) (c : Nat) (hn : n ≤ 200) (Wt : World) (hO : Ou w BM BL BK BE G n am cm (j + 1) P ks e a c Wt)
    {s0 s2 s8 s9 s10 s11 s12 s13 s14 s15 s16 s20 s21 s22 s23 s24 s25 s26 s27 s28 s29 s30 s31 s32 s33 s34 s35 s36 s37 s38 s39 s40 s41 s42 s43 s44 s45 s46 s47 s48 s49 s50 s51 s52 s53 s54 s55 s56 s57 s58 s59 s60 s61 s62 s63 s64 s65 s66 s67 s68 s69 s70 s71 s72 s73 s74 s75 s76 s77 s78 s79 s80 s81 s82 s83 s84 s85 s86 s87 s88 s89 s90 s91 s92 s93 s94 s95 s96 s97 s98 s99 s100 s101 s102 s103 s104 s105 s106 s107 s108 s109 s110 s111 s112 s113 s114 s115 s116 s117 s118 s119 s120 s121 s122 s123 s124 s125 s126 s127 s128 s129 s130 s131 s132 s133 s134 s135 s136 s137 s138 s139 s140 s141 s142 s143 s144 s145 s146 s147 s148 s149 s150 s151 s152 s153 s154 s155 s156 s157 s158 s159 s160 s161 s162 s163 s164 s165 s166 s167 s168 s169 s170 s171 s172 s173 s174 s175 s176 s177 s178 s179 : Value} (K5 K4 N : Act → World → Prop) (Q0 : Exit → Act → World → Prop) (z : Code) (hK4 : ∀ a w', z.wp Try.prog (Exit.then N Q0) a w' → K4 a w') (b r : Code) (hK5 : ∀ a w', r.wp Try.prog (Exit.inBlock 1 (Exit.then K4 (Exit.then N Q0))) a w' → K5 a w') (hcut : (((Try.f5.body.bind (loopFor 0)).bind fun p => blockIn 1 p.1).bind fun q => (loopFor 5 q.1).map fun c => (c.1, c.2, q.2)) = some (b, r, z)) (hN : NxO w BM BL BK BE G n am cm j N) :
    (Code.loop b).wp Try.prog (Exit.inBlock 5 (Exit.then K5 (Exit.inBlock 1 (Exit.then K4 (Exit.then N Q0))))) { tmps := (s0 :: .pointer (some ⟨BM, 0, none⟩) :: s2 :: .pointer (some ⟨BL, 0, none⟩) :: .pointer (some ⟨BK, 0, none⟩) :: .pointer (some ⟨BE, 0, none⟩) :: .func (Fn.func 23) #[] #[.pointer (some ⟨BM, 0, none⟩), .pointer (some ⟨BK, 0, none⟩), .pointer (some ⟨BE, 0, none⟩)] :: .int .i64 (j : Int) :: s8 :: s9 :: s10 :: s11 :: s12 :: s13 :: s14 :: s15 :: s16 :: .int .i64 0 :: .int .i64 0 :: .int .i64 1 :: s20 :: s21 :: s22 :: s23 :: s24 :: s25 :: s26 :: s27 :: s28 :: s29 :: s30 :: s31 :: s32 :: s33 :: s34 :: s35 :: s36 :: s37 :: s38 :: s39 :: s40 :: s41 :: s42 :: s43 :: s44 :: s45 :: s46 :: s47 :: s48 :: s49 :: s50 :: s51 :: s52 :: s53 :: s54 :: s55 :: s56 :: s57 :: s58 :: s59 :: s60 :: s61 :: s62 :: s63 :: s64 :: s65 :: s66 :: s67 :: s68 :: s69 :: s70 :: s71 :: s72 :: s73 :: s74 :: s75 :: s76 :: s77 :: s78 :: s79 :: s80 :: s81 :: s82 :: s83 :: s84 :: s85 :: s86 :: s87 :: s88 :: s89 :: s90 :: s91 :: s92 :: s93 :: s94 :: s95 :: s96 :: s97 :: s98 :: s99 :: s100 :: s101 :: s102 :: s103 :: s104 :: s105 :: s106 :: s107 :: s108 :: s109 :: s110 :: s111 :: s112 :: s113 :: s114 :: s115 :: s116 :: s117 :: s118 :: s119 :: s120 :: s121 :: s122 :: s123 :: s124 :: s125 :: s126 :: s127 :: s128 :: s129 :: s130 :: s131 :: s132 :: s133 :: s134 :: s135 :: s136 :: s137 :: s138 :: s139 :: s140 :: s141 :: s142 :: s143 :: s144 :: s145 :: s146 :: s147 :: s148 :: s149 :: s150 :: s151 :: s152 :: s153 :: s154 :: s155 :: s156 :: s157 :: s158 :: s159 :: s160 :: s161 :: s162 :: s163 :: s164 :: s165 :: s166 :: s167 :: s168 :: s169 :: s170 :: s171 :: s172 :: s173 :: s174 :: s175 :: s176 :: s177 :: s178 :: s179 :: []).toArray, defers := [] } Wt := by
  have hcut2 : (((Try.f5.body.bind (loopFor 0)).bind fun p => blockIn 1 p.1).bind fun q => loopFor 5 q.1) = some (b, r) := by
    have hcc : (((Try.f5.body.bind (loopFor 0)).bind fun p => blockIn 1 p.1).bind fun q => (loopFor 5 q.1).map fun c => (c.1, c.2, q.2)) = some (_, _, _) := rfl
    rw [hcc] at hcut
    cases hcut
    rfl
  refine wp_loop_rounds (n + 1) ?_
  refine ct_rounds BM BL BK BE G n j am cm ks e hn Wt hO.st _ b r hcut2 ?_ n 0 (by omega) _ _ _ _ _ _ _ _ _ _ _ _ _ _ _ _ _ _ _ _ _ _ _ _ _ _ _ _ _ _ _ _ _ _ _ _ _ _ _ _ _ _ _ _ _ _ _ _ _ _ _ _ _ _ _ _ _ _ _ _ _ _ _ _ _ _ _ _ _ _ _ _ _ _ _ _ _ _ _ _ _ _ _ _ _ _ _ _ _ _ _ _ _ _ _ _ _ _ _ _ _ _ _ _ _ _ _ _ _ _ _ _ _ _ _ _ _ _ _ _ _ _ _ _ _ _ _ _ _ _ _ _ _ _ _ _ _ _ _ _ _ _ _ _ _ _ _ _ _ _ _ _ _ _ _ _ _ _ _ _ _ _ _ _ _ _ _ _ _ _ _ 0 0 (by rw [cn_zero]; rfl) (by rw [cn_zero]; rfl)
  unfold NxCE
  intros
  exact in_b0 (hK5 _ _ (cend_any w BM BL BK BE G n am cm j P ks e a c hn Wt hO _ _ rfl rfl K4 N Q0 z hK4 b r hcut hN))

set_option maxRecDepth 100000 in
set_option maxHeartbeats 4000000 in
theorem tail_any (w : World) (BM BL BK BE G n : Nat) (am : Option Addr) (cm : Nat) (j : Nat) (P : Lk) (ks : List Int) (e : Int) (a : Option Addr) (c : Nat) (hn : n ≤ 200) (Wt : World) (hO : Ou w BM BL BK BE G n am cm (j + 1) P ks e a c Wt)
    {s0 s2 s8 s9 s10 s11 s12 s13 s14 s15 s16 s17 s18 s19 s20 s21 s22 s23 s24 s25 s26 s27 s28 s29 s30 s31 s32 s33 s34 s35 s36 s37 s38 s39 s40 s41 s42 s43 s44 s45 s46 s47 s48 s49 s50 s51 s52 s53 s54 s55 s56 s57 s58 s59 s60 s61 s62 s63 s64 s65 s66 s67 s68 s69 s70 s71 s72 s73 s74 s75 s76 s77 s78 s79 s80 s81 s82 s83 s84 s85 s86 s87 s88 s89 s90 s91 s92 s93 s94 s95 s96 s97 s98 s99 s100 s101 s102 s103 s104 s105 s106 s107 s108 s109 s110 s111 s112 s113 s114 s115 s116 s117 s118 s119 s120 s121 s122 s123 s124 s125 s126 s127 s128 s129 s130 s131 s132 s133 s134 s135 s136 s137 s138 s139 s140 s141 s142 s143 s144 s145 s146 s147 s148 s149 s150 s151 s152 s153 s154 s155 s156 s157 s158 s159 s160 s161 s162 s163 s164 s165 s166 s167 s168 s169 s170 s171 s172 s173 s174 s175 s176 s177 s178 s179 : Value} (K3 K4 N : Act → World → Prop) (Q0 : Exit → Act → World → Prop) (x y z : Code) (hK3 : ∀ a w', y.wp Try.prog (Exit.inBlock 1 (Exit.then K4 (Exit.then N Q0))) a w' → K3 a w') (hK4 : ∀ a w', z.wp Try.prog (Exit.then N Q0) a w' → K4 a w') (hcut : (((Try.f5.body.bind (loopFor 0)).bind fun p => blockIn 1 p.1).bind fun q => (cutAt 36 q.1).map fun c => (c.1, c.2, q.2)) = some (x, y, z)) (hN : NxO w BM BL BK BE G n am cm j N) :
    x.wp Try.prog (Exit.then K3 (Exit.inBlock 1 (Exit.then K4 (Exit.then N Q0)))) { tmps := (s0 :: .pointer (some ⟨BM, 0, none⟩) :: s2 :: .pointer (some ⟨BL, 0, none⟩) :: .pointer (some ⟨BK, 0, none⟩) :: .pointer (some ⟨BE, 0, none⟩) :: .func (Fn.func 23) #[] #[.pointer (some ⟨BM, 0, none⟩), .pointer (some ⟨BK, 0, none⟩), .pointer (some ⟨BE, 0, none⟩)] :: .int .i64 (j : Int) :: s8 :: s9 :: s10 :: s11 :: s12 :: s13 :: s14 :: s15 :: s16 :: s17 :: s18 :: s19 :: s20 :: s21 :: s22 :: s23 :: s24 :: s25 :: s26 :: s27 :: s28 :: s29 :: s30 :: s31 :: s32 :: s33 :: s34 :: s35 :: s36 :: s37 :: s38 :: s39 :: s40 :: s41 :: s42 :: s43 :: s44 :: s45 :: s46 :: s47 :: s48 :: s49 :: s50 :: s51 :: s52 :: s53 :: s54 :: s55 :: s56 :: s57 :: s58 :: s59 :: s60 :: s61 :: s62 :: s63 :: s64 :: s65 :: s66 :: s67 :: s68 :: s69 :: s70 :: s71 :: s72 :: s73 :: s74 :: s75 :: s76 :: s77 :: s78 :: s79 :: s80 :: s81 :: s82 :: s83 :: s84 :: s85 :: s86 :: s87 :: s88 :: s89 :: s90 :: s91 :: s92 :: s93 :: s94 :: s95 :: s96 :: s97 :: s98 :: s99 :: s100 :: s101 :: s102 :: s103 :: s104 :: s105 :: s106 :: s107 :: s108 :: s109 :: s110 :: s111 :: s112 :: s113 :: s114 :: s115 :: s116 :: s117 :: s118 :: s119 :: s120 :: s121 :: s122 :: s123 :: s124 :: s125 :: s126 :: s127 :: s128 :: s129 :: s130 :: s131 :: s132 :: s133 :: s134 :: s135 :: s136 :: s137 :: s138 :: s139 :: s140 :: s141 :: s142 :: s143 :: s144 :: s145 :: s146 :: s147 :: s148 :: s149 :: s150 :: s151 :: s152 :: s153 :: s154 :: s155 :: s156 :: s157 :: s158 :: s159 :: s160 :: s161 :: s162 :: s163 :: s164 :: s165 :: s166 :: s167 :: s168 :: s169 :: s170 :: s171 :: s172 :: s173 :: s174 :: s175 :: s176 :: s177 :: s178 :: s179 :: []).toArray, defers := [] } Wt := by
  have hcc : (((Try.f5.body.bind (loopFor 0)).bind fun p => blockIn 1 p.1).bind fun q => (cutAt 36 q.1).map fun c => (c.1, c.2, q.2)) = some (_, _, _) := rfl
  rw [hcc] at hcut
  cases hcut
  clear hcc
  have HO := hide hO; have HN := hide hN; have H4 := hide hK4
  clear hO hN hK4
  go_wp2_with fail
  exact ct_loop w BM BL BK BE G n am cm j P ks e a c hn Wt (unhide HO) _ _ N Q0 _ (unhide H4) _ _ (by assumption) (by kernel_rfl) (unhide HN)

end Go.Proofs.Ytdpcbmekplcllaa
