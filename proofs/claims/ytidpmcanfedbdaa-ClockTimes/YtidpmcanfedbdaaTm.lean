/-
  taskmilllaw.ClockTimes: the first loop.
-/
import Derived.Test.YtidpmcanfedbdaaTl
import Derived.Test.YtidpmcanfedbdaaUc
import Derived.LoopN
namespace Go.Proofs.Ytidpmcanfedbdaa
open Go.RowKit

/-- What follows a round of the first loop. -/
def NxA (s10 s13 s14 : Value) (id P tk : Int) (TC : Nat) (al : Option Addr) (ml cl j : Nat) (W0 : World) (wn last : Int) (N : Act → World → Prop) : Prop := ∀ (s0 s2 s6 s7 s8 s9 s11 s12 s19 s20 s21 s22 s23 s24 s25 s26 s27 s28 s29 s30 s31 s32 s33 s34 s35 s36 s37 s38 s39 s40 s41 s42 s43 s44 s45 s46 s47 s48 s49 s50 s51 s52 s53 s54 s55 s56 s57 s58 s59 s60 s61 s62 s63 s64 s65 s66 s67 s68 s69 s70 s71 s72 s73 s74 s75 s76 s77 s78 s79 s80 s81 s82 s83 s84 s85 s86 s87 s88 s89 s90 s91 s92 s93 s94 s95 s96 s97 s98 s99 s100 s101 s102 s103 s104 s105 s106 s107 s108 s109 s110 s111 s112 s113 s114 s115 s116 s117 s118 s119 s120 s121 s122 s123 s124 s125 s126 s127 s128 s129 s130 s131 s132 s133 s134 s135 s136 s137 s138 s139 s140 s141 s142 s143 s144 s145 s146 s147 s148 s149 s150 s151 s152 s153 s154 s155 s156 s157 s158 s159 s160 s161 s162 s163 s164 s165 s166 s167 s168 s169 s170 s171 s172 : Value) (W' : World), Below W0.heap.size W0 W' → N { tmps := (s0 :: .int .i64 id :: s2 :: .int .i64 P :: .int .i64 tk :: .pointer (some ⟨TC, 0, none⟩) :: s6 :: s7 :: s8 :: s9 :: s10 :: s11 :: s12 :: s13 :: s14 :: .slice al ml cl :: .int .i64 wn :: .int .i64 last :: .int .i64 ((j : Int) + 1) :: s19 :: s20 :: s21 :: s22 :: s23 :: s24 :: s25 :: s26 :: s27 :: s28 :: s29 :: s30 :: s31 :: s32 :: s33 :: s34 :: s35 :: s36 :: s37 :: s38 :: s39 :: s40 :: s41 :: s42 :: s43 :: s44 :: s45 :: s46 :: s47 :: s48 :: s49 :: s50 :: s51 :: s52 :: s53 :: s54 :: s55 :: s56 :: s57 :: s58 :: s59 :: s60 :: s61 :: s62 :: s63 :: s64 :: s65 :: s66 :: s67 :: s68 :: s69 :: s70 :: s71 :: s72 :: s73 :: s74 :: s75 :: s76 :: s77 :: s78 :: s79 :: s80 :: s81 :: s82 :: s83 :: s84 :: s85 :: s86 :: s87 :: s88 :: s89 :: s90 :: s91 :: s92 :: s93 :: s94 :: s95 :: s96 :: s97 :: s98 :: s99 :: s100 :: s101 :: s102 :: s103 :: s104 :: s105 :: s106 :: s107 :: s108 :: s109 :: s110 :: s111 :: s112 :: s113 :: s114 :: s115 :: s116 :: s117 :: s118 :: s119 :: s120 :: s121 :: s122 :: s123 :: s124 :: s125 :: s126 :: s127 :: s128 :: s129 :: s130 :: s131 :: s132 :: s133 :: s134 :: s135 :: s136 :: s137 :: s138 :: s139 :: s140 :: s141 :: s142 :: s143 :: s144 :: s145 :: s146 :: s147 :: s148 :: s149 :: s150 :: s151 :: s152 :: s153 :: s154 :: s155 :: s156 :: s157 :: s158 :: s159 :: s160 :: s161 :: s162 :: s163 :: s164 :: s165 :: s166 :: s167 :: s168 :: s169 :: s170 :: s171 :: s172 :: []).toArray, defers := [] } W'
/-- What follows the first loop. -/
def NxB (s10 s13 s14 : Value) (id P tk : Int) (TC : Nat) (al : Option Addr) (ml cl : Nat) (W0 : World) (wn : Int) (Q0 : Exit → Act → World → Prop) : Prop := ∀ (s0 s2 s6 s7 s8 s9 s11 s12 s19 s20 s21 s22 s23 s24 s25 s26 s27 s28 s29 s30 s31 s32 s33 s34 s35 s36 s37 s38 s39 s40 s41 s42 s43 s44 s45 s46 s47 s48 s49 s50 s51 s52 s53 s54 s55 s56 s57 s58 s59 s60 s61 s62 s63 s64 s65 s66 s67 s68 s69 s70 s71 s72 s73 s74 s75 s76 s77 s78 s79 s80 s81 s82 s83 s84 s85 s86 s87 s88 s89 s90 s91 s92 s93 s94 s95 s96 s97 s98 s99 s100 s101 s102 s103 s104 s105 s106 s107 s108 s109 s110 s111 s112 s113 s114 s115 s116 s117 s118 s119 s120 s121 s122 s123 s124 s125 s126 s127 s128 s129 s130 s131 s132 s133 s134 s135 s136 s137 s138 s139 s140 s141 s142 s143 s144 s145 s146 s147 s148 s149 s150 s151 s152 s153 s154 s155 s156 s157 s158 s159 s160 s161 s162 s163 s164 s165 s166 s167 s168 s169 s170 s171 s172 : Value) (last : Int) (W' : World), Below W0.heap.size W0 W' → Q0 (.exit 0) { tmps := (s0 :: .int .i64 id :: s2 :: .int .i64 P :: .int .i64 tk :: .pointer (some ⟨TC, 0, none⟩) :: s6 :: s7 :: s8 :: s9 :: s10 :: s11 :: s12 :: s13 :: s14 :: .slice al ml cl :: .int .i64 wn :: .int .i64 last :: .int .i64 (ml : Int) :: s19 :: s20 :: s21 :: s22 :: s23 :: s24 :: s25 :: s26 :: s27 :: s28 :: s29 :: s30 :: s31 :: s32 :: s33 :: s34 :: s35 :: s36 :: s37 :: s38 :: s39 :: s40 :: s41 :: s42 :: s43 :: s44 :: s45 :: s46 :: s47 :: s48 :: s49 :: s50 :: s51 :: s52 :: s53 :: s54 :: s55 :: s56 :: s57 :: s58 :: s59 :: s60 :: s61 :: s62 :: s63 :: s64 :: s65 :: s66 :: s67 :: s68 :: s69 :: s70 :: s71 :: s72 :: s73 :: s74 :: s75 :: s76 :: s77 :: s78 :: s79 :: s80 :: s81 :: s82 :: s83 :: s84 :: s85 :: s86 :: s87 :: s88 :: s89 :: s90 :: s91 :: s92 :: s93 :: s94 :: s95 :: s96 :: s97 :: s98 :: s99 :: s100 :: s101 :: s102 :: s103 :: s104 :: s105 :: s106 :: s107 :: s108 :: s109 :: s110 :: s111 :: s112 :: s113 :: s114 :: s115 :: s116 :: s117 :: s118 :: s119 :: s120 :: s121 :: s122 :: s123 :: s124 :: s125 :: s126 :: s127 :: s128 :: s129 :: s130 :: s131 :: s132 :: s133 :: s134 :: s135 :: s136 :: s137 :: s138 :: s139 :: s140 :: s141 :: s142 :: s143 :: s144 :: s145 :: s146 :: s147 :: s148 :: s149 :: s150 :: s151 :: s152 :: s153 :: s154 :: s155 :: s156 :: s157 :: s158 :: s159 :: s160 :: s161 :: s162 :: s163 :: s164 :: s165 :: s166 :: s167 :: s168 :: s169 :: s170 :: s171 :: s172 :: []).toArray, defers := [] } W'

set_option maxRecDepth 100000 in
set_option maxHeartbeats 4000000 in
theorem tm_other (id P tk now next : Int) (a0 : Option Addr) (n c0 TC : Nat) (al : Option Addr) (ml cl : Nat) (td : List (Int × Int)) (W0 : World) (j : Nat) (wn last et ei : Int) (hC : W0.heap[TC]? = some (.cells #[.int .i64 now, .int .i64 next, .slice a0 n c0] 24)) (hL : IsL KO W0 (.slice al ml cl) td) (hml : ml ≤ 5000) (hn0 : 0 ≤ now) (ht0 : 0 ≤ tk) (ht1 : now + tk ≤ 1000000000) (_hP0 : 0 ≤ P) (_hP1 : P ≤ 1000000000) (hj : j < ml) (he : td.getD j (0, 0) = (et, ei)) (h1 : ¬ et < last) (h2 : now < et) (h3 : et ≤ now + tk) (hi : ei ≠ id) (Wt : World) (hB : Below W0.heap.size W0 Wt)
    {s0 s2 s6 s7 s8 s9 s10 s11 s12 s13 s14 s19 s20 s21 s22 s23 s24 s25 s26 s27 s28 s29 s30 s31 s32 s33 s34 s35 s36 s37 s38 s39 s40 s41 s42 s43 s44 s45 s46 s47 s48 s49 s50 s51 s52 s53 s54 s55 s56 s57 s58 s59 s60 s61 s62 s63 s64 s65 s66 s67 s68 s69 s70 s71 s72 s73 s74 s75 s76 s77 s78 s79 s80 s81 s82 s83 s84 s85 s86 s87 s88 s89 s90 s91 s92 s93 s94 s95 s96 s97 s98 s99 s100 s101 s102 s103 s104 s105 s106 s107 s108 s109 s110 s111 s112 s113 s114 s115 s116 s117 s118 s119 s120 s121 s122 s123 s124 s125 s126 s127 s128 s129 s130 s131 s132 s133 s134 s135 s136 s137 s138 s139 s140 s141 s142 s143 s144 s145 s146 s147 s148 s149 s150 s151 s152 s153 s154 s155 s156 s157 s158 s159 s160 s161 s162 s163 s164 s165 s166 s167 s168 s169 s170 s171 s172 : Value} (N : Act → World → Prop) (R : Exit → Act → World → Prop) (b r : Code) (hcut : (Try.f6.body.bind (loopFor 0)) = some (b, r)) (hN : NxA s10 s13 s14 id P tk TC al ml cl j W0 wn et N) :
    b.wp Try.prog (Exit.then N R) { tmps := (s0 :: .int .i64 id :: s2 :: .int .i64 P :: .int .i64 tk :: .pointer (some ⟨TC, 0, none⟩) :: s6 :: s7 :: s8 :: s9 :: s10 :: s11 :: s12 :: s13 :: s14 :: .slice al ml cl :: .int .i64 wn :: .int .i64 last :: .int .i64 (j : Int) :: s19 :: s20 :: s21 :: s22 :: s23 :: s24 :: s25 :: s26 :: s27 :: s28 :: s29 :: s30 :: s31 :: s32 :: s33 :: s34 :: s35 :: s36 :: s37 :: s38 :: s39 :: s40 :: s41 :: s42 :: s43 :: s44 :: s45 :: s46 :: s47 :: s48 :: s49 :: s50 :: s51 :: s52 :: s53 :: s54 :: s55 :: s56 :: s57 :: s58 :: s59 :: s60 :: s61 :: s62 :: s63 :: s64 :: s65 :: s66 :: s67 :: s68 :: s69 :: s70 :: s71 :: s72 :: s73 :: s74 :: s75 :: s76 :: s77 :: s78 :: s79 :: s80 :: s81 :: s82 :: s83 :: s84 :: s85 :: s86 :: s87 :: s88 :: s89 :: s90 :: s91 :: s92 :: s93 :: s94 :: s95 :: s96 :: s97 :: s98 :: s99 :: s100 :: s101 :: s102 :: s103 :: s104 :: s105 :: s106 :: s107 :: s108 :: s109 :: s110 :: s111 :: s112 :: s113 :: s114 :: s115 :: s116 :: s117 :: s118 :: s119 :: s120 :: s121 :: s122 :: s123 :: s124 :: s125 :: s126 :: s127 :: s128 :: s129 :: s130 :: s131 :: s132 :: s133 :: s134 :: s135 :: s136 :: s137 :: s138 :: s139 :: s140 :: s141 :: s142 :: s143 :: s144 :: s145 :: s146 :: s147 :: s148 :: s149 :: s150 :: s151 :: s152 :: s153 :: s154 :: s155 :: s156 :: s157 :: s158 :: s159 :: s160 :: s161 :: s162 :: s163 :: s164 :: s165 :: s166 :: s167 :: s168 :: s169 :: s170 :: s171 :: s172 :: []).toArray, defers := [] } Wt := by
  have hcc : (Try.f6.body.bind (loopFor 0)) = some (_, _) := rfl
  rw [hcc] at hcut
  cases hcut
  clear hcc
  obtain ⟨bw, ow, rfl, hbw, lw⟩ := hL.opens ko hL.len (by omega)
  obtain ⟨k0, k1⟩ := (lw.below hB hbw).off (j := j) (by rw [hL.len]; exact hj) he
  obtain ⟨⟨p0, p1, p2⟩, -, pl⟩ := block3 (keep_below hC hB)
  have i2 : (0 : Int) ≤ (j : Int) := by omega
  have i3 : (j : Int) < (ml : Int) := by omega
  have hwr : IntKind.i64.wrap ((j : Int) + 1) = (j : Int) + 1 := wrapi (by omega) (by omega)
  have hwt : IntKind.i64.wrap (now + tk) = now + tk := wrapi (by omega) (by omega)
  have h2' : ¬ et ≤ now := by omega
  have h3' : ¬ now + tk < et := by omega
  have xn : (ei != id) = true := by simpa using hi
  clear hi
  have HN := hide hN; have HB := hide hB
  clear hN hB hL lw hbw hC he h2 h3 hn0 ht0 ht1 _hP0 _hP1
  go_upto_region 16 with fail
  go_wp2_with fail
  go_quiet (fail)
  have k0q : (Wt.drewN nq).cell? ⟨bw, ow + j * 2, none⟩ = some (.int .i64 et) := k0
  have k1q : (Wt.drewN nq).cell? ⟨bw, ow + j * 2 + 1, none⟩ = some (.int .i64 ei) := k1
  have p0q : (Wt.drewN nq).cell? ⟨TC, 0, none⟩ = some (.int .i64 now) := p0
  go_wp2_with fail
  exact unhide HN _ _ _ _ _ _ _ _ _ _ _ _ _ _ _ _ _ _ _ _ _ _ _ _ _ _ _ _ _ _ _ _ _ _ _ _ _ _ _ _ _ _ _ _ _ _ _ _ _ _ _ _ _ _ _ _ _ _ _ _ _ _ _ _ _ _ _ _ _ _ _ _ _ _ _ _ _ _ _ _ _ _ _ _ _ _ _ _ _ _ _ _ _ _ _ _ _ _ _ _ _ _ _ _ _ _ _ _ _ _ _ _ _ _ _ _ _ _ _ _ _ _ _ _ _ _ _ _ _ _ _ _ _ _ _ _ _ _ _ _ _ _ _ _ _ _ _ _ _ _ _ _ _ _ _ _ _ _ _ _ _ _ _ (below_drewN (unhide HB) _)

set_option maxRecDepth 100000 in
set_option maxHeartbeats 4000000 in
theorem tm_per (id P tk now next : Int) (a0 : Option Addr) (n c0 TC : Nat) (al : Option Addr) (ml cl : Nat) (td : List (Int × Int)) (W0 : World) (j : Nat) (wn last et ei : Int) (hC : W0.heap[TC]? = some (.cells #[.int .i64 now, .int .i64 next, .slice a0 n c0] 24)) (hL : IsL KO W0 (.slice al ml cl) td) (hml : ml ≤ 5000) (hn0 : 0 ≤ now) (ht0 : 0 ≤ tk) (ht1 : now + tk ≤ 1000000000) (hP0 : 0 ≤ P) (hP1 : P ≤ 1000000000) (hj : j < ml) (he : td.getD j (0, 0) = (et, ei)) (h1 : ¬ et < last) (h2 : now < et) (h3 : et ≤ now + tk) (hi : ei = id) (hw : et = wn) (hP : P ≠ 0) (Wt : World) (hB : Below W0.heap.size W0 Wt)
    {s0 s2 s6 s7 s8 s9 s10 s11 s12 s13 s14 s19 s20 s21 s22 s23 s24 s25 s26 s27 s28 s29 s30 s31 s32 s33 s34 s35 s36 s37 s38 s39 s40 s41 s42 s43 s44 s45 s46 s47 s48 s49 s50 s51 s52 s53 s54 s55 s56 s57 s58 s59 s60 s61 s62 s63 s64 s65 s66 s67 s68 s69 s70 s71 s72 s73 s74 s75 s76 s77 s78 s79 s80 s81 s82 s83 s84 s85 s86 s87 s88 s89 s90 s91 s92 s93 s94 s95 s96 s97 s98 s99 s100 s101 s102 s103 s104 s105 s106 s107 s108 s109 s110 s111 s112 s113 s114 s115 s116 s117 s118 s119 s120 s121 s122 s123 s124 s125 s126 s127 s128 s129 s130 s131 s132 s133 s134 s135 s136 s137 s138 s139 s140 s141 s142 s143 s144 s145 s146 s147 s148 s149 s150 s151 s152 s153 s154 s155 s156 s157 s158 s159 s160 s161 s162 s163 s164 s165 s166 s167 s168 s169 s170 s171 s172 : Value} (N : Act → World → Prop) (R : Exit → Act → World → Prop) (b r : Code) (hcut : (Try.f6.body.bind (loopFor 0)) = some (b, r)) (hN : NxA s10 s13 s14 id P tk TC al ml cl j W0 (wn + P) et N) :
    b.wp Try.prog (Exit.then N R) { tmps := (s0 :: .int .i64 id :: s2 :: .int .i64 P :: .int .i64 tk :: .pointer (some ⟨TC, 0, none⟩) :: s6 :: s7 :: s8 :: s9 :: s10 :: s11 :: s12 :: s13 :: s14 :: .slice al ml cl :: .int .i64 wn :: .int .i64 last :: .int .i64 (j : Int) :: s19 :: s20 :: s21 :: s22 :: s23 :: s24 :: s25 :: s26 :: s27 :: s28 :: s29 :: s30 :: s31 :: s32 :: s33 :: s34 :: s35 :: s36 :: s37 :: s38 :: s39 :: s40 :: s41 :: s42 :: s43 :: s44 :: s45 :: s46 :: s47 :: s48 :: s49 :: s50 :: s51 :: s52 :: s53 :: s54 :: s55 :: s56 :: s57 :: s58 :: s59 :: s60 :: s61 :: s62 :: s63 :: s64 :: s65 :: s66 :: s67 :: s68 :: s69 :: s70 :: s71 :: s72 :: s73 :: s74 :: s75 :: s76 :: s77 :: s78 :: s79 :: s80 :: s81 :: s82 :: s83 :: s84 :: s85 :: s86 :: s87 :: s88 :: s89 :: s90 :: s91 :: s92 :: s93 :: s94 :: s95 :: s96 :: s97 :: s98 :: s99 :: s100 :: s101 :: s102 :: s103 :: s104 :: s105 :: s106 :: s107 :: s108 :: s109 :: s110 :: s111 :: s112 :: s113 :: s114 :: s115 :: s116 :: s117 :: s118 :: s119 :: s120 :: s121 :: s122 :: s123 :: s124 :: s125 :: s126 :: s127 :: s128 :: s129 :: s130 :: s131 :: s132 :: s133 :: s134 :: s135 :: s136 :: s137 :: s138 :: s139 :: s140 :: s141 :: s142 :: s143 :: s144 :: s145 :: s146 :: s147 :: s148 :: s149 :: s150 :: s151 :: s152 :: s153 :: s154 :: s155 :: s156 :: s157 :: s158 :: s159 :: s160 :: s161 :: s162 :: s163 :: s164 :: s165 :: s166 :: s167 :: s168 :: s169 :: s170 :: s171 :: s172 :: []).toArray, defers := [] } Wt := by
  have hcc : (Try.f6.body.bind (loopFor 0)) = some (_, _) := rfl
  rw [hcc] at hcut
  cases hcut
  clear hcc
  obtain ⟨bw, ow, rfl, hbw, lw⟩ := hL.opens ko hL.len (by omega)
  obtain ⟨k0, k1⟩ := (lw.below hB hbw).off (j := j) (by rw [hL.len]; exact hj) he
  obtain ⟨⟨p0, p1, p2⟩, -, pl⟩ := block3 (keep_below hC hB)
  have i2 : (0 : Int) ≤ (j : Int) := by omega
  have i3 : (j : Int) < (ml : Int) := by omega
  have hwr : IntKind.i64.wrap ((j : Int) + 1) = (j : Int) + 1 := wrapi (by omega) (by omega)
  have hwt : IntKind.i64.wrap (now + tk) = now + tk := wrapi (by omega) (by omega)
  have h2' : ¬ et ≤ now := by omega
  have h3' : ¬ now + tk < et := by omega
  have xn : (ei != id) = false := by simpa using hi
  have xw : (et != wn) = false := by simpa using hw
  have hwp : IntKind.i64.wrap (wn + P) = wn + P := wrapi (by omega) (by omega)
  have xp : (P == 0) = false := by simpa using hP
  clear hi hw hP
  have HN := hide hN; have HB := hide hB
  clear hN hB hL lw hbw hC he h2 h3 hn0 ht0 ht1 hP0 hP1
  go_upto_region 16 with fail
  go_wp2_with fail
  go_quiet (fail)
  have k0q : (Wt.drewN nq).cell? ⟨bw, ow + j * 2, none⟩ = some (.int .i64 et) := k0
  have k1q : (Wt.drewN nq).cell? ⟨bw, ow + j * 2 + 1, none⟩ = some (.int .i64 ei) := k1
  have p0q : (Wt.drewN nq).cell? ⟨TC, 0, none⟩ = some (.int .i64 now) := p0
  go_wp2_with fail
  exact unhide HN _ _ _ _ _ _ _ _ _ _ _ _ _ _ _ _ _ _ _ _ _ _ _ _ _ _ _ _ _ _ _ _ _ _ _ _ _ _ _ _ _ _ _ _ _ _ _ _ _ _ _ _ _ _ _ _ _ _ _ _ _ _ _ _ _ _ _ _ _ _ _ _ _ _ _ _ _ _ _ _ _ _ _ _ _ _ _ _ _ _ _ _ _ _ _ _ _ _ _ _ _ _ _ _ _ _ _ _ _ _ _ _ _ _ _ _ _ _ _ _ _ _ _ _ _ _ _ _ _ _ _ _ _ _ _ _ _ _ _ _ _ _ _ _ _ _ _ _ _ _ _ _ _ _ _ _ _ _ _ _ _ _ _ (below_drewN (unhide HB) _)

set_option maxRecDepth 100000 in
set_option maxHeartbeats 4000000 in
theorem tm_one (id P tk now next : Int) (a0 : Option Addr) (n c0 TC : Nat) (al : Option Addr) (ml cl : Nat) (td : List (Int × Int)) (W0 : World) (j : Nat) (wn last et ei : Int) (hC : W0.heap[TC]? = some (.cells #[.int .i64 now, .int .i64 next, .slice a0 n c0] 24)) (hL : IsL KO W0 (.slice al ml cl) td) (hml : ml ≤ 5000) (hn0 : 0 ≤ now) (ht0 : 0 ≤ tk) (ht1 : now + tk ≤ 1000000000) (_hP0 : 0 ≤ P) (_hP1 : P ≤ 1000000000) (hj : j < ml) (he : td.getD j (0, 0) = (et, ei)) (h1 : ¬ et < last) (h2 : now < et) (h3 : et ≤ now + tk) (hi : ei = id) (hw : et = wn) (hP : P = 0) (Wt : World) (hB : Below W0.heap.size W0 Wt)
    {s0 s2 s6 s7 s8 s9 s10 s11 s12 s13 s14 s19 s20 s21 s22 s23 s24 s25 s26 s27 s28 s29 s30 s31 s32 s33 s34 s35 s36 s37 s38 s39 s40 s41 s42 s43 s44 s45 s46 s47 s48 s49 s50 s51 s52 s53 s54 s55 s56 s57 s58 s59 s60 s61 s62 s63 s64 s65 s66 s67 s68 s69 s70 s71 s72 s73 s74 s75 s76 s77 s78 s79 s80 s81 s82 s83 s84 s85 s86 s87 s88 s89 s90 s91 s92 s93 s94 s95 s96 s97 s98 s99 s100 s101 s102 s103 s104 s105 s106 s107 s108 s109 s110 s111 s112 s113 s114 s115 s116 s117 s118 s119 s120 s121 s122 s123 s124 s125 s126 s127 s128 s129 s130 s131 s132 s133 s134 s135 s136 s137 s138 s139 s140 s141 s142 s143 s144 s145 s146 s147 s148 s149 s150 s151 s152 s153 s154 s155 s156 s157 s158 s159 s160 s161 s162 s163 s164 s165 s166 s167 s168 s169 s170 s171 s172 : Value} (N : Act → World → Prop) (R : Exit → Act → World → Prop) (b r : Code) (hcut : (Try.f6.body.bind (loopFor 0)) = some (b, r)) (hN : NxA s10 s13 s14 id P tk TC al ml cl j W0 (now + tk + 1) et N) :
    b.wp Try.prog (Exit.then N R) { tmps := (s0 :: .int .i64 id :: s2 :: .int .i64 P :: .int .i64 tk :: .pointer (some ⟨TC, 0, none⟩) :: s6 :: s7 :: s8 :: s9 :: s10 :: s11 :: s12 :: s13 :: s14 :: .slice al ml cl :: .int .i64 wn :: .int .i64 last :: .int .i64 (j : Int) :: s19 :: s20 :: s21 :: s22 :: s23 :: s24 :: s25 :: s26 :: s27 :: s28 :: s29 :: s30 :: s31 :: s32 :: s33 :: s34 :: s35 :: s36 :: s37 :: s38 :: s39 :: s40 :: s41 :: s42 :: s43 :: s44 :: s45 :: s46 :: s47 :: s48 :: s49 :: s50 :: s51 :: s52 :: s53 :: s54 :: s55 :: s56 :: s57 :: s58 :: s59 :: s60 :: s61 :: s62 :: s63 :: s64 :: s65 :: s66 :: s67 :: s68 :: s69 :: s70 :: s71 :: s72 :: s73 :: s74 :: s75 :: s76 :: s77 :: s78 :: s79 :: s80 :: s81 :: s82 :: s83 :: s84 :: s85 :: s86 :: s87 :: s88 :: s89 :: s90 :: s91 :: s92 :: s93 :: s94 :: s95 :: s96 :: s97 :: s98 :: s99 :: s100 :: s101 :: s102 :: s103 :: s104 :: s105 :: s106 :: s107 :: s108 :: s109 :: s110 :: s111 :: s112 :: s113 :: s114 :: s115 :: s116 :: s117 :: s118 :: s119 :: s120 :: s121 :: s122 :: s123 :: s124 :: s125 :: s126 :: s127 :: s128 :: s129 :: s130 :: s131 :: s132 :: s133 :: s134 :: s135 :: s136 :: s137 :: s138 :: s139 :: s140 :: s141 :: s142 :: s143 :: s144 :: s145 :: s146 :: s147 :: s148 :: s149 :: s150 :: s151 :: s152 :: s153 :: s154 :: s155 :: s156 :: s157 :: s158 :: s159 :: s160 :: s161 :: s162 :: s163 :: s164 :: s165 :: s166 :: s167 :: s168 :: s169 :: s170 :: s171 :: s172 :: []).toArray, defers := [] } Wt := by
  have hcc : (Try.f6.body.bind (loopFor 0)) = some (_, _) := rfl
  rw [hcc] at hcut
  cases hcut
  clear hcc
  obtain ⟨bw, ow, rfl, hbw, lw⟩ := hL.opens ko hL.len (by omega)
  obtain ⟨k0, k1⟩ := (lw.below hB hbw).off (j := j) (by rw [hL.len]; exact hj) he
  obtain ⟨⟨p0, p1, p2⟩, -, pl⟩ := block3 (keep_below hC hB)
  have i2 : (0 : Int) ≤ (j : Int) := by omega
  have i3 : (j : Int) < (ml : Int) := by omega
  have hwr : IntKind.i64.wrap ((j : Int) + 1) = (j : Int) + 1 := wrapi (by omega) (by omega)
  have hwt : IntKind.i64.wrap (now + tk) = now + tk := wrapi (by omega) (by omega)
  have h2' : ¬ et ≤ now := by omega
  have h3' : ¬ now + tk < et := by omega
  have xn : (ei != id) = false := by simpa using hi
  have xw : (et != wn) = false := by simpa using hw
  have hwp : IntKind.i64.wrap (wn + P) = wn + P := wrapi (by omega) (by omega)
  have xp : (P == 0) = true := by simpa using hP
  have hwq : IntKind.i64.wrap (now + tk + 1) = now + tk + 1 := wrapi (by omega) (by omega)
  clear hi hw hP
  have HN := hide hN; have HB := hide hB
  clear hN hB hL lw hbw hC he h2 h3 hn0 ht0 ht1 _hP0 _hP1
  go_upto_region 16 with fail
  go_wp2_with fail
  go_quiet (fail)
  have k0q : (Wt.drewN nq).cell? ⟨bw, ow + j * 2, none⟩ = some (.int .i64 et) := k0
  have k1q : (Wt.drewN nq).cell? ⟨bw, ow + j * 2 + 1, none⟩ = some (.int .i64 ei) := k1
  have p0q : (Wt.drewN nq).cell? ⟨TC, 0, none⟩ = some (.int .i64 now) := p0
  go_wp2_with fail
  exact unhide HN _ _ _ _ _ _ _ _ _ _ _ _ _ _ _ _ _ _ _ _ _ _ _ _ _ _ _ _ _ _ _ _ _ _ _ _ _ _ _ _ _ _ _ _ _ _ _ _ _ _ _ _ _ _ _ _ _ _ _ _ _ _ _ _ _ _ _ _ _ _ _ _ _ _ _ _ _ _ _ _ _ _ _ _ _ _ _ _ _ _ _ _ _ _ _ _ _ _ _ _ _ _ _ _ _ _ _ _ _ _ _ _ _ _ _ _ _ _ _ _ _ _ _ _ _ _ _ _ _ _ _ _ _ _ _ _ _ _ _ _ _ _ _ _ _ _ _ _ _ _ _ _ _ _ _ _ _ _ _ _ _ _ _ (below_drewN (unhide HB) _)

set_option maxRecDepth 100000 in
set_option maxHeartbeats 4000000 in
theorem tm_end (id P tk _now _next : Int) (_a0 : Option Addr) (_n _c0 TC : Nat) (al : Option Addr) (ml cl : Nat) (_td : List (Int × Int)) (W0 : World) (wn last : Int) (Wt : World) (hB : Below W0.heap.size W0 Wt)
    {s0 s2 s6 s7 s8 s9 s10 s11 s12 s13 s14 s19 s20 s21 s22 s23 s24 s25 s26 s27 s28 s29 s30 s31 s32 s33 s34 s35 s36 s37 s38 s39 s40 s41 s42 s43 s44 s45 s46 s47 s48 s49 s50 s51 s52 s53 s54 s55 s56 s57 s58 s59 s60 s61 s62 s63 s64 s65 s66 s67 s68 s69 s70 s71 s72 s73 s74 s75 s76 s77 s78 s79 s80 s81 s82 s83 s84 s85 s86 s87 s88 s89 s90 s91 s92 s93 s94 s95 s96 s97 s98 s99 s100 s101 s102 s103 s104 s105 s106 s107 s108 s109 s110 s111 s112 s113 s114 s115 s116 s117 s118 s119 s120 s121 s122 s123 s124 s125 s126 s127 s128 s129 s130 s131 s132 s133 s134 s135 s136 s137 s138 s139 s140 s141 s142 s143 s144 s145 s146 s147 s148 s149 s150 s151 s152 s153 s154 s155 s156 s157 s158 s159 s160 s161 s162 s163 s164 s165 s166 s167 s168 s169 s170 s171 s172 : Value} (N : Act → World → Prop) (Q0 : Exit → Act → World → Prop) (b r : Code) (hcut : (Try.f6.body.bind (loopFor 0)) = some (b, r)) (hE : NxB s10 s13 s14 id P tk TC al ml cl W0 wn Q0) :
    b.wp Try.prog (Exit.then N Q0) { tmps := (s0 :: .int .i64 id :: s2 :: .int .i64 P :: .int .i64 tk :: .pointer (some ⟨TC, 0, none⟩) :: s6 :: s7 :: s8 :: s9 :: s10 :: s11 :: s12 :: s13 :: s14 :: .slice al ml cl :: .int .i64 wn :: .int .i64 last :: .int .i64 (ml : Int) :: s19 :: s20 :: s21 :: s22 :: s23 :: s24 :: s25 :: s26 :: s27 :: s28 :: s29 :: s30 :: s31 :: s32 :: s33 :: s34 :: s35 :: s36 :: s37 :: s38 :: s39 :: s40 :: s41 :: s42 :: s43 :: s44 :: s45 :: s46 :: s47 :: s48 :: s49 :: s50 :: s51 :: s52 :: s53 :: s54 :: s55 :: s56 :: s57 :: s58 :: s59 :: s60 :: s61 :: s62 :: s63 :: s64 :: s65 :: s66 :: s67 :: s68 :: s69 :: s70 :: s71 :: s72 :: s73 :: s74 :: s75 :: s76 :: s77 :: s78 :: s79 :: s80 :: s81 :: s82 :: s83 :: s84 :: s85 :: s86 :: s87 :: s88 :: s89 :: s90 :: s91 :: s92 :: s93 :: s94 :: s95 :: s96 :: s97 :: s98 :: s99 :: s100 :: s101 :: s102 :: s103 :: s104 :: s105 :: s106 :: s107 :: s108 :: s109 :: s110 :: s111 :: s112 :: s113 :: s114 :: s115 :: s116 :: s117 :: s118 :: s119 :: s120 :: s121 :: s122 :: s123 :: s124 :: s125 :: s126 :: s127 :: s128 :: s129 :: s130 :: s131 :: s132 :: s133 :: s134 :: s135 :: s136 :: s137 :: s138 :: s139 :: s140 :: s141 :: s142 :: s143 :: s144 :: s145 :: s146 :: s147 :: s148 :: s149 :: s150 :: s151 :: s152 :: s153 :: s154 :: s155 :: s156 :: s157 :: s158 :: s159 :: s160 :: s161 :: s162 :: s163 :: s164 :: s165 :: s166 :: s167 :: s168 :: s169 :: s170 :: s171 :: s172 :: []).toArray, defers := [] } Wt := by
  have hcc : (Try.f6.body.bind (loopFor 0)) = some (_, _) := rfl
  rw [hcc] at hcut
  cases hcut
  clear hcc
  have HE := hide hE; have HB := hide hB
  clear hE hB
  have i1 : ¬ (ml : Int) < (ml : Int) := by omega
  go_wp2_with fail
  exact unhide HE _ _ _ _ _ _ _ _ _ _ _ _ _ _ _ _ _ _ _ _ _ _ _ _ _ _ _ _ _ _ _ _ _ _ _ _ _ _ _ _ _ _ _ _ _ _ _ _ _ _ _ _ _ _ _ _ _ _ _ _ _ _ _ _ _ _ _ _ _ _ _ _ _ _ _ _ _ _ _ _ _ _ _ _ _ _ _ _ _ _ _ _ _ _ _ _ _ _ _ _ _ _ _ _ _ _ _ _ _ _ _ _ _ _ _ _ _ _ _ _ _ _ _ _ _ _ _ _ _ _ _ _ _ _ _ _ _ _ _ _ _ _ _ _ _ _ _ _ _ _ _ _ _ _ _ _ _ _ _ _ _ _ last _ (unhide HB)

theorem tm_rounds (id P tk now next : Int) (a0 : Option Addr) (n c0 TC : Nat) (al : Option Addr) (ml cl : Nat) (td : List (Int × Int)) (W0 : World) (hC : W0.heap[TC]? = some (.cells #[.int .i64 now, .int .i64 next, .slice a0 n c0] 24)) (hL : IsL KO W0 (.slice al ml cl) td) (hml : ml ≤ 5000) (hn0 : 0 ≤ now) (ht0 : 0 ≤ tk) (ht1 : now + tk ≤ 1000000000) (hP0 : 0 ≤ P) (hP1 : P ≤ 1000000000) (s10 s13 s14 : Value) (wf : Int) (Q0 : Exit → Act → World → Prop) (b r : Code) (hcut : (Try.f6.body.bind (loopFor 0)) = some (b, r)) (hE : NxB s10 s13 s14 id P tk TC al ml cl W0 wf Q0) : ∀ (k j : Nat), j + k = ml → ∀ (s0 s2 s6 s7 s8 s9 s11 s12 s19 s20 s21 s22 s23 s24 s25 s26 s27 s28 s29 s30 s31 s32 s33 s34 s35 s36 s37 s38 s39 s40 s41 s42 s43 s44 s45 s46 s47 s48 s49 s50 s51 s52 s53 s54 s55 s56 s57 s58 s59 s60 s61 s62 s63 s64 s65 s66 s67 s68 s69 s70 s71 s72 s73 s74 s75 s76 s77 s78 s79 s80 s81 s82 s83 s84 s85 s86 s87 s88 s89 s90 s91 s92 s93 s94 s95 s96 s97 s98 s99 s100 s101 s102 s103 s104 s105 s106 s107 s108 s109 s110 s111 s112 s113 s114 s115 s116 s117 s118 s119 s120 s121 s122 s123 s124 s125 s126 s127 s128 s129 s130 s131 s132 s133 s134 s135 s136 s137 s138 s139 s140 s141 s142 s143 s144 s145 s146 s147 s148 s149 s150 s151 s152 s153 s154 s155 s156 s157 s158 s159 s160 s161 s162 s163 s164 s165 s166 s167 s168 s169 s170 s171 s172 : Value) (wn last : Int) (Wt : World), Told id now (now + tk) P last wn (td.drop j) wf → Below W0.heap.size W0 Wt →
    Code.rounds Try.prog b Q0 (k + 1) { tmps := (s0 :: .int .i64 id :: s2 :: .int .i64 P :: .int .i64 tk :: .pointer (some ⟨TC, 0, none⟩) :: s6 :: s7 :: s8 :: s9 :: s10 :: s11 :: s12 :: s13 :: s14 :: .slice al ml cl :: .int .i64 wn :: .int .i64 last :: .int .i64 (j : Int) :: s19 :: s20 :: s21 :: s22 :: s23 :: s24 :: s25 :: s26 :: s27 :: s28 :: s29 :: s30 :: s31 :: s32 :: s33 :: s34 :: s35 :: s36 :: s37 :: s38 :: s39 :: s40 :: s41 :: s42 :: s43 :: s44 :: s45 :: s46 :: s47 :: s48 :: s49 :: s50 :: s51 :: s52 :: s53 :: s54 :: s55 :: s56 :: s57 :: s58 :: s59 :: s60 :: s61 :: s62 :: s63 :: s64 :: s65 :: s66 :: s67 :: s68 :: s69 :: s70 :: s71 :: s72 :: s73 :: s74 :: s75 :: s76 :: s77 :: s78 :: s79 :: s80 :: s81 :: s82 :: s83 :: s84 :: s85 :: s86 :: s87 :: s88 :: s89 :: s90 :: s91 :: s92 :: s93 :: s94 :: s95 :: s96 :: s97 :: s98 :: s99 :: s100 :: s101 :: s102 :: s103 :: s104 :: s105 :: s106 :: s107 :: s108 :: s109 :: s110 :: s111 :: s112 :: s113 :: s114 :: s115 :: s116 :: s117 :: s118 :: s119 :: s120 :: s121 :: s122 :: s123 :: s124 :: s125 :: s126 :: s127 :: s128 :: s129 :: s130 :: s131 :: s132 :: s133 :: s134 :: s135 :: s136 :: s137 :: s138 :: s139 :: s140 :: s141 :: s142 :: s143 :: s144 :: s145 :: s146 :: s147 :: s148 :: s149 :: s150 :: s151 :: s152 :: s153 :: s154 :: s155 :: s156 :: s157 :: s158 :: s159 :: s160 :: s161 :: s162 :: s163 :: s164 :: s165 :: s166 :: s167 :: s168 :: s169 :: s170 :: s171 :: s172 :: []).toArray, defers := [] } Wt := by
  have hlen : td.length = ml := hL.len
  intro k
  induction k with
  | zero =>
    intro j hj
    obtain rfl : j = ml := by omega
    intros
    rename_i wn last Wt hT hB
    rw [List.drop_of_length_le (by omega)] at hT
    have hT2 : wf = wn := hT
    subst hT2
    exact tm_end id P tk now next a0 n c0 TC al j cl td W0 wf last Wt hB _ Q0 b r hcut hE
  | succ k ih =>
    intro j hj
    intros
    rename_i wn last Wt hT hB
    obtain ⟨⟨et, ei⟩, he⟩ : ∃ y, td.getD j (0, 0) = y := ⟨_, rfl⟩
    have hd : td.drop j = (et, ei) :: td.drop (j + 1) := by
      rw [List.drop_eq_getElem_cons (by omega : j < td.length), ← he]
      congr 1
      rw [List.getD_eq_getElem?_getD, List.getElem?_eq_getElem (by omega)]
      rfl
    rw [hd] at hT
    obtain ⟨t1, t2, t3, t4, t5⟩ := hT
    simp only at t1 t2 t3 t4 t5
    unfold stepW at t5
    simp only at t5
    by_cases hi : ei = id
    · rw [if_pos hi] at t5
      by_cases hP : P = 0
      · rw [if_pos hP] at t5
        refine tm_one id P tk now next a0 n c0 TC al ml cl td W0 j wn last et ei hC hL hml hn0 ht0 ht1 hP0 hP1 (by omega) he t1 t2 t3 hi (t4 hi) hP Wt hB _ Q0 b r hcut ?_
        unfold NxA
        intros
        rename_i W' hB'
        exact ih (j + 1) (by omega) _ _ _ _ _ _ _ _ _ _ _ _ _ _ _ _ _ _ _ _ _ _ _ _ _ _ _ _ _ _ _ _ _ _ _ _ _ _ _ _ _ _ _ _ _ _ _ _ _ _ _ _ _ _ _ _ _ _ _ _ _ _ _ _ _ _ _ _ _ _ _ _ _ _ _ _ _ _ _ _ _ _ _ _ _ _ _ _ _ _ _ _ _ _ _ _ _ _ _ _ _ _ _ _ _ _ _ _ _ _ _ _ _ _ _ _ _ _ _ _ _ _ _ _ _ _ _ _ _ _ _ _ _ _ _ _ _ _ _ _ _ _ _ _ _ _ _ _ _ _ _ _ _ _ _ _ _ _ _ _ _ _ _ _ W' t5 hB'
      · rw [if_neg hP] at t5
        refine tm_per id P tk now next a0 n c0 TC al ml cl td W0 j wn last et ei hC hL hml hn0 ht0 ht1 hP0 hP1 (by omega) he t1 t2 t3 hi (t4 hi) hP Wt hB _ Q0 b r hcut ?_
        unfold NxA
        intros
        rename_i W' hB'
        exact ih (j + 1) (by omega) _ _ _ _ _ _ _ _ _ _ _ _ _ _ _ _ _ _ _ _ _ _ _ _ _ _ _ _ _ _ _ _ _ _ _ _ _ _ _ _ _ _ _ _ _ _ _ _ _ _ _ _ _ _ _ _ _ _ _ _ _ _ _ _ _ _ _ _ _ _ _ _ _ _ _ _ _ _ _ _ _ _ _ _ _ _ _ _ _ _ _ _ _ _ _ _ _ _ _ _ _ _ _ _ _ _ _ _ _ _ _ _ _ _ _ _ _ _ _ _ _ _ _ _ _ _ _ _ _ _ _ _ _ _ _ _ _ _ _ _ _ _ _ _ _ _ _ _ _ _ _ _ _ _ _ _ _ _ _ _ _ _ _ _ W' t5 hB'
    · rw [if_neg hi] at t5
      refine tm_other id P tk now next a0 n c0 TC al ml cl td W0 j wn last et ei hC hL hml hn0 ht0 ht1 hP0 hP1 (by omega) he t1 t2 t3 hi Wt hB _ Q0 b r hcut ?_
      unfold NxA
      intros
      rename_i W' hB'
      exact ih (j + 1) (by omega) _ _ _ _ _ _ _ _ _ _ _ _ _ _ _ _ _ _ _ _ _ _ _ _ _ _ _ _ _ _ _ _ _ _ _ _ _ _ _ _ _ _ _ _ _ _ _ _ _ _ _ _ _ _ _ _ _ _ _ _ _ _ _ _ _ _ _ _ _ _ _ _ _ _ _ _ _ _ _ _ _ _ _ _ _ _ _ _ _ _ _ _ _ _ _ _ _ _ _ _ _ _ _ _ _ _ _ _ _ _ _ _ _ _ _ _ _ _ _ _ _ _ _ _ _ _ _ _ _ _ _ _ _ _ _ _ _ _ _ _ _ _ _ _ _ _ _ _ _ _ _ _ _ _ _ _ _ _ _ _ _ _ _ _ W' t5 hB'

end Go.Proofs.Ytidpmcanfedbdaa
