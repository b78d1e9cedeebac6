/-
  taskmilllaw.PollLosesNone: the look at both ways behind each move.
-/
import Derived.Test.YtmghfedlpndpiaaPa
namespace Go.Proofs.Ytmghfedlpndpiaa
open Go.RowKit

set_option maxRecDepth 100000 in
set_option maxHeartbeats 4000000 in
theorem ir0_A (r1 : Bool) (t1 u0 u1 f1 g0 g1 now : Int) (TD TF TG : Nat) (hg0 : 0 ≤ g0) (hg1 : g0 ≤ 300) (Wt : World) (hD : Wt.heap[TD]? = some (.cells #[.bool false, .bool true, .bool r1, .int .i64 0, .int .i64 t1, .int .i64 u0, .int .i64 u1] 25)) (hF : Wt.heap[TF]? = some (.cells #[.int .i64 (g0 + 1), .int .i64 f1] 23)) (hG : Wt.heap[TG]? = some (.cells #[.int .i64 g0, .int .i64 g1] 23))
    {s0 s1 s2 s7 s8 s9 s10 s11 s12 s13 s14 s15 s16 s17 s18 s19 s20 s21 s23 s24 s25 s26 s27 s28 s29 s30 s31 s32 s33 s34 s35 s36 s37 s38 s39 s40 s41 s42 s43 s44 s45 s46 s47 s48 s49 s50 s51 s52 s53 s54 s55 s56 s57 s58 s59 s60 s61 s62 s63 s64 s65 s66 s67 s68 s69 s70 s71 s72 s73 s74 s75 s76 s77 s78 s79 s80 s81 s82 s83 s84 s85 s86 s87 s88 s89 s90 s91 s92 s93 s94 s95 s96 s97 s98 s99 s100 s101 s102 s103 s104 s105 s106 s107 s108 s109 s110 s111 s112 s113 s114 s115 s116 s117 s118 s119 s120 s121 s122 s123 s124 s125 s126 s127 s128 s129 s130 s131 s132 s133 s134 s135 s136 s137 s138 s139 s140 s141 s142 s143 s144 s145 s146 s147 s148 s149 s150 s151 s152 s153 s154 s155 s156 s157 s158 s159 s160 s161 s162 s163 s164 s165 s166 s167 s168 s169 s170 s171 s172 s173 s174 s175 s176 s177 s178 s179 s180 s181 s182 s183 s184 s185 s186 s187 s188 s189 s190 s191 s192 s193 s194 s195 s196 s197 s198 s199 s200 s201 s202 s203 s204 s205 s206 s207 s208 s209 s210 s211 s212 s213 s214 s215 s216 s217 s218 s219 s220 s221 s222 s223 s224 s225 s226 s227 s228 s229 s230 s231 s232 : Value} (N : Act → World → Prop) (R : Exit → Act → World → Prop) (b : Code) (hcut : ((((Try.f5.body.bind (loopFor 0)).bind fun p => blockIn 1 p.1).bind fun p => lastFor 43 p.1).bind fun p => loopIn p.2) = some b) (hN : NxI s0 s2 s7 TD TF TG now 1 Wt N) :
    b.wp Try.prog (Exit.then N R) { tmps := (s0 :: s1 :: s2 :: .pointer (some ⟨TD, 0, none⟩) :: .int .i64 now :: .pointer (some ⟨TF, 0, none⟩) :: .pointer (some ⟨TG, 0, none⟩) :: s7 :: s8 :: s9 :: s10 :: s11 :: s12 :: s13 :: s14 :: s15 :: s16 :: s17 :: s18 :: s19 :: s20 :: s21 :: .int .i64 0 :: s23 :: s24 :: s25 :: s26 :: s27 :: s28 :: s29 :: s30 :: s31 :: s32 :: s33 :: s34 :: s35 :: s36 :: s37 :: s38 :: s39 :: s40 :: s41 :: s42 :: s43 :: s44 :: s45 :: s46 :: s47 :: s48 :: s49 :: s50 :: s51 :: s52 :: s53 :: s54 :: s55 :: s56 :: s57 :: s58 :: s59 :: s60 :: s61 :: s62 :: s63 :: s64 :: s65 :: s66 :: s67 :: s68 :: s69 :: s70 :: s71 :: s72 :: s73 :: s74 :: s75 :: s76 :: s77 :: s78 :: s79 :: s80 :: s81 :: s82 :: s83 :: s84 :: s85 :: s86 :: s87 :: s88 :: s89 :: s90 :: s91 :: s92 :: s93 :: s94 :: s95 :: s96 :: s97 :: s98 :: s99 :: s100 :: s101 :: s102 :: s103 :: s104 :: s105 :: s106 :: s107 :: s108 :: s109 :: s110 :: s111 :: s112 :: s113 :: s114 :: s115 :: s116 :: s117 :: s118 :: s119 :: s120 :: s121 :: s122 :: s123 :: s124 :: s125 :: s126 :: s127 :: s128 :: s129 :: s130 :: s131 :: s132 :: s133 :: s134 :: s135 :: s136 :: s137 :: s138 :: s139 :: s140 :: s141 :: s142 :: s143 :: s144 :: s145 :: s146 :: s147 :: s148 :: s149 :: s150 :: s151 :: s152 :: s153 :: s154 :: s155 :: s156 :: s157 :: s158 :: s159 :: s160 :: s161 :: s162 :: s163 :: s164 :: s165 :: s166 :: s167 :: s168 :: s169 :: s170 :: s171 :: s172 :: s173 :: s174 :: s175 :: s176 :: s177 :: s178 :: s179 :: s180 :: s181 :: s182 :: s183 :: s184 :: s185 :: s186 :: s187 :: s188 :: s189 :: s190 :: s191 :: s192 :: s193 :: s194 :: s195 :: s196 :: s197 :: s198 :: s199 :: s200 :: s201 :: s202 :: s203 :: s204 :: s205 :: s206 :: s207 :: s208 :: s209 :: s210 :: s211 :: s212 :: s213 :: s214 :: s215 :: s216 :: s217 :: s218 :: s219 :: s220 :: s221 :: s222 :: s223 :: s224 :: s225 :: s226 :: s227 :: s228 :: s229 :: s230 :: s231 :: s232 :: []).toArray, defers := [] } Wt := by
  have hcc : ((((Try.f5.body.bind (loopFor 0)).bind fun p => blockIn 1 p.1).bind fun p => lastFor 43 p.1).bind fun p => loopIn p.2) = some _ := rfl
  rw [hcc] at hcut
  cases hcut
  clear hcc
  have HN := hide hN; have HD := hide hD; have HF := hide hF; have HG := hide hG
  clear hN hD hF hG
  have xii : ∀ b : Int, (b == b) = true := fun b => by simp
  have xin : ∀ b : Int, (b != b) = false := fun b => by simp
  have hwr : IntKind.i64.wrap (g0 + 1) = g0 + 1 := wrapi (by omega) (by omega)
  clear hg0 hg1
  obtain ⟨⟨p0, p1, p2, p3, p4, p5, p6⟩, -, pl⟩ := block7 (unhide HD)
  obtain ⟨q0, q1, -, -, ql⟩ := block2 (unhide HF)
  obtain ⟨o0, o1, -, -, ol⟩ := block2 (unhide HG)
  go_upto_region 49 with fail
  go_wp2_with fail
  go_quiet (fail)
  go_wp2_with fail
  exact unhide HN _ _ _ _ _ _ _ _ _ _ _ _ _ _ _ _ _ _ _ _ _ _ _ _ _ _ _ _ _ _ _ _ _ _ _ _ _ _ _ _ _ _ _ _ _ _ _ _ _ _ _ _ _ _ _ _ _ _ _ _ _ _ _ _ _ _ _ _ _ _ _ _ _ _ _ _ _ _ _ _ _ _ _ _ _ _ _ _ _ _ _ _ _ _ _ _ _ _ _ _ _ _ _ _ _ _ _ _ _ _ _ _ _ _ _ _ _ _ _ _ _ _ _ _ _ _ _ _ _ _ _ _ _ _ _ _ _ _ _ _ _ _ _ _ _ _ _ _ _ _ _ _ _ _ _ _ _ _ _ _ _ _ _ _ _ _ _ _ _ _ _ _ _ _ _ _ _ _ _ _ _ _ _ _ _ _ _ _ _ _ _ _ _ _ _ _ _ _ _ _ _ _ _ _ _ _ _ _ _ _ _ _ _ _ _ _ _ _ _ _ _ _ _ _ _ _ (below_drewN (Below.refl _ _) _)

set_option maxRecDepth 100000 in
set_option maxHeartbeats 4000000 in
theorem ir0_B (r1 : Bool) (t1 u0 u1 f1 g0 g1 now : Int) (TD TF TG : Nat) (hg0 : 0 ≤ g0) (hg1 : g0 ≤ 300) (Wt : World) (hD : Wt.heap[TD]? = some (.cells #[.bool false, .bool false, .bool r1, .int .i64 0, .int .i64 t1, .int .i64 u0, .int .i64 u1] 25)) (hF : Wt.heap[TF]? = some (.cells #[.int .i64 g0, .int .i64 f1] 23)) (hG : Wt.heap[TG]? = some (.cells #[.int .i64 g0, .int .i64 g1] 23))
    {s0 s1 s2 s7 s8 s9 s10 s11 s12 s13 s14 s15 s16 s17 s18 s19 s20 s21 s23 s24 s25 s26 s27 s28 s29 s30 s31 s32 s33 s34 s35 s36 s37 s38 s39 s40 s41 s42 s43 s44 s45 s46 s47 s48 s49 s50 s51 s52 s53 s54 s55 s56 s57 s58 s59 s60 s61 s62 s63 s64 s65 s66 s67 s68 s69 s70 s71 s72 s73 s74 s75 s76 s77 s78 s79 s80 s81 s82 s83 s84 s85 s86 s87 s88 s89 s90 s91 s92 s93 s94 s95 s96 s97 s98 s99 s100 s101 s102 s103 s104 s105 s106 s107 s108 s109 s110 s111 s112 s113 s114 s115 s116 s117 s118 s119 s120 s121 s122 s123 s124 s125 s126 s127 s128 s129 s130 s131 s132 s133 s134 s135 s136 s137 s138 s139 s140 s141 s142 s143 s144 s145 s146 s147 s148 s149 s150 s151 s152 s153 s154 s155 s156 s157 s158 s159 s160 s161 s162 s163 s164 s165 s166 s167 s168 s169 s170 s171 s172 s173 s174 s175 s176 s177 s178 s179 s180 s181 s182 s183 s184 s185 s186 s187 s188 s189 s190 s191 s192 s193 s194 s195 s196 s197 s198 s199 s200 s201 s202 s203 s204 s205 s206 s207 s208 s209 s210 s211 s212 s213 s214 s215 s216 s217 s218 s219 s220 s221 s222 s223 s224 s225 s226 s227 s228 s229 s230 s231 s232 : Value} (N : Act → World → Prop) (R : Exit → Act → World → Prop) (b : Code) (hcut : ((((Try.f5.body.bind (loopFor 0)).bind fun p => blockIn 1 p.1).bind fun p => lastFor 43 p.1).bind fun p => loopIn p.2) = some b) (hN : NxI s0 s2 s7 TD TF TG now 1 Wt N) :
    b.wp Try.prog (Exit.then N R) { tmps := (s0 :: s1 :: s2 :: .pointer (some ⟨TD, 0, none⟩) :: .int .i64 now :: .pointer (some ⟨TF, 0, none⟩) :: .pointer (some ⟨TG, 0, none⟩) :: s7 :: s8 :: s9 :: s10 :: s11 :: s12 :: s13 :: s14 :: s15 :: s16 :: s17 :: s18 :: s19 :: s20 :: s21 :: .int .i64 0 :: s23 :: s24 :: s25 :: s26 :: s27 :: s28 :: s29 :: s30 :: s31 :: s32 :: s33 :: s34 :: s35 :: s36 :: s37 :: s38 :: s39 :: s40 :: s41 :: s42 :: s43 :: s44 :: s45 :: s46 :: s47 :: s48 :: s49 :: s50 :: s51 :: s52 :: s53 :: s54 :: s55 :: s56 :: s57 :: s58 :: s59 :: s60 :: s61 :: s62 :: s63 :: s64 :: s65 :: s66 :: s67 :: s68 :: s69 :: s70 :: s71 :: s72 :: s73 :: s74 :: s75 :: s76 :: s77 :: s78 :: s79 :: s80 :: s81 :: s82 :: s83 :: s84 :: s85 :: s86 :: s87 :: s88 :: s89 :: s90 :: s91 :: s92 :: s93 :: s94 :: s95 :: s96 :: s97 :: s98 :: s99 :: s100 :: s101 :: s102 :: s103 :: s104 :: s105 :: s106 :: s107 :: s108 :: s109 :: s110 :: s111 :: s112 :: s113 :: s114 :: s115 :: s116 :: s117 :: s118 :: s119 :: s120 :: s121 :: s122 :: s123 :: s124 :: s125 :: s126 :: s127 :: s128 :: s129 :: s130 :: s131 :: s132 :: s133 :: s134 :: s135 :: s136 :: s137 :: s138 :: s139 :: s140 :: s141 :: s142 :: s143 :: s144 :: s145 :: s146 :: s147 :: s148 :: s149 :: s150 :: s151 :: s152 :: s153 :: s154 :: s155 :: s156 :: s157 :: s158 :: s159 :: s160 :: s161 :: s162 :: s163 :: s164 :: s165 :: s166 :: s167 :: s168 :: s169 :: s170 :: s171 :: s172 :: s173 :: s174 :: s175 :: s176 :: s177 :: s178 :: s179 :: s180 :: s181 :: s182 :: s183 :: s184 :: s185 :: s186 :: s187 :: s188 :: s189 :: s190 :: s191 :: s192 :: s193 :: s194 :: s195 :: s196 :: s197 :: s198 :: s199 :: s200 :: s201 :: s202 :: s203 :: s204 :: s205 :: s206 :: s207 :: s208 :: s209 :: s210 :: s211 :: s212 :: s213 :: s214 :: s215 :: s216 :: s217 :: s218 :: s219 :: s220 :: s221 :: s222 :: s223 :: s224 :: s225 :: s226 :: s227 :: s228 :: s229 :: s230 :: s231 :: s232 :: []).toArray, defers := [] } Wt := by
  have hcc : ((((Try.f5.body.bind (loopFor 0)).bind fun p => blockIn 1 p.1).bind fun p => lastFor 43 p.1).bind fun p => loopIn p.2) = some _ := rfl
  rw [hcc] at hcut
  cases hcut
  clear hcc
  have HN := hide hN; have HD := hide hD; have HF := hide hF; have HG := hide hG
  clear hN hD hF hG
  have xii : ∀ b : Int, (b == b) = true := fun b => by simp
  have xin : ∀ b : Int, (b != b) = false := fun b => by simp
  have hwr : IntKind.i64.wrap (g0 + 0) = g0 := by rw [Int.add_zero]; exact wrapi (by omega) (by omega)
  have hwr2 : IntKind.i64.wrap g0 = g0 := wrapi (by omega) (by omega)
  clear hg0 hg1
  obtain ⟨⟨p0, p1, p2, p3, p4, p5, p6⟩, -, pl⟩ := block7 (unhide HD)
  obtain ⟨q0, q1, -, -, ql⟩ := block2 (unhide HF)
  obtain ⟨o0, o1, -, -, ol⟩ := block2 (unhide HG)
  go_upto_region 49 with fail
  go_wp2_with fail
  go_quiet (fail)
  go_wp2_with fail
  exact unhide HN _ _ _ _ _ _ _ _ _ _ _ _ _ _ _ _ _ _ _ _ _ _ _ _ _ _ _ _ _ _ _ _ _ _ _ _ _ _ _ _ _ _ _ _ _ _ _ _ _ _ _ _ _ _ _ _ _ _ _ _ _ _ _ _ _ _ _ _ _ _ _ _ _ _ _ _ _ _ _ _ _ _ _ _ _ _ _ _ _ _ _ _ _ _ _ _ _ _ _ _ _ _ _ _ _ _ _ _ _ _ _ _ _ _ _ _ _ _ _ _ _ _ _ _ _ _ _ _ _ _ _ _ _ _ _ _ _ _ _ _ _ _ _ _ _ _ _ _ _ _ _ _ _ _ _ _ _ _ _ _ _ _ _ _ _ _ _ _ _ _ _ _ _ _ _ _ _ _ _ _ _ _ _ _ _ _ _ _ _ _ _ _ _ _ _ _ _ _ _ _ _ _ _ _ _ _ _ _ _ _ _ _ _ _ _ _ _ _ _ _ _ _ _ _ _ _ (below_drewN (Below.refl _ _) _)

set_option maxRecDepth 100000 in
set_option maxHeartbeats 4000000 in
theorem ir0_C (r1 : Bool) (t0 t1 u0 u1 f1 g0 g1 now : Int) (TD TF TG : Nat) (hg0 : 0 ≤ g0) (hg1 : g0 ≤ 300) (ht : 0 < t0) (hl : late u0 now = false) (Wt : World) (hD : Wt.heap[TD]? = some (.cells #[.bool false, .bool false, .bool r1, .int .i64 t0, .int .i64 t1, .int .i64 u0, .int .i64 u1] 25)) (hF : Wt.heap[TF]? = some (.cells #[.int .i64 g0, .int .i64 f1] 23)) (hG : Wt.heap[TG]? = some (.cells #[.int .i64 g0, .int .i64 g1] 23))
    {s0 s1 s2 s7 s8 s9 s10 s11 s12 s13 s14 s15 s16 s17 s18 s19 s20 s21 s23 s24 s25 s26 s27 s28 s29 s30 s31 s32 s33 s34 s35 s36 s37 s38 s39 s40 s41 s42 s43 s44 s45 s46 s47 s48 s49 s50 s51 s52 s53 s54 s55 s56 s57 s58 s59 s60 s61 s62 s63 s64 s65 s66 s67 s68 s69 s70 s71 s72 s73 s74 s75 s76 s77 s78 s79 s80 s81 s82 s83 s84 s85 s86 s87 s88 s89 s90 s91 s92 s93 s94 s95 s96 s97 s98 s99 s100 s101 s102 s103 s104 s105 s106 s107 s108 s109 s110 s111 s112 s113 s114 s115 s116 s117 s118 s119 s120 s121 s122 s123 s124 s125 s126 s127 s128 s129 s130 s131 s132 s133 s134 s135 s136 s137 s138 s139 s140 s141 s142 s143 s144 s145 s146 s147 s148 s149 s150 s151 s152 s153 s154 s155 s156 s157 s158 s159 s160 s161 s162 s163 s164 s165 s166 s167 s168 s169 s170 s171 s172 s173 s174 s175 s176 s177 s178 s179 s180 s181 s182 s183 s184 s185 s186 s187 s188 s189 s190 s191 s192 s193 s194 s195 s196 s197 s198 s199 s200 s201 s202 s203 s204 s205 s206 s207 s208 s209 s210 s211 s212 s213 s214 s215 s216 s217 s218 s219 s220 s221 s222 s223 s224 s225 s226 s227 s228 s229 s230 s231 s232 : Value} (N : Act → World → Prop) (R : Exit → Act → World → Prop) (b : Code) (hcut : ((((Try.f5.body.bind (loopFor 0)).bind fun p => blockIn 1 p.1).bind fun p => lastFor 43 p.1).bind fun p => loopIn p.2) = some b) (hN : NxI s0 s2 s7 TD TF TG now 1 Wt N) :
    b.wp Try.prog (Exit.then N R) { tmps := (s0 :: s1 :: s2 :: .pointer (some ⟨TD, 0, none⟩) :: .int .i64 now :: .pointer (some ⟨TF, 0, none⟩) :: .pointer (some ⟨TG, 0, none⟩) :: s7 :: s8 :: s9 :: s10 :: s11 :: s12 :: s13 :: s14 :: s15 :: s16 :: s17 :: s18 :: s19 :: s20 :: s21 :: .int .i64 0 :: s23 :: s24 :: s25 :: s26 :: s27 :: s28 :: s29 :: s30 :: s31 :: s32 :: s33 :: s34 :: s35 :: s36 :: s37 :: s38 :: s39 :: s40 :: s41 :: s42 :: s43 :: s44 :: s45 :: s46 :: s47 :: s48 :: s49 :: s50 :: s51 :: s52 :: s53 :: s54 :: s55 :: s56 :: s57 :: s58 :: s59 :: s60 :: s61 :: s62 :: s63 :: s64 :: s65 :: s66 :: s67 :: s68 :: s69 :: s70 :: s71 :: s72 :: s73 :: s74 :: s75 :: s76 :: s77 :: s78 :: s79 :: s80 :: s81 :: s82 :: s83 :: s84 :: s85 :: s86 :: s87 :: s88 :: s89 :: s90 :: s91 :: s92 :: s93 :: s94 :: s95 :: s96 :: s97 :: s98 :: s99 :: s100 :: s101 :: s102 :: s103 :: s104 :: s105 :: s106 :: s107 :: s108 :: s109 :: s110 :: s111 :: s112 :: s113 :: s114 :: s115 :: s116 :: s117 :: s118 :: s119 :: s120 :: s121 :: s122 :: s123 :: s124 :: s125 :: s126 :: s127 :: s128 :: s129 :: s130 :: s131 :: s132 :: s133 :: s134 :: s135 :: s136 :: s137 :: s138 :: s139 :: s140 :: s141 :: s142 :: s143 :: s144 :: s145 :: s146 :: s147 :: s148 :: s149 :: s150 :: s151 :: s152 :: s153 :: s154 :: s155 :: s156 :: s157 :: s158 :: s159 :: s160 :: s161 :: s162 :: s163 :: s164 :: s165 :: s166 :: s167 :: s168 :: s169 :: s170 :: s171 :: s172 :: s173 :: s174 :: s175 :: s176 :: s177 :: s178 :: s179 :: s180 :: s181 :: s182 :: s183 :: s184 :: s185 :: s186 :: s187 :: s188 :: s189 :: s190 :: s191 :: s192 :: s193 :: s194 :: s195 :: s196 :: s197 :: s198 :: s199 :: s200 :: s201 :: s202 :: s203 :: s204 :: s205 :: s206 :: s207 :: s208 :: s209 :: s210 :: s211 :: s212 :: s213 :: s214 :: s215 :: s216 :: s217 :: s218 :: s219 :: s220 :: s221 :: s222 :: s223 :: s224 :: s225 :: s226 :: s227 :: s228 :: s229 :: s230 :: s231 :: s232 :: []).toArray, defers := [] } Wt := by
  have hcc : ((((Try.f5.body.bind (loopFor 0)).bind fun p => blockIn 1 p.1).bind fun p => lastFor 43 p.1).bind fun p => loopIn p.2) = some _ := rfl
  rw [hcc] at hcut
  cases hcut
  clear hcc
  have HN := hide hN; have HD := hide hD; have HF := hide hF; have HG := hide hG
  clear hN hD hF hG
  have xii : ∀ b : Int, (b == b) = true := fun b => by simp
  have xin : ∀ b : Int, (b != b) = false := fun b => by simp
  have hwr : IntKind.i64.wrap (g0 + 0) = g0 := by rw [Int.add_zero]; exact wrapi (by omega) (by omega)
  have hwr2 : IntKind.i64.wrap g0 = g0 := wrapi (by omega) (by omega)
  clear hg0 hg1
  have HIL : Hid (∀ W, Calls Try.prog 13 #[.agg #[.bool false, .bool false, .bool r1, .int .i64 t0, .int .i64 t1, .int .i64 u0, .int .i64 u1], .int .i64 0, .int .i64 now] W fun e w' => e = .returned (.bool false) ∧ Below W.heap.size W w') := fun W => by have := isLate0_any W false false r1 t0 t1 u0 u1 now; rw [hl] at this; exact this
  clear hl
  have xt : decide (0 < t0) = true := decide_eq_true ht
  obtain ⟨⟨p0, p1, p2, p3, p4, p5, p6⟩, -, pl⟩ := block7 (unhide HD)
  obtain ⟨q0, q1, -, -, ql⟩ := block2 (unhide HF)
  obtain ⟨o0, o1, -, -, ol⟩ := block2 (unhide HG)
  go_upto_region 49 with fail
  go_wp2_with fail
  have HSS : Hid (∀ W, Below Wt.heap.size Wt W → (W.cell? ⟨TD, 0, none⟩ = some (.bool false) ∧ W.cell? ⟨TD, 1, none⟩ = some (.bool false) ∧ W.cell? ⟨TD, 2, none⟩ = some (.bool r1) ∧ W.cell? ⟨TD, 3, none⟩ = some (.int .i64 t0) ∧ W.cell? ⟨TD, 4, none⟩ = some (.int .i64 t1) ∧ W.cell? ⟨TD, 5, none⟩ = some (.int .i64 u0) ∧ W.cell? ⟨TD, 6, none⟩ = some (.int .i64 u1)) ∧ (W.cell? ⟨TF, 0, none⟩ = some (.int .i64 g0) ∧ W.cell? ⟨TG, 0, none⟩ = some (.int .i64 g0)) ∧ Below Wt.heap.size Wt W) := fun W hW => ⟨(block7 (keep_below (unhide HD) hW)).1, ⟨(block2 (keep_below (unhide HF) hW)).1, (block2 (keep_below (unhide HG) hW)).1⟩, hW⟩
  go_region_held3 (fun W => (W.cell? ⟨TD, 0, none⟩ = some (.bool false) ∧ W.cell? ⟨TD, 1, none⟩ = some (.bool false) ∧ W.cell? ⟨TD, 2, none⟩ = some (.bool r1) ∧ W.cell? ⟨TD, 3, none⟩ = some (.int .i64 t0) ∧ W.cell? ⟨TD, 4, none⟩ = some (.int .i64 t1) ∧ W.cell? ⟨TD, 5, none⟩ = some (.int .i64 u0) ∧ W.cell? ⟨TD, 6, none⟩ = some (.int .i64 u1)) ∧ (W.cell? ⟨TF, 0, none⟩ = some (.int .i64 g0) ∧ W.cell? ⟨TG, 0, none⟩ = some (.int .i64 g0)) ∧ Below Wt.heap.size Wt W)
    (first | with_reducible exact unhide HSS _ (Below.refl _ _) | with_reducible exact unhide HSS _ (Below.refl _ _).drew | with_reducible exact unhide HSS _ (unhide HY7))
    (first | (go_at_call 13; refine (unhide HIL _).mono ?_; rintro e w5 ⟨rfl, hb8⟩; have HY7 : Hid (Below Wt.heap.size Wt w5) := Below.next (by go_split_ands; assumption) hb8 (Nat.le_refl _); clear hb8))
  all_goals
    go_wp2_with fail
    exact unhide HN _ _ _ _ _ _ _ _ _ _ _ _ _ _ _ _ _ _ _ _ _ _ _ _ _ _ _ _ _ _ _ _ _ _ _ _ _ _ _ _ _ _ _ _ _ _ _ _ _ _ _ _ _ _ _ _ _ _ _ _ _ _ _ _ _ _ _ _ _ _ _ _ _ _ _ _ _ _ _ _ _ _ _ _ _ _ _ _ _ _ _ _ _ _ _ _ _ _ _ _ _ _ _ _ _ _ _ _ _ _ _ _ _ _ _ _ _ _ _ _ _ _ _ _ _ _ _ _ _ _ _ _ _ _ _ _ _ _ _ _ _ _ _ _ _ _ _ _ _ _ _ _ _ _ _ _ _ _ _ _ _ _ _ _ _ _ _ _ _ _ _ _ _ _ _ _ _ _ _ _ _ _ _ _ _ _ _ _ _ _ _ _ _ _ _ _ _ _ _ _ _ _ _ _ _ _ _ _ _ _ _ _ _ _ _ _ _ _ _ _ _ _ _ _ _ _ (unhide HY7)

end Go.Proofs.Ytmghfedlpndpiaa
