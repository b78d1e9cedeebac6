/-
  taskmilllaw.PollLosesNone: behind each move.
-/
import Derived.Test.YtmghfedlpndpiaaPb0
import Derived.Test.YtmghfedlpndpiaaPb1
namespace Go.Proofs.Ytmghfedlpndpiaa
open Go.RowKit

theorem ir0_any (i now : Int) (r0 r1 : Bool) (t0 t1 u0 u1 f0 f1 g0 g1 : Int) (TD TF TG : Nat) (hOk : Ok i now r0 r1 t0 t1 u0 u1 f0 f1 g0 g1) (Wt : World) (hD : Wt.heap[TD]? = some (.cells #[.bool false, .bool r0, .bool r1, .int .i64 t0, .int .i64 t1, .int .i64 u0, .int .i64 u1] 25)) (hF : Wt.heap[TF]? = some (.cells #[.int .i64 f0, .int .i64 f1] 23)) (hG : Wt.heap[TG]? = some (.cells #[.int .i64 g0, .int .i64 g1] 23))
    {s0 s1 s2 s7 s8 s9 s10 s11 s12 s13 s14 s15 s16 s17 s18 s19 s20 s21 s23 s24 s25 s26 s27 s28 s29 s30 s31 s32 s33 s34 s35 s36 s37 s38 s39 s40 s41 s42 s43 s44 s45 s46 s47 s48 s49 s50 s51 s52 s53 s54 s55 s56 s57 s58 s59 s60 s61 s62 s63 s64 s65 s66 s67 s68 s69 s70 s71 s72 s73 s74 s75 s76 s77 s78 s79 s80 s81 s82 s83 s84 s85 s86 s87 s88 s89 s90 s91 s92 s93 s94 s95 s96 s97 s98 s99 s100 s101 s102 s103 s104 s105 s106 s107 s108 s109 s110 s111 s112 s113 s114 s115 s116 s117 s118 s119 s120 s121 s122 s123 s124 s125 s126 s127 s128 s129 s130 s131 s132 s133 s134 s135 s136 s137 s138 s139 s140 s141 s142 s143 s144 s145 s146 s147 s148 s149 s150 s151 s152 s153 s154 s155 s156 s157 s158 s159 s160 s161 s162 s163 s164 s165 s166 s167 s168 s169 s170 s171 s172 s173 s174 s175 s176 s177 s178 s179 s180 s181 s182 s183 s184 s185 s186 s187 s188 s189 s190 s191 s192 s193 s194 s195 s196 s197 s198 s199 s200 s201 s202 s203 s204 s205 s206 s207 s208 s209 s210 s211 s212 s213 s214 s215 s216 s217 s218 s219 s220 s221 s222 s223 s224 s225 s226 s227 s228 s229 s230 s231 s232 : Value} (N : Act → World → Prop) (R : Exit → Act → World → Prop) (b : Code) (hcut : ((((Try.f5.body.bind (loopFor 0)).bind fun p => blockIn 1 p.1).bind fun p => lastFor 43 p.1).bind fun p => loopIn p.2) = some b) (hN : NxI s0 s2 s7 TD TF TG now 1 Wt N) :
    b.wp Try.prog (Exit.then N R) { tmps := (s0 :: s1 :: s2 :: .pointer (some ⟨TD, 0, none⟩) :: .int .i64 now :: .pointer (some ⟨TF, 0, none⟩) :: .pointer (some ⟨TG, 0, none⟩) :: s7 :: s8 :: s9 :: s10 :: s11 :: s12 :: s13 :: s14 :: s15 :: s16 :: s17 :: s18 :: s19 :: s20 :: s21 :: .int .i64 0 :: s23 :: s24 :: s25 :: s26 :: s27 :: s28 :: s29 :: s30 :: s31 :: s32 :: s33 :: s34 :: s35 :: s36 :: s37 :: s38 :: s39 :: s40 :: s41 :: s42 :: s43 :: s44 :: s45 :: s46 :: s47 :: s48 :: s49 :: s50 :: s51 :: s52 :: s53 :: s54 :: s55 :: s56 :: s57 :: s58 :: s59 :: s60 :: s61 :: s62 :: s63 :: s64 :: s65 :: s66 :: s67 :: s68 :: s69 :: s70 :: s71 :: s72 :: s73 :: s74 :: s75 :: s76 :: s77 :: s78 :: s79 :: s80 :: s81 :: s82 :: s83 :: s84 :: s85 :: s86 :: s87 :: s88 :: s89 :: s90 :: s91 :: s92 :: s93 :: s94 :: s95 :: s96 :: s97 :: s98 :: s99 :: s100 :: s101 :: s102 :: s103 :: s104 :: s105 :: s106 :: s107 :: s108 :: s109 :: s110 :: s111 :: s112 :: s113 :: s114 :: s115 :: s116 :: s117 :: s118 :: s119 :: s120 :: s121 :: s122 :: s123 :: s124 :: s125 :: s126 :: s127 :: s128 :: s129 :: s130 :: s131 :: s132 :: s133 :: s134 :: s135 :: s136 :: s137 :: s138 :: s139 :: s140 :: s141 :: s142 :: s143 :: s144 :: s145 :: s146 :: s147 :: s148 :: s149 :: s150 :: s151 :: s152 :: s153 :: s154 :: s155 :: s156 :: s157 :: s158 :: s159 :: s160 :: s161 :: s162 :: s163 :: s164 :: s165 :: s166 :: s167 :: s168 :: s169 :: s170 :: s171 :: s172 :: s173 :: s174 :: s175 :: s176 :: s177 :: s178 :: s179 :: s180 :: s181 :: s182 :: s183 :: s184 :: s185 :: s186 :: s187 :: s188 :: s189 :: s190 :: s191 :: s192 :: s193 :: s194 :: s195 :: s196 :: s197 :: s198 :: s199 :: s200 :: s201 :: s202 :: s203 :: s204 :: s205 :: s206 :: s207 :: s208 :: s209 :: s210 :: s211 :: s212 :: s213 :: s214 :: s215 :: s216 :: s217 :: s218 :: s219 :: s220 :: s221 :: s222 :: s223 :: s224 :: s225 :: s226 :: s227 :: s228 :: s229 :: s230 :: s231 :: s232 :: []).toArray, defers := [] } Wt := by
  have hi := hOk.i1
  have hx := hOk.x0
  have hy := hOk.y0
  have hq := hOk.q0
  have ha := hOk.a0
  have hw := hOk.w0
  have hl := hOk.l0
  cases r0 with
  | true =>
    have ht := hw rfl
    subst ht
    have hq2 : f0 = g0 + 1 := hq
    subst hq2
    exact ir0_A r1 t1 u0 u1 f1 g0 g1 now TD TF TG hx (by omega) Wt hD hF hG N R b hcut hN
  | false =>
    have hq2 : f0 = g0 := by rw [hq]; simp
    subst hq2
    by_cases ht : 0 < t0
    · exact ir0_C r1 t0 t1 u0 u1 f1 _ _ now TD TF TG hx (by omega) ht (hl ht) Wt hD hF hG N R b hcut hN
    · obtain rfl : t0 = 0 := by omega
      exact ir0_B r1 t1 u0 u1 f1 _ _ now TD TF TG hx (by omega) Wt hD hF hG N R b hcut hN

theorem ir1_any (i now : Int) (r0 r1 : Bool) (t0 t1 u0 u1 f0 f1 g0 g1 : Int) (TD TF TG : Nat) (hOk : Ok i now r0 r1 t0 t1 u0 u1 f0 f1 g0 g1) (Wt : World) (hD : Wt.heap[TD]? = some (.cells #[.bool false, .bool r0, .bool r1, .int .i64 t0, .int .i64 t1, .int .i64 u0, .int .i64 u1] 25)) (hF : Wt.heap[TF]? = some (.cells #[.int .i64 f0, .int .i64 f1] 23)) (hG : Wt.heap[TG]? = some (.cells #[.int .i64 g0, .int .i64 g1] 23))
    {s0 s1 s2 s7 s8 s9 s10 s11 s12 s13 s14 s15 s16 s17 s18 s19 s20 s21 s23 s24 s25 s26 s27 s28 s29 s30 s31 s32 s33 s34 s35 s36 s37 s38 s39 s40 s41 s42 s43 s44 s45 s46 s47 s48 s49 s50 s51 s52 s53 s54 s55 s56 s57 s58 s59 s60 s61 s62 s63 s64 s65 s66 s67 s68 s69 s70 s71 s72 s73 s74 s75 s76 s77 s78 s79 s80 s81 s82 s83 s84 s85 s86 s87 s88 s89 s90 s91 s92 s93 s94 s95 s96 s97 s98 s99 s100 s101 s102 s103 s104 s105 s106 s107 s108 s109 s110 s111 s112 s113 s114 s115 s116 s117 s118 s119 s120 s121 s122 s123 s124 s125 s126 s127 s128 s129 s130 s131 s132 s133 s134 s135 s136 s137 s138 s139 s140 s141 s142 s143 s144 s145 s146 s147 s148 s149 s150 s151 s152 s153 s154 s155 s156 s157 s158 s159 s160 s161 s162 s163 s164 s165 s166 s167 s168 s169 s170 s171 s172 s173 s174 s175 s176 s177 s178 s179 s180 s181 s182 s183 s184 s185 s186 s187 s188 s189 s190 s191 s192 s193 s194 s195 s196 s197 s198 s199 s200 s201 s202 s203 s204 s205 s206 s207 s208 s209 s210 s211 s212 s213 s214 s215 s216 s217 s218 s219 s220 s221 s222 s223 s224 s225 s226 s227 s228 s229 s230 s231 s232 : Value} (N : Act → World → Prop) (R : Exit → Act → World → Prop) (b : Code) (hcut : ((((Try.f5.body.bind (loopFor 0)).bind fun p => blockIn 1 p.1).bind fun p => lastFor 43 p.1).bind fun p => loopIn p.2) = some b) (hN : NxI s0 s2 s7 TD TF TG now 2 Wt N) :
    b.wp Try.prog (Exit.then N R) { tmps := (s0 :: s1 :: s2 :: .pointer (some ⟨TD, 0, none⟩) :: .int .i64 now :: .pointer (some ⟨TF, 0, none⟩) :: .pointer (some ⟨TG, 0, none⟩) :: s7 :: s8 :: s9 :: s10 :: s11 :: s12 :: s13 :: s14 :: s15 :: s16 :: s17 :: s18 :: s19 :: s20 :: s21 :: .int .i64 1 :: s23 :: s24 :: s25 :: s26 :: s27 :: s28 :: s29 :: s30 :: s31 :: s32 :: s33 :: s34 :: s35 :: s36 :: s37 :: s38 :: s39 :: s40 :: s41 :: s42 :: s43 :: s44 :: s45 :: s46 :: s47 :: s48 :: s49 :: s50 :: s51 :: s52 :: s53 :: s54 :: s55 :: s56 :: s57 :: s58 :: s59 :: s60 :: s61 :: s62 :: s63 :: s64 :: s65 :: s66 :: s67 :: s68 :: s69 :: s70 :: s71 :: s72 :: s73 :: s74 :: s75 :: s76 :: s77 :: s78 :: s79 :: s80 :: s81 :: s82 :: s83 :: s84 :: s85 :: s86 :: s87 :: s88 :: s89 :: s90 :: s91 :: s92 :: s93 :: s94 :: s95 :: s96 :: s97 :: s98 :: s99 :: s100 :: s101 :: s102 :: s103 :: s104 :: s105 :: s106 :: s107 :: s108 :: s109 :: s110 :: s111 :: s112 :: s113 :: s114 :: s115 :: s116 :: s117 :: s118 :: s119 :: s120 :: s121 :: s122 :: s123 :: s124 :: s125 :: s126 :: s127 :: s128 :: s129 :: s130 :: s131 :: s132 :: s133 :: s134 :: s135 :: s136 :: s137 :: s138 :: s139 :: s140 :: s141 :: s142 :: s143 :: s144 :: s145 :: s146 :: s147 :: s148 :: s149 :: s150 :: s151 :: s152 :: s153 :: s154 :: s155 :: s156 :: s157 :: s158 :: s159 :: s160 :: s161 :: s162 :: s163 :: s164 :: s165 :: s166 :: s167 :: s168 :: s169 :: s170 :: s171 :: s172 :: s173 :: s174 :: s175 :: s176 :: s177 :: s178 :: s179 :: s180 :: s181 :: s182 :: s183 :: s184 :: s185 :: s186 :: s187 :: s188 :: s189 :: s190 :: s191 :: s192 :: s193 :: s194 :: s195 :: s196 :: s197 :: s198 :: s199 :: s200 :: s201 :: s202 :: s203 :: s204 :: s205 :: s206 :: s207 :: s208 :: s209 :: s210 :: s211 :: s212 :: s213 :: s214 :: s215 :: s216 :: s217 :: s218 :: s219 :: s220 :: s221 :: s222 :: s223 :: s224 :: s225 :: s226 :: s227 :: s228 :: s229 :: s230 :: s231 :: s232 :: []).toArray, defers := [] } Wt := by
  have hi := hOk.i1
  have hx := hOk.x1
  have hy := hOk.y1
  have hq := hOk.q1
  have ha := hOk.a1
  have hw := hOk.w1
  have hl := hOk.l1
  cases r1 with
  | true =>
    have ht := hw rfl
    subst ht
    have hq2 : f1 = g1 + 1 := hq
    subst hq2
    exact ir1_A r0 t0 u0 u1 f0 g0 g1 now TD TF TG hx (by omega) Wt hD hF hG N R b hcut hN
  | false =>
    have hq2 : f1 = g1 := by rw [hq]; simp
    subst hq2
    by_cases ht : 0 < t1
    · exact ir1_C r0 t0 t1 u0 u1 f0 _ _ now TD TF TG hx (by omega) ht (hl ht) Wt hD hF hG N R b hcut hN
    · obtain rfl : t1 = 0 := by omega
      exact ir1_B r0 t0 u0 u1 f0 _ _ now TD TF TG hx (by omega) Wt hD hF hG N R b hcut hN

set_option maxRecDepth 100000 in
set_option maxHeartbeats 4000000 in
theorem inner_any (w : World) (a0 : Option Addr) (n c0 TD TF TG j : Nat) (now : Int) (r0 r1 : Bool) (t0 t1 u0 u1 f0 f1 g0 g1 : Int) (hOk : Ok ((j : Int) + 1) now r0 r1 t0 t1 u0 u1 f0 f1 g0 g1) (Wt : World) (hX : Below w.heap.size w Wt) (hD : Wt.heap[TD]? = some (.cells #[.bool false, .bool r0, .bool r1, .int .i64 t0, .int .i64 t1, .int .i64 u0, .int .i64 u1] 25)) (hF : Wt.heap[TF]? = some (.cells #[.int .i64 f0, .int .i64 f1] 23)) (hG : Wt.heap[TG]? = some (.cells #[.int .i64 g0, .int .i64 g1] 23))
    {s1 s8 s9 s10 s11 s12 s13 s14 s15 s16 s17 s18 s19 s20 s21 s22 s23 s24 s25 s26 s27 s28 s29 s30 s31 s32 s33 s34 s35 s36 s37 s38 s39 s40 s41 s42 s43 s44 s45 s46 s47 s48 s49 s50 s51 s52 s53 s54 s55 s56 s57 s58 s59 s60 s61 s62 s63 s64 s65 s66 s67 s68 s69 s70 s71 s72 s73 s74 s75 s76 s77 s78 s79 s80 s81 s82 s83 s84 s85 s86 s87 s88 s89 s90 s91 s92 s93 s94 s95 s96 s97 s98 s99 s100 s101 s102 s103 s104 s105 s106 s107 s108 s109 s110 s111 s112 s113 s114 s115 s116 s117 s118 s119 s120 s121 s122 s123 s124 s125 s126 s127 s128 s129 s130 s131 s132 s133 s134 s135 s136 s137 s138 s139 s140 s141 s142 s143 s144 s145 s146 s147 s148 s149 s150 s151 s152 s153 s154 s155 s156 s157 s158 s159 s160 s161 s162 s163 s164 s165 s166 s167 s168 s169 s170 s171 s172 s173 s174 s175 s176 s177 s178 s179 s180 s181 s182 s183 s184 s185 s186 s187 s188 s189 s190 s191 s192 s193 s194 s195 s196 s197 s198 s199 s200 s201 s202 s203 s204 s205 s206 s207 s208 s209 s210 s211 s212 s213 s214 s215 s216 s217 s218 s219 s220 s221 s222 s223 s224 s225 s226 s227 s228 s229 s230 s231 s232 : Value} (K3 K4 N : Act → World → Prop) (Q0 : Exit → Act → World → Prop) (x y z : Code) (hK3 : ∀ a w', y.wp Try.prog (Exit.inBlock 1 (Exit.then K4 (Exit.then N Q0))) a w' → K3 a w') (hK4 : ∀ a w', z.wp Try.prog (Exit.then N Q0) a w' → K4 a w') (hcut : (((Try.f5.body.bind (loopFor 0)).bind fun p => blockIn 1 p.1).bind fun p => (lastFor 43 p.1).map fun q => (q.1, q.2, p.2)) = some (x, y, z)) (hN : NxO w a0 n c0 TD TF TG j N) :
    x.wp Try.prog (Exit.then K3 (Exit.inBlock 1 (Exit.then K4 (Exit.then N Q0)))) { tmps := (.slice a0 n c0 :: s1 :: .bool false :: .pointer (some ⟨TD, 0, none⟩) :: .int .i64 now :: .pointer (some ⟨TF, 0, none⟩) :: .pointer (some ⟨TG, 0, none⟩) :: .int .i64 (j : Int) :: s8 :: s9 :: s10 :: s11 :: s12 :: s13 :: s14 :: s15 :: s16 :: s17 :: s18 :: s19 :: s20 :: s21 :: s22 :: s23 :: s24 :: s25 :: s26 :: s27 :: s28 :: s29 :: s30 :: s31 :: s32 :: s33 :: s34 :: s35 :: s36 :: s37 :: s38 :: s39 :: s40 :: s41 :: s42 :: s43 :: s44 :: s45 :: s46 :: s47 :: s48 :: s49 :: s50 :: s51 :: s52 :: s53 :: s54 :: s55 :: s56 :: s57 :: s58 :: s59 :: s60 :: s61 :: s62 :: s63 :: s64 :: s65 :: s66 :: s67 :: s68 :: s69 :: s70 :: s71 :: s72 :: s73 :: s74 :: s75 :: s76 :: s77 :: s78 :: s79 :: s80 :: s81 :: s82 :: s83 :: s84 :: s85 :: s86 :: s87 :: s88 :: s89 :: s90 :: s91 :: s92 :: s93 :: s94 :: s95 :: s96 :: s97 :: s98 :: s99 :: s100 :: s101 :: s102 :: s103 :: s104 :: s105 :: s106 :: s107 :: s108 :: s109 :: s110 :: s111 :: s112 :: s113 :: s114 :: s115 :: s116 :: s117 :: s118 :: s119 :: s120 :: s121 :: s122 :: s123 :: s124 :: s125 :: s126 :: s127 :: s128 :: s129 :: s130 :: s131 :: s132 :: s133 :: s134 :: s135 :: s136 :: s137 :: s138 :: s139 :: s140 :: s141 :: s142 :: s143 :: s144 :: s145 :: s146 :: s147 :: s148 :: s149 :: s150 :: s151 :: s152 :: s153 :: s154 :: s155 :: s156 :: s157 :: s158 :: s159 :: s160 :: s161 :: s162 :: s163 :: s164 :: s165 :: s166 :: s167 :: s168 :: s169 :: s170 :: s171 :: s172 :: s173 :: s174 :: s175 :: s176 :: s177 :: s178 :: s179 :: s180 :: s181 :: s182 :: s183 :: s184 :: s185 :: s186 :: s187 :: s188 :: s189 :: s190 :: s191 :: s192 :: s193 :: s194 :: s195 :: s196 :: s197 :: s198 :: s199 :: s200 :: s201 :: s202 :: s203 :: s204 :: s205 :: s206 :: s207 :: s208 :: s209 :: s210 :: s211 :: s212 :: s213 :: s214 :: s215 :: s216 :: s217 :: s218 :: s219 :: s220 :: s221 :: s222 :: s223 :: s224 :: s225 :: s226 :: s227 :: s228 :: s229 :: s230 :: s231 :: s232 :: []).toArray, defers := [] } Wt := by
  have hcc : (((Try.f5.body.bind (loopFor 0)).bind fun p => blockIn 1 p.1).bind fun p => (lastFor 43 p.1).map fun q => (q.1, q.2, p.2)) = some (_, _, _) := rfl
  rw [hcc] at hcut
  cases hcut
  clear hcc
  have HN := hide hN; have HD := hide hD; have HF := hide hF; have HG := hide hG; have HX := hide hX; have HO := hide hOk
  have hwr : IntKind.i64.wrap ((j : Int) + 1) = (j : Int) + 1 := by have := hOk.i1; have := hOk.n1; have := hOk.n0; exact wrapi (by omega) (by omega)
  clear hN hD hF hG hX hOk
  go_wp2_with fail
  refine wp_loop_rounds 3 ?_
  rw [rounds_succ]
  refine ir0_any _ now r0 r1 t0 t1 u0 u1 f0 f1 g0 g1 TD TF TG (unhide HO) Wt (unhide HD) (unhide HF) (unhide HG) _ _ _ (by kernel_rfl) ?_
  unfold NxI
  intros
  rename_i W1 hb1
  have HB1 := hide hb1
  clear hb1
  rw [rounds_succ]
  refine ir1_any _ now r0 r1 t0 t1 u0 u1 f0 f1 g0 g1 TD TF TG (unhide HO) W1 (keep_below (unhide HD) (unhide HB1)) (keep_below (unhide HF) (unhide HB1)) (keep_below (unhide HG) (unhide HB1)) _ _ _ (by kernel_rfl) ?_
  unfold NxI
  intros
  rename_i W2 hb2
  have HB2 := hide (Below.next (unhide HB1) hb2 (Nat.le_refl _))
  clear hb2
  rw [rounds_succ]
  go_wp2_with fail
  exact unhide HN _ _ _ _ _ _ _ _ _ _ _ _ _ _ _ _ _ _ _ _ _ _ _ _ _ _ _ _ _ _ _ _ _ _ _ _ _ _ _ _ _ _ _ _ _ _ _ _ _ _ _ _ _ _ _ _ _ _ _ _ _ _ _ _ _ _ _ _ _ _ _ _ _ _ _ _ _ _ _ _ _ _ _ _ _ _ _ _ _ _ _ _ _ _ _ _ _ _ _ _ _ _ _ _ _ _ _ _ _ _ _ _ _ _ _ _ _ _ _ _ _ _ _ _ _ _ _ _ _ _ _ _ _ _ _ _ _ _ _ _ _ _ _ _ _ _ _ _ _ _ _ _ _ _ _ _ _ _ _ _ _ _ _ _ _ _ _ _ _ _ _ _ _ _ _ _ _ _ _ _ _ _ _ _ _ _ _ _ _ _ _ _ _ _ _ _ _ _ _ _ _ _ _ _ _ _ _ _ _ _ _ _ _ _ _ _ _ _ _ _ _ _ _ _ _ _ now r0 r1 t0 t1 u0 u1 f0 f1 g0 g1 _ (unhide HO) (Below.next (unhide HX) (unhide HB2) (Nat.le_refl _)) (keep_below (unhide HD) (unhide HB2)) (keep_below (unhide HF) (unhide HB2)) (keep_below (unhide HG) (unhide HB2))

end Go.Proofs.Ytmghfedlpndpiaa
