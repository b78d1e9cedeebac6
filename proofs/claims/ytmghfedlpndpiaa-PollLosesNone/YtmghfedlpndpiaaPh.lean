/-
  taskmilllaw.PollLosesNone: any move; all of them.
-/
import Derived.Test.YtmghfedlpndpiaaPe
import Derived.Test.YtmghfedlpndpiaaPf0
import Derived.Test.YtmghfedlpndpiaaPf1
import Derived.Test.YtmghfedlpndpiaaPg0
import Derived.Test.YtmghfedlpndpiaaPg1
import Derived.LoopN
namespace Go.Proofs.Ytmghfedlpndpiaa
open Go.RowKit

theorem rd_any (w : World) (xs : List Int) (a0 : Option Addr) (n c0 TD TF TG : Nat) (j : Nat) (now : Int) (r0 r1 : Bool) (t0 t1 u0 u1 f0 f1 g0 g1 : Int) (hIL : IsL KI w (.slice a0 n c0) xs) (hn : n ≤ 300) (ho : w.heap.size ≤ TD ∧ TD < TF ∧ TF < TG) (hj : j < n) (hOk : Ok (j : Int) now r0 r1 t0 t1 u0 u1 f0 f1 g0 g1) (Wt : World) (hX : Below w.heap.size w Wt) (hD : Wt.heap[TD]? = some (.cells #[.bool false, .bool r0, .bool r1, .int .i64 t0, .int .i64 t1, .int .i64 u0, .int .i64 u1] 25)) (hF : Wt.heap[TF]? = some (.cells #[.int .i64 f0, .int .i64 f1] 23)) (hG : Wt.heap[TG]? = some (.cells #[.int .i64 g0, .int .i64 g1] 23))
    {s1 s8 s9 s10 s11 s12 s13 s14 s15 s16 s17 s18 s19 s20 s21 s22 s23 s24 s25 s26 s27 s28 s29 s30 s31 s32 s33 s34 s35 s36 s37 s38 s39 s40 s41 s42 s43 s44 s45 s46 s47 s48 s49 s50 s51 s52 s53 s54 s55 s56 s57 s58 s59 s60 s61 s62 s63 s64 s65 s66 s67 s68 s69 s70 s71 s72 s73 s74 s75 s76 s77 s78 s79 s80 s81 s82 s83 s84 s85 s86 s87 s88 s89 s90 s91 s92 s93 s94 s95 s96 s97 s98 s99 s100 s101 s102 s103 s104 s105 s106 s107 s108 s109 s110 s111 s112 s113 s114 s115 s116 s117 s118 s119 s120 s121 s122 s123 s124 s125 s126 s127 s128 s129 s130 s131 s132 s133 s134 s135 s136 s137 s138 s139 s140 s141 s142 s143 s144 s145 s146 s147 s148 s149 s150 s151 s152 s153 s154 s155 s156 s157 s158 s159 s160 s161 s162 s163 s164 s165 s166 s167 s168 s169 s170 s171 s172 s173 s174 s175 s176 s177 s178 s179 s180 s181 s182 s183 s184 s185 s186 s187 s188 s189 s190 s191 s192 s193 s194 s195 s196 s197 s198 s199 s200 s201 s202 s203 s204 s205 s206 s207 s208 s209 s210 s211 s212 s213 s214 s215 s216 s217 s218 s219 s220 s221 s222 s223 s224 s225 s226 s227 s228 s229 s230 s231 s232 : Value} (N : Act → World → Prop) (Q0 : Exit → Act → World → Prop) (b r : Code) (hcut : (Try.f5.body.bind (loopFor 0)) = some (b, r)) (hN : NxO w a0 n c0 TD TF TG j N) :
    b.wp Try.prog (Exit.then N Q0) { tmps := (.slice a0 n c0 :: s1 :: .bool false :: .pointer (some ⟨TD, 0, none⟩) :: .int .i64 now :: .pointer (some ⟨TF, 0, none⟩) :: .pointer (some ⟨TG, 0, none⟩) :: .int .i64 (j : Int) :: s8 :: s9 :: s10 :: s11 :: s12 :: s13 :: s14 :: s15 :: s16 :: s17 :: s18 :: s19 :: s20 :: s21 :: s22 :: s23 :: s24 :: s25 :: s26 :: s27 :: s28 :: s29 :: s30 :: s31 :: s32 :: s33 :: s34 :: s35 :: s36 :: s37 :: s38 :: s39 :: s40 :: s41 :: s42 :: s43 :: s44 :: s45 :: s46 :: s47 :: s48 :: s49 :: s50 :: s51 :: s52 :: s53 :: s54 :: s55 :: s56 :: s57 :: s58 :: s59 :: s60 :: s61 :: s62 :: s63 :: s64 :: s65 :: s66 :: s67 :: s68 :: s69 :: s70 :: s71 :: s72 :: s73 :: s74 :: s75 :: s76 :: s77 :: s78 :: s79 :: s80 :: s81 :: s82 :: s83 :: s84 :: s85 :: s86 :: s87 :: s88 :: s89 :: s90 :: s91 :: s92 :: s93 :: s94 :: s95 :: s96 :: s97 :: s98 :: s99 :: s100 :: s101 :: s102 :: s103 :: s104 :: s105 :: s106 :: s107 :: s108 :: s109 :: s110 :: s111 :: s112 :: s113 :: s114 :: s115 :: s116 :: s117 :: s118 :: s119 :: s120 :: s121 :: s122 :: s123 :: s124 :: s125 :: s126 :: s127 :: s128 :: s129 :: s130 :: s131 :: s132 :: s133 :: s134 :: s135 :: s136 :: s137 :: s138 :: s139 :: s140 :: s141 :: s142 :: s143 :: s144 :: s145 :: s146 :: s147 :: s148 :: s149 :: s150 :: s151 :: s152 :: s153 :: s154 :: s155 :: s156 :: s157 :: s158 :: s159 :: s160 :: s161 :: s162 :: s163 :: s164 :: s165 :: s166 :: s167 :: s168 :: s169 :: s170 :: s171 :: s172 :: s173 :: s174 :: s175 :: s176 :: s177 :: s178 :: s179 :: s180 :: s181 :: s182 :: s183 :: s184 :: s185 :: s186 :: s187 :: s188 :: s189 :: s190 :: s191 :: s192 :: s193 :: s194 :: s195 :: s196 :: s197 :: s198 :: s199 :: s200 :: s201 :: s202 :: s203 :: s204 :: s205 :: s206 :: s207 :: s208 :: s209 :: s210 :: s211 :: s212 :: s213 :: s214 :: s215 :: s216 :: s217 :: s218 :: s219 :: s220 :: s221 :: s222 :: s223 :: s224 :: s225 :: s226 :: s227 :: s228 :: s229 :: s230 :: s231 :: s232 :: []).toArray, defers := [] } Wt := by
  have hp : (j : Int).tmod 2 = 0 ∨ (j : Int).tmod 2 = 1 := by
    have e : (j : Int).tmod 2 = ((j % 2 : Nat) : Int) := rfl
    omega
  by_cases v0 : xs.getD j 0 = 0
  · rcases hp with hp | hp
    · by_cases ht : 0 < t0
      · exact rd_busy0 w xs a0 n c0 TD TF TG j now r0 r1 t0 t1 u0 u1 f0 f1 g0 g1 hIL hj hn v0 hp ho hOk ht Wt hX hD hF hG N Q0 b r hcut hN
      obtain rfl : t0 = 0 := by have := hOk.a0; omega
      cases hl : late u0 now with
      | true => exact rd_late0 w xs a0 n c0 TD TF TG j now r0 r1 t1 u0 u1 f0 f1 g0 g1 hIL hj hn v0 hp ho hOk hl Wt hX hD hF hG N Q0 b r hcut hN
      | false =>
        cases r0 with
        | true => exact rd_ready0 w xs a0 n c0 TD TF TG j now r1 t1 u0 u1 f0 f1 g0 g1 hIL hj hn v0 hp ho hOk hl Wt hX hD hF hG N Q0 b r hcut hN
        | false => exact rd_waits0 w xs a0 n c0 TD TF TG j now r1 t1 u0 u1 f0 f1 g0 g1 hIL hj hn v0 hp ho hOk hl Wt hX hD hF hG N Q0 b r hcut hN
    · by_cases ht : 0 < t1
      · exact rd_busy1 w xs a0 n c0 TD TF TG j now r0 r1 t0 t1 u0 u1 f0 f1 g0 g1 hIL hj hn v0 hp ho hOk ht Wt hX hD hF hG N Q0 b r hcut hN
      obtain rfl : t1 = 0 := by have := hOk.a1; omega
      cases hl : late u1 now with
      | true => exact rd_late1 w xs a0 n c0 TD TF TG j now r0 r1 t0 u0 u1 f0 f1 g0 g1 hIL hj hn v0 hp ho hOk hl Wt hX hD hF hG N Q0 b r hcut hN
      | false =>
        cases r1 with
        | true => exact rd_ready1 w xs a0 n c0 TD TF TG j now r0 t0 u0 u1 f0 f1 g0 g1 hIL hj hn v0 hp ho hOk hl Wt hX hD hF hG N Q0 b r hcut hN
        | false => exact rd_waits1 w xs a0 n c0 TD TF TG j now r0 t0 u0 u1 f0 f1 g0 g1 hIL hj hn v0 hp ho hOk hl Wt hX hD hF hG N Q0 b r hcut hN
  by_cases v1 : xs.getD j 0 = 1
  · rcases hp with hp | hp
    · cases r0 with
      | true =>
        obtain rfl : t0 = 0 := hOk.w0 rfl
        exact rd_fireR0 w xs a0 n c0 TD TF TG j now r1 t1 u0 u1 f0 f1 g0 g1 hIL hj hn v1 hp ho hOk Wt hX hD hF hG N Q0 b r hcut hN
      | false =>
        by_cases ht : 0 < t0
        · exact rd_fireT0 w xs a0 n c0 TD TF TG j now r1 t0 t1 u0 u1 f0 f1 g0 g1 hIL hj hn v1 hp ho hOk ht Wt hX hD hF hG N Q0 b r hcut hN
        obtain rfl : t0 = 0 := by have := hOk.a0; omega
        exact rd_fireN0 w xs a0 n c0 TD TF TG j now r1 t1 u0 u1 f0 f1 g0 g1 hIL hj hn v1 hp ho hOk Wt hX hD hF hG N Q0 b r hcut hN
    · cases r1 with
      | true =>
        obtain rfl : t1 = 0 := hOk.w1 rfl
        exact rd_fireR1 w xs a0 n c0 TD TF TG j now r0 t0 u0 u1 f0 f1 g0 g1 hIL hj hn v1 hp ho hOk Wt hX hD hF hG N Q0 b r hcut hN
      | false =>
        by_cases ht : 0 < t1
        · exact rd_fireT1 w xs a0 n c0 TD TF TG j now r0 t0 t1 u0 u1 f0 f1 g0 g1 hIL hj hn v1 hp ho hOk ht Wt hX hD hF hG N Q0 b r hcut hN
        obtain rfl : t1 = 0 := by have := hOk.a1; omega
        exact rd_fireN1 w xs a0 n c0 TD TF TG j now r0 t0 u0 u1 f0 f1 g0 g1 hIL hj hn v1 hp ho hOk Wt hX hD hF hG N Q0 b r hcut hN
  by_cases v2 : xs.getD j 0 = 2
  · exact rd_tick w xs a0 n c0 TD TF TG j now r0 r1 t0 t1 u0 u1 f0 f1 g0 g1 hIL hj hn v2 _ rfl ho hOk Wt hX hD hF hG N Q0 b r hcut hN
  by_cases v3 : xs.getD j 0 = 3
  · rcases hp with hp | hp
    · exact rd_until0 w xs a0 n c0 TD TF TG j now r0 r1 t0 t1 u0 u1 f0 f1 g0 g1 hIL hj hn v3 hp ho hOk Wt hX hD hF hG N Q0 b r hcut hN
    · exact rd_until1 w xs a0 n c0 TD TF TG j now r0 r1 t0 t1 u0 u1 f0 f1 g0 g1 hIL hj hn v3 hp ho hOk Wt hX hD hF hG N Q0 b r hcut hN
  exact rd_other w xs a0 n c0 TD TF TG j now r0 r1 t0 t1 u0 u1 f0 f1 g0 g1 hIL hj hn _ rfl v0 v1 v2 v3 _ rfl ho hOk Wt hX hD hF hG N Q0 b r hcut hN

/-- What follows the loop. -/
def NxE (w : World) (a0 : Option Addr) (n c0 TD TF TG : Nat) (Q0 : Exit → Act → World → Prop) : Prop := ∀ (s1 s8 s9 s10 s11 s12 s13 s14 s15 s16 s17 s18 s19 s20 s21 s22 s23 s24 s25 s26 s27 s28 s29 s30 s31 s32 s33 s34 s35 s36 s37 s38 s39 s40 s41 s42 s43 s44 s45 s46 s47 s48 s49 s50 s51 s52 s53 s54 s55 s56 s57 s58 s59 s60 s61 s62 s63 s64 s65 s66 s67 s68 s69 s70 s71 s72 s73 s74 s75 s76 s77 s78 s79 s80 s81 s82 s83 s84 s85 s86 s87 s88 s89 s90 s91 s92 s93 s94 s95 s96 s97 s98 s99 s100 s101 s102 s103 s104 s105 s106 s107 s108 s109 s110 s111 s112 s113 s114 s115 s116 s117 s118 s119 s120 s121 s122 s123 s124 s125 s126 s127 s128 s129 s130 s131 s132 s133 s134 s135 s136 s137 s138 s139 s140 s141 s142 s143 s144 s145 s146 s147 s148 s149 s150 s151 s152 s153 s154 s155 s156 s157 s158 s159 s160 s161 s162 s163 s164 s165 s166 s167 s168 s169 s170 s171 s172 s173 s174 s175 s176 s177 s178 s179 s180 s181 s182 s183 s184 s185 s186 s187 s188 s189 s190 s191 s192 s193 s194 s195 s196 s197 s198 s199 s200 s201 s202 s203 s204 s205 s206 s207 s208 s209 s210 s211 s212 s213 s214 s215 s216 s217 s218 s219 s220 s221 s222 s223 s224 s225 s226 s227 s228 s229 s230 s231 s232 : Value) (now : Int) (r0 r1 : Bool) (t0 t1 u0 u1 f0 f1 g0 g1 : Int) (W' : World), Ok (n : Int) now r0 r1 t0 t1 u0 u1 f0 f1 g0 g1 → Below w.heap.size w W' → W'.heap[TD]? = some (.cells #[.bool false, .bool r0, .bool r1, .int .i64 t0, .int .i64 t1, .int .i64 u0, .int .i64 u1] 25) → W'.heap[TF]? = some (.cells #[.int .i64 f0, .int .i64 f1] 23) → W'.heap[TG]? = some (.cells #[.int .i64 g0, .int .i64 g1] 23) → Q0 (.exit 0) { tmps := (.slice a0 n c0 :: s1 :: .bool false :: .pointer (some ⟨TD, 0, none⟩) :: .int .i64 now :: .pointer (some ⟨TF, 0, none⟩) :: .pointer (some ⟨TG, 0, none⟩) :: .int .i64 (n : Int) :: s8 :: s9 :: s10 :: s11 :: s12 :: s13 :: s14 :: s15 :: s16 :: s17 :: s18 :: s19 :: s20 :: s21 :: s22 :: s23 :: s24 :: s25 :: s26 :: s27 :: s28 :: s29 :: s30 :: s31 :: s32 :: s33 :: s34 :: s35 :: s36 :: s37 :: s38 :: s39 :: s40 :: s41 :: s42 :: s43 :: s44 :: s45 :: s46 :: s47 :: s48 :: s49 :: s50 :: s51 :: s52 :: s53 :: s54 :: s55 :: s56 :: s57 :: s58 :: s59 :: s60 :: s61 :: s62 :: s63 :: s64 :: s65 :: s66 :: s67 :: s68 :: s69 :: s70 :: s71 :: s72 :: s73 :: s74 :: s75 :: s76 :: s77 :: s78 :: s79 :: s80 :: s81 :: s82 :: s83 :: s84 :: s85 :: s86 :: s87 :: s88 :: s89 :: s90 :: s91 :: s92 :: s93 :: s94 :: s95 :: s96 :: s97 :: s98 :: s99 :: s100 :: s101 :: s102 :: s103 :: s104 :: s105 :: s106 :: s107 :: s108 :: s109 :: s110 :: s111 :: s112 :: s113 :: s114 :: s115 :: s116 :: s117 :: s118 :: s119 :: s120 :: s121 :: s122 :: s123 :: s124 :: s125 :: s126 :: s127 :: s128 :: s129 :: s130 :: s131 :: s132 :: s133 :: s134 :: s135 :: s136 :: s137 :: s138 :: s139 :: s140 :: s141 :: s142 :: s143 :: s144 :: s145 :: s146 :: s147 :: s148 :: s149 :: s150 :: s151 :: s152 :: s153 :: s154 :: s155 :: s156 :: s157 :: s158 :: s159 :: s160 :: s161 :: s162 :: s163 :: s164 :: s165 :: s166 :: s167 :: s168 :: s169 :: s170 :: s171 :: s172 :: s173 :: s174 :: s175 :: s176 :: s177 :: s178 :: s179 :: s180 :: s181 :: s182 :: s183 :: s184 :: s185 :: s186 :: s187 :: s188 :: s189 :: s190 :: s191 :: s192 :: s193 :: s194 :: s195 :: s196 :: s197 :: s198 :: s199 :: s200 :: s201 :: s202 :: s203 :: s204 :: s205 :: s206 :: s207 :: s208 :: s209 :: s210 :: s211 :: s212 :: s213 :: s214 :: s215 :: s216 :: s217 :: s218 :: s219 :: s220 :: s221 :: s222 :: s223 :: s224 :: s225 :: s226 :: s227 :: s228 :: s229 :: s230 :: s231 :: s232 :: []).toArray, defers := [] } W'

set_option maxRecDepth 100000 in
set_option maxHeartbeats 4000000 in
theorem rd_end (w : World) (a0 : Option Addr) (n c0 TD TF TG : Nat) (now : Int) (r0 r1 : Bool) (t0 t1 u0 u1 f0 f1 g0 g1 : Int) (hOk : Ok (n : Int) now r0 r1 t0 t1 u0 u1 f0 f1 g0 g1) (Wt : World) (hX : Below w.heap.size w Wt) (hD : Wt.heap[TD]? = some (.cells #[.bool false, .bool r0, .bool r1, .int .i64 t0, .int .i64 t1, .int .i64 u0, .int .i64 u1] 25)) (hF : Wt.heap[TF]? = some (.cells #[.int .i64 f0, .int .i64 f1] 23)) (hG : Wt.heap[TG]? = some (.cells #[.int .i64 g0, .int .i64 g1] 23))
    {s1 s8 s9 s10 s11 s12 s13 s14 s15 s16 s17 s18 s19 s20 s21 s22 s23 s24 s25 s26 s27 s28 s29 s30 s31 s32 s33 s34 s35 s36 s37 s38 s39 s40 s41 s42 s43 s44 s45 s46 s47 s48 s49 s50 s51 s52 s53 s54 s55 s56 s57 s58 s59 s60 s61 s62 s63 s64 s65 s66 s67 s68 s69 s70 s71 s72 s73 s74 s75 s76 s77 s78 s79 s80 s81 s82 s83 s84 s85 s86 s87 s88 s89 s90 s91 s92 s93 s94 s95 s96 s97 s98 s99 s100 s101 s102 s103 s104 s105 s106 s107 s108 s109 s110 s111 s112 s113 s114 s115 s116 s117 s118 s119 s120 s121 s122 s123 s124 s125 s126 s127 s128 s129 s130 s131 s132 s133 s134 s135 s136 s137 s138 s139 s140 s141 s142 s143 s144 s145 s146 s147 s148 s149 s150 s151 s152 s153 s154 s155 s156 s157 s158 s159 s160 s161 s162 s163 s164 s165 s166 s167 s168 s169 s170 s171 s172 s173 s174 s175 s176 s177 s178 s179 s180 s181 s182 s183 s184 s185 s186 s187 s188 s189 s190 s191 s192 s193 s194 s195 s196 s197 s198 s199 s200 s201 s202 s203 s204 s205 s206 s207 s208 s209 s210 s211 s212 s213 s214 s215 s216 s217 s218 s219 s220 s221 s222 s223 s224 s225 s226 s227 s228 s229 s230 s231 s232 : Value} (N : Act → World → Prop) (Q0 : Exit → Act → World → Prop) (b r : Code) (hcut : (Try.f5.body.bind (loopFor 0)) = some (b, r)) (hE : NxE w a0 n c0 TD TF TG Q0) :
    b.wp Try.prog (Exit.then N Q0) { tmps := (.slice a0 n c0 :: s1 :: .bool false :: .pointer (some ⟨TD, 0, none⟩) :: .int .i64 now :: .pointer (some ⟨TF, 0, none⟩) :: .pointer (some ⟨TG, 0, none⟩) :: .int .i64 (n : Int) :: s8 :: s9 :: s10 :: s11 :: s12 :: s13 :: s14 :: s15 :: s16 :: s17 :: s18 :: s19 :: s20 :: s21 :: s22 :: s23 :: s24 :: s25 :: s26 :: s27 :: s28 :: s29 :: s30 :: s31 :: s32 :: s33 :: s34 :: s35 :: s36 :: s37 :: s38 :: s39 :: s40 :: s41 :: s42 :: s43 :: s44 :: s45 :: s46 :: s47 :: s48 :: s49 :: s50 :: s51 :: s52 :: s53 :: s54 :: s55 :: s56 :: s57 :: s58 :: s59 :: s60 :: s61 :: s62 :: s63 :: s64 :: s65 :: s66 :: s67 :: s68 :: s69 :: s70 :: s71 :: s72 :: s73 :: s74 :: s75 :: s76 :: s77 :: s78 :: s79 :: s80 :: s81 :: s82 :: s83 :: s84 :: s85 :: s86 :: s87 :: s88 :: s89 :: s90 :: s91 :: s92 :: s93 :: s94 :: s95 :: s96 :: s97 :: s98 :: s99 :: s100 :: s101 :: s102 :: s103 :: s104 :: s105 :: s106 :: s107 :: s108 :: s109 :: s110 :: s111 :: s112 :: s113 :: s114 :: s115 :: s116 :: s117 :: s118 :: s119 :: s120 :: s121 :: s122 :: s123 :: s124 :: s125 :: s126 :: s127 :: s128 :: s129 :: s130 :: s131 :: s132 :: s133 :: s134 :: s135 :: s136 :: s137 :: s138 :: s139 :: s140 :: s141 :: s142 :: s143 :: s144 :: s145 :: s146 :: s147 :: s148 :: s149 :: s150 :: s151 :: s152 :: s153 :: s154 :: s155 :: s156 :: s157 :: s158 :: s159 :: s160 :: s161 :: s162 :: s163 :: s164 :: s165 :: s166 :: s167 :: s168 :: s169 :: s170 :: s171 :: s172 :: s173 :: s174 :: s175 :: s176 :: s177 :: s178 :: s179 :: s180 :: s181 :: s182 :: s183 :: s184 :: s185 :: s186 :: s187 :: s188 :: s189 :: s190 :: s191 :: s192 :: s193 :: s194 :: s195 :: s196 :: s197 :: s198 :: s199 :: s200 :: s201 :: s202 :: s203 :: s204 :: s205 :: s206 :: s207 :: s208 :: s209 :: s210 :: s211 :: s212 :: s213 :: s214 :: s215 :: s216 :: s217 :: s218 :: s219 :: s220 :: s221 :: s222 :: s223 :: s224 :: s225 :: s226 :: s227 :: s228 :: s229 :: s230 :: s231 :: s232 :: []).toArray, defers := [] } Wt := by
  have hcc : (Try.f5.body.bind (loopFor 0)) = some (_, _) := rfl
  rw [hcc] at hcut
  cases hcut
  clear hcc
  have HE := hide hE; have HO := hide hOk; have HX := hide hX; have HD := hide hD; have HF := hide hF; have HG := hide hG
  clear hE hOk hX hD hF hG
  have i1 : ¬ (n : Int) < (n : Int) := by omega
  go_wp2_with fail
  exact unhide HE _ _ _ _ _ _ _ _ _ _ _ _ _ _ _ _ _ _ _ _ _ _ _ _ _ _ _ _ _ _ _ _ _ _ _ _ _ _ _ _ _ _ _ _ _ _ _ _ _ _ _ _ _ _ _ _ _ _ _ _ _ _ _ _ _ _ _ _ _ _ _ _ _ _ _ _ _ _ _ _ _ _ _ _ _ _ _ _ _ _ _ _ _ _ _ _ _ _ _ _ _ _ _ _ _ _ _ _ _ _ _ _ _ _ _ _ _ _ _ _ _ _ _ _ _ _ _ _ _ _ _ _ _ _ _ _ _ _ _ _ _ _ _ _ _ _ _ _ _ _ _ _ _ _ _ _ _ _ _ _ _ _ _ _ _ _ _ _ _ _ _ _ _ _ _ _ _ _ _ _ _ _ _ _ _ _ _ _ _ _ _ _ _ _ _ _ _ _ _ _ _ _ _ _ _ _ _ _ _ _ _ _ _ _ _ _ _ _ _ _ _ _ _ _ _ _ now r0 r1 t0 t1 u0 u1 f0 f1 g0 g1 _ (unhide HO) (unhide HX) (unhide HD) (unhide HF) (unhide HG)

theorem rounds_any (w : World) (xs : List Int) (a0 : Option Addr) (n c0 TD TF TG : Nat) (hIL : IsL KI w (.slice a0 n c0) xs) (hn : n ≤ 300) (ho : w.heap.size ≤ TD ∧ TD < TF ∧ TF < TG) (Q0 : Exit → Act → World → Prop) (b r : Code) (hcut : (Try.f5.body.bind (loopFor 0)) = some (b, r)) (hE : NxE w a0 n c0 TD TF TG Q0) : ∀ (k j : Nat), j + k = n → ∀ (s1 s8 s9 s10 s11 s12 s13 s14 s15 s16 s17 s18 s19 s20 s21 s22 s23 s24 s25 s26 s27 s28 s29 s30 s31 s32 s33 s34 s35 s36 s37 s38 s39 s40 s41 s42 s43 s44 s45 s46 s47 s48 s49 s50 s51 s52 s53 s54 s55 s56 s57 s58 s59 s60 s61 s62 s63 s64 s65 s66 s67 s68 s69 s70 s71 s72 s73 s74 s75 s76 s77 s78 s79 s80 s81 s82 s83 s84 s85 s86 s87 s88 s89 s90 s91 s92 s93 s94 s95 s96 s97 s98 s99 s100 s101 s102 s103 s104 s105 s106 s107 s108 s109 s110 s111 s112 s113 s114 s115 s116 s117 s118 s119 s120 s121 s122 s123 s124 s125 s126 s127 s128 s129 s130 s131 s132 s133 s134 s135 s136 s137 s138 s139 s140 s141 s142 s143 s144 s145 s146 s147 s148 s149 s150 s151 s152 s153 s154 s155 s156 s157 s158 s159 s160 s161 s162 s163 s164 s165 s166 s167 s168 s169 s170 s171 s172 s173 s174 s175 s176 s177 s178 s179 s180 s181 s182 s183 s184 s185 s186 s187 s188 s189 s190 s191 s192 s193 s194 s195 s196 s197 s198 s199 s200 s201 s202 s203 s204 s205 s206 s207 s208 s209 s210 s211 s212 s213 s214 s215 s216 s217 s218 s219 s220 s221 s222 s223 s224 s225 s226 s227 s228 s229 s230 s231 s232 : Value) (now : Int) (r0 r1 : Bool) (t0 t1 u0 u1 f0 f1 g0 g1 : Int) (Wt : World), Ok (j : Int) now r0 r1 t0 t1 u0 u1 f0 f1 g0 g1 → Below w.heap.size w Wt → Wt.heap[TD]? = some (.cells #[.bool false, .bool r0, .bool r1, .int .i64 t0, .int .i64 t1, .int .i64 u0, .int .i64 u1] 25) → Wt.heap[TF]? = some (.cells #[.int .i64 f0, .int .i64 f1] 23) → Wt.heap[TG]? = some (.cells #[.int .i64 g0, .int .i64 g1] 23) →
    Code.rounds Try.prog b Q0 (k + 1) { tmps := (.slice a0 n c0 :: s1 :: .bool false :: .pointer (some ⟨TD, 0, none⟩) :: .int .i64 now :: .pointer (some ⟨TF, 0, none⟩) :: .pointer (some ⟨TG, 0, none⟩) :: .int .i64 (j : Int) :: s8 :: s9 :: s10 :: s11 :: s12 :: s13 :: s14 :: s15 :: s16 :: s17 :: s18 :: s19 :: s20 :: s21 :: s22 :: s23 :: s24 :: s25 :: s26 :: s27 :: s28 :: s29 :: s30 :: s31 :: s32 :: s33 :: s34 :: s35 :: s36 :: s37 :: s38 :: s39 :: s40 :: s41 :: s42 :: s43 :: s44 :: s45 :: s46 :: s47 :: s48 :: s49 :: s50 :: s51 :: s52 :: s53 :: s54 :: s55 :: s56 :: s57 :: s58 :: s59 :: s60 :: s61 :: s62 :: s63 :: s64 :: s65 :: s66 :: s67 :: s68 :: s69 :: s70 :: s71 :: s72 :: s73 :: s74 :: s75 :: s76 :: s77 :: s78 :: s79 :: s80 :: s81 :: s82 :: s83 :: s84 :: s85 :: s86 :: s87 :: s88 :: s89 :: s90 :: s91 :: s92 :: s93 :: s94 :: s95 :: s96 :: s97 :: s98 :: s99 :: s100 :: s101 :: s102 :: s103 :: s104 :: s105 :: s106 :: s107 :: s108 :: s109 :: s110 :: s111 :: s112 :: s113 :: s114 :: s115 :: s116 :: s117 :: s118 :: s119 :: s120 :: s121 :: s122 :: s123 :: s124 :: s125 :: s126 :: s127 :: s128 :: s129 :: s130 :: s131 :: s132 :: s133 :: s134 :: s135 :: s136 :: s137 :: s138 :: s139 :: s140 :: s141 :: s142 :: s143 :: s144 :: s145 :: s146 :: s147 :: s148 :: s149 :: s150 :: s151 :: s152 :: s153 :: s154 :: s155 :: s156 :: s157 :: s158 :: s159 :: s160 :: s161 :: s162 :: s163 :: s164 :: s165 :: s166 :: s167 :: s168 :: s169 :: s170 :: s171 :: s172 :: s173 :: s174 :: s175 :: s176 :: s177 :: s178 :: s179 :: s180 :: s181 :: s182 :: s183 :: s184 :: s185 :: s186 :: s187 :: s188 :: s189 :: s190 :: s191 :: s192 :: s193 :: s194 :: s195 :: s196 :: s197 :: s198 :: s199 :: s200 :: s201 :: s202 :: s203 :: s204 :: s205 :: s206 :: s207 :: s208 :: s209 :: s210 :: s211 :: s212 :: s213 :: s214 :: s215 :: s216 :: s217 :: s218 :: s219 :: s220 :: s221 :: s222 :: s223 :: s224 :: s225 :: s226 :: s227 :: s228 :: s229 :: s230 :: s231 :: s232 :: []).toArray, defers := [] } Wt := by
  intro k
  induction k with
  | zero =>
    intro j hj
    obtain rfl : j = n := by omega
    intros
    rename_i now r0 r1 t0 t1 u0 u1 f0 f1 g0 g1 Wt hOk hX hD hF hG
    exact rd_end w a0 j c0 TD TF TG now r0 r1 t0 t1 u0 u1 f0 f1 g0 g1 hOk Wt hX hD hF hG _ Q0 b r hcut hE
  | succ k ih =>
    intro j hj
    intros
    rename_i now r0 r1 t0 t1 u0 u1 f0 f1 g0 g1 Wt hOk hX hD hF hG
    refine rd_any w xs a0 n c0 TD TF TG j now r0 r1 t0 t1 u0 u1 f0 f1 g0 g1 hIL hn ho (by omega) hOk Wt hX hD hF hG _ Q0 b r hcut ?_
    unfold NxO
    intros
    rename_i now' r0' r1' t0' t1' u0' u1' f0' f1' g0' g1' W' hOk' hX' hD' hF' hG'
    exact ih (j + 1) (by omega) _ _ _ _ _ _ _ _ _ _ _ _ _ _ _ _ _ _ _ _ _ _ _ _ _ _ _ _ _ _ _ _ _ _ _ _ _ _ _ _ _ _ _ _ _ _ _ _ _ _ _ _ _ _ _ _ _ _ _ _ _ _ _ _ _ _ _ _ _ _ _ _ _ _ _ _ _ _ _ _ _ _ _ _ _ _ _ _ _ _ _ _ _ _ _ _ _ _ _ _ _ _ _ _ _ _ _ _ _ _ _ _ _ _ _ _ _ _ _ _ _ _ _ _ _ _ _ _ _ _ _ _ _ _ _ _ _ _ _ _ _ _ _ _ _ _ _ _ _ _ _ _ _ _ _ _ _ _ _ _ _ _ _ _ _ _ _ _ _ _ _ _ _ _ _ _ _ _ _ _ _ _ _ _ _ _ _ _ _ _ _ _ _ _ _ _ _ _ _ _ _ _ _ _ _ _ _ _ _ _ _ _ _ _ _ _ _ _ _ _ _ _ _ _ _ _ now' r0' r1' t0' t1' u0' u1' f0' f1' g0' g1' W' hOk' hX' hD' hF' hG'

end Go.Proofs.Ytmghfedlpndpiaa
