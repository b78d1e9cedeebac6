/-
  taskmilllaw.PollLosesNone: what holds all the time; parts of its code.
-/
import Derived.Test.YtmghfedlpndpiaaTb
import Derived.Test.YtmghfedlpndpiaaZr
namespace Go.Proofs.Ytmghfedlpndpiaa
open Go.RowKit

/-- The loop n, and what follows it. -/
def loopFor (n : Nat) : Code → Option (Code × Code)
  | .seq (.seq _ (.block id (.loop b))) r => bif Nat.beq id n then some (b, r) else loopFor n r
  | .seq _ r => loopFor n r
  | _ => none
/-- What the block n holds, and what follows it. -/
def blockIn (n : Nat) : Code → Option (Code × Code)
  | .seq (.block id b) r => bif Nat.beq id n then some (b, r) else blockIn n r
  | .seq _ r => blockIn n r
  | _ => none
/-- A for statement that is the last one of a sequence: its beginning, its loop's body. -/
def lastFor (n : Nat) : Code → Option (Code × Code)
  | .seq (.region id ops dr) (.block k (.loop b)) => bif Nat.beq id n then some (.region id ops dr, .block k (.loop b)) else none
  | .seq _ r => lastFor n r
  | _ => none
def loopIn : Code → Option Code
  | .block _ (.loop b) => some b
  | _ => none

/-- What holds ahead of the move i. -/
structure Ok (i now : Int) (r0 r1 : Bool) (t0 t1 u0 u1 f0 f1 g0 g1 : Int) : Prop where
  n0 : 0 ≤ now
  n1 : now ≤ i
  i1 : i ≤ 300
  a0 : 0 ≤ t0
  b0 : t0 ≤ i
  a1 : 0 ≤ t1
  b1 : t1 ≤ i
  c0 : 0 ≤ u0
  d0 : u0 ≤ 1000
  c1 : 0 ≤ u1
  d1 : u1 ≤ 1000
  e : ¬ (0 < t0 ∧ t0 = t1)
  w0 : r0 = true → t0 = 0
  w1 : r1 = true → t1 = 0
  l0 : 0 < t0 → late u0 now = false
  l1 : 0 < t1 → late u1 now = false
  q0 : f0 = g0 + (if r0 then 1 else 0)
  q1 : f1 = g1 + (if r1 then 1 else 0)
  x0 : 0 ≤ g0
  y0 : g0 ≤ i
  x1 : 0 ≤ g1
  y1 : g1 ≤ i
theorem wr_ok {r : Bool} {t u : Int} (h1 : 0 ≤ t) (h2 : 0 ≤ u) (h3 : u ≤ 1000) (h4 : r = true → t = 0) : wr false r t u = 0 := by
  unfold wr
  rw [if_neg (by omega), if_neg (by
    rintro (⟨h, -⟩ | ⟨h, h'⟩)
    · cases h
    · exact h' (h4 h))]
theorem Ok.desc {i now : Int} {r0 r1 : Bool} {t0 t1 u0 u1 f0 f1 g0 g1 : Int} (h : Ok i now r0 r1 t0 t1 u0 u1 f0 f1 g0 g1) : descF false r0 r1 t0 t1 u0 u1 = (0, 0) := by
  unfold descF
  rw [wr_ok h.a0 h.c0 h.d0 h.w0, wr_ok h.a1 h.c1 h.d1 h.w1, if_neg (by simp), if_neg (by simp), if_neg h.e]

/-- What follows a round of the inner loop. -/
def NxI (s0 s2 s7 : Value) (TD TF TG : Nat) (now k : Int) (Wt : World) (N : Act → World → Prop) : Prop := ∀ (s1 s8 s9 s10 s11 s12 s13 s14 s15 s16 s17 s18 s19 s20 s21 s23 s24 s25 s26 s27 s28 s29 s30 s31 s32 s33 s34 s35 s36 s37 s38 s39 s40 s41 s42 s43 s44 s45 s46 s47 s48 s49 s50 s51 s52 s53 s54 s55 s56 s57 s58 s59 s60 s61 s62 s63 s64 s65 s66 s67 s68 s69 s70 s71 s72 s73 s74 s75 s76 s77 s78 s79 s80 s81 s82 s83 s84 s85 s86 s87 s88 s89 s90 s91 s92 s93 s94 s95 s96 s97 s98 s99 s100 s101 s102 s103 s104 s105 s106 s107 s108 s109 s110 s111 s112 s113 s114 s115 s116 s117 s118 s119 s120 s121 s122 s123 s124 s125 s126 s127 s128 s129 s130 s131 s132 s133 s134 s135 s136 s137 s138 s139 s140 s141 s142 s143 s144 s145 s146 s147 s148 s149 s150 s151 s152 s153 s154 s155 s156 s157 s158 s159 s160 s161 s162 s163 s164 s165 s166 s167 s168 s169 s170 s171 s172 s173 s174 s175 s176 s177 s178 s179 s180 s181 s182 s183 s184 s185 s186 s187 s188 s189 s190 s191 s192 s193 s194 s195 s196 s197 s198 s199 s200 s201 s202 s203 s204 s205 s206 s207 s208 s209 s210 s211 s212 s213 s214 s215 s216 s217 s218 s219 s220 s221 s222 s223 s224 s225 s226 s227 s228 s229 s230 s231 s232 : Value) (W' : World), Below Wt.heap.size Wt W' → N { tmps := (s0 :: s1 :: s2 :: .pointer (some ⟨TD, 0, none⟩) :: .int .i64 now :: .pointer (some ⟨TF, 0, none⟩) :: .pointer (some ⟨TG, 0, none⟩) :: s7 :: s8 :: s9 :: s10 :: s11 :: s12 :: s13 :: s14 :: s15 :: s16 :: s17 :: s18 :: s19 :: s20 :: s21 :: .int .i64 k :: s23 :: s24 :: s25 :: s26 :: s27 :: s28 :: s29 :: s30 :: s31 :: s32 :: s33 :: s34 :: s35 :: s36 :: s37 :: s38 :: s39 :: s40 :: s41 :: s42 :: s43 :: s44 :: s45 :: s46 :: s47 :: s48 :: s49 :: s50 :: s51 :: s52 :: s53 :: s54 :: s55 :: s56 :: s57 :: s58 :: s59 :: s60 :: s61 :: s62 :: s63 :: s64 :: s65 :: s66 :: s67 :: s68 :: s69 :: s70 :: s71 :: s72 :: s73 :: s74 :: s75 :: s76 :: s77 :: s78 :: s79 :: s80 :: s81 :: s82 :: s83 :: s84 :: s85 :: s86 :: s87 :: s88 :: s89 :: s90 :: s91 :: s92 :: s93 :: s94 :: s95 :: s96 :: s97 :: s98 :: s99 :: s100 :: s101 :: s102 :: s103 :: s104 :: s105 :: s106 :: s107 :: s108 :: s109 :: s110 :: s111 :: s112 :: s113 :: s114 :: s115 :: s116 :: s117 :: s118 :: s119 :: s120 :: s121 :: s122 :: s123 :: s124 :: s125 :: s126 :: s127 :: s128 :: s129 :: s130 :: s131 :: s132 :: s133 :: s134 :: s135 :: s136 :: s137 :: s138 :: s139 :: s140 :: s141 :: s142 :: s143 :: s144 :: s145 :: s146 :: s147 :: s148 :: s149 :: s150 :: s151 :: s152 :: s153 :: s154 :: s155 :: s156 :: s157 :: s158 :: s159 :: s160 :: s161 :: s162 :: s163 :: s164 :: s165 :: s166 :: s167 :: s168 :: s169 :: s170 :: s171 :: s172 :: s173 :: s174 :: s175 :: s176 :: s177 :: s178 :: s179 :: s180 :: s181 :: s182 :: s183 :: s184 :: s185 :: s186 :: s187 :: s188 :: s189 :: s190 :: s191 :: s192 :: s193 :: s194 :: s195 :: s196 :: s197 :: s198 :: s199 :: s200 :: s201 :: s202 :: s203 :: s204 :: s205 :: s206 :: s207 :: s208 :: s209 :: s210 :: s211 :: s212 :: s213 :: s214 :: s215 :: s216 :: s217 :: s218 :: s219 :: s220 :: s221 :: s222 :: s223 :: s224 :: s225 :: s226 :: s227 :: s228 :: s229 :: s230 :: s231 :: s232 :: []).toArray, defers := [] } W'
/-- What follows a move. -/
def NxO (w : World) (a0 : Option Addr) (n c0 TD TF TG j : Nat) (N : Act → World → Prop) : Prop := ∀ (s1 s8 s9 s10 s11 s12 s13 s14 s15 s16 s17 s18 s19 s20 s21 s22 s23 s24 s25 s26 s27 s28 s29 s30 s31 s32 s33 s34 s35 s36 s37 s38 s39 s40 s41 s42 s43 s44 s45 s46 s47 s48 s49 s50 s51 s52 s53 s54 s55 s56 s57 s58 s59 s60 s61 s62 s63 s64 s65 s66 s67 s68 s69 s70 s71 s72 s73 s74 s75 s76 s77 s78 s79 s80 s81 s82 s83 s84 s85 s86 s87 s88 s89 s90 s91 s92 s93 s94 s95 s96 s97 s98 s99 s100 s101 s102 s103 s104 s105 s106 s107 s108 s109 s110 s111 s112 s113 s114 s115 s116 s117 s118 s119 s120 s121 s122 s123 s124 s125 s126 s127 s128 s129 s130 s131 s132 s133 s134 s135 s136 s137 s138 s139 s140 s141 s142 s143 s144 s145 s146 s147 s148 s149 s150 s151 s152 s153 s154 s155 s156 s157 s158 s159 s160 s161 s162 s163 s164 s165 s166 s167 s168 s169 s170 s171 s172 s173 s174 s175 s176 s177 s178 s179 s180 s181 s182 s183 s184 s185 s186 s187 s188 s189 s190 s191 s192 s193 s194 s195 s196 s197 s198 s199 s200 s201 s202 s203 s204 s205 s206 s207 s208 s209 s210 s211 s212 s213 s214 s215 s216 s217 s218 s219 s220 s221 s222 s223 s224 s225 s226 s227 s228 s229 s230 s231 s232 : Value) (now : Int) (r0 r1 : Bool) (t0 t1 u0 u1 f0 f1 g0 g1 : Int) (W' : World), Ok ((j : Int) + 1) now r0 r1 t0 t1 u0 u1 f0 f1 g0 g1 → Below w.heap.size w W' → W'.heap[TD]? = some (.cells #[.bool false, .bool r0, .bool r1, .int .i64 t0, .int .i64 t1, .int .i64 u0, .int .i64 u1] 25) → W'.heap[TF]? = some (.cells #[.int .i64 f0, .int .i64 f1] 23) → W'.heap[TG]? = some (.cells #[.int .i64 g0, .int .i64 g1] 23) → N { tmps := (.slice a0 n c0 :: s1 :: .bool false :: .pointer (some ⟨TD, 0, none⟩) :: .int .i64 now :: .pointer (some ⟨TF, 0, none⟩) :: .pointer (some ⟨TG, 0, none⟩) :: .int .i64 ((j : Int) + 1) :: s8 :: s9 :: s10 :: s11 :: s12 :: s13 :: s14 :: s15 :: s16 :: s17 :: s18 :: s19 :: s20 :: s21 :: s22 :: s23 :: s24 :: s25 :: s26 :: s27 :: s28 :: s29 :: s30 :: s31 :: s32 :: s33 :: s34 :: s35 :: s36 :: s37 :: s38 :: s39 :: s40 :: s41 :: s42 :: s43 :: s44 :: s45 :: s46 :: s47 :: s48 :: s49 :: s50 :: s51 :: s52 :: s53 :: s54 :: s55 :: s56 :: s57 :: s58 :: s59 :: s60 :: s61 :: s62 :: s63 :: s64 :: s65 :: s66 :: s67 :: s68 :: s69 :: s70 :: s71 :: s72 :: s73 :: s74 :: s75 :: s76 :: s77 :: s78 :: s79 :: s80 :: s81 :: s82 :: s83 :: s84 :: s85 :: s86 :: s87 :: s88 :: s89 :: s90 :: s91 :: s92 :: s93 :: s94 :: s95 :: s96 :: s97 :: s98 :: s99 :: s100 :: s101 :: s102 :: s103 :: s104 :: s105 :: s106 :: s107 :: s108 :: s109 :: s110 :: s111 :: s112 :: s113 :: s114 :: s115 :: s116 :: s117 :: s118 :: s119 :: s120 :: s121 :: s122 :: s123 :: s124 :: s125 :: s126 :: s127 :: s128 :: s129 :: s130 :: s131 :: s132 :: s133 :: s134 :: s135 :: s136 :: s137 :: s138 :: s139 :: s140 :: s141 :: s142 :: s143 :: s144 :: s145 :: s146 :: s147 :: s148 :: s149 :: s150 :: s151 :: s152 :: s153 :: s154 :: s155 :: s156 :: s157 :: s158 :: s159 :: s160 :: s161 :: s162 :: s163 :: s164 :: s165 :: s166 :: s167 :: s168 :: s169 :: s170 :: s171 :: s172 :: s173 :: s174 :: s175 :: s176 :: s177 :: s178 :: s179 :: s180 :: s181 :: s182 :: s183 :: s184 :: s185 :: s186 :: s187 :: s188 :: s189 :: s190 :: s191 :: s192 :: s193 :: s194 :: s195 :: s196 :: s197 :: s198 :: s199 :: s200 :: s201 :: s202 :: s203 :: s204 :: s205 :: s206 :: s207 :: s208 :: s209 :: s210 :: s211 :: s212 :: s213 :: s214 :: s215 :: s216 :: s217 :: s218 :: s219 :: s220 :: s221 :: s222 :: s223 :: s224 :: s225 :: s226 :: s227 :: s228 :: s229 :: s230 :: s231 :: s232 :: []).toArray, defers := [] } W'

end Go.Proofs.Ytmghfedlpndpiaa
