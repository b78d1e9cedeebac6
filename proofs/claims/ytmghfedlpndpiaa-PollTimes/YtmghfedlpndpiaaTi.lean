/-
  taskmilllaw.PollTimes, from Tick on, whatever it is.
-/
import Derived.Test.YtmghfedlpndpiaaTe
import Derived.Test.YtmghfedlpndpiaaTf
import Derived.Test.YtmghfedlpndpiaaTg
import Derived.Test.YtmghfedlpndpiaaTh
namespace Go.Proofs.Ytmghfedlpndpiaa
open Go.RowKit

theorem times_tail (w : World) (c r0 r1 : Bool) (t0 t1 u0 u1 now C0 C1 : Int) (b0 b1 b2 : Bool) (b3 b4 b5 b6 : Int) (L : List Int) (G0 G1 : Int) (c0 : Bool) (M : List Int) (p : Bool) (n m : Nat) (la : Option Addr) (lk : Nat) (ma : Option Addr) (mk TB TC TW : Nat) (y0 y1 : Int) (hC : descF c r0 r1 t0 t1 u0 u1 = (C0, C1)) (hR1 : tickR c r0 r1 t0 t1 u0 u1 now (C0, C1) = ((b0, b1, b2, b3, b4, b5, b6), L, (G0, G1))) (hR2 : closeR c t0 t1 (C0, C1) = (c0, M, p)) (hn : L.length = n) (hm : M.length = m) (Wt : World) (hX : Below w.heap.size w Wt) (hD : Wt.heap[w.heap.size]? = some (.cells #[.bool c, .bool r0, .bool r1, .int .i64 t0, .int .i64 t1, .int .i64 u0, .int .i64 u1] 25)) (hB : Wt.heap[TB]? = some (.cells #[.bool b0, .bool b1, .bool b2, .int .i64 b3, .int .i64 b4, .int .i64 b5, .int .i64 b6] 25)) (hF2 : Wt.heap[TB + 1]? = some (.cells #[.int .i64 G0, .int .i64 G1] 27)) (hCc : Wt.heap[TC]? = some (.cells #[.bool c0, .bool false, .bool false, .int .i64 0, .int .i64 0, .int .i64 0, .int .i64 0] 25)) (hF3 : Wt.heap[TC + 1]? = some (.cells #[.int .i64 C0, .int .i64 C1] 27)) (hWw : Wt.heap[TW]? = some (.cells #[.int .i64 y0, .int .i64 y1] 27)) (hL : Own KI w.heap.size Wt (.slice la n lk) L) (hM : Own KI w.heap.size Wt (.slice ma m mk) M) (hne : w.heap.size < TB ∧ TB + 1 < TC ∧ TC + 1 < TW)
    {s0 s1 s2 s5 s6 s7 s9 s10 s11 s20 s21 s22 s23 s24 s25 s26 s27 s28 s29 s30 s31 s32 s33 s34 s35 s36 s37 s38 s39 s40 s41 s42 s43 s44 s45 s46 s47 s48 s49 s50 s51 s52 s53 s54 s55 s56 s57 s58 s59 s60 s61 s62 s63 s64 s65 s66 s67 s68 s69 s70 s71 s72 s73 s74 s75 s76 s77 s78 s79 s80 s81 s82 s83 s84 s85 s86 s87 s88 s89 s90 s91 s92 s93 s94 s95 s96 s97 s98 s99 s100 s101 s102 s103 s104 s105 s106 s107 s108 s109 s110 s111 s112 s113 s114 s115 s116 s117 s118 s119 s120 s121 s122 s123 s124 s125 s126 s127 s128 s129 s130 s131 s132 s133 s134 s135 s136 s137 s138 s139 s140 s141 s142 s143 s144 s145 s146 s147 s148 s149 s150 s151 s152 s153 s154 s155 s156 s157 s158 s159 s160 s161 s162 s163 s164 s165 s166 s167 s168 s169 s170 s171 s172 s173 s174 s175 s176 s177 s178 s179 s180 s181 s182 s183 s184 s185 s186 s187 s188 s189 s190 s191 s192 s193 s194 s195 s196 s197 s198 s199 s200 s201 s202 s203 s204 s205 s206 s207 s208 s209 s210 s211 s212 s213 s214 s215 s216 s217 s218 s219 s220 s221 s222 s223 s224 s225 s226 s227 s228 s229 s230 s231 s232 s233 s234 s235 s236 s237 s238 s239 s240 s241 s242 s243 s244 s245 : Value} (K : Act → World → Prop) (x z : Code) (hK : ∀ a w', z.wp Try.prog (bodyPost Try.prog Try.f4 fun e w' => e = .returned (.bool true) ∧ Below w.heap.size w w') a w' → K a w') (hcut : Try.f4.body.bind (cutAt 24) = some (x, z)) :
    x.wp Try.prog (Exit.then K (bodyPost Try.prog Try.f4 fun e w' => e = .returned (.bool true) ∧ Below w.heap.size w w')) { tmps := (s0 :: s1 :: s2 :: .int .i64 now :: .pointer (some ⟨w.heap.size, 0, none⟩) :: s5 :: s6 :: s7 :: .bool false :: s9 :: s10 :: s11 :: .pointer (some ⟨TB, 0, none⟩) :: .slice la n lk :: .pointer (some ⟨TB + 1, 0, none⟩) :: .pointer (some ⟨TC, 0, none⟩) :: .slice ma m mk :: .bool p :: .pointer (some ⟨TC + 1, 0, none⟩) :: .pointer (some ⟨TW, 0, none⟩) :: s20 :: s21 :: s22 :: s23 :: s24 :: s25 :: s26 :: s27 :: s28 :: s29 :: s30 :: s31 :: s32 :: s33 :: s34 :: s35 :: s36 :: s37 :: s38 :: s39 :: s40 :: s41 :: s42 :: s43 :: s44 :: s45 :: s46 :: s47 :: s48 :: s49 :: s50 :: s51 :: s52 :: s53 :: s54 :: s55 :: s56 :: s57 :: s58 :: s59 :: s60 :: s61 :: s62 :: s63 :: s64 :: s65 :: s66 :: s67 :: s68 :: s69 :: s70 :: s71 :: s72 :: s73 :: s74 :: s75 :: s76 :: s77 :: s78 :: s79 :: s80 :: s81 :: s82 :: s83 :: s84 :: s85 :: s86 :: s87 :: s88 :: s89 :: s90 :: s91 :: s92 :: s93 :: s94 :: s95 :: s96 :: s97 :: s98 :: s99 :: s100 :: s101 :: s102 :: s103 :: s104 :: s105 :: s106 :: s107 :: s108 :: s109 :: s110 :: s111 :: s112 :: s113 :: s114 :: s115 :: s116 :: s117 :: s118 :: s119 :: s120 :: s121 :: s122 :: s123 :: s124 :: s125 :: s126 :: s127 :: s128 :: s129 :: s130 :: s131 :: s132 :: s133 :: s134 :: s135 :: s136 :: s137 :: s138 :: s139 :: s140 :: s141 :: s142 :: s143 :: s144 :: s145 :: s146 :: s147 :: s148 :: s149 :: s150 :: s151 :: s152 :: s153 :: s154 :: s155 :: s156 :: s157 :: s158 :: s159 :: s160 :: s161 :: s162 :: s163 :: s164 :: s165 :: s166 :: s167 :: s168 :: s169 :: s170 :: s171 :: s172 :: s173 :: s174 :: s175 :: s176 :: s177 :: s178 :: s179 :: s180 :: s181 :: s182 :: s183 :: s184 :: s185 :: s186 :: s187 :: s188 :: s189 :: s190 :: s191 :: s192 :: s193 :: s194 :: s195 :: s196 :: s197 :: s198 :: s199 :: s200 :: s201 :: s202 :: s203 :: s204 :: s205 :: s206 :: s207 :: s208 :: s209 :: s210 :: s211 :: s212 :: s213 :: s214 :: s215 :: s216 :: s217 :: s218 :: s219 :: s220 :: s221 :: s222 :: s223 :: s224 :: s225 :: s226 :: s227 :: s228 :: s229 :: s230 :: s231 :: s232 :: s233 :: s234 :: s235 :: s236 :: s237 :: s238 :: s239 :: s240 :: s241 :: s242 :: s243 :: s244 :: s245 :: []).toArray, defers := [] } Wt := by
  subst hn
  unfold tickR at hR1
  by_cases hF : C0 ≠ 0
  · have e : tickF (C0, C1) now = (C0, C1) := by unfold tickF; rw [if_pos hF]
    rw [e, if_pos hF] at hR1
    cases hR1
    exact tail1_bad w c r0 r1 t0 t1 u0 u1 now C0 C1 hC hF c0 M p hR2 m hm la lk ma mk TB TC TW y0 y1 Wt hX hD hB hF2 hCc hF3 hWw hL hM hne K x z hK hcut
  obtain rfl : C0 = 0 := Decidable.not_not.1 hF
  obtain ⟨rfl, -, -, -⟩ := descF_zero hC
  by_cases h3 : now < 0
  · have e : tickF (0, 0) now = (3, -1) := by unfold tickF; rw [if_neg (by simp), if_pos (by omega)]
    rw [e, if_pos (by decide)] at hR1
    cases hR1
    exact tail1_n0 w c r0 r1 t0 t1 u0 u1 now hC h3 c0 M p hR2 m hm la lk ma mk TB TC TW y0 y1 Wt hX hD hB hF2 hCc hF3 hWw hL hM hne K x z hK hcut
  by_cases h4 : 1000000000 < now
  · have e : tickF (0, 0) now = (3, -1) := by unfold tickF; rw [if_neg (by simp), if_pos (by omega)]
    rw [e, if_pos (by decide)] at hR1
    cases hR1
    exact tail1_n9 w c r0 r1 t0 t1 u0 u1 now hC h3 h4 c0 M p hR2 m hm la lk ma mk TB TC TW y0 y1 Wt hX hD hB hF2 hCc hF3 hWw hL hM hne K x z hK hcut
  have e : tickF (0, 0) now = (0, 0) := by unfold tickF; rw [if_neg (by simp), if_neg (by omega)]
  rw [e, if_neg (by decide)] at hR1
  unfold gone at hR1
  by_cases z0 : 0 < t0
  · rw [decide_eq_true z0] at hR1
    cases l0 : late u0 now with
    | false =>
      rw [l0] at hR1
      by_cases z1 : 0 < t1
      · rw [decide_eq_true z1] at hR1
        cases l1 : late u1 now with
        | false =>
          rw [l1] at hR1
          cases hR1
          exact tail1_ll w c r0 r1 t0 t1 u0 u1 now hC h3 h4 z0 l0 z1 l1 c0 M p hR2 m hm la lk ma mk TB TC TW y0 y1 Wt hX hD hB hF2 hCc hF3 hWw hL hM hne K x z hK hcut
        | true =>
          rw [l1] at hR1
          cases hR1
          exact tail1_lg w c r0 r1 t0 t1 u0 u1 now hC h3 h4 z0 l0 z1 l1 c0 M p hR2 m hm la lk ma mk TB TC TW y0 y1 Wt hX hD hB hF2 hCc hF3 hWw hL hM hne K x z hK hcut
      · rw [decide_eq_false z1] at hR1
        cases hR1
        exact tail1_ln w c r0 r1 t0 t1 u0 u1 now hC h3 h4 z0 l0 z1 c0 M p hR2 m hm la lk ma mk TB TC TW y0 y1 Wt hX hD hB hF2 hCc hF3 hWw hL hM hne K x z hK hcut
    | true =>
      rw [l0] at hR1
      by_cases z1 : 0 < t1
      · rw [decide_eq_true z1] at hR1
        cases l1 : late u1 now with
        | false =>
          rw [l1] at hR1
          cases hR1
          exact tail1_gl w c r0 r1 t0 t1 u0 u1 now hC h3 h4 z0 l0 z1 l1 c0 M p hR2 m hm la lk ma mk TB TC TW y0 y1 Wt hX hD hB hF2 hCc hF3 hWw hL hM hne K x z hK hcut
        | true =>
          rw [l1] at hR1
          cases hR1
          exact tail1_gg w c r0 r1 t0 t1 u0 u1 now hC h3 h4 z0 l0 z1 l1 c0 M p hR2 m hm la lk ma mk TB TC TW y0 y1 Wt hX hD hB hF2 hCc hF3 hWw hL hM hne K x z hK hcut
      · rw [decide_eq_false z1] at hR1
        cases hR1
        exact tail1_gn w c r0 r1 t0 t1 u0 u1 now hC h3 h4 z0 l0 z1 c0 M p hR2 m hm la lk ma mk TB TC TW y0 y1 Wt hX hD hB hF2 hCc hF3 hWw hL hM hne K x z hK hcut
  · rw [decide_eq_false z0] at hR1
    by_cases z1 : 0 < t1
    · rw [decide_eq_true z1] at hR1
      cases l1 : late u1 now with
      | false =>
        rw [l1] at hR1
        cases hR1
        exact tail1_nl w c r0 r1 t0 t1 u0 u1 now hC h3 h4 z0 z1 l1 c0 M p hR2 m hm la lk ma mk TB TC TW y0 y1 Wt hX hD hB hF2 hCc hF3 hWw hL hM hne K x z hK hcut
      | true =>
        rw [l1] at hR1
        cases hR1
        exact tail1_ng w c r0 r1 t0 t1 u0 u1 now hC h3 h4 z0 z1 l1 c0 M p hR2 m hm la lk ma mk TB TC TW y0 y1 Wt hX hD hB hF2 hCc hF3 hWw hL hM hne K x z hK hcut
    · rw [decide_eq_false z1] at hR1
      cases hR1
      exact tail1_nn w c r0 r1 t0 t1 u0 u1 now hC h3 h4 z0 z1 c0 M p hR2 m hm la lk ma mk TB TC TW y0 y1 Wt hX hD hB hF2 hCc hF3 hWw hL hM hne K x z hK hcut

end Go.Proofs.Ytmghfedlpndpiaa
