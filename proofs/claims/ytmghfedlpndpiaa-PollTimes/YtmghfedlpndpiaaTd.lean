/-
  taskmilllaw.PollTimes, from Close on, whatever it is.
-/
import Derived.Test.YtmghfedlpndpiaaTc
import Derived.Test.YtmghfedlpndpiaaZr
namespace Go.Proofs.Ytmghfedlpndpiaa
open Go.RowKit

theorem tail2_any (w : World) (c r0 r1 : Bool) (t0 t1 u0 u1 now C0 C1 : Int) (hC : descF c r0 r1 t0 t1 u0 u1 = (C0, C1)) (c0 : Bool) (M : List Int) (p : Bool) (hR : closeR c t0 t1 (C0, C1) = (c0, M, p)) (m : Nat) (hm : M.length = m) (ma : Option Addr) (mk TC TW : Nat) (Wt : World) (hX : Below w.heap.size w Wt) (hD : Wt.heap[w.heap.size]? = some (.cells #[.bool c, .bool r0, .bool r1, .int .i64 t0, .int .i64 t1, .int .i64 u0, .int .i64 u1] 25)) (hCc : Wt.heap[TC]? = some (.cells #[.bool c0, .bool false, .bool false, .int .i64 0, .int .i64 0, .int .i64 0, .int .i64 0] 25)) (hWw : Wt.heap[TW]? = some (.cells #[.int .i64 C0, .int .i64 C1] 27)) (hM : Own KI w.heap.size Wt (.slice ma m mk) M)
    {s0 s1 s2 s5 s6 s7 s9 s10 s11 s12 s13 s14 s18 s20 s21 s22 s23 s24 s25 s26 s27 s28 s29 s30 s31 s32 s33 s34 s35 s36 s37 s38 s39 s40 s41 s42 s43 s44 s45 s46 s47 s48 s49 s50 s51 s52 s53 s54 s55 s56 s57 s58 s59 s60 s61 s62 s63 s64 s65 s66 s67 s68 s69 s70 s71 s72 s73 s74 s75 s76 s77 s78 s79 s80 s81 s82 s83 s84 s85 s86 s87 s88 s89 s90 s91 s92 s93 s94 s95 s96 s97 s98 s99 s100 s101 s102 s103 s104 s105 s106 s107 s108 s109 s110 s111 s112 s113 s114 s115 s116 s117 s118 s119 s120 s121 s122 s123 s124 s125 s126 s127 s128 s129 s130 s131 s132 s133 s134 s135 s136 s137 s138 s139 s140 s141 s142 s143 s144 s145 s146 s147 s148 s149 s150 s151 s152 s153 s154 s155 s156 s157 s158 s159 s160 s161 s162 s163 s164 s165 s166 s167 s168 s169 s170 s171 s172 s173 s174 s175 s176 s177 s178 s179 s180 s181 s182 s183 s184 s185 s186 s187 s188 s189 s190 s191 s192 s193 s194 s195 s196 s197 s198 s199 s200 s201 s202 s203 s204 s205 s206 s207 s208 s209 s210 s211 s212 s213 s214 s215 s216 s217 s218 s219 s220 s221 s222 s223 s224 s225 s226 s227 s228 s229 s230 s231 s232 s233 s234 s235 s236 s237 s238 s239 s240 s241 s242 s243 s244 s245 : Value} (K1 K2 : Act → World → Prop) (x y z : Code) (hK1 : ∀ a w', y.wp Try.prog (Exit.then K2 (bodyPost Try.prog Try.f4 fun e w' => e = .returned (.bool true) ∧ Below w.heap.size w w')) a w' → K1 a w') (hK2 : ∀ a w', z.wp Try.prog (bodyPost Try.prog Try.f4 fun e w' => e = .returned (.bool true) ∧ Below w.heap.size w w') a w' → K2 a w') (hcut : Try.f4.body.bind (cutIf 43) = some (x, y, z)) :
    x.wp Try.prog (Exit.then K1 (Exit.then K2 (bodyPost Try.prog Try.f4 fun e w' => e = .returned (.bool true) ∧ Below w.heap.size w w'))) { tmps := (s0 :: s1 :: s2 :: .int .i64 now :: .pointer (some ⟨w.heap.size, 0, none⟩) :: s5 :: s6 :: s7 :: .bool false :: s9 :: s10 :: s11 :: s12 :: s13 :: s14 :: .pointer (some ⟨TC, 0, none⟩) :: .slice ma m mk :: .bool p :: s18 :: .pointer (some ⟨TW, 0, none⟩) :: s20 :: s21 :: s22 :: s23 :: s24 :: s25 :: s26 :: s27 :: s28 :: s29 :: s30 :: s31 :: s32 :: s33 :: s34 :: s35 :: s36 :: s37 :: s38 :: s39 :: s40 :: s41 :: s42 :: s43 :: s44 :: s45 :: s46 :: s47 :: s48 :: s49 :: s50 :: s51 :: s52 :: s53 :: s54 :: s55 :: s56 :: s57 :: s58 :: s59 :: s60 :: s61 :: s62 :: s63 :: s64 :: s65 :: s66 :: s67 :: s68 :: s69 :: s70 :: s71 :: s72 :: s73 :: s74 :: s75 :: s76 :: s77 :: s78 :: s79 :: s80 :: s81 :: s82 :: s83 :: s84 :: s85 :: s86 :: s87 :: s88 :: s89 :: s90 :: s91 :: s92 :: s93 :: s94 :: s95 :: s96 :: s97 :: s98 :: s99 :: s100 :: s101 :: s102 :: s103 :: s104 :: s105 :: s106 :: s107 :: s108 :: s109 :: s110 :: s111 :: s112 :: s113 :: s114 :: s115 :: s116 :: s117 :: s118 :: s119 :: s120 :: s121 :: s122 :: s123 :: s124 :: s125 :: s126 :: s127 :: s128 :: s129 :: s130 :: s131 :: s132 :: s133 :: s134 :: s135 :: s136 :: s137 :: s138 :: s139 :: s140 :: s141 :: s142 :: s143 :: s144 :: s145 :: s146 :: s147 :: s148 :: s149 :: s150 :: s151 :: s152 :: s153 :: s154 :: s155 :: s156 :: s157 :: s158 :: s159 :: s160 :: s161 :: s162 :: s163 :: s164 :: s165 :: s166 :: s167 :: s168 :: s169 :: s170 :: s171 :: s172 :: s173 :: s174 :: s175 :: s176 :: s177 :: s178 :: s179 :: s180 :: s181 :: s182 :: s183 :: s184 :: s185 :: s186 :: s187 :: s188 :: s189 :: s190 :: s191 :: s192 :: s193 :: s194 :: s195 :: s196 :: s197 :: s198 :: s199 :: s200 :: s201 :: s202 :: s203 :: s204 :: s205 :: s206 :: s207 :: s208 :: s209 :: s210 :: s211 :: s212 :: s213 :: s214 :: s215 :: s216 :: s217 :: s218 :: s219 :: s220 :: s221 :: s222 :: s223 :: s224 :: s225 :: s226 :: s227 :: s228 :: s229 :: s230 :: s231 :: s232 :: s233 :: s234 :: s235 :: s236 :: s237 :: s238 :: s239 :: s240 :: s241 :: s242 :: s243 :: s244 :: s245 :: []).toArray, defers := [] } Wt := by
  subst hm
  unfold closeR at hR
  by_cases hF : C0 ≠ 0
  · rw [if_pos hF] at hR
    cases hR
    exact tail2_bad w c r0 r1 t0 t1 u0 u1 now C0 C1 hF ma mk TC TW Wt hX hD hCc hWw hM K1 K2 x y z hK1 hK2 hcut
  rw [if_neg hF] at hR
  obtain rfl : C0 = 0 := Decidable.not_not.1 hF
  obtain ⟨rfl, hw0, hw1, -⟩ := descF_zero hC
  obtain ⟨-, -, -, e0, -⟩ := wr_zero hw0
  obtain ⟨-, -, -, e1, -⟩ := wr_zero hw1
  cases hR
  cases c with
  | true =>
    obtain ⟨rfl, rfl, rfl⟩ := e0 rfl
    obtain ⟨rfl, rfl, rfl⟩ := e1 rfl
    exact tail2_cl w now ma mk TC TW Wt hX hD hCc hWw hM K1 K2 x y z hK1 hK2 hcut
  | false =>
    by_cases z0 : 0 < t0
    · rw [decide_eq_true z0] at hM ⊢
      by_cases z1 : 0 < t1
      · rw [decide_eq_true z1] at hM ⊢
        exact tail2_gg w r0 r1 t0 t1 u0 u1 now z0 z1 ma mk TC TW Wt hX hD hCc hWw hM K1 K2 x y z hK1 hK2 hcut
      · rw [decide_eq_false z1] at hM ⊢
        exact tail2_gn w r0 r1 t0 t1 u0 u1 now z0 z1 ma mk TC TW Wt hX hD hCc hWw hM K1 K2 x y z hK1 hK2 hcut
    · rw [decide_eq_false z0] at hM ⊢
      by_cases z1 : 0 < t1
      · rw [decide_eq_true z1] at hM ⊢
        exact tail2_ng w r0 r1 t0 t1 u0 u1 now z0 z1 ma mk TC TW Wt hX hD hCc hWw hM K1 K2 x y z hK1 hK2 hcut
      · rw [decide_eq_false z1] at hM ⊢
        exact tail2_nn w r0 r1 t0 t1 u0 u1 now z0 z1 ma mk TC TW Wt hX hD hCc hWw hM K1 K2 x y z hK1 hK2 hcut

end Go.Proofs.Ytmghfedlpndpiaa
