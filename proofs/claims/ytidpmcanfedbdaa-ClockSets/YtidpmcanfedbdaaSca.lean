/-
  taskmilllaw.ClockSets, from NoAlarm on, whatever it is.
-/
import Derived.Test.YtidpmcanfedbdaaSc
namespace Go.Proofs.Ytidpmcanfedbdaa
open Go.RowKit

theorem sets_a_any (w : World) (now next : Int) (xs ys zs2 : List Al) (T0 T1 r Q0 Q1 n2 x2 : Int) (is had : Bool) (n m m2 : Nat) (a0 : Option Addr) (c0 : Nat) (av2 : Option Addr) (cv2 : Nat) (id after period : Int) (av1 : Option Addr) (cv1 X1 X2 TS TU T : Nat) (U0 U1 F0 F1 n1 x1 : Int) (zs1 : List Al) (was : Bool) (m1 : Nat) (eV : setV (U0, U1) m next = (F0, F1)) (hz1 : F0 ≠ 0 → n1 = 0 ∧ x1 = 0 ∧ zs1 = [] ∧ was = false) (hz2 : F0 = 0 → T0 = 0 ∧ n1 = now ∧ x1 = next + 1 ∧ zs1 = insL (id, now + after, period, next) ys ∧ was = had ∧ 1 ≤ after ∧ after ≤ 1000000000) (hNA : ∀ W, Below w.heap.size w W → Calls Try.prog 18 #[.agg #[.int .i64 now, .int .i64 next, .slice a0 n c0], .int .i64 id] W fun e w' => ∃ a c, e = .returned (.tuple #[.agg #[.int .i64 now, .int .i64 next, .slice a m c], .bool had]) ∧ Own KA W.heap.size w' (.slice a m c) ys ∧ Below W.heap.size W w') (hz3 : T0 ≠ 0 → n2 = 0 ∧ x2 = 0 ∧ zs2 = [] ∧ is = false ∧ r = 0 ∧ Q0 = T0 ∧ Q1 = T1) (hz4 : T0 = 0 → T1 = 0 ∧ Good now next xs ∧ n2 = now ∧ x2 = next ∧ zs2 = ys ∧ is = had ∧ (xs = [] → r = 0 ∧ Q0 = 6 ∧ Q1 = 0) ∧ (∀ x l, xs = x :: l → r = x.2.1 - now ∧ Q0 = 0 ∧ Q1 = 0)) (en : xs.length = n) (em1 : zs1.length = m1) (em2 : zs2.length = m2) (em : ys.length = m) (hm6 : m ≤ 6000) (h0 : 0 < n → ∃ b off, a0 = some ⟨b, off, none⟩ ∧ b < w.heap.size ∧ Lies KA w b off xs) (Wt : World) (hX : Below w.heap.size w Wt) (h_p : Wt.heap[w.heap.size]? = some (.cells #[.int .i64 now, .int .i64 next, .slice a0 n c0] 24)) (h_a : Wt.heap[X1]? = some (.cells #[.int .i64 n1, .int .i64 x1, .slice av1 m1 cv1] 24)) (h_f1 : Wt.heap[X1 + 1]? = some (.cells #[.int .i64 F0, .int .i64 F1] 29)) (h_b : Wt.heap[X2]? = some (.cells #[.int .i64 n2, .int .i64 x2, .slice av2 m2 cv2] 24)) (h_f2 : Wt.heap[X2 + 1]? = some (.cells #[.int .i64 T0, .int .i64 T1] 29)) (h_f3 : Wt.heap[TS]? = some (.cells #[.int .i64 Q0, .int .i64 Q1] 29)) (h_u : Wt.heap[TU]? = some (.cells #[.int .i64 T0, .int .i64 T1] 29)) (h_v : Wt.heap[T]? = some (.cells #[.int .i64 U0, .int .i64 U1] 29)) (hl4 : ∀ W, Below X2 Wt W → IsL KA W (.slice av1 m1 cv1) zs1) (hl5 : ∀ W, Below X2 Wt W → IsL KA W (.slice av2 m2 cv2) zs2) (ho : w.heap.size < X1 ∧ X1 + 1 < X2 ∧ X2 + 1 < TS ∧ TS < TU ∧ TU < T)
    {s0 s5 s6 s7 s9 s10 s21 s22 s23 s24 s25 s26 s27 s28 s29 s30 s31 s32 s33 s34 s35 s36 s37 s38 s39 s40 s41 s42 s43 s44 s45 s46 s47 s48 s49 s50 s51 s52 s53 s54 s55 s56 s57 s58 s59 s60 s61 s62 s63 s64 s65 s66 s67 s68 s69 s70 s71 s72 s73 s74 s75 s76 s77 s78 s79 s80 s81 s82 s83 s84 s85 s86 s87 s88 s89 s90 s91 s92 s93 s94 s95 s96 s97 s98 s99 s100 s101 s102 s103 s104 s105 s106 s107 s108 s109 s110 s111 s112 s113 s114 s115 s116 s117 s118 s119 s120 s121 s122 s123 s124 s125 s126 s127 s128 s129 s130 s131 s132 s133 s134 s135 s136 s137 s138 s139 s140 s141 s142 s143 s144 s145 s146 s147 s148 s149 s150 s151 s152 s153 s154 s155 s156 s157 s158 s159 s160 s161 s162 s163 s164 s165 s166 s167 s168 s169 s170 s171 s172 s173 s174 s175 s176 s177 s178 s179 s180 s181 s182 s183 s184 s185 s186 s187 s188 s189 s190 s191 s192 s193 s194 s195 s196 s197 s198 s199 s200 s201 : Value} (K : Act → World → Prop) (x z : Code) (hK : ∀ a w', z.wp Try.prog (bodyPost Try.prog Try.f3 fun e w' => e = .returned (.bool true) ∧ Below w.heap.size w w') a w' → K a w') (hcut : Try.f3.body.bind (cutAt 16) = some (x, z)) :
    x.wp Try.prog (Exit.then K (bodyPost Try.prog Try.f3 fun e w' => e = .returned (.bool true) ∧ Below w.heap.size w w')) { tmps := (s0 :: .int .i64 id :: .int .i64 after :: .int .i64 period :: .pointer (some ⟨w.heap.size, 0, none⟩) :: s5 :: s6 :: s7 :: .bool false :: s9 :: s10 :: .pointer (some ⟨X1, 0, none⟩) :: .bool was :: .pointer (some ⟨X1 + 1, 0, none⟩) :: .pointer (some ⟨X2, 0, none⟩) :: .bool is :: .pointer (some ⟨X2 + 1, 0, none⟩) :: .int .i64 r :: .pointer (some ⟨TS, 0, none⟩) :: .pointer (some ⟨TU, 0, none⟩) :: .pointer (some ⟨T, 0, none⟩) :: s21 :: s22 :: s23 :: s24 :: s25 :: s26 :: s27 :: s28 :: s29 :: s30 :: s31 :: s32 :: s33 :: s34 :: s35 :: s36 :: s37 :: s38 :: s39 :: s40 :: s41 :: s42 :: s43 :: s44 :: s45 :: s46 :: s47 :: s48 :: s49 :: s50 :: s51 :: s52 :: s53 :: s54 :: s55 :: s56 :: s57 :: s58 :: s59 :: s60 :: s61 :: s62 :: s63 :: s64 :: s65 :: s66 :: s67 :: s68 :: s69 :: s70 :: s71 :: s72 :: s73 :: s74 :: s75 :: s76 :: s77 :: s78 :: s79 :: s80 :: s81 :: s82 :: s83 :: s84 :: s85 :: s86 :: s87 :: s88 :: s89 :: s90 :: s91 :: s92 :: s93 :: s94 :: s95 :: s96 :: s97 :: s98 :: s99 :: s100 :: s101 :: s102 :: s103 :: s104 :: s105 :: s106 :: s107 :: s108 :: s109 :: s110 :: s111 :: s112 :: s113 :: s114 :: s115 :: s116 :: s117 :: s118 :: s119 :: s120 :: s121 :: s122 :: s123 :: s124 :: s125 :: s126 :: s127 :: s128 :: s129 :: s130 :: s131 :: s132 :: s133 :: s134 :: s135 :: s136 :: s137 :: s138 :: s139 :: s140 :: s141 :: s142 :: s143 :: s144 :: s145 :: s146 :: s147 :: s148 :: s149 :: s150 :: s151 :: s152 :: s153 :: s154 :: s155 :: s156 :: s157 :: s158 :: s159 :: s160 :: s161 :: s162 :: s163 :: s164 :: s165 :: s166 :: s167 :: s168 :: s169 :: s170 :: s171 :: s172 :: s173 :: s174 :: s175 :: s176 :: s177 :: s178 :: s179 :: s180 :: s181 :: s182 :: s183 :: s184 :: s185 :: s186 :: s187 :: s188 :: s189 :: s190 :: s191 :: s192 :: s193 :: s194 :: s195 :: s196 :: s197 :: s198 :: s199 :: s200 :: s201 :: []).toArray, defers := [] } Wt := by
  unfold setV at eV
  by_cases hU : U0 ≠ 0
  · rw [show (U0 == 0) = false by simpa using hU, Bool.false_and, if_neg (by decide)] at eV
    cases eV
    obtain ⟨rfl, rfl, rfl, rfl⟩ := hz1 hU
    obtain rfl : m1 = 0 := em1.symm
    exact sets_a_u w now next xs ys zs2 T0 T1 r Q0 Q1 n2 x2 is had n m m2 a0 c0 av2 cv2 id after period av1 cv1 X1 X2 TS TU T _ _ hU hNA hz3 hz4 en em2 em hm6 h0 Wt hX h_p h_a h_f1 h_b h_f2 h_f3 h_u h_v hl4 hl5 ho K x z hK hcut
  obtain rfl : U0 = 0 := Decidable.not_not.1 hU
  rw [show ((0 : Int) == 0) = true from rfl, Bool.true_and] at eV
  by_cases h5 : m = 5000
  · rw [decide_eq_true h5, Bool.true_or, if_pos rfl] at eV
    cases eV
    obtain ⟨rfl, rfl, rfl, rfl⟩ := hz1 (by decide)
    obtain rfl : m1 = 0 := em1.symm
    exact sets_a_m w now next xs ys zs2 T0 T1 r Q0 Q1 n2 x2 is had n m m2 a0 c0 av2 cv2 id after period av1 cv1 X1 X2 TS TU T U1 h5 hNA hz3 hz4 en em2 em hm6 h0 Wt hX h_p h_a h_f1 h_b h_f2 h_f3 h_u h_v hl4 hl5 ho K x z hK hcut
  rw [decide_eq_false h5, Bool.false_or] at eV
  by_cases h9 : next = 1000000000
  · rw [if_pos (by simpa using h9)] at eV
    cases eV
    obtain ⟨rfl, rfl, rfl, rfl⟩ := hz1 (by decide)
    obtain rfl : m1 = 0 := em1.symm
    exact sets_a_x w now next xs ys zs2 T0 T1 r Q0 Q1 n2 x2 is had n m m2 a0 c0 av2 cv2 id after period av1 cv1 X1 X2 TS TU T U1 h5 h9 hNA hz3 hz4 en em2 em hm6 h0 Wt hX h_p h_a h_f1 h_b h_f2 h_f3 h_u h_v hl4 hl5 ho K x z hK hcut
  rw [if_neg (by simpa using h9)] at eV
  cases eV
  obtain ⟨hT, e1, e2, e3, e4, ha1, ha2⟩ := hz2 rfl
  have hgood := (hz4 hT).2.1
  have e1' := e1.symm; have e2' := e2.symm; have e4' := e4.symm
  subst e1' e2' e4'
  have e5 : m + 1 = m1 := by rw [← em1, e3, ins_len, em]
  subst e5
  exact sets_a_ok w now next xs ys zs2 T0 T1 r Q0 Q1 n2 x2 is had n m m2 a0 c0 av2 cv2 id after period av1 cv1 X1 X2 TS TU T _ h5 h9 hgood ha1 ha2 zs1 e3 hNA hz3 hz4 en em2 em hm6 h0 Wt hX h_p h_a h_f1 h_b h_f2 h_f3 h_u h_v hl4 hl5 ho K x z hK hcut

end Go.Proofs.Ytidpmcanfedbdaa
