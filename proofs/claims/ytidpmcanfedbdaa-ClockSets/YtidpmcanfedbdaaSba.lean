/-
  taskmilllaw.ClockSets, from what is told of Stop on, whatever it is.
-/
import Derived.Test.YtidpmcanfedbdaaSb
namespace Go.Proofs.Ytidpmcanfedbdaa
open Go.RowKit

theorem isl_agree {α : Type} {K : Kind α} (hK : K.Ok) {w W : World} {v : Value} {xs : List α} (h : IsL K w v xs) (hk : ∀ k, k < w.heap.size → W.heap[k]? = w.heap[k]?) : IsL K W v xs := by
  cases xs with
  | nil => exact isl_empty h
  | cons x l => exact IsL.keep hK h (fun k hh => hk k (IsL.old hK h (by simp) k hh))

theorem sets_b_any (w : World) (now next : Int) (xs ys zs2 : List Al) (T0 T1 r Q0 Q1 n2 x2 : Int) (is had : Bool) (n m m2 : Nat) (a0 : Option Addr) (c0 : Nat) (av2 : Option Addr) (cv2 : Nat) (al : Option Addr) (cl X2 TS TU TL : Nat) (hz3 : T0 ≠ 0 → n2 = 0 ∧ x2 = 0 ∧ zs2 = [] ∧ is = false ∧ r = 0 ∧ Q0 = T0 ∧ Q1 = T1) (hz4 : T0 = 0 → T1 = 0 ∧ Good now next xs ∧ n2 = now ∧ x2 = next ∧ zs2 = ys ∧ is = had ∧ (xs = [] → r = 0 ∧ Q0 = 6 ∧ Q1 = 0) ∧ (∀ x l, xs = x :: l → r = x.2.1 - now ∧ Q0 = 0 ∧ Q1 = 0)) (en : xs.length = n) (em2 : zs2.length = m2) (em : ys.length = m) (hm : ys.length ≤ 100000) (h0 : 0 < n → ∃ b off, a0 = some ⟨b, off, none⟩ ∧ b < w.heap.size ∧ Lies KA w b off xs) (Wt : World) (hX : Below w.heap.size w Wt) (h_p : Wt.heap[w.heap.size]? = some (.cells #[.int .i64 now, .int .i64 next, .slice a0 n c0] 24)) (h_b : Wt.heap[X2]? = some (.cells #[.int .i64 n2, .int .i64 x2, .slice av2 m2 cv2] 24)) (h_f2 : Wt.heap[X2 + 1]? = some (.cells #[.int .i64 T0, .int .i64 T1] 29)) (h_f3 : Wt.heap[TS]? = some (.cells #[.int .i64 Q0, .int .i64 Q1] 29)) (h_u : Wt.heap[TU]? = some (.cells #[.int .i64 T0, .int .i64 T1] 29)) (h_l : Wt.heap[TL]? = some (.cells #[.int .i64 now, .int .i64 next, .slice al m cl] 24)) (hl5 : IsL KA Wt (.slice av2 m2 cv2) zs2) (hly : IsL KA Wt (.slice al m cl) ys) (ho : w.heap.size < X2 ∧ X2 + 1 < TS ∧ TS < TU ∧ TU < TL)
    {s0 s1 s2 s3 s5 s6 s7 s9 s10 s11 s12 s13 s20 s23 s24 s25 s26 s27 s28 s29 s30 s31 s32 s33 s34 s35 s36 s37 s38 s39 s40 s41 s42 s43 s44 s45 s46 s47 s48 s49 s50 s51 s52 s53 s54 s55 s56 s57 s58 s59 s60 s61 s62 s63 s64 s65 s66 s67 s68 s69 s70 s71 s72 s73 s74 s75 s76 s77 s78 s79 s80 s81 s82 s83 s84 s85 s86 s87 s88 s89 s90 s91 s92 s93 s94 s95 s96 s97 s98 s99 s100 s101 s102 s103 s104 s105 s106 s107 s108 s109 s110 s111 s112 s113 s114 s115 s116 s117 s118 s119 s120 s121 s122 s123 s124 s125 s126 s127 s128 s129 s130 s131 s132 s133 s134 s135 s136 s137 s138 s139 s140 s141 s142 s143 s144 s145 s146 s147 s148 s149 s150 s151 s152 s153 s154 s155 s156 s157 s158 s159 s160 s161 s162 s163 s164 s165 s166 s167 s168 s169 s170 s171 s172 s173 s174 s175 s176 s177 s178 s179 s180 s181 s182 s183 s184 s185 s186 s187 s188 s189 s190 s191 s192 s193 s194 s195 s196 s197 s198 s199 s200 s201 : Value} (K1 K2 : Act → World → Prop) (x y z : Code) (hK1 : ∀ a w', y.wp Try.prog (Exit.then K2 (bodyPost Try.prog Try.f3 fun e w' => e = .returned (.bool true) ∧ Below w.heap.size w w')) a w' → K1 a w') (hK2 : ∀ a w', z.wp Try.prog (bodyPost Try.prog Try.f3 fun e w' => e = .returned (.bool true) ∧ Below w.heap.size w w') a w' → K2 a w') (hcut : Try.f3.body.bind (cutIf 26) = some (x, y, z)) :
    x.wp Try.prog (Exit.then K1 (Exit.then K2 (bodyPost Try.prog Try.f3 fun e w' => e = .returned (.bool true) ∧ Below w.heap.size w w'))) { tmps := (s0 :: s1 :: s2 :: s3 :: .pointer (some ⟨w.heap.size, 0, none⟩) :: s5 :: s6 :: s7 :: .bool false :: s9 :: s10 :: s11 :: s12 :: s13 :: .pointer (some ⟨X2, 0, none⟩) :: .bool is :: .pointer (some ⟨X2 + 1, 0, none⟩) :: .int .i64 r :: .pointer (some ⟨TS, 0, none⟩) :: .pointer (some ⟨TU, 0, none⟩) :: s20 :: .pointer (some ⟨TL, 0, none⟩) :: .bool had :: s23 :: s24 :: s25 :: s26 :: s27 :: s28 :: s29 :: s30 :: s31 :: s32 :: s33 :: s34 :: s35 :: s36 :: s37 :: s38 :: s39 :: s40 :: s41 :: s42 :: s43 :: s44 :: s45 :: s46 :: s47 :: s48 :: s49 :: s50 :: s51 :: s52 :: s53 :: s54 :: s55 :: s56 :: s57 :: s58 :: s59 :: s60 :: s61 :: s62 :: s63 :: s64 :: s65 :: s66 :: s67 :: s68 :: s69 :: s70 :: s71 :: s72 :: s73 :: s74 :: s75 :: s76 :: s77 :: s78 :: s79 :: s80 :: s81 :: s82 :: s83 :: s84 :: s85 :: s86 :: s87 :: s88 :: s89 :: s90 :: s91 :: s92 :: s93 :: s94 :: s95 :: s96 :: s97 :: s98 :: s99 :: s100 :: s101 :: s102 :: s103 :: s104 :: s105 :: s106 :: s107 :: s108 :: s109 :: s110 :: s111 :: s112 :: s113 :: s114 :: s115 :: s116 :: s117 :: s118 :: s119 :: s120 :: s121 :: s122 :: s123 :: s124 :: s125 :: s126 :: s127 :: s128 :: s129 :: s130 :: s131 :: s132 :: s133 :: s134 :: s135 :: s136 :: s137 :: s138 :: s139 :: s140 :: s141 :: s142 :: s143 :: s144 :: s145 :: s146 :: s147 :: s148 :: s149 :: s150 :: s151 :: s152 :: s153 :: s154 :: s155 :: s156 :: s157 :: s158 :: s159 :: s160 :: s161 :: s162 :: s163 :: s164 :: s165 :: s166 :: s167 :: s168 :: s169 :: s170 :: s171 :: s172 :: s173 :: s174 :: s175 :: s176 :: s177 :: s178 :: s179 :: s180 :: s181 :: s182 :: s183 :: s184 :: s185 :: s186 :: s187 :: s188 :: s189 :: s190 :: s191 :: s192 :: s193 :: s194 :: s195 :: s196 :: s197 :: s198 :: s199 :: s200 :: s201 :: []).toArray, defers := [] } Wt := by
  by_cases hT : T0 ≠ 0
  · obtain ⟨rfl, rfl, rfl, rfl, rfl, rfl, rfl⟩ := hz3 hT
    obtain rfl : m2 = 0 := em2.symm
    exact sets_b_bad w now next had ys n m a0 c0 av2 cv2 al cl X2 TS TU TL _ _ hT Wt hX h_p h_b h_f2 h_f3 h_u h_l hl5 ho K1 K2 x y z hK1 hK2 hcut
  obtain rfl : T0 = 0 := Decidable.not_not.1 hT
  obtain ⟨rfl, gd, e1, e2, e3, e4, hE, hC⟩ := hz4 rfl
  have e1' := e1.symm; have e2' := e2.symm; have e3' := e3.symm; have e4' := e4.symm
  subst e1' e2' e3' e4'
  have e5 : m = m2 := em.symm.trans em2
  subst e5
  cases xs with
  | nil =>
    obtain ⟨rfl, rfl, rfl⟩ := hE rfl
    obtain rfl : n = 0 := en.symm
    exact sets_b_nil w now next had ys m a0 c0 av2 cv2 al cl X2 TS TU TL Wt hX h_p h_b h_f2 h_f3 h_u h_l hl5 hly hm ho K1 K2 x y z hK1 hK2 hcut
  | cons q l =>
    obtain ⟨t, d, u, y'⟩ := q
    obtain ⟨rfl, rfl, rfl⟩ := hC _ _ rfl
    exact sets_b_cons w now next had ys n m a0 c0 av2 cv2 al cl X2 TS TU TL t d u y' l gd en h0 Wt hX h_p h_b h_f2 h_f3 h_u h_l hl5 hly hm ho K1 K2 x y z hK1 hK2 hcut

end Go.Proofs.Ytidpmcanfedbdaa
