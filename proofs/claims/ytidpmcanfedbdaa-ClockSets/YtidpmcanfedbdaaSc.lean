/-
  taskmilllaw.ClockSets, from NoAlarm on.
-/
import Derived.Test.YtidpmcanfedbdaaSba
namespace Go.Proofs.Ytidpmcanfedbdaa
open Go.RowKit

set_option maxRecDepth 100000 in
set_option maxHeartbeats 4000000 in
theorem sets_a_u (w : World) (now next : Int) (xs ys zs2 : List Al) (T0 T1 r Q0 Q1 n2 x2 : Int) (is had : Bool) (n m m2 : Nat) (a0 : Option Addr) (c0 : Nat) (av2 : Option Addr) (cv2 : Nat) (id after period : Int) (av1 : Option Addr) (cv1 X1 X2 TS TU T : Nat) (U0 U1 : Int) (hU : U0 ≠ 0) (hNA : ∀ W, Below w.heap.size w W → Calls Try.prog 18 #[.agg #[.int .i64 now, .int .i64 next, .slice a0 n c0], .int .i64 id] W fun e w' => ∃ a c, e = .returned (.tuple #[.agg #[.int .i64 now, .int .i64 next, .slice a m c], .bool had]) ∧ Own KA W.heap.size w' (.slice a m c) ys ∧ Below W.heap.size W w') (hz3 : T0 ≠ 0 → n2 = 0 ∧ x2 = 0 ∧ zs2 = [] ∧ is = false ∧ r = 0 ∧ Q0 = T0 ∧ Q1 = T1) (hz4 : T0 = 0 → T1 = 0 ∧ Good now next xs ∧ n2 = now ∧ x2 = next ∧ zs2 = ys ∧ is = had ∧ (xs = [] → r = 0 ∧ Q0 = 6 ∧ Q1 = 0) ∧ (∀ x l, xs = x :: l → r = x.2.1 - now ∧ Q0 = 0 ∧ Q1 = 0)) (en : xs.length = n) (em2 : zs2.length = m2) (em : ys.length = m) (hm6 : m ≤ 6000) (h0 : 0 < n → ∃ b off, a0 = some ⟨b, off, none⟩ ∧ b < w.heap.size ∧ Lies KA w b off xs) (Wt : World) (hX : Below w.heap.size w Wt) (h_p : Wt.heap[w.heap.size]? = some (.cells #[.int .i64 now, .int .i64 next, .slice a0 n c0] 24)) (h_a : Wt.heap[X1]? = some (.cells #[.int .i64 0, .int .i64 0, .slice av1 0 cv1] 24)) (h_f1 : Wt.heap[X1 + 1]? = some (.cells #[.int .i64 U0, .int .i64 U1] 29)) (h_b : Wt.heap[X2]? = some (.cells #[.int .i64 n2, .int .i64 x2, .slice av2 m2 cv2] 24)) (h_f2 : Wt.heap[X2 + 1]? = some (.cells #[.int .i64 T0, .int .i64 T1] 29)) (h_f3 : Wt.heap[TS]? = some (.cells #[.int .i64 Q0, .int .i64 Q1] 29)) (h_u : Wt.heap[TU]? = some (.cells #[.int .i64 T0, .int .i64 T1] 29)) (h_v : Wt.heap[T]? = some (.cells #[.int .i64 U0, .int .i64 U1] 29)) (hl4 : ∀ W, Below X2 Wt W → IsL KA W (.slice av1 0 cv1) []) (hl5 : ∀ W, Below X2 Wt W → IsL KA W (.slice av2 m2 cv2) zs2) (ho : w.heap.size < X1 ∧ X1 + 1 < X2 ∧ X2 + 1 < TS ∧ TS < TU ∧ TU < T)
    {s0 s5 s6 s7 s9 s10 s21 s22 s23 s24 s25 s26 s27 s28 s29 s30 s31 s32 s33 s34 s35 s36 s37 s38 s39 s40 s41 s42 s43 s44 s45 s46 s47 s48 s49 s50 s51 s52 s53 s54 s55 s56 s57 s58 s59 s60 s61 s62 s63 s64 s65 s66 s67 s68 s69 s70 s71 s72 s73 s74 s75 s76 s77 s78 s79 s80 s81 s82 s83 s84 s85 s86 s87 s88 s89 s90 s91 s92 s93 s94 s95 s96 s97 s98 s99 s100 s101 s102 s103 s104 s105 s106 s107 s108 s109 s110 s111 s112 s113 s114 s115 s116 s117 s118 s119 s120 s121 s122 s123 s124 s125 s126 s127 s128 s129 s130 s131 s132 s133 s134 s135 s136 s137 s138 s139 s140 s141 s142 s143 s144 s145 s146 s147 s148 s149 s150 s151 s152 s153 s154 s155 s156 s157 s158 s159 s160 s161 s162 s163 s164 s165 s166 s167 s168 s169 s170 s171 s172 s173 s174 s175 s176 s177 s178 s179 s180 s181 s182 s183 s184 s185 s186 s187 s188 s189 s190 s191 s192 s193 s194 s195 s196 s197 s198 s199 s200 s201 : Value} (K : Act → World → Prop) (x z : Code) (hK : ∀ a w', z.wp Try.prog (bodyPost Try.prog Try.f3 fun e w' => e = .returned (.bool true) ∧ Below w.heap.size w w') a w' → K a w') (hcut : Try.f3.body.bind (cutAt 16) = some (x, z)) :
    x.wp Try.prog (Exit.then K (bodyPost Try.prog Try.f3 fun e w' => e = .returned (.bool true) ∧ Below w.heap.size w w')) { tmps := (s0 :: .int .i64 id :: .int .i64 after :: .int .i64 period :: .pointer (some ⟨w.heap.size, 0, none⟩) :: s5 :: s6 :: s7 :: .bool false :: s9 :: s10 :: .pointer (some ⟨X1, 0, none⟩) :: .bool false :: .pointer (some ⟨X1 + 1, 0, none⟩) :: .pointer (some ⟨X2, 0, none⟩) :: .bool is :: .pointer (some ⟨X2 + 1, 0, none⟩) :: .int .i64 r :: .pointer (some ⟨TS, 0, none⟩) :: .pointer (some ⟨TU, 0, none⟩) :: .pointer (some ⟨T, 0, none⟩) :: s21 :: s22 :: s23 :: s24 :: s25 :: s26 :: s27 :: s28 :: s29 :: s30 :: s31 :: s32 :: s33 :: s34 :: s35 :: s36 :: s37 :: s38 :: s39 :: s40 :: s41 :: s42 :: s43 :: s44 :: s45 :: s46 :: s47 :: s48 :: s49 :: s50 :: s51 :: s52 :: s53 :: s54 :: s55 :: s56 :: s57 :: s58 :: s59 :: s60 :: s61 :: s62 :: s63 :: s64 :: s65 :: s66 :: s67 :: s68 :: s69 :: s70 :: s71 :: s72 :: s73 :: s74 :: s75 :: s76 :: s77 :: s78 :: s79 :: s80 :: s81 :: s82 :: s83 :: s84 :: s85 :: s86 :: s87 :: s88 :: s89 :: s90 :: s91 :: s92 :: s93 :: s94 :: s95 :: s96 :: s97 :: s98 :: s99 :: s100 :: s101 :: s102 :: s103 :: s104 :: s105 :: s106 :: s107 :: s108 :: s109 :: s110 :: s111 :: s112 :: s113 :: s114 :: s115 :: s116 :: s117 :: s118 :: s119 :: s120 :: s121 :: s122 :: s123 :: s124 :: s125 :: s126 :: s127 :: s128 :: s129 :: s130 :: s131 :: s132 :: s133 :: s134 :: s135 :: s136 :: s137 :: s138 :: s139 :: s140 :: s141 :: s142 :: s143 :: s144 :: s145 :: s146 :: s147 :: s148 :: s149 :: s150 :: s151 :: s152 :: s153 :: s154 :: s155 :: s156 :: s157 :: s158 :: s159 :: s160 :: s161 :: s162 :: s163 :: s164 :: s165 :: s166 :: s167 :: s168 :: s169 :: s170 :: s171 :: s172 :: s173 :: s174 :: s175 :: s176 :: s177 :: s178 :: s179 :: s180 :: s181 :: s182 :: s183 :: s184 :: s185 :: s186 :: s187 :: s188 :: s189 :: s190 :: s191 :: s192 :: s193 :: s194 :: s195 :: s196 :: s197 :: s198 :: s199 :: s200 :: s201 :: []).toArray, defers := [] } Wt := by
  have hcc : Try.f3.body.bind (cutAt 16) = some (_, _) := rfl
  rw [hcc] at hcut
  cases hcut
  clear hcc
  obtain ⟨ho1, ho2, ho3, ho4, ho5⟩ := ho
  have hvs : T < Wt.heap.size := size_of h_v
  have HXS : Hid (X2 ≤ Wt.heap.size) := by show X2 ≤ _; omega
  have HX := hide hX; have HNA := hide hNA; have HZ3 := hide hz3; have HZ4 := hide hz4; have HN := hide en; have HM2 := hide em2; have HM := hide em; have HL4 := hide hl4; have HL5 := hide hl5; have H0 := hide h0
  have HCQ : Hid (Below X2 Wt Wt) := Below.refl _ _
  clear hX hNA hz3 hz4 en em2 em hl4 hl5 h0
  have H_p := hide h_p; have H_a := hide h_a; have H_f1 := hide h_f1; have H_b := hide h_b; have H_f2 := hide h_f2; have H_f3 := hide h_f3; have H_u := hide h_u; have H_v := hide h_v
  clear h_p h_a h_f1 h_b h_f2 h_f3 h_u h_v
  have xu : (U0 == 0) = false := by simpa using hU
  have xu2 : (U0 != 0) = true := by simpa using hU
  clear hU
  have xq : ∀ b : Int, (b == b) = true := fun b => by simp
  obtain ⟨⟨p0, p1, p2⟩, ⟨pf0, pf1, pf2⟩, pl⟩ := block3 (unhide H_p)
  go_upto_region 17 with (go_at_call 18; refine (unhide HNA _ (unhide HX)).mono ?_; rintro e wl ⟨al, cl, rfl, hol, hbl⟩; have HOL := hide (hol.base (unhide HX).size); have HX_1 := hide (Below.next (unhide HX) hbl (by first | exact Nat.le_refl _ | (have := unhide HBA; omega))); have Kp_1 := hide (keep_below (unhide H_p) hbl); have Ka_1 := hide (keep_below (unhide H_a) hbl); have Kf1_1 := hide (keep_below (unhide H_f1) hbl); have Kb_1 := hide (keep_below (unhide H_b) hbl); have Kf2_1 := hide (keep_below (unhide H_f2) hbl); have Kf3_1 := hide (keep_below (unhide H_f3) hbl); have Ku_1 := hide (keep_below (unhide H_u) hbl); have Kv_1 := hide (keep_below (unhide H_v) hbl); have Cq_1 := hide (Below.next (unhide HCQ) hbl (unhide HXS)); clear HX H_p H_a H_f1 H_b H_f2 H_f3 H_u H_v HCQ; clear hol hbl HNA p0 p1 p2 pf0 pf1 pf2 pl)
  have HX_2 := hide ((unhide HX_1).alloc (Nat.le_trans (show w.heap.size ≤ w.heap.size from Nat.le_refl _) (unhide HX_1).size) (.cells #[.int .i64 now, .int .i64 next, .slice al m cl] 24))
  have Kp_2 := hide (keep_alloc (unhide Kp_1) (.cells #[.int .i64 now, .int .i64 next, .slice al m cl] 24))
  have Ka_2 := hide (keep_alloc (unhide Ka_1) (.cells #[.int .i64 now, .int .i64 next, .slice al m cl] 24))
  have Kf1_2 := hide (keep_alloc (unhide Kf1_1) (.cells #[.int .i64 now, .int .i64 next, .slice al m cl] 24))
  have Kb_2 := hide (keep_alloc (unhide Kb_1) (.cells #[.int .i64 now, .int .i64 next, .slice al m cl] 24))
  have Kf2_2 := hide (keep_alloc (unhide Kf2_1) (.cells #[.int .i64 now, .int .i64 next, .slice al m cl] 24))
  have Kf3_2 := hide (keep_alloc (unhide Kf3_1) (.cells #[.int .i64 now, .int .i64 next, .slice al m cl] 24))
  have Ku_2 := hide (keep_alloc (unhide Ku_1) (.cells #[.int .i64 now, .int .i64 next, .slice al m cl] 24))
  have Kv_2 := hide (keep_alloc (unhide Kv_1) (.cells #[.int .i64 now, .int .i64 next, .slice al m cl] 24))
  have Oy_2 := hide ((unhide HOL).below ((Below.refl _ _).alloc (Nat.le_refl _) (.cells #[.int .i64 now, .int .i64 next, .slice al m cl] 24)))
  have Cq_2 := hide ((unhide Cq_1).alloc (Nat.le_trans (unhide HXS) (unhide Cq_1).size) (.cells #[.int .i64 now, .int .i64 next, .slice al m cl] 24))
  have Kl_2 := hide (new_block wl (.cells #[.int .i64 now, .int .i64 next, .slice al m cl] 24))
  have hlp_l : w.heap.size < wl.heap.size := size_of (unhide Kp_1)
  have hla_l : X1 < wl.heap.size := size_of (unhide Ka_1)
  have hlf1_l : X1 + 1 < wl.heap.size := size_of (unhide Kf1_1)
  have hlb_l : X2 < wl.heap.size := size_of (unhide Kb_1)
  have hlf2_l : X2 + 1 < wl.heap.size := size_of (unhide Kf2_1)
  have hlf3_l : TS < wl.heap.size := size_of (unhide Kf3_1)
  have hlu_l : TU < wl.heap.size := size_of (unhide Ku_1)
  have hlv_l : T < wl.heap.size := size_of (unhide Kv_1)
  obtain ⟨TL, eTL⟩ : ∃ X, wl.heap.size = X := ⟨_, rfl⟩
  obtain ⟨W9, eW9⟩ : ∃ X, wl.alloc (.cells #[.int .i64 now, .int .i64 next, .slice al m cl] 24) = X := ⟨_, rfl⟩
  rw [eTL, eW9] at Kl_2; rw [eW9] at HX_2 Kp_2 Ka_2 Kf1_2 Kb_2 Kf2_2 Kf3_2 Ku_2 Kv_2 Oy_2 Cq_2; rw [eTL] at hlp_l hla_l hlf1_l hlb_l hlf2_l hlf3_l hlu_l hlv_l; rw [eTL, eW9]
  clear eTL eW9 HX_1 Kp_1 Ka_1 Kf1_1 Kb_1 Kf2_1 Kf3_1 Ku_1 Kv_1 HOL Cq_1
  obtain ⟨v0, v1, vf0, vf1, vl⟩ := block2 (unhide Kv_2)
  obtain ⟨⟨l0, l1, l2⟩, ⟨lf0, lf1, lf2⟩, ll⟩ := block3 (unhide Kl_2)
  obtain ⟨⟨p0, p1, p2⟩, ⟨pf0, pf1, pf2⟩, pl⟩ := block3 (unhide Kp_2)
  go_upto_region 19 with fail
  clear l0 l1 l2 lf0 lf1 lf2 ll p0 p1 p2 pf0 pf1 pf2 pl
  obtain ⟨e0, e1, ef0, ef1, el⟩ := block2 (unhide Kf1_2)
  obtain ⟨⟨a0, a1, a2⟩, ⟨af0, af1, af2⟩, al⟩ := block3 (unhide Ka_2)
  have HSC := hide (sameClock_same W9 (.agg #[.int .i64 0, .int .i64 0, .slice av1 0 cv1]) (.agg #[.int .i64 0, .int .i64 0, .slice none 0 0]) 0 0 [] ⟨_, rfl, unhide HL4 _ (unhide Cq_2)⟩ (zero_c _) (by simp))
  go_upto_region 26 with (go_at_call 16; refine (unhide HSC).mono ?_; rintro e w8 ⟨rfl, hb8⟩; have HX_3 := hide (Below.next (unhide HX_2) hb8 (by first | exact Nat.le_refl _ | (have := unhide HBA; omega))); have Kp_3 := hide (keep_below (unhide Kp_2) hb8); have Ka_3 := hide (keep_below (unhide Ka_2) hb8); have Kf1_3 := hide (keep_below (unhide Kf1_2) hb8); have Kb_3 := hide (keep_below (unhide Kb_2) hb8); have Kf2_3 := hide (keep_below (unhide Kf2_2) hb8); have Kf3_3 := hide (keep_below (unhide Kf3_2) hb8); have Ku_3 := hide (keep_below (unhide Ku_2) hb8); have Kv_3 := hide (keep_below (unhide Kv_2) hb8); have Kl_3 := hide (keep_below (unhide Kl_2) hb8); have Oy_3 := hide ((unhide Oy_2).below hb8); have Cq_3 := hide (Below.next (unhide Cq_2) hb8 (unhide HXS)); clear HX_2 Kp_2 Ka_2 Kf1_2 Kb_2 Kf2_2 Kf3_2 Ku_2 Kv_2 Kl_2 Oy_2 Cq_2; clear hb8 HSC v0 v1 vf0 vf1 vl e0 e1 ef0 ef1 el a0 a1 a2 af0 af1 af2 al)
  exact sets_b_any w now next xs ys zs2 T0 T1 r Q0 Q1 n2 x2 is had n m m2 a0 c0 av2 cv2 al cl X2 TS TU TL (unhide HZ3) (unhide HZ4) (unhide HN) (unhide HM2) (unhide HM) (by rw [unhide HM]; omega) (unhide H0) _ (unhide HX_3) (unhide Kp_3) (unhide Kb_3) (unhide Kf2_3) (unhide Kf3_3) (unhide Ku_3) (unhide Kl_3) (unhide HL5 _ (unhide Cq_3)) (unhide Oy_3).isl ⟨by omega, by omega, by omega, by omega⟩ _ _ _ _ _ (by assumption) (by assumption) (by kernel_rfl)

set_option maxRecDepth 100000 in
set_option maxHeartbeats 4000000 in
theorem sets_a_m (w : World) (now next : Int) (xs ys zs2 : List Al) (T0 T1 r Q0 Q1 n2 x2 : Int) (is had : Bool) (n m m2 : Nat) (a0 : Option Addr) (c0 : Nat) (av2 : Option Addr) (cv2 : Nat) (id after period : Int) (av1 : Option Addr) (cv1 X1 X2 TS TU T : Nat) (U1 : Int) (hm5 : m = 5000) (hNA : ∀ W, Below w.heap.size w W → Calls Try.prog 18 #[.agg #[.int .i64 now, .int .i64 next, .slice a0 n c0], .int .i64 id] W fun e w' => ∃ a c, e = .returned (.tuple #[.agg #[.int .i64 now, .int .i64 next, .slice a m c], .bool had]) ∧ Own KA W.heap.size w' (.slice a m c) ys ∧ Below W.heap.size W w') (hz3 : T0 ≠ 0 → n2 = 0 ∧ x2 = 0 ∧ zs2 = [] ∧ is = false ∧ r = 0 ∧ Q0 = T0 ∧ Q1 = T1) (hz4 : T0 = 0 → T1 = 0 ∧ Good now next xs ∧ n2 = now ∧ x2 = next ∧ zs2 = ys ∧ is = had ∧ (xs = [] → r = 0 ∧ Q0 = 6 ∧ Q1 = 0) ∧ (∀ x l, xs = x :: l → r = x.2.1 - now ∧ Q0 = 0 ∧ Q1 = 0)) (en : xs.length = n) (em2 : zs2.length = m2) (em : ys.length = m) (hm6 : m ≤ 6000) (h0 : 0 < n → ∃ b off, a0 = some ⟨b, off, none⟩ ∧ b < w.heap.size ∧ Lies KA w b off xs) (Wt : World) (hX : Below w.heap.size w Wt) (h_p : Wt.heap[w.heap.size]? = some (.cells #[.int .i64 now, .int .i64 next, .slice a0 n c0] 24)) (h_a : Wt.heap[X1]? = some (.cells #[.int .i64 0, .int .i64 0, .slice av1 0 cv1] 24)) (h_f1 : Wt.heap[X1 + 1]? = some (.cells #[.int .i64 9, .int .i64 0] 29)) (h_b : Wt.heap[X2]? = some (.cells #[.int .i64 n2, .int .i64 x2, .slice av2 m2 cv2] 24)) (h_f2 : Wt.heap[X2 + 1]? = some (.cells #[.int .i64 T0, .int .i64 T1] 29)) (h_f3 : Wt.heap[TS]? = some (.cells #[.int .i64 Q0, .int .i64 Q1] 29)) (h_u : Wt.heap[TU]? = some (.cells #[.int .i64 T0, .int .i64 T1] 29)) (h_v : Wt.heap[T]? = some (.cells #[.int .i64 0, .int .i64 U1] 29)) (hl4 : ∀ W, Below X2 Wt W → IsL KA W (.slice av1 0 cv1) []) (hl5 : ∀ W, Below X2 Wt W → IsL KA W (.slice av2 m2 cv2) zs2) (ho : w.heap.size < X1 ∧ X1 + 1 < X2 ∧ X2 + 1 < TS ∧ TS < TU ∧ TU < T)
    {s0 s5 s6 s7 s9 s10 s21 s22 s23 s24 s25 s26 s27 s28 s29 s30 s31 s32 s33 s34 s35 s36 s37 s38 s39 s40 s41 s42 s43 s44 s45 s46 s47 s48 s49 s50 s51 s52 s53 s54 s55 s56 s57 s58 s59 s60 s61 s62 s63 s64 s65 s66 s67 s68 s69 s70 s71 s72 s73 s74 s75 s76 s77 s78 s79 s80 s81 s82 s83 s84 s85 s86 s87 s88 s89 s90 s91 s92 s93 s94 s95 s96 s97 s98 s99 s100 s101 s102 s103 s104 s105 s106 s107 s108 s109 s110 s111 s112 s113 s114 s115 s116 s117 s118 s119 s120 s121 s122 s123 s124 s125 s126 s127 s128 s129 s130 s131 s132 s133 s134 s135 s136 s137 s138 s139 s140 s141 s142 s143 s144 s145 s146 s147 s148 s149 s150 s151 s152 s153 s154 s155 s156 s157 s158 s159 s160 s161 s162 s163 s164 s165 s166 s167 s168 s169 s170 s171 s172 s173 s174 s175 s176 s177 s178 s179 s180 s181 s182 s183 s184 s185 s186 s187 s188 s189 s190 s191 s192 s193 s194 s195 s196 s197 s198 s199 s200 s201 : Value} (K : Act → World → Prop) (x z : Code) (hK : ∀ a w', z.wp Try.prog (bodyPost Try.prog Try.f3 fun e w' => e = .returned (.bool true) ∧ Below w.heap.size w w') a w' → K a w') (hcut : Try.f3.body.bind (cutAt 16) = some (x, z)) :
    x.wp Try.prog (Exit.then K (bodyPost Try.prog Try.f3 fun e w' => e = .returned (.bool true) ∧ Below w.heap.size w w')) { tmps := (s0 :: .int .i64 id :: .int .i64 after :: .int .i64 period :: .pointer (some ⟨w.heap.size, 0, none⟩) :: s5 :: s6 :: s7 :: .bool false :: s9 :: s10 :: .pointer (some ⟨X1, 0, none⟩) :: .bool false :: .pointer (some ⟨X1 + 1, 0, none⟩) :: .pointer (some ⟨X2, 0, none⟩) :: .bool is :: .pointer (some ⟨X2 + 1, 0, none⟩) :: .int .i64 r :: .pointer (some ⟨TS, 0, none⟩) :: .pointer (some ⟨TU, 0, none⟩) :: .pointer (some ⟨T, 0, none⟩) :: s21 :: s22 :: s23 :: s24 :: s25 :: s26 :: s27 :: s28 :: s29 :: s30 :: s31 :: s32 :: s33 :: s34 :: s35 :: s36 :: s37 :: s38 :: s39 :: s40 :: s41 :: s42 :: s43 :: s44 :: s45 :: s46 :: s47 :: s48 :: s49 :: s50 :: s51 :: s52 :: s53 :: s54 :: s55 :: s56 :: s57 :: s58 :: s59 :: s60 :: s61 :: s62 :: s63 :: s64 :: s65 :: s66 :: s67 :: s68 :: s69 :: s70 :: s71 :: s72 :: s73 :: s74 :: s75 :: s76 :: s77 :: s78 :: s79 :: s80 :: s81 :: s82 :: s83 :: s84 :: s85 :: s86 :: s87 :: s88 :: s89 :: s90 :: s91 :: s92 :: s93 :: s94 :: s95 :: s96 :: s97 :: s98 :: s99 :: s100 :: s101 :: s102 :: s103 :: s104 :: s105 :: s106 :: s107 :: s108 :: s109 :: s110 :: s111 :: s112 :: s113 :: s114 :: s115 :: s116 :: s117 :: s118 :: s119 :: s120 :: s121 :: s122 :: s123 :: s124 :: s125 :: s126 :: s127 :: s128 :: s129 :: s130 :: s131 :: s132 :: s133 :: s134 :: s135 :: s136 :: s137 :: s138 :: s139 :: s140 :: s141 :: s142 :: s143 :: s144 :: s145 :: s146 :: s147 :: s148 :: s149 :: s150 :: s151 :: s152 :: s153 :: s154 :: s155 :: s156 :: s157 :: s158 :: s159 :: s160 :: s161 :: s162 :: s163 :: s164 :: s165 :: s166 :: s167 :: s168 :: s169 :: s170 :: s171 :: s172 :: s173 :: s174 :: s175 :: s176 :: s177 :: s178 :: s179 :: s180 :: s181 :: s182 :: s183 :: s184 :: s185 :: s186 :: s187 :: s188 :: s189 :: s190 :: s191 :: s192 :: s193 :: s194 :: s195 :: s196 :: s197 :: s198 :: s199 :: s200 :: s201 :: []).toArray, defers := [] } Wt := by
  have hcc : Try.f3.body.bind (cutAt 16) = some (_, _) := rfl
  rw [hcc] at hcut
  cases hcut
  clear hcc
  obtain ⟨ho1, ho2, ho3, ho4, ho5⟩ := ho
  have hvs : T < Wt.heap.size := size_of h_v
  have HXS : Hid (X2 ≤ Wt.heap.size) := by show X2 ≤ _; omega
  have HX := hide hX; have HNA := hide hNA; have HZ3 := hide hz3; have HZ4 := hide hz4; have HN := hide en; have HM2 := hide em2; have HM := hide em; have HL4 := hide hl4; have HL5 := hide hl5; have H0 := hide h0
  have HCQ : Hid (Below X2 Wt Wt) := Below.refl _ _
  clear hX hNA hz3 hz4 en em2 em hl4 hl5 h0
  have H_p := hide h_p; have H_a := hide h_a; have H_f1 := hide h_f1; have H_b := hide h_b; have H_f2 := hide h_f2; have H_f3 := hide h_f3; have H_u := hide h_u; have H_v := hide h_v
  clear h_p h_a h_f1 h_b h_f2 h_f3 h_u h_v
  have xm : ((m : Int) == 5000) = true := by rw [beq_iff_eq]; omega
  clear hm5
  have xq : ∀ b : Int, (b == b) = true := fun b => by simp
  obtain ⟨⟨p0, p1, p2⟩, ⟨pf0, pf1, pf2⟩, pl⟩ := block3 (unhide H_p)
  go_upto_region 17 with (go_at_call 18; refine (unhide HNA _ (unhide HX)).mono ?_; rintro e wl ⟨al, cl, rfl, hol, hbl⟩; have HOL := hide (hol.base (unhide HX).size); have HX_1 := hide (Below.next (unhide HX) hbl (by first | exact Nat.le_refl _ | (have := unhide HBA; omega))); have Kp_1 := hide (keep_below (unhide H_p) hbl); have Ka_1 := hide (keep_below (unhide H_a) hbl); have Kf1_1 := hide (keep_below (unhide H_f1) hbl); have Kb_1 := hide (keep_below (unhide H_b) hbl); have Kf2_1 := hide (keep_below (unhide H_f2) hbl); have Kf3_1 := hide (keep_below (unhide H_f3) hbl); have Ku_1 := hide (keep_below (unhide H_u) hbl); have Kv_1 := hide (keep_below (unhide H_v) hbl); have Cq_1 := hide (Below.next (unhide HCQ) hbl (unhide HXS)); clear HX H_p H_a H_f1 H_b H_f2 H_f3 H_u H_v HCQ; clear hol hbl HNA p0 p1 p2 pf0 pf1 pf2 pl)
  have HX_2 := hide ((unhide HX_1).alloc (Nat.le_trans (show w.heap.size ≤ w.heap.size from Nat.le_refl _) (unhide HX_1).size) (.cells #[.int .i64 now, .int .i64 next, .slice al m cl] 24))
  have Kp_2 := hide (keep_alloc (unhide Kp_1) (.cells #[.int .i64 now, .int .i64 next, .slice al m cl] 24))
  have Ka_2 := hide (keep_alloc (unhide Ka_1) (.cells #[.int .i64 now, .int .i64 next, .slice al m cl] 24))
  have Kf1_2 := hide (keep_alloc (unhide Kf1_1) (.cells #[.int .i64 now, .int .i64 next, .slice al m cl] 24))
  have Kb_2 := hide (keep_alloc (unhide Kb_1) (.cells #[.int .i64 now, .int .i64 next, .slice al m cl] 24))
  have Kf2_2 := hide (keep_alloc (unhide Kf2_1) (.cells #[.int .i64 now, .int .i64 next, .slice al m cl] 24))
  have Kf3_2 := hide (keep_alloc (unhide Kf3_1) (.cells #[.int .i64 now, .int .i64 next, .slice al m cl] 24))
  have Ku_2 := hide (keep_alloc (unhide Ku_1) (.cells #[.int .i64 now, .int .i64 next, .slice al m cl] 24))
  have Kv_2 := hide (keep_alloc (unhide Kv_1) (.cells #[.int .i64 now, .int .i64 next, .slice al m cl] 24))
  have Oy_2 := hide ((unhide HOL).below ((Below.refl _ _).alloc (Nat.le_refl _) (.cells #[.int .i64 now, .int .i64 next, .slice al m cl] 24)))
  have Cq_2 := hide ((unhide Cq_1).alloc (Nat.le_trans (unhide HXS) (unhide Cq_1).size) (.cells #[.int .i64 now, .int .i64 next, .slice al m cl] 24))
  have Kl_2 := hide (new_block wl (.cells #[.int .i64 now, .int .i64 next, .slice al m cl] 24))
  have hlp_l : w.heap.size < wl.heap.size := size_of (unhide Kp_1)
  have hla_l : X1 < wl.heap.size := size_of (unhide Ka_1)
  have hlf1_l : X1 + 1 < wl.heap.size := size_of (unhide Kf1_1)
  have hlb_l : X2 < wl.heap.size := size_of (unhide Kb_1)
  have hlf2_l : X2 + 1 < wl.heap.size := size_of (unhide Kf2_1)
  have hlf3_l : TS < wl.heap.size := size_of (unhide Kf3_1)
  have hlu_l : TU < wl.heap.size := size_of (unhide Ku_1)
  have hlv_l : T < wl.heap.size := size_of (unhide Kv_1)
  obtain ⟨TL, eTL⟩ : ∃ X, wl.heap.size = X := ⟨_, rfl⟩
  obtain ⟨W9, eW9⟩ : ∃ X, wl.alloc (.cells #[.int .i64 now, .int .i64 next, .slice al m cl] 24) = X := ⟨_, rfl⟩
  rw [eTL, eW9] at Kl_2; rw [eW9] at HX_2 Kp_2 Ka_2 Kf1_2 Kb_2 Kf2_2 Kf3_2 Ku_2 Kv_2 Oy_2 Cq_2; rw [eTL] at hlp_l hla_l hlf1_l hlb_l hlf2_l hlf3_l hlu_l hlv_l; rw [eTL, eW9]
  clear eTL eW9 HX_1 Kp_1 Ka_1 Kf1_1 Kb_1 Kf2_1 Kf3_1 Ku_1 Kv_1 HOL Cq_1
  obtain ⟨v0, v1, vf0, vf1, vl⟩ := block2 (unhide Kv_2)
  obtain ⟨⟨l0, l1, l2⟩, ⟨lf0, lf1, lf2⟩, ll⟩ := block3 (unhide Kl_2)
  obtain ⟨⟨p0, p1, p2⟩, ⟨pf0, pf1, pf2⟩, pl⟩ := block3 (unhide Kp_2)
  go_upto_region 19 with (go_at_call 17; refine (f_any _ _ _).mono ?_; rintro e w7 ⟨rfl, hb7⟩; have HX_3 := hide (Below.next (unhide HX_2) hb7 (by first | exact Nat.le_refl _ | (have := unhide HBA; omega))); have Kp_3 := hide (keep_below (unhide Kp_2) hb7); have Ka_3 := hide (keep_below (unhide Ka_2) hb7); have Kf1_3 := hide (keep_below (unhide Kf1_2) hb7); have Kb_3 := hide (keep_below (unhide Kb_2) hb7); have Kf2_3 := hide (keep_below (unhide Kf2_2) hb7); have Kf3_3 := hide (keep_below (unhide Kf3_2) hb7); have Ku_3 := hide (keep_below (unhide Ku_2) hb7); have Kv_3 := hide (keep_below (unhide Kv_2) hb7); have Kl_3 := hide (keep_below (unhide Kl_2) hb7); have Oy_3 := hide ((unhide Oy_2).below hb7); have Cq_3 := hide (Below.next (unhide Cq_2) hb7 (unhide HXS)); clear HX_2 Kp_2 Ka_2 Kf1_2 Kb_2 Kf2_2 Kf3_2 Ku_2 Kv_2 Kl_2 Oy_2 Cq_2; clear hb7 v0 v1 vf0 vf1 vl l0 l1 l2 lf0 lf1 lf2 ll p0 p1 p2 pf0 pf1 pf2 pl; obtain ⟨v0, v1, vf0, vf1, vl⟩ := block2 (unhide Kv_3))
  clear v0 v1 vf0 vf1 vl
  have HX_4 := hide (put2_below (y0 := .int .i64 9) (y1 := .int .i64 0) (unhide HX_3) (show w.heap.size ≤ T by first | omega | (have := unhide HBA; omega)))
  have Kp_4 := hide ((put2_keep (y0 := .int .i64 9) (y1 := .int .i64 0) (show w.heap.size ≠ T by omega)).trans (unhide Kp_3))
  have Ka_4 := hide ((put2_keep (y0 := .int .i64 9) (y1 := .int .i64 0) (show X1 ≠ T by omega)).trans (unhide Ka_3))
  have Kf1_4 := hide ((put2_keep (y0 := .int .i64 9) (y1 := .int .i64 0) (show X1 + 1 ≠ T by omega)).trans (unhide Kf1_3))
  have Kb_4 := hide ((put2_keep (y0 := .int .i64 9) (y1 := .int .i64 0) (show X2 ≠ T by omega)).trans (unhide Kb_3))
  have Kf2_4 := hide ((put2_keep (y0 := .int .i64 9) (y1 := .int .i64 0) (show X2 + 1 ≠ T by omega)).trans (unhide Kf2_3))
  have Kf3_4 := hide ((put2_keep (y0 := .int .i64 9) (y1 := .int .i64 0) (show TS ≠ T by omega)).trans (unhide Kf3_3))
  have Ku_4 := hide ((put2_keep (y0 := .int .i64 9) (y1 := .int .i64 0) (show TU ≠ T by omega)).trans (unhide Ku_3))
  have Kv_4 := hide (put2_new (y0 := .int .i64 9) (y1 := .int .i64 0) (unhide Kv_3))
  have Kl_4 := hide ((put2_keep (y0 := .int .i64 9) (y1 := .int .i64 0) (show TL ≠ T by omega)).trans (unhide Kl_3))
  have Oy_4 := hide ((unhide Oy_3).keep (fun k hk => put2_keep (y0 := .int .i64 9) (y1 := .int .i64 0) (Own.ne (unhide Oy_3) (unhide Kv_3) (by decide) k hk)))
  have Cq_4 := hide (put2_below (y0 := .int .i64 9) (y1 := .int .i64 0) (unhide Cq_3) (show _ ≤ T by omega))
  obtain ⟨W10, eW10⟩ : ∃ X, put2 w7 (T) (.int .i64 9) (.int .i64 0) = X := ⟨_, rfl⟩
  rw [eW10] at HX_4 Kp_4 Ka_4 Kf1_4 Kb_4 Kf2_4 Kf3_4 Ku_4 Kv_4 Kl_4 Oy_4 Cq_4
  have eW102 : ((w7).setCell ⟨T, 0, none⟩ (.int .i64 9)).setCell ⟨T, 1, none⟩ (.int .i64 0) = W10 := eW10
  rw [eW102]
  clear eW10 eW102 HX_3 Kp_3 Ka_3 Kf1_3 Kb_3 Kf2_3 Kf3_3 Ku_3 Kv_3 Kl_3 Oy_3 Cq_3
  obtain ⟨v0, v1, vf0, vf1, vl⟩ := block2 (unhide Kv_4)
  obtain ⟨e0, e1, ef0, ef1, el⟩ := block2 (unhide Kf1_4)
  obtain ⟨⟨a0, a1, a2⟩, ⟨af0, af1, af2⟩, al⟩ := block3 (unhide Ka_4)
  have HSC := hide (sameClock_same W10 (.agg #[.int .i64 0, .int .i64 0, .slice av1 0 cv1]) (.agg #[.int .i64 0, .int .i64 0, .slice none 0 0]) 0 0 [] ⟨_, rfl, unhide HL4 _ (unhide Cq_4)⟩ (zero_c _) (by simp))
  go_upto_region 26 with (go_at_call 16; refine (unhide HSC).mono ?_; rintro e w8 ⟨rfl, hb8⟩; have HX_5 := hide (Below.next (unhide HX_4) hb8 (by first | exact Nat.le_refl _ | (have := unhide HBA; omega))); have Kp_5 := hide (keep_below (unhide Kp_4) hb8); have Ka_5 := hide (keep_below (unhide Ka_4) hb8); have Kf1_5 := hide (keep_below (unhide Kf1_4) hb8); have Kb_5 := hide (keep_below (unhide Kb_4) hb8); have Kf2_5 := hide (keep_below (unhide Kf2_4) hb8); have Kf3_5 := hide (keep_below (unhide Kf3_4) hb8); have Ku_5 := hide (keep_below (unhide Ku_4) hb8); have Kv_5 := hide (keep_below (unhide Kv_4) hb8); have Kl_5 := hide (keep_below (unhide Kl_4) hb8); have Oy_5 := hide ((unhide Oy_4).below hb8); have Cq_5 := hide (Below.next (unhide Cq_4) hb8 (unhide HXS)); clear HX_4 Kp_4 Ka_4 Kf1_4 Kb_4 Kf2_4 Kf3_4 Ku_4 Kv_4 Kl_4 Oy_4 Cq_4; clear hb8 HSC v0 v1 vf0 vf1 vl e0 e1 ef0 ef1 el a0 a1 a2 af0 af1 af2 al)
  exact sets_b_any w now next xs ys zs2 T0 T1 r Q0 Q1 n2 x2 is had n m m2 a0 c0 av2 cv2 al cl X2 TS TU TL (unhide HZ3) (unhide HZ4) (unhide HN) (unhide HM2) (unhide HM) (by rw [unhide HM]; omega) (unhide H0) _ (unhide HX_5) (unhide Kp_5) (unhide Kb_5) (unhide Kf2_5) (unhide Kf3_5) (unhide Ku_5) (unhide Kl_5) (unhide HL5 _ (unhide Cq_5)) (unhide Oy_5).isl ⟨by omega, by omega, by omega, by omega⟩ _ _ _ _ _ (by assumption) (by assumption) (by kernel_rfl)

set_option maxRecDepth 100000 in
set_option maxHeartbeats 4000000 in
theorem sets_a_x (w : World) (now next : Int) (xs ys zs2 : List Al) (T0 T1 r Q0 Q1 n2 x2 : Int) (is had : Bool) (n m m2 : Nat) (a0 : Option Addr) (c0 : Nat) (av2 : Option Addr) (cv2 : Nat) (id after period : Int) (av1 : Option Addr) (cv1 X1 X2 TS TU T : Nat) (U1 : Int) (hm5 : m ≠ 5000) (hx9 : next = 1000000000) (hNA : ∀ W, Below w.heap.size w W → Calls Try.prog 18 #[.agg #[.int .i64 now, .int .i64 next, .slice a0 n c0], .int .i64 id] W fun e w' => ∃ a c, e = .returned (.tuple #[.agg #[.int .i64 now, .int .i64 next, .slice a m c], .bool had]) ∧ Own KA W.heap.size w' (.slice a m c) ys ∧ Below W.heap.size W w') (hz3 : T0 ≠ 0 → n2 = 0 ∧ x2 = 0 ∧ zs2 = [] ∧ is = false ∧ r = 0 ∧ Q0 = T0 ∧ Q1 = T1) (hz4 : T0 = 0 → T1 = 0 ∧ Good now next xs ∧ n2 = now ∧ x2 = next ∧ zs2 = ys ∧ is = had ∧ (xs = [] → r = 0 ∧ Q0 = 6 ∧ Q1 = 0) ∧ (∀ x l, xs = x :: l → r = x.2.1 - now ∧ Q0 = 0 ∧ Q1 = 0)) (en : xs.length = n) (em2 : zs2.length = m2) (em : ys.length = m) (hm6 : m ≤ 6000) (h0 : 0 < n → ∃ b off, a0 = some ⟨b, off, none⟩ ∧ b < w.heap.size ∧ Lies KA w b off xs) (Wt : World) (hX : Below w.heap.size w Wt) (h_p : Wt.heap[w.heap.size]? = some (.cells #[.int .i64 now, .int .i64 next, .slice a0 n c0] 24)) (h_a : Wt.heap[X1]? = some (.cells #[.int .i64 0, .int .i64 0, .slice av1 0 cv1] 24)) (h_f1 : Wt.heap[X1 + 1]? = some (.cells #[.int .i64 9, .int .i64 0] 29)) (h_b : Wt.heap[X2]? = some (.cells #[.int .i64 n2, .int .i64 x2, .slice av2 m2 cv2] 24)) (h_f2 : Wt.heap[X2 + 1]? = some (.cells #[.int .i64 T0, .int .i64 T1] 29)) (h_f3 : Wt.heap[TS]? = some (.cells #[.int .i64 Q0, .int .i64 Q1] 29)) (h_u : Wt.heap[TU]? = some (.cells #[.int .i64 T0, .int .i64 T1] 29)) (h_v : Wt.heap[T]? = some (.cells #[.int .i64 0, .int .i64 U1] 29)) (hl4 : ∀ W, Below X2 Wt W → IsL KA W (.slice av1 0 cv1) []) (hl5 : ∀ W, Below X2 Wt W → IsL KA W (.slice av2 m2 cv2) zs2) (ho : w.heap.size < X1 ∧ X1 + 1 < X2 ∧ X2 + 1 < TS ∧ TS < TU ∧ TU < T)
    {s0 s5 s6 s7 s9 s10 s21 s22 s23 s24 s25 s26 s27 s28 s29 s30 s31 s32 s33 s34 s35 s36 s37 s38 s39 s40 s41 s42 s43 s44 s45 s46 s47 s48 s49 s50 s51 s52 s53 s54 s55 s56 s57 s58 s59 s60 s61 s62 s63 s64 s65 s66 s67 s68 s69 s70 s71 s72 s73 s74 s75 s76 s77 s78 s79 s80 s81 s82 s83 s84 s85 s86 s87 s88 s89 s90 s91 s92 s93 s94 s95 s96 s97 s98 s99 s100 s101 s102 s103 s104 s105 s106 s107 s108 s109 s110 s111 s112 s113 s114 s115 s116 s117 s118 s119 s120 s121 s122 s123 s124 s125 s126 s127 s128 s129 s130 s131 s132 s133 s134 s135 s136 s137 s138 s139 s140 s141 s142 s143 s144 s145 s146 s147 s148 s149 s150 s151 s152 s153 s154 s155 s156 s157 s158 s159 s160 s161 s162 s163 s164 s165 s166 s167 s168 s169 s170 s171 s172 s173 s174 s175 s176 s177 s178 s179 s180 s181 s182 s183 s184 s185 s186 s187 s188 s189 s190 s191 s192 s193 s194 s195 s196 s197 s198 s199 s200 s201 : Value} (K : Act → World → Prop) (x z : Code) (hK : ∀ a w', z.wp Try.prog (bodyPost Try.prog Try.f3 fun e w' => e = .returned (.bool true) ∧ Below w.heap.size w w') a w' → K a w') (hcut : Try.f3.body.bind (cutAt 16) = some (x, z)) :
    x.wp Try.prog (Exit.then K (bodyPost Try.prog Try.f3 fun e w' => e = .returned (.bool true) ∧ Below w.heap.size w w')) { tmps := (s0 :: .int .i64 id :: .int .i64 after :: .int .i64 period :: .pointer (some ⟨w.heap.size, 0, none⟩) :: s5 :: s6 :: s7 :: .bool false :: s9 :: s10 :: .pointer (some ⟨X1, 0, none⟩) :: .bool false :: .pointer (some ⟨X1 + 1, 0, none⟩) :: .pointer (some ⟨X2, 0, none⟩) :: .bool is :: .pointer (some ⟨X2 + 1, 0, none⟩) :: .int .i64 r :: .pointer (some ⟨TS, 0, none⟩) :: .pointer (some ⟨TU, 0, none⟩) :: .pointer (some ⟨T, 0, none⟩) :: s21 :: s22 :: s23 :: s24 :: s25 :: s26 :: s27 :: s28 :: s29 :: s30 :: s31 :: s32 :: s33 :: s34 :: s35 :: s36 :: s37 :: s38 :: s39 :: s40 :: s41 :: s42 :: s43 :: s44 :: s45 :: s46 :: s47 :: s48 :: s49 :: s50 :: s51 :: s52 :: s53 :: s54 :: s55 :: s56 :: s57 :: s58 :: s59 :: s60 :: s61 :: s62 :: s63 :: s64 :: s65 :: s66 :: s67 :: s68 :: s69 :: s70 :: s71 :: s72 :: s73 :: s74 :: s75 :: s76 :: s77 :: s78 :: s79 :: s80 :: s81 :: s82 :: s83 :: s84 :: s85 :: s86 :: s87 :: s88 :: s89 :: s90 :: s91 :: s92 :: s93 :: s94 :: s95 :: s96 :: s97 :: s98 :: s99 :: s100 :: s101 :: s102 :: s103 :: s104 :: s105 :: s106 :: s107 :: s108 :: s109 :: s110 :: s111 :: s112 :: s113 :: s114 :: s115 :: s116 :: s117 :: s118 :: s119 :: s120 :: s121 :: s122 :: s123 :: s124 :: s125 :: s126 :: s127 :: s128 :: s129 :: s130 :: s131 :: s132 :: s133 :: s134 :: s135 :: s136 :: s137 :: s138 :: s139 :: s140 :: s141 :: s142 :: s143 :: s144 :: s145 :: s146 :: s147 :: s148 :: s149 :: s150 :: s151 :: s152 :: s153 :: s154 :: s155 :: s156 :: s157 :: s158 :: s159 :: s160 :: s161 :: s162 :: s163 :: s164 :: s165 :: s166 :: s167 :: s168 :: s169 :: s170 :: s171 :: s172 :: s173 :: s174 :: s175 :: s176 :: s177 :: s178 :: s179 :: s180 :: s181 :: s182 :: s183 :: s184 :: s185 :: s186 :: s187 :: s188 :: s189 :: s190 :: s191 :: s192 :: s193 :: s194 :: s195 :: s196 :: s197 :: s198 :: s199 :: s200 :: s201 :: []).toArray, defers := [] } Wt := by
  have hcc : Try.f3.body.bind (cutAt 16) = some (_, _) := rfl
  rw [hcc] at hcut
  cases hcut
  clear hcc
  obtain ⟨ho1, ho2, ho3, ho4, ho5⟩ := ho
  have hvs : T < Wt.heap.size := size_of h_v
  have HXS : Hid (X2 ≤ Wt.heap.size) := by show X2 ≤ _; omega
  have HX := hide hX; have HNA := hide hNA; have HZ3 := hide hz3; have HZ4 := hide hz4; have HN := hide en; have HM2 := hide em2; have HM := hide em; have HL4 := hide hl4; have HL5 := hide hl5; have H0 := hide h0
  have HCQ : Hid (Below X2 Wt Wt) := Below.refl _ _
  clear hX hNA hz3 hz4 en em2 em hl4 hl5 h0
  have H_p := hide h_p; have H_a := hide h_a; have H_f1 := hide h_f1; have H_b := hide h_b; have H_f2 := hide h_f2; have H_f3 := hide h_f3; have H_u := hide h_u; have H_v := hide h_v
  clear h_p h_a h_f1 h_b h_f2 h_f3 h_u h_v
  have xm : ((m : Int) == 5000) = false := by rw [beq_eq_false_iff_ne]; omega
  clear hm5
  have x9 : (next == 1000000000) = true := by simpa using hx9
  clear hx9
  have xq : ∀ b : Int, (b == b) = true := fun b => by simp
  obtain ⟨⟨p0, p1, p2⟩, ⟨pf0, pf1, pf2⟩, pl⟩ := block3 (unhide H_p)
  go_upto_region 17 with (go_at_call 18; refine (unhide HNA _ (unhide HX)).mono ?_; rintro e wl ⟨al, cl, rfl, hol, hbl⟩; have HOL := hide (hol.base (unhide HX).size); have HX_1 := hide (Below.next (unhide HX) hbl (by first | exact Nat.le_refl _ | (have := unhide HBA; omega))); have Kp_1 := hide (keep_below (unhide H_p) hbl); have Ka_1 := hide (keep_below (unhide H_a) hbl); have Kf1_1 := hide (keep_below (unhide H_f1) hbl); have Kb_1 := hide (keep_below (unhide H_b) hbl); have Kf2_1 := hide (keep_below (unhide H_f2) hbl); have Kf3_1 := hide (keep_below (unhide H_f3) hbl); have Ku_1 := hide (keep_below (unhide H_u) hbl); have Kv_1 := hide (keep_below (unhide H_v) hbl); have Cq_1 := hide (Below.next (unhide HCQ) hbl (unhide HXS)); clear HX H_p H_a H_f1 H_b H_f2 H_f3 H_u H_v HCQ; clear hol hbl HNA p0 p1 p2 pf0 pf1 pf2 pl)
  have HX_2 := hide ((unhide HX_1).alloc (Nat.le_trans (show w.heap.size ≤ w.heap.size from Nat.le_refl _) (unhide HX_1).size) (.cells #[.int .i64 now, .int .i64 next, .slice al m cl] 24))
  have Kp_2 := hide (keep_alloc (unhide Kp_1) (.cells #[.int .i64 now, .int .i64 next, .slice al m cl] 24))
  have Ka_2 := hide (keep_alloc (unhide Ka_1) (.cells #[.int .i64 now, .int .i64 next, .slice al m cl] 24))
  have Kf1_2 := hide (keep_alloc (unhide Kf1_1) (.cells #[.int .i64 now, .int .i64 next, .slice al m cl] 24))
  have Kb_2 := hide (keep_alloc (unhide Kb_1) (.cells #[.int .i64 now, .int .i64 next, .slice al m cl] 24))
  have Kf2_2 := hide (keep_alloc (unhide Kf2_1) (.cells #[.int .i64 now, .int .i64 next, .slice al m cl] 24))
  have Kf3_2 := hide (keep_alloc (unhide Kf3_1) (.cells #[.int .i64 now, .int .i64 next, .slice al m cl] 24))
  have Ku_2 := hide (keep_alloc (unhide Ku_1) (.cells #[.int .i64 now, .int .i64 next, .slice al m cl] 24))
  have Kv_2 := hide (keep_alloc (unhide Kv_1) (.cells #[.int .i64 now, .int .i64 next, .slice al m cl] 24))
  have Oy_2 := hide ((unhide HOL).below ((Below.refl _ _).alloc (Nat.le_refl _) (.cells #[.int .i64 now, .int .i64 next, .slice al m cl] 24)))
  have Cq_2 := hide ((unhide Cq_1).alloc (Nat.le_trans (unhide HXS) (unhide Cq_1).size) (.cells #[.int .i64 now, .int .i64 next, .slice al m cl] 24))
  have Kl_2 := hide (new_block wl (.cells #[.int .i64 now, .int .i64 next, .slice al m cl] 24))
  have hlp_l : w.heap.size < wl.heap.size := size_of (unhide Kp_1)
  have hla_l : X1 < wl.heap.size := size_of (unhide Ka_1)
  have hlf1_l : X1 + 1 < wl.heap.size := size_of (unhide Kf1_1)
  have hlb_l : X2 < wl.heap.size := size_of (unhide Kb_1)
  have hlf2_l : X2 + 1 < wl.heap.size := size_of (unhide Kf2_1)
  have hlf3_l : TS < wl.heap.size := size_of (unhide Kf3_1)
  have hlu_l : TU < wl.heap.size := size_of (unhide Ku_1)
  have hlv_l : T < wl.heap.size := size_of (unhide Kv_1)
  obtain ⟨TL, eTL⟩ : ∃ X, wl.heap.size = X := ⟨_, rfl⟩
  obtain ⟨W9, eW9⟩ : ∃ X, wl.alloc (.cells #[.int .i64 now, .int .i64 next, .slice al m cl] 24) = X := ⟨_, rfl⟩
  rw [eTL, eW9] at Kl_2; rw [eW9] at HX_2 Kp_2 Ka_2 Kf1_2 Kb_2 Kf2_2 Kf3_2 Ku_2 Kv_2 Oy_2 Cq_2; rw [eTL] at hlp_l hla_l hlf1_l hlb_l hlf2_l hlf3_l hlu_l hlv_l; rw [eTL, eW9]
  clear eTL eW9 HX_1 Kp_1 Ka_1 Kf1_1 Kb_1 Kf2_1 Kf3_1 Ku_1 Kv_1 HOL Cq_1
  obtain ⟨v0, v1, vf0, vf1, vl⟩ := block2 (unhide Kv_2)
  obtain ⟨⟨l0, l1, l2⟩, ⟨lf0, lf1, lf2⟩, ll⟩ := block3 (unhide Kl_2)
  obtain ⟨⟨p0, p1, p2⟩, ⟨pf0, pf1, pf2⟩, pl⟩ := block3 (unhide Kp_2)
  go_upto_region 19 with (go_at_call 17; refine (f_any _ _ _).mono ?_; rintro e w7 ⟨rfl, hb7⟩; have HX_3 := hide (Below.next (unhide HX_2) hb7 (by first | exact Nat.le_refl _ | (have := unhide HBA; omega))); have Kp_3 := hide (keep_below (unhide Kp_2) hb7); have Ka_3 := hide (keep_below (unhide Ka_2) hb7); have Kf1_3 := hide (keep_below (unhide Kf1_2) hb7); have Kb_3 := hide (keep_below (unhide Kb_2) hb7); have Kf2_3 := hide (keep_below (unhide Kf2_2) hb7); have Kf3_3 := hide (keep_below (unhide Kf3_2) hb7); have Ku_3 := hide (keep_below (unhide Ku_2) hb7); have Kv_3 := hide (keep_below (unhide Kv_2) hb7); have Kl_3 := hide (keep_below (unhide Kl_2) hb7); have Oy_3 := hide ((unhide Oy_2).below hb7); have Cq_3 := hide (Below.next (unhide Cq_2) hb7 (unhide HXS)); clear HX_2 Kp_2 Ka_2 Kf1_2 Kb_2 Kf2_2 Kf3_2 Ku_2 Kv_2 Kl_2 Oy_2 Cq_2; clear hb7 v0 v1 vf0 vf1 vl l0 l1 l2 lf0 lf1 lf2 ll p0 p1 p2 pf0 pf1 pf2 pl; obtain ⟨v0, v1, vf0, vf1, vl⟩ := block2 (unhide Kv_3))
  clear v0 v1 vf0 vf1 vl
  have HX_4 := hide (put2_below (y0 := .int .i64 9) (y1 := .int .i64 0) (unhide HX_3) (show w.heap.size ≤ T by first | omega | (have := unhide HBA; omega)))
  have Kp_4 := hide ((put2_keep (y0 := .int .i64 9) (y1 := .int .i64 0) (show w.heap.size ≠ T by omega)).trans (unhide Kp_3))
  have Ka_4 := hide ((put2_keep (y0 := .int .i64 9) (y1 := .int .i64 0) (show X1 ≠ T by omega)).trans (unhide Ka_3))
  have Kf1_4 := hide ((put2_keep (y0 := .int .i64 9) (y1 := .int .i64 0) (show X1 + 1 ≠ T by omega)).trans (unhide Kf1_3))
  have Kb_4 := hide ((put2_keep (y0 := .int .i64 9) (y1 := .int .i64 0) (show X2 ≠ T by omega)).trans (unhide Kb_3))
  have Kf2_4 := hide ((put2_keep (y0 := .int .i64 9) (y1 := .int .i64 0) (show X2 + 1 ≠ T by omega)).trans (unhide Kf2_3))
  have Kf3_4 := hide ((put2_keep (y0 := .int .i64 9) (y1 := .int .i64 0) (show TS ≠ T by omega)).trans (unhide Kf3_3))
  have Ku_4 := hide ((put2_keep (y0 := .int .i64 9) (y1 := .int .i64 0) (show TU ≠ T by omega)).trans (unhide Ku_3))
  have Kv_4 := hide (put2_new (y0 := .int .i64 9) (y1 := .int .i64 0) (unhide Kv_3))
  have Kl_4 := hide ((put2_keep (y0 := .int .i64 9) (y1 := .int .i64 0) (show TL ≠ T by omega)).trans (unhide Kl_3))
  have Oy_4 := hide ((unhide Oy_3).keep (fun k hk => put2_keep (y0 := .int .i64 9) (y1 := .int .i64 0) (Own.ne (unhide Oy_3) (unhide Kv_3) (by decide) k hk)))
  have Cq_4 := hide (put2_below (y0 := .int .i64 9) (y1 := .int .i64 0) (unhide Cq_3) (show _ ≤ T by omega))
  obtain ⟨W10, eW10⟩ : ∃ X, put2 w7 (T) (.int .i64 9) (.int .i64 0) = X := ⟨_, rfl⟩
  rw [eW10] at HX_4 Kp_4 Ka_4 Kf1_4 Kb_4 Kf2_4 Kf3_4 Ku_4 Kv_4 Kl_4 Oy_4 Cq_4
  have eW102 : ((w7).setCell ⟨T, 0, none⟩ (.int .i64 9)).setCell ⟨T, 1, none⟩ (.int .i64 0) = W10 := eW10
  rw [eW102]
  clear eW10 eW102 HX_3 Kp_3 Ka_3 Kf1_3 Kb_3 Kf2_3 Kf3_3 Ku_3 Kv_3 Kl_3 Oy_3 Cq_3
  obtain ⟨v0, v1, vf0, vf1, vl⟩ := block2 (unhide Kv_4)
  obtain ⟨e0, e1, ef0, ef1, el⟩ := block2 (unhide Kf1_4)
  obtain ⟨⟨a0, a1, a2⟩, ⟨af0, af1, af2⟩, al⟩ := block3 (unhide Ka_4)
  have HSC := hide (sameClock_same W10 (.agg #[.int .i64 0, .int .i64 0, .slice av1 0 cv1]) (.agg #[.int .i64 0, .int .i64 0, .slice none 0 0]) 0 0 [] ⟨_, rfl, unhide HL4 _ (unhide Cq_4)⟩ (zero_c _) (by simp))
  go_upto_region 26 with (go_at_call 16; refine (unhide HSC).mono ?_; rintro e w8 ⟨rfl, hb8⟩; have HX_5 := hide (Below.next (unhide HX_4) hb8 (by first | exact Nat.le_refl _ | (have := unhide HBA; omega))); have Kp_5 := hide (keep_below (unhide Kp_4) hb8); have Ka_5 := hide (keep_below (unhide Ka_4) hb8); have Kf1_5 := hide (keep_below (unhide Kf1_4) hb8); have Kb_5 := hide (keep_below (unhide Kb_4) hb8); have Kf2_5 := hide (keep_below (unhide Kf2_4) hb8); have Kf3_5 := hide (keep_below (unhide Kf3_4) hb8); have Ku_5 := hide (keep_below (unhide Ku_4) hb8); have Kv_5 := hide (keep_below (unhide Kv_4) hb8); have Kl_5 := hide (keep_below (unhide Kl_4) hb8); have Oy_5 := hide ((unhide Oy_4).below hb8); have Cq_5 := hide (Below.next (unhide Cq_4) hb8 (unhide HXS)); clear HX_4 Kp_4 Ka_4 Kf1_4 Kb_4 Kf2_4 Kf3_4 Ku_4 Kv_4 Kl_4 Oy_4 Cq_4; clear hb8 HSC v0 v1 vf0 vf1 vl e0 e1 ef0 ef1 el a0 a1 a2 af0 af1 af2 al)
  exact sets_b_any w now next xs ys zs2 T0 T1 r Q0 Q1 n2 x2 is had n m m2 a0 c0 av2 cv2 al cl X2 TS TU TL (unhide HZ3) (unhide HZ4) (unhide HN) (unhide HM2) (unhide HM) (by rw [unhide HM]; omega) (unhide H0) _ (unhide HX_5) (unhide Kp_5) (unhide Kb_5) (unhide Kf2_5) (unhide Kf3_5) (unhide Ku_5) (unhide Kl_5) (unhide HL5 _ (unhide Cq_5)) (unhide Oy_5).isl ⟨by omega, by omega, by omega, by omega⟩ _ _ _ _ _ (by assumption) (by assumption) (by kernel_rfl)

set_option maxRecDepth 100000 in
set_option maxHeartbeats 4000000 in
theorem sets_a_ok (w : World) (now next : Int) (xs ys zs2 : List Al) (T0 T1 r Q0 Q1 n2 x2 : Int) (is had : Bool) (n m m2 : Nat) (a0 : Option Addr) (c0 : Nat) (av2 : Option Addr) (cv2 : Nat) (id after period : Int) (av1 : Option Addr) (cv1 X1 X2 TS TU T : Nat) (U1 : Int) (hm5 : m ≠ 5000) (hx9 : next ≠ 1000000000) (hgood : Good now next xs) (ha1 : 1 ≤ after) (ha2 : after ≤ 1000000000) (zs1 : List Al) (hz1 : zs1 = insL (id, now + after, period, next) ys) (hNA : ∀ W, Below w.heap.size w W → Calls Try.prog 18 #[.agg #[.int .i64 now, .int .i64 next, .slice a0 n c0], .int .i64 id] W fun e w' => ∃ a c, e = .returned (.tuple #[.agg #[.int .i64 now, .int .i64 next, .slice a m c], .bool had]) ∧ Own KA W.heap.size w' (.slice a m c) ys ∧ Below W.heap.size W w') (hz3 : T0 ≠ 0 → n2 = 0 ∧ x2 = 0 ∧ zs2 = [] ∧ is = false ∧ r = 0 ∧ Q0 = T0 ∧ Q1 = T1) (hz4 : T0 = 0 → T1 = 0 ∧ Good now next xs ∧ n2 = now ∧ x2 = next ∧ zs2 = ys ∧ is = had ∧ (xs = [] → r = 0 ∧ Q0 = 6 ∧ Q1 = 0) ∧ (∀ x l, xs = x :: l → r = x.2.1 - now ∧ Q0 = 0 ∧ Q1 = 0)) (en : xs.length = n) (em2 : zs2.length = m2) (em : ys.length = m) (hm6 : m ≤ 6000) (h0 : 0 < n → ∃ b off, a0 = some ⟨b, off, none⟩ ∧ b < w.heap.size ∧ Lies KA w b off xs) (Wt : World) (hX : Below w.heap.size w Wt) (h_p : Wt.heap[w.heap.size]? = some (.cells #[.int .i64 now, .int .i64 next, .slice a0 n c0] 24)) (h_a : Wt.heap[X1]? = some (.cells #[.int .i64 now, .int .i64 (next + 1), .slice av1 (m + 1) cv1] 24)) (h_f1 : Wt.heap[X1 + 1]? = some (.cells #[.int .i64 0, .int .i64 U1] 29)) (h_b : Wt.heap[X2]? = some (.cells #[.int .i64 n2, .int .i64 x2, .slice av2 m2 cv2] 24)) (h_f2 : Wt.heap[X2 + 1]? = some (.cells #[.int .i64 T0, .int .i64 T1] 29)) (h_f3 : Wt.heap[TS]? = some (.cells #[.int .i64 Q0, .int .i64 Q1] 29)) (h_u : Wt.heap[TU]? = some (.cells #[.int .i64 T0, .int .i64 T1] 29)) (h_v : Wt.heap[T]? = some (.cells #[.int .i64 0, .int .i64 U1] 29)) (hl4 : ∀ W, Below X2 Wt W → IsL KA W (.slice av1 (m + 1) cv1) zs1) (hl5 : ∀ W, Below X2 Wt W → IsL KA W (.slice av2 m2 cv2) zs2) (ho : w.heap.size < X1 ∧ X1 + 1 < X2 ∧ X2 + 1 < TS ∧ TS < TU ∧ TU < T)
    {s0 s5 s6 s7 s9 s10 s21 s22 s23 s24 s25 s26 s27 s28 s29 s30 s31 s32 s33 s34 s35 s36 s37 s38 s39 s40 s41 s42 s43 s44 s45 s46 s47 s48 s49 s50 s51 s52 s53 s54 s55 s56 s57 s58 s59 s60 s61 s62 s63 s64 s65 s66 s67 s68 s69 s70 s71 s72 s73 s74 s75 s76 s77 s78 s79 s80 s81 s82 s83 s84 s85 s86 s87 s88 s89 s90 s91 s92 s93 s94 s95 s96 s97 s98 s99 s100 s101 s102 s103 s104 s105 s106 s107 s108 s109 s110 s111 s112 s113 s114 s115 s116 s117 s118 s119 s120 s121 s122 s123 s124 s125 s126 s127 s128 s129 s130 s131 s132 s133 s134 s135 s136 s137 s138 s139 s140 s141 s142 s143 s144 s145 s146 s147 s148 s149 s150 s151 s152 s153 s154 s155 s156 s157 s158 s159 s160 s161 s162 s163 s164 s165 s166 s167 s168 s169 s170 s171 s172 s173 s174 s175 s176 s177 s178 s179 s180 s181 s182 s183 s184 s185 s186 s187 s188 s189 s190 s191 s192 s193 s194 s195 s196 s197 s198 s199 s200 s201 : Value} (K : Act → World → Prop) (x z : Code) (hK : ∀ a w', z.wp Try.prog (bodyPost Try.prog Try.f3 fun e w' => e = .returned (.bool true) ∧ Below w.heap.size w w') a w' → K a w') (hcut : Try.f3.body.bind (cutAt 16) = some (x, z)) :
    x.wp Try.prog (Exit.then K (bodyPost Try.prog Try.f3 fun e w' => e = .returned (.bool true) ∧ Below w.heap.size w w')) { tmps := (s0 :: .int .i64 id :: .int .i64 after :: .int .i64 period :: .pointer (some ⟨w.heap.size, 0, none⟩) :: s5 :: s6 :: s7 :: .bool false :: s9 :: s10 :: .pointer (some ⟨X1, 0, none⟩) :: .bool had :: .pointer (some ⟨X1 + 1, 0, none⟩) :: .pointer (some ⟨X2, 0, none⟩) :: .bool is :: .pointer (some ⟨X2 + 1, 0, none⟩) :: .int .i64 r :: .pointer (some ⟨TS, 0, none⟩) :: .pointer (some ⟨TU, 0, none⟩) :: .pointer (some ⟨T, 0, none⟩) :: s21 :: s22 :: s23 :: s24 :: s25 :: s26 :: s27 :: s28 :: s29 :: s30 :: s31 :: s32 :: s33 :: s34 :: s35 :: s36 :: s37 :: s38 :: s39 :: s40 :: s41 :: s42 :: s43 :: s44 :: s45 :: s46 :: s47 :: s48 :: s49 :: s50 :: s51 :: s52 :: s53 :: s54 :: s55 :: s56 :: s57 :: s58 :: s59 :: s60 :: s61 :: s62 :: s63 :: s64 :: s65 :: s66 :: s67 :: s68 :: s69 :: s70 :: s71 :: s72 :: s73 :: s74 :: s75 :: s76 :: s77 :: s78 :: s79 :: s80 :: s81 :: s82 :: s83 :: s84 :: s85 :: s86 :: s87 :: s88 :: s89 :: s90 :: s91 :: s92 :: s93 :: s94 :: s95 :: s96 :: s97 :: s98 :: s99 :: s100 :: s101 :: s102 :: s103 :: s104 :: s105 :: s106 :: s107 :: s108 :: s109 :: s110 :: s111 :: s112 :: s113 :: s114 :: s115 :: s116 :: s117 :: s118 :: s119 :: s120 :: s121 :: s122 :: s123 :: s124 :: s125 :: s126 :: s127 :: s128 :: s129 :: s130 :: s131 :: s132 :: s133 :: s134 :: s135 :: s136 :: s137 :: s138 :: s139 :: s140 :: s141 :: s142 :: s143 :: s144 :: s145 :: s146 :: s147 :: s148 :: s149 :: s150 :: s151 :: s152 :: s153 :: s154 :: s155 :: s156 :: s157 :: s158 :: s159 :: s160 :: s161 :: s162 :: s163 :: s164 :: s165 :: s166 :: s167 :: s168 :: s169 :: s170 :: s171 :: s172 :: s173 :: s174 :: s175 :: s176 :: s177 :: s178 :: s179 :: s180 :: s181 :: s182 :: s183 :: s184 :: s185 :: s186 :: s187 :: s188 :: s189 :: s190 :: s191 :: s192 :: s193 :: s194 :: s195 :: s196 :: s197 :: s198 :: s199 :: s200 :: s201 :: []).toArray, defers := [] } Wt := by
  have hcc : Try.f3.body.bind (cutAt 16) = some (_, _) := rfl
  rw [hcc] at hcut
  cases hcut
  clear hcc
  obtain ⟨ho1, ho2, ho3, ho4, ho5⟩ := ho
  have hvs : T < Wt.heap.size := size_of h_v
  have HXS : Hid (X2 ≤ Wt.heap.size) := by show X2 ≤ _; omega
  have HX := hide hX; have HNA := hide hNA; have HZ3 := hide hz3; have HZ4 := hide hz4; have HN := hide en; have HM2 := hide em2; have HM := hide em; have HL4 := hide hl4; have HL5 := hide hl5; have H0 := hide h0
  have HCQ : Hid (Below X2 Wt Wt) := Below.refl _ _
  clear hX hNA hz3 hz4 en em2 em hl4 hl5 h0
  have H_p := hide h_p; have H_a := hide h_a; have H_f1 := hide h_f1; have H_b := hide h_b; have H_f2 := hide h_f2; have H_f3 := hide h_f3; have H_u := hide h_u; have H_v := hide h_v
  clear h_p h_a h_f1 h_b h_f2 h_f3 h_u h_v
  have xm : ((m : Int) == 5000) = false := by rw [beq_eq_false_iff_ne]; omega
  clear hm5
  have x9 : (next == 1000000000) = false := by simpa using hx9
  clear hx9
  have xq : ∀ b : Int, (b == b) = true := fun b => by simp
  obtain ⟨⟨p0, p1, p2⟩, ⟨pf0, pf1, pf2⟩, pl⟩ := block3 (unhide H_p)
  go_upto_region 17 with (go_at_call 18; refine (unhide HNA _ (unhide HX)).mono ?_; rintro e wl ⟨al, cl, rfl, hol, hbl⟩; have HOL := hide (hol.base (unhide HX).size); have HX_1 := hide (Below.next (unhide HX) hbl (by first | exact Nat.le_refl _ | (have := unhide HBA; omega))); have Kp_1 := hide (keep_below (unhide H_p) hbl); have Ka_1 := hide (keep_below (unhide H_a) hbl); have Kf1_1 := hide (keep_below (unhide H_f1) hbl); have Kb_1 := hide (keep_below (unhide H_b) hbl); have Kf2_1 := hide (keep_below (unhide H_f2) hbl); have Kf3_1 := hide (keep_below (unhide H_f3) hbl); have Ku_1 := hide (keep_below (unhide H_u) hbl); have Kv_1 := hide (keep_below (unhide H_v) hbl); have Cq_1 := hide (Below.next (unhide HCQ) hbl (unhide HXS)); clear HX H_p H_a H_f1 H_b H_f2 H_f3 H_u H_v HCQ; clear hol hbl HNA p0 p1 p2 pf0 pf1 pf2 pl)
  have HX_2 := hide ((unhide HX_1).alloc (Nat.le_trans (show w.heap.size ≤ w.heap.size from Nat.le_refl _) (unhide HX_1).size) (.cells #[.int .i64 now, .int .i64 next, .slice al m cl] 24))
  have Kp_2 := hide (keep_alloc (unhide Kp_1) (.cells #[.int .i64 now, .int .i64 next, .slice al m cl] 24))
  have Ka_2 := hide (keep_alloc (unhide Ka_1) (.cells #[.int .i64 now, .int .i64 next, .slice al m cl] 24))
  have Kf1_2 := hide (keep_alloc (unhide Kf1_1) (.cells #[.int .i64 now, .int .i64 next, .slice al m cl] 24))
  have Kb_2 := hide (keep_alloc (unhide Kb_1) (.cells #[.int .i64 now, .int .i64 next, .slice al m cl] 24))
  have Kf2_2 := hide (keep_alloc (unhide Kf2_1) (.cells #[.int .i64 now, .int .i64 next, .slice al m cl] 24))
  have Kf3_2 := hide (keep_alloc (unhide Kf3_1) (.cells #[.int .i64 now, .int .i64 next, .slice al m cl] 24))
  have Ku_2 := hide (keep_alloc (unhide Ku_1) (.cells #[.int .i64 now, .int .i64 next, .slice al m cl] 24))
  have Kv_2 := hide (keep_alloc (unhide Kv_1) (.cells #[.int .i64 now, .int .i64 next, .slice al m cl] 24))
  have Oy_2 := hide ((unhide HOL).below ((Below.refl _ _).alloc (Nat.le_refl _) (.cells #[.int .i64 now, .int .i64 next, .slice al m cl] 24)))
  have Cq_2 := hide ((unhide Cq_1).alloc (Nat.le_trans (unhide HXS) (unhide Cq_1).size) (.cells #[.int .i64 now, .int .i64 next, .slice al m cl] 24))
  have Kl_2 := hide (new_block wl (.cells #[.int .i64 now, .int .i64 next, .slice al m cl] 24))
  have hlp_l : w.heap.size < wl.heap.size := size_of (unhide Kp_1)
  have hla_l : X1 < wl.heap.size := size_of (unhide Ka_1)
  have hlf1_l : X1 + 1 < wl.heap.size := size_of (unhide Kf1_1)
  have hlb_l : X2 < wl.heap.size := size_of (unhide Kb_1)
  have hlf2_l : X2 + 1 < wl.heap.size := size_of (unhide Kf2_1)
  have hlf3_l : TS < wl.heap.size := size_of (unhide Kf3_1)
  have hlu_l : TU < wl.heap.size := size_of (unhide Ku_1)
  have hlv_l : T < wl.heap.size := size_of (unhide Kv_1)
  obtain ⟨TL, eTL⟩ : ∃ X, wl.heap.size = X := ⟨_, rfl⟩
  obtain ⟨W9, eW9⟩ : ∃ X, wl.alloc (.cells #[.int .i64 now, .int .i64 next, .slice al m cl] 24) = X := ⟨_, rfl⟩
  rw [eTL, eW9] at Kl_2; rw [eW9] at HX_2 Kp_2 Ka_2 Kf1_2 Kb_2 Kf2_2 Kf3_2 Ku_2 Kv_2 Oy_2 Cq_2; rw [eTL] at hlp_l hla_l hlf1_l hlb_l hlf2_l hlf3_l hlu_l hlv_l; rw [eTL, eW9]
  clear eTL eW9 HX_1 Kp_1 Ka_1 Kf1_1 Kb_1 Kf2_1 Kf3_1 Ku_1 Kv_1 HOL Cq_1
  obtain ⟨v0, v1, vf0, vf1, vl⟩ := block2 (unhide Kv_2)
  obtain ⟨⟨l0, l1, l2⟩, ⟨lf0, lf1, lf2⟩, ll⟩ := block3 (unhide Kl_2)
  obtain ⟨⟨p0, p1, p2⟩, ⟨pf0, pf1, pf2⟩, pl⟩ := block3 (unhide Kp_2)
  go_upto_region 19 with fail
  clear l0 l1 l2 lf0 lf1 lf2 ll p0 p1 p2 pf0 pf1 pf2 pl
  obtain ⟨e0, e1, ef0, ef1, el⟩ := block2 (unhide Kf1_2)
  go_upto_region 24 with fail
  clear v0 v1 vf0 vf1 vl e0 e1 ef0 ef1 el
  have gn0 := hgood.n0; have gn1 := hgood.n1; have gn2 := hgood.n2; have gn3 := hgood.n3
  have HZZ := hide hz1
  obtain ⟨wh, ewh⟩ : ∃ wh, now + after = wh := ⟨_, rfl⟩
  have hwh : IntKind.i64.wrap (now + after) = wh := (wrapi (by omega) (by omega)).trans ewh
  rw [ewh] at HZZ
  have xh : (had != had) = false := by cases had <;> rfl
  have xh2 : (had == had) = true := by cases had <;> rfl
  clear hz1 hgood ewh ha1 ha2
  have HSS : Hid (∀ W, Below W9.heap.size W9 W → (W.cell? ⟨X1, 0, none⟩ = some (.int .i64 now) ∧ W.cell? ⟨X1, 1, none⟩ = some (.int .i64 (next + 1)) ∧ W.cell? ⟨X1, 2, none⟩ = some (.slice av1 (m + 1) cv1)) ∧ (W.cell? ⟨TL, 0, none⟩ = some (.int .i64 now) ∧ W.cell? ⟨TL, 1, none⟩ = some (.int .i64 next) ∧ W.cell? ⟨TL, 2, none⟩ = some (.slice al m cl)) ∧ W.cell? ⟨w.heap.size, 0, none⟩ = some (.int .i64 now) ∧ Below W9.heap.size W9 W) := fun W hW => ⟨(block3 (keep_below (unhide Ka_2) hW)).1, (block3 (keep_below (unhide Kl_2) hW)).1, (block3 (keep_below (unhide Kp_2) hW)).1.1, hW⟩
  have HWA : Hid (∀ W, Below W9.heap.size W9 W → Calls Try.prog 19 #[.agg #[.int .i64 now, .int .i64 next, .slice al m cl], .agg #[.int .i64 id, .int .i64 wh, .int .i64 period, .int .i64 0]] W fun e w' => ∃ a c, e = .returned (.agg #[.int .i64 now, .int .i64 (next + 1), .slice a (m + 1) c]) ∧ IsL KA w' (.slice a (m + 1) c) zs1 ∧ Below W.heap.size W w') := fun W hW => by
    have := withAlarm_any W (.agg #[.int .i64 now, .int .i64 next, .slice al m cl]) now next ys id wh period 0 ⟨_, rfl, ((unhide Oy_2).below hW).isl⟩ (by rw [unhide HM]; omega) gn2 gn3
    rw [unhide HM, ← unhide HZZ] at this
    exact this.mono fun e w' ⟨a, c, h1, h2, h3⟩ => ⟨a, c, h1, h2.isl, h3⟩
  have HSC : Hid (∀ W a c, Below W9.heap.size W9 W → IsL KA W (.slice a (m + 1) c) zs1 → Calls Try.prog 16 #[.agg #[.int .i64 now, .int .i64 (next + 1), .slice av1 (m + 1) cv1], .agg #[.int .i64 now, .int .i64 (next + 1), .slice a (m + 1) c]] W fun e w' => e = .returned (.bool true) ∧ Below W.heap.size W w') := fun W a c hW hl => sameClock_same W _ _ now (next + 1) zs1 ⟨_, rfl, unhide HL4 _ (Below.next (unhide Cq_2) hW (unhide HXS))⟩ ⟨_, rfl, hl⟩ (by have := hl.len; omega)
  obtain ⟨⟨a0', a1', a2'⟩, ⟨l0', l1', l2'⟩, p0', -⟩ := unhide HSS _ (Below.refl _ _)
  go_wp2_with fail
  go_region_held3 (fun W => (W.cell? ⟨X1, 0, none⟩ = some (.int .i64 now) ∧ W.cell? ⟨X1, 1, none⟩ = some (.int .i64 (next + 1)) ∧ W.cell? ⟨X1, 2, none⟩ = some (.slice av1 (m + 1) cv1)) ∧ (W.cell? ⟨TL, 0, none⟩ = some (.int .i64 now) ∧ W.cell? ⟨TL, 1, none⟩ = some (.int .i64 next) ∧ W.cell? ⟨TL, 2, none⟩ = some (.slice al m cl)) ∧ W.cell? ⟨w.heap.size, 0, none⟩ = some (.int .i64 now) ∧ Below W9.heap.size W9 W)
    (first | with_reducible exact unhide HSS _ (Below.refl _ _).drew | with_reducible exact unhide HSS _ (unhide HY7) | with_reducible exact unhide HSS _ (unhide HY8))
    (first | (go_at_call 19; refine (unhide HWA _ (by go_split_ands; assumption)).mono ?_; rintro e w7c ⟨a7, c7, rfl, hl7, hb7⟩; have HY7 : Hid (Below W9.heap.size W9 w7c) := Below.next (by go_split_ands; assumption) hb7 (Nat.le_refl _); have HL7 := hide hl7; clear hb7 hl7) | (go_at_call 16; refine (unhide HSC _ a7 c7 (unhide HY7) (unhide HL7)).mono ?_; rintro e w8c ⟨rfl, hb8⟩; have HY8 : Hid (Below W9.heap.size W9 w8c) := Below.next (unhide HY7) hb8 (Nat.le_refl _); clear hb8))
  all_goals
    clear a0' a1' a2' l0' l1' l2' p0' HSS HWA HSC
    (have HX_3 := hide (Below.next (unhide HX_2) (unhide HY8) (by first | exact Nat.le_refl _ | (have := unhide HBA; omega))); have Kp_3 := hide (keep_below (unhide Kp_2) (unhide HY8)); have Ka_3 := hide (keep_below (unhide Ka_2) (unhide HY8)); have Kf1_3 := hide (keep_below (unhide Kf1_2) (unhide HY8)); have Kb_3 := hide (keep_below (unhide Kb_2) (unhide HY8)); have Kf2_3 := hide (keep_below (unhide Kf2_2) (unhide HY8)); have Kf3_3 := hide (keep_below (unhide Kf3_2) (unhide HY8)); have Ku_3 := hide (keep_below (unhide Ku_2) (unhide HY8)); have Kv_3 := hide (keep_below (unhide Kv_2) (unhide HY8)); have Kl_3 := hide (keep_below (unhide Kl_2) (unhide HY8)); have Oy_3 := hide ((unhide Oy_2).below (unhide HY8)); have Cq_3 := hide (Below.next (unhide Cq_2) (unhide HY8) (unhide HXS)); clear HX_2 Kp_2 Ka_2 Kf1_2 Kb_2 Kf2_2 Kf3_2 Ku_2 Kv_2 Kl_2 Oy_2 Cq_2)
    clear HY7 HY8 HL7
    go_upto_region 26 with fail
    exact sets_b_any w now next xs ys zs2 T0 T1 r Q0 Q1 n2 x2 is had n m m2 a0 c0 av2 cv2 al cl X2 TS TU TL (unhide HZ3) (unhide HZ4) (unhide HN) (unhide HM2) (unhide HM) (by rw [unhide HM]; omega) (unhide H0) _ (unhide HX_3) (unhide Kp_3) (unhide Kb_3) (unhide Kf2_3) (unhide Kf3_3) (unhide Ku_3) (unhide Kl_3) (unhide HL5 _ (unhide Cq_3)) (unhide Oy_3).isl ⟨by omega, by omega, by omega, by omega⟩ _ _ _ _ _ (by assumption) (by assumption) (by kernel_rfl)

end Go.Proofs.Ytidpmcanfedbdaa
