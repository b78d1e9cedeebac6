/-
  taskmilllaw.ClockSets, from what is told of Stop on.
-/
import Derived.Test.YtidpmcanfedbdaaSv
namespace Go.Proofs.Ytidpmcanfedbdaa
open Go.RowKit

set_option maxRecDepth 100000 in
set_option maxHeartbeats 4000000 in
theorem sets_b_bad (w : World) (now next : Int) (had : Bool) (_ys : List Al) (n : Nat) (m : Nat) (a0 : Option Addr) (c0 : Nat) (av2 : Option Addr) (cv2 : Nat) (al : Option Addr) (cl X2 TS TU TL : Nat) (T0 T1 : Int) (hT : T0 ≠ 0) (Wt : World) (hX : Below w.heap.size w Wt) (h_p : Wt.heap[w.heap.size]? = some (.cells #[.int .i64 now, .int .i64 next, .slice a0 n c0] 24)) (h_b : Wt.heap[X2]? = some (.cells #[.int .i64 0, .int .i64 0, .slice av2 0 cv2] 24)) (h_f2 : Wt.heap[X2 + 1]? = some (.cells #[.int .i64 T0, .int .i64 T1] 29)) (h_f3 : Wt.heap[TS]? = some (.cells #[.int .i64 T0, .int .i64 T1] 29)) (h_u : Wt.heap[TU]? = some (.cells #[.int .i64 T0, .int .i64 T1] 29)) (h_l : Wt.heap[TL]? = some (.cells #[.int .i64 now, .int .i64 next, .slice al m cl] 24)) (hl5 : IsL KA Wt (.slice av2 0 cv2) []) (ho : w.heap.size < X2 ∧ X2 + 1 < TS ∧ TS < TU ∧ TU < TL)
    {s0 s1 s2 s3 s5 s6 s7 s9 s10 s11 s12 s13 s20 s23 s24 s25 s26 s27 s28 s29 s30 s31 s32 s33 s34 s35 s36 s37 s38 s39 s40 s41 s42 s43 s44 s45 s46 s47 s48 s49 s50 s51 s52 s53 s54 s55 s56 s57 s58 s59 s60 s61 s62 s63 s64 s65 s66 s67 s68 s69 s70 s71 s72 s73 s74 s75 s76 s77 s78 s79 s80 s81 s82 s83 s84 s85 s86 s87 s88 s89 s90 s91 s92 s93 s94 s95 s96 s97 s98 s99 s100 s101 s102 s103 s104 s105 s106 s107 s108 s109 s110 s111 s112 s113 s114 s115 s116 s117 s118 s119 s120 s121 s122 s123 s124 s125 s126 s127 s128 s129 s130 s131 s132 s133 s134 s135 s136 s137 s138 s139 s140 s141 s142 s143 s144 s145 s146 s147 s148 s149 s150 s151 s152 s153 s154 s155 s156 s157 s158 s159 s160 s161 s162 s163 s164 s165 s166 s167 s168 s169 s170 s171 s172 s173 s174 s175 s176 s177 s178 s179 s180 s181 s182 s183 s184 s185 s186 s187 s188 s189 s190 s191 s192 s193 s194 s195 s196 s197 s198 s199 s200 s201 : Value} (K1 K2 : Act → World → Prop) (x y z : Code) (hK1 : ∀ a w', y.wp Try.prog (Exit.then K2 (bodyPost Try.prog Try.f3 fun e w' => e = .returned (.bool true) ∧ Below w.heap.size w w')) a w' → K1 a w') (hK2 : ∀ a w', z.wp Try.prog (bodyPost Try.prog Try.f3 fun e w' => e = .returned (.bool true) ∧ Below w.heap.size w w') a w' → K2 a w') (hcut : Try.f3.body.bind (cutIf 26) = some (x, y, z)) :
    x.wp Try.prog (Exit.then K1 (Exit.then K2 (bodyPost Try.prog Try.f3 fun e w' => e = .returned (.bool true) ∧ Below w.heap.size w w'))) { tmps := (s0 :: s1 :: s2 :: s3 :: .pointer (some ⟨w.heap.size, 0, none⟩) :: s5 :: s6 :: s7 :: .bool false :: s9 :: s10 :: s11 :: s12 :: s13 :: .pointer (some ⟨X2, 0, none⟩) :: .bool false :: .pointer (some ⟨X2 + 1, 0, none⟩) :: .int .i64 0 :: .pointer (some ⟨TS, 0, none⟩) :: .pointer (some ⟨TU, 0, none⟩) :: s20 :: .pointer (some ⟨TL, 0, none⟩) :: .bool had :: s23 :: s24 :: s25 :: s26 :: s27 :: s28 :: s29 :: s30 :: s31 :: s32 :: s33 :: s34 :: s35 :: s36 :: s37 :: s38 :: s39 :: s40 :: s41 :: s42 :: s43 :: s44 :: s45 :: s46 :: s47 :: s48 :: s49 :: s50 :: s51 :: s52 :: s53 :: s54 :: s55 :: s56 :: s57 :: s58 :: s59 :: s60 :: s61 :: s62 :: s63 :: s64 :: s65 :: s66 :: s67 :: s68 :: s69 :: s70 :: s71 :: s72 :: s73 :: s74 :: s75 :: s76 :: s77 :: s78 :: s79 :: s80 :: s81 :: s82 :: s83 :: s84 :: s85 :: s86 :: s87 :: s88 :: s89 :: s90 :: s91 :: s92 :: s93 :: s94 :: s95 :: s96 :: s97 :: s98 :: s99 :: s100 :: s101 :: s102 :: s103 :: s104 :: s105 :: s106 :: s107 :: s108 :: s109 :: s110 :: s111 :: s112 :: s113 :: s114 :: s115 :: s116 :: s117 :: s118 :: s119 :: s120 :: s121 :: s122 :: s123 :: s124 :: s125 :: s126 :: s127 :: s128 :: s129 :: s130 :: s131 :: s132 :: s133 :: s134 :: s135 :: s136 :: s137 :: s138 :: s139 :: s140 :: s141 :: s142 :: s143 :: s144 :: s145 :: s146 :: s147 :: s148 :: s149 :: s150 :: s151 :: s152 :: s153 :: s154 :: s155 :: s156 :: s157 :: s158 :: s159 :: s160 :: s161 :: s162 :: s163 :: s164 :: s165 :: s166 :: s167 :: s168 :: s169 :: s170 :: s171 :: s172 :: s173 :: s174 :: s175 :: s176 :: s177 :: s178 :: s179 :: s180 :: s181 :: s182 :: s183 :: s184 :: s185 :: s186 :: s187 :: s188 :: s189 :: s190 :: s191 :: s192 :: s193 :: s194 :: s195 :: s196 :: s197 :: s198 :: s199 :: s200 :: s201 :: []).toArray, defers := [] } Wt := by
  have hcc : Try.f3.body.bind (cutIf 26) = some (_, _, _) := rfl
  rw [hcc] at hcut
  cases hcut
  clear hcc
  obtain ⟨ho1, ho2, ho3, ho4⟩ := ho
  have HX := hide hX
  clear hX
  have H_p := hide h_p; have H_b := hide h_b; have H_f2 := hide h_f2; have H_f3 := hide h_f3; have H_u := hide h_u; have H_l := hide h_l
  clear h_p h_b h_f2 h_f3 h_u h_l
  have xq : ∀ b : Int, (b == b) = true := fun b => by simp
  have xt : (T0 == 0) = false := by simpa using hT
  have xt2 : (T0 != 0) = true := by simpa using hT
  clear hT
  have HSC := hide (sameClock_same Wt (.agg #[.int .i64 0, .int .i64 0, .slice av2 0 cv2]) (.agg #[.int .i64 0, .int .i64 0, .slice none 0 0]) 0 0 [] ⟨_, rfl, hl5⟩ (zero_c _) (by simp))
  clear hl5
  obtain ⟨⟨b0, b1, b2⟩, ⟨bf0, bf1, bf2⟩, bl⟩ := block3 (unhide H_b)
  obtain ⟨e0, e1, ef0, ef1, el⟩ := block2 (unhide H_f2)
  obtain ⟨g0, g1, gf0, gf1, gl⟩ := block2 (unhide H_f3)
  obtain ⟨u0, u1, uf0, uf1, ul⟩ := block2 (unhide H_u)
  go_wp2_with (go_at_call 16; refine (unhide HSC).mono ?_; rintro e w8 ⟨rfl, hb8⟩; have HX_1 := hide (Below.next (unhide HX) hb8 (by first | exact Nat.le_refl _ | (have := unhide HBA; omega))); have Kp_1 := hide (keep_below (unhide H_p) hb8); have Kb_1 := hide (keep_below (unhide H_b) hb8); have Kf2_1 := hide (keep_below (unhide H_f2) hb8); have Kf3_1 := hide (keep_below (unhide H_f3) hb8); have Ku_1 := hide (keep_below (unhide H_u) hb8); have Kl_1 := hide (keep_below (unhide H_l) hb8); clear HX H_p H_b H_f2 H_f3 H_u H_l; clear hb8 HSC b0 b1 b2 bf0 bf1 bf2 bl e0 e1 ef0 ef1 el g0 g1 gf0 gf1 gl u0 u1 uf0 uf1 ul; obtain ⟨e0, e1, ef0, ef1, el⟩ := block2 (unhide Kf2_1); obtain ⟨g0, g1, gf0, gf1, gl⟩ := block2 (unhide Kf3_1); obtain ⟨u0, u1, uf0, uf1, ul⟩ := block2 (unhide Ku_1))
  go_ret
  exact ⟨rfl, unhide HX_1⟩

set_option maxRecDepth 100000 in
set_option maxHeartbeats 4000000 in
theorem sets_b_nil (w : World) (now next : Int) (had : Bool) (ys : List Al) (m : Nat) (a0 : Option Addr) (c0 : Nat) (av2 : Option Addr) (cv2 : Nat) (al : Option Addr) (cl X2 TS TU TL : Nat)  (Wt : World) (hX : Below w.heap.size w Wt) (h_p : Wt.heap[w.heap.size]? = some (.cells #[.int .i64 now, .int .i64 next, .slice a0 0 c0] 24)) (h_b : Wt.heap[X2]? = some (.cells #[.int .i64 now, .int .i64 next, .slice av2 m cv2] 24)) (h_f2 : Wt.heap[X2 + 1]? = some (.cells #[.int .i64 0, .int .i64 0] 29)) (h_f3 : Wt.heap[TS]? = some (.cells #[.int .i64 6, .int .i64 0] 29)) (h_u : Wt.heap[TU]? = some (.cells #[.int .i64 0, .int .i64 0] 29)) (h_l : Wt.heap[TL]? = some (.cells #[.int .i64 now, .int .i64 next, .slice al m cl] 24)) (hl5 : IsL KA Wt (.slice av2 m cv2) ys) (hly : IsL KA Wt (.slice al m cl) ys) (hm : ys.length ≤ 100000) (ho : w.heap.size < X2 ∧ X2 + 1 < TS ∧ TS < TU ∧ TU < TL)
    {s0 s1 s2 s3 s5 s6 s7 s9 s10 s11 s12 s13 s20 s23 s24 s25 s26 s27 s28 s29 s30 s31 s32 s33 s34 s35 s36 s37 s38 s39 s40 s41 s42 s43 s44 s45 s46 s47 s48 s49 s50 s51 s52 s53 s54 s55 s56 s57 s58 s59 s60 s61 s62 s63 s64 s65 s66 s67 s68 s69 s70 s71 s72 s73 s74 s75 s76 s77 s78 s79 s80 s81 s82 s83 s84 s85 s86 s87 s88 s89 s90 s91 s92 s93 s94 s95 s96 s97 s98 s99 s100 s101 s102 s103 s104 s105 s106 s107 s108 s109 s110 s111 s112 s113 s114 s115 s116 s117 s118 s119 s120 s121 s122 s123 s124 s125 s126 s127 s128 s129 s130 s131 s132 s133 s134 s135 s136 s137 s138 s139 s140 s141 s142 s143 s144 s145 s146 s147 s148 s149 s150 s151 s152 s153 s154 s155 s156 s157 s158 s159 s160 s161 s162 s163 s164 s165 s166 s167 s168 s169 s170 s171 s172 s173 s174 s175 s176 s177 s178 s179 s180 s181 s182 s183 s184 s185 s186 s187 s188 s189 s190 s191 s192 s193 s194 s195 s196 s197 s198 s199 s200 s201 : Value} (K1 K2 : Act → World → Prop) (x y z : Code) (hK1 : ∀ a w', y.wp Try.prog (Exit.then K2 (bodyPost Try.prog Try.f3 fun e w' => e = .returned (.bool true) ∧ Below w.heap.size w w')) a w' → K1 a w') (hK2 : ∀ a w', z.wp Try.prog (bodyPost Try.prog Try.f3 fun e w' => e = .returned (.bool true) ∧ Below w.heap.size w w') a w' → K2 a w') (hcut : Try.f3.body.bind (cutIf 26) = some (x, y, z)) :
    x.wp Try.prog (Exit.then K1 (Exit.then K2 (bodyPost Try.prog Try.f3 fun e w' => e = .returned (.bool true) ∧ Below w.heap.size w w'))) { tmps := (s0 :: s1 :: s2 :: s3 :: .pointer (some ⟨w.heap.size, 0, none⟩) :: s5 :: s6 :: s7 :: .bool false :: s9 :: s10 :: s11 :: s12 :: s13 :: .pointer (some ⟨X2, 0, none⟩) :: .bool had :: .pointer (some ⟨X2 + 1, 0, none⟩) :: .int .i64 0 :: .pointer (some ⟨TS, 0, none⟩) :: .pointer (some ⟨TU, 0, none⟩) :: s20 :: .pointer (some ⟨TL, 0, none⟩) :: .bool had :: s23 :: s24 :: s25 :: s26 :: s27 :: s28 :: s29 :: s30 :: s31 :: s32 :: s33 :: s34 :: s35 :: s36 :: s37 :: s38 :: s39 :: s40 :: s41 :: s42 :: s43 :: s44 :: s45 :: s46 :: s47 :: s48 :: s49 :: s50 :: s51 :: s52 :: s53 :: s54 :: s55 :: s56 :: s57 :: s58 :: s59 :: s60 :: s61 :: s62 :: s63 :: s64 :: s65 :: s66 :: s67 :: s68 :: s69 :: s70 :: s71 :: s72 :: s73 :: s74 :: s75 :: s76 :: s77 :: s78 :: s79 :: s80 :: s81 :: s82 :: s83 :: s84 :: s85 :: s86 :: s87 :: s88 :: s89 :: s90 :: s91 :: s92 :: s93 :: s94 :: s95 :: s96 :: s97 :: s98 :: s99 :: s100 :: s101 :: s102 :: s103 :: s104 :: s105 :: s106 :: s107 :: s108 :: s109 :: s110 :: s111 :: s112 :: s113 :: s114 :: s115 :: s116 :: s117 :: s118 :: s119 :: s120 :: s121 :: s122 :: s123 :: s124 :: s125 :: s126 :: s127 :: s128 :: s129 :: s130 :: s131 :: s132 :: s133 :: s134 :: s135 :: s136 :: s137 :: s138 :: s139 :: s140 :: s141 :: s142 :: s143 :: s144 :: s145 :: s146 :: s147 :: s148 :: s149 :: s150 :: s151 :: s152 :: s153 :: s154 :: s155 :: s156 :: s157 :: s158 :: s159 :: s160 :: s161 :: s162 :: s163 :: s164 :: s165 :: s166 :: s167 :: s168 :: s169 :: s170 :: s171 :: s172 :: s173 :: s174 :: s175 :: s176 :: s177 :: s178 :: s179 :: s180 :: s181 :: s182 :: s183 :: s184 :: s185 :: s186 :: s187 :: s188 :: s189 :: s190 :: s191 :: s192 :: s193 :: s194 :: s195 :: s196 :: s197 :: s198 :: s199 :: s200 :: s201 :: []).toArray, defers := [] } Wt := by
  have hcc : Try.f3.body.bind (cutIf 26) = some (_, _, _) := rfl
  rw [hcc] at hcut
  cases hcut
  clear hcc
  obtain ⟨ho1, ho2, ho3, ho4⟩ := ho
  have HX := hide hX
  clear hX
  have H_p := hide h_p; have H_b := hide h_b; have H_f2 := hide h_f2; have H_f3 := hide h_f3; have H_u := hide h_u; have H_l := hide h_l
  clear h_p h_b h_f2 h_f3 h_u h_l
  have xh : (had != had) = false := by cases had <;> rfl
  have xh2 : (had == had) = true := by cases had <;> rfl
  have HSC := hide (sameClock_same Wt (.agg #[.int .i64 now, .int .i64 next, .slice av2 m cv2]) (.agg #[.int .i64 now, .int .i64 next, .slice al m cl]) now next ys ⟨_, rfl, hl5⟩ ⟨_, rfl, hly⟩ hm)
  clear hl5 hly hm
  obtain ⟨⟨b0, b1, b2⟩, ⟨bf0, bf1, bf2⟩, bl⟩ := block3 (unhide H_b)
  obtain ⟨⟨l0, l1, l2⟩, ⟨lf0, lf1, lf2⟩, ll⟩ := block3 (unhide H_l)
  obtain ⟨e0, e1, ef0, ef1, el⟩ := block2 (unhide H_f2)
  obtain ⟨u0, u1, uf0, uf1, ul⟩ := block2 (unhide H_u)
  go_upto_region 28 with (go_at_call 16; refine (unhide HSC).mono ?_; rintro e w8 ⟨rfl, hb8⟩; have HX_1 := hide (Below.next (unhide HX) hb8 (by first | exact Nat.le_refl _ | (have := unhide HBA; omega))); have Kp_1 := hide (keep_below (unhide H_p) hb8); have Kb_1 := hide (keep_below (unhide H_b) hb8); have Kf2_1 := hide (keep_below (unhide H_f2) hb8); have Kf3_1 := hide (keep_below (unhide H_f3) hb8); have Ku_1 := hide (keep_below (unhide H_u) hb8); have Kl_1 := hide (keep_below (unhide H_l) hb8); clear HX H_p H_b H_f2 H_f3 H_u H_l; clear hb8 HSC b0 b1 b2 bf0 bf1 bf2 bl l0 l1 l2 lf0 lf1 lf2 ll e0 e1 ef0 ef1 el u0 u1 uf0 uf1 ul)
  obtain ⟨g0, g1, gf0, gf1, gl⟩ := block2 (unhide Kf3_1)
  obtain ⟨u0, u1, uf0, uf1, ul⟩ := block2 (unhide Ku_1)
  obtain ⟨⟨p0, p1, p2⟩, ⟨pf0, pf1, pf2⟩, pl⟩ := block3 (unhide Kp_1)
  have us : TS ≠ TU := by omega
  have us2 : TU ≠ TS := by omega
  go_wp2_with (go_at_call 17; refine (f_any _ _ _).mono ?_; rintro e w9 ⟨rfl, hb9⟩; have HX_2 := hide (Below.next (unhide HX_1) hb9 (by first | exact Nat.le_refl _ | (have := unhide HBA; omega))); have Kp_2 := hide (keep_below (unhide Kp_1) hb9); have Kb_2 := hide (keep_below (unhide Kb_1) hb9); have Kf2_2 := hide (keep_below (unhide Kf2_1) hb9); have Kf3_2 := hide (keep_below (unhide Kf3_1) hb9); have Ku_2 := hide (keep_below (unhide Ku_1) hb9); have Kl_2 := hide (keep_below (unhide Kl_1) hb9); clear HX_1 Kp_1 Kb_1 Kf2_1 Kf3_1 Ku_1 Kl_1; clear hb9 g0 g1 gf0 gf1 gl u0 u1 uf0 uf1 ul p0 p1 p2 pf0 pf1 pf2 pl; obtain ⟨g0, g1, gf0, gf1, gl⟩ := block2 (unhide Kf3_2); obtain ⟨u0, u1, uf0, uf1, ul⟩ := block2 (unhide Ku_2))
  go_ret
  exact ⟨rfl, put2_below (unhide HX_2) (by omega)⟩

set_option maxRecDepth 100000 in
set_option maxHeartbeats 4000000 in
theorem sets_b_cons (w : World) (now next : Int) (had : Bool) (ys : List Al) (n : Nat) (m : Nat) (a0 : Option Addr) (c0 : Nat) (av2 : Option Addr) (cv2 : Nat) (al : Option Addr) (cl X2 TS TU TL : Nat) (t d u y : Int) (l : List Al) (hg : Good now next ((t, d, u, y) :: l)) (hn : ((t, d, u, y) :: l).length = n) (h0 : 0 < n → ∃ b off, a0 = some ⟨b, off, none⟩ ∧ b < w.heap.size ∧ Lies KA w b off ((t, d, u, y) :: l)) (Wt : World) (hX : Below w.heap.size w Wt) (h_p : Wt.heap[w.heap.size]? = some (.cells #[.int .i64 now, .int .i64 next, .slice a0 n c0] 24)) (h_b : Wt.heap[X2]? = some (.cells #[.int .i64 now, .int .i64 next, .slice av2 m cv2] 24)) (h_f2 : Wt.heap[X2 + 1]? = some (.cells #[.int .i64 0, .int .i64 0] 29)) (h_f3 : Wt.heap[TS]? = some (.cells #[.int .i64 0, .int .i64 0] 29)) (h_u : Wt.heap[TU]? = some (.cells #[.int .i64 0, .int .i64 0] 29)) (h_l : Wt.heap[TL]? = some (.cells #[.int .i64 now, .int .i64 next, .slice al m cl] 24)) (hl5 : IsL KA Wt (.slice av2 m cv2) ys) (hly : IsL KA Wt (.slice al m cl) ys) (hm : ys.length ≤ 100000) (ho : w.heap.size < X2 ∧ X2 + 1 < TS ∧ TS < TU ∧ TU < TL)
    {s0 s1 s2 s3 s5 s6 s7 s9 s10 s11 s12 s13 s20 s23 s24 s25 s26 s27 s28 s29 s30 s31 s32 s33 s34 s35 s36 s37 s38 s39 s40 s41 s42 s43 s44 s45 s46 s47 s48 s49 s50 s51 s52 s53 s54 s55 s56 s57 s58 s59 s60 s61 s62 s63 s64 s65 s66 s67 s68 s69 s70 s71 s72 s73 s74 s75 s76 s77 s78 s79 s80 s81 s82 s83 s84 s85 s86 s87 s88 s89 s90 s91 s92 s93 s94 s95 s96 s97 s98 s99 s100 s101 s102 s103 s104 s105 s106 s107 s108 s109 s110 s111 s112 s113 s114 s115 s116 s117 s118 s119 s120 s121 s122 s123 s124 s125 s126 s127 s128 s129 s130 s131 s132 s133 s134 s135 s136 s137 s138 s139 s140 s141 s142 s143 s144 s145 s146 s147 s148 s149 s150 s151 s152 s153 s154 s155 s156 s157 s158 s159 s160 s161 s162 s163 s164 s165 s166 s167 s168 s169 s170 s171 s172 s173 s174 s175 s176 s177 s178 s179 s180 s181 s182 s183 s184 s185 s186 s187 s188 s189 s190 s191 s192 s193 s194 s195 s196 s197 s198 s199 s200 s201 : Value} (K1 K2 : Act → World → Prop) (x y z : Code) (hK1 : ∀ a w', y.wp Try.prog (Exit.then K2 (bodyPost Try.prog Try.f3 fun e w' => e = .returned (.bool true) ∧ Below w.heap.size w w')) a w' → K1 a w') (hK2 : ∀ a w', z.wp Try.prog (bodyPost Try.prog Try.f3 fun e w' => e = .returned (.bool true) ∧ Below w.heap.size w w') a w' → K2 a w') (hcut : Try.f3.body.bind (cutIf 26) = some (x, y, z)) :
    x.wp Try.prog (Exit.then K1 (Exit.then K2 (bodyPost Try.prog Try.f3 fun e w' => e = .returned (.bool true) ∧ Below w.heap.size w w'))) { tmps := (s0 :: s1 :: s2 :: s3 :: .pointer (some ⟨w.heap.size, 0, none⟩) :: s5 :: s6 :: s7 :: .bool false :: s9 :: s10 :: s11 :: s12 :: s13 :: .pointer (some ⟨X2, 0, none⟩) :: .bool had :: .pointer (some ⟨X2 + 1, 0, none⟩) :: .int .i64 (d - now) :: .pointer (some ⟨TS, 0, none⟩) :: .pointer (some ⟨TU, 0, none⟩) :: s20 :: .pointer (some ⟨TL, 0, none⟩) :: .bool had :: s23 :: s24 :: s25 :: s26 :: s27 :: s28 :: s29 :: s30 :: s31 :: s32 :: s33 :: s34 :: s35 :: s36 :: s37 :: s38 :: s39 :: s40 :: s41 :: s42 :: s43 :: s44 :: s45 :: s46 :: s47 :: s48 :: s49 :: s50 :: s51 :: s52 :: s53 :: s54 :: s55 :: s56 :: s57 :: s58 :: s59 :: s60 :: s61 :: s62 :: s63 :: s64 :: s65 :: s66 :: s67 :: s68 :: s69 :: s70 :: s71 :: s72 :: s73 :: s74 :: s75 :: s76 :: s77 :: s78 :: s79 :: s80 :: s81 :: s82 :: s83 :: s84 :: s85 :: s86 :: s87 :: s88 :: s89 :: s90 :: s91 :: s92 :: s93 :: s94 :: s95 :: s96 :: s97 :: s98 :: s99 :: s100 :: s101 :: s102 :: s103 :: s104 :: s105 :: s106 :: s107 :: s108 :: s109 :: s110 :: s111 :: s112 :: s113 :: s114 :: s115 :: s116 :: s117 :: s118 :: s119 :: s120 :: s121 :: s122 :: s123 :: s124 :: s125 :: s126 :: s127 :: s128 :: s129 :: s130 :: s131 :: s132 :: s133 :: s134 :: s135 :: s136 :: s137 :: s138 :: s139 :: s140 :: s141 :: s142 :: s143 :: s144 :: s145 :: s146 :: s147 :: s148 :: s149 :: s150 :: s151 :: s152 :: s153 :: s154 :: s155 :: s156 :: s157 :: s158 :: s159 :: s160 :: s161 :: s162 :: s163 :: s164 :: s165 :: s166 :: s167 :: s168 :: s169 :: s170 :: s171 :: s172 :: s173 :: s174 :: s175 :: s176 :: s177 :: s178 :: s179 :: s180 :: s181 :: s182 :: s183 :: s184 :: s185 :: s186 :: s187 :: s188 :: s189 :: s190 :: s191 :: s192 :: s193 :: s194 :: s195 :: s196 :: s197 :: s198 :: s199 :: s200 :: s201 :: []).toArray, defers := [] } Wt := by
  have hcc : Try.f3.body.bind (cutIf 26) = some (_, _, _) := rfl
  rw [hcc] at hcut
  cases hcut
  clear hcc
  obtain ⟨ho1, ho2, ho3, ho4⟩ := ho
  have HX := hide hX
  clear hX
  have H_p := hide h_p; have H_b := hide h_b; have H_f2 := hide h_f2; have H_f3 := hide h_f3; have H_u := hide h_u; have H_l := hide h_l
  clear h_p h_b h_f2 h_f3 h_u h_l
  have xh : (had != had) = false := by cases had <;> rfl
  have xh2 : (had == had) = true := by cases had <;> rfl
  have HSC := hide (sameClock_same Wt (.agg #[.int .i64 now, .int .i64 next, .slice av2 m cv2]) (.agg #[.int .i64 now, .int .i64 next, .slice al m cl]) now next ys ⟨_, rfl, hl5⟩ ⟨_, rfl, hly⟩ hm)
  clear hl5 hly hm
  have HGD := hide hg; have HN := hide hn; have H0 := hide h0
  clear hg hn h0
  obtain ⟨⟨b0, b1, b2⟩, ⟨bf0, bf1, bf2⟩, bl⟩ := block3 (unhide H_b)
  obtain ⟨⟨l0, l1, l2⟩, ⟨lf0, lf1, lf2⟩, ll⟩ := block3 (unhide H_l)
  obtain ⟨e0, e1, ef0, ef1, el⟩ := block2 (unhide H_f2)
  obtain ⟨u0, u1, uf0, uf1, ul⟩ := block2 (unhide H_u)
  go_upto_region 28 with (go_at_call 16; refine (unhide HSC).mono ?_; rintro e w8 ⟨rfl, hb8⟩; have HX_1 := hide (Below.next (unhide HX) hb8 (by first | exact Nat.le_refl _ | (have := unhide HBA; omega))); have Kp_1 := hide (keep_below (unhide H_p) hb8); have Kb_1 := hide (keep_below (unhide H_b) hb8); have Kf2_1 := hide (keep_below (unhide H_f2) hb8); have Kf3_1 := hide (keep_below (unhide H_f3) hb8); have Ku_1 := hide (keep_below (unhide H_u) hb8); have Kl_1 := hide (keep_below (unhide H_l) hb8); clear HX H_p H_b H_f2 H_f3 H_u H_l; clear hb8 HSC b0 b1 b2 bf0 bf1 bf2 bl l0 l1 l2 lf0 lf1 lf2 ll e0 e1 ef0 ef1 el u0 u1 uf0 uf1 ul)
  obtain ⟨g0, g1, gf0, gf1, gl⟩ := block2 (unhide Kf3_1)
  obtain ⟨u0, u1, uf0, uf1, ul⟩ := block2 (unhide Ku_1)
  obtain ⟨⟨p0, p1, p2⟩, ⟨pf0, pf1, pf2⟩, pl⟩ := block3 (unhide Kp_1)
  have hn0 : 0 < n := by rw [← unhide HN]; simp
  have xn : ((n : Int) == 0) = false := by rw [beq_eq_false_iff_ne]; omega
  have i0 : (0 : Int) < (n : Int) := by omega
  have hxr := (oor_iff now next (t, d, u, y)).1 ((unhide HGD).rng _ (by simp))
  simp only at hxr
  have gn0 := (unhide HGD).n0; have gn1 := (unhide HGD).n1
  have hwd : IntKind.i64.wrap (d - now) = d - now := wrapi (by omega) (by omega)
  have xr : (d - now == d - now) = true := by simp
  obtain ⟨b0, o0, rfl, hb0, l0⟩ := unhide H0 hn0
  obtain ⟨k0, k1, k2, k3⟩ := (l0.below (unhide HX_1) hb0).alarm (j := 0) (by simp) (t := t) (c := d) (u := u) (y := y) rfl
  simp only [Nat.zero_mul, Nat.add_zero] at k0 k1 k2 k3
  clear l0 H0
  go_upto_region 34 with fail
  go_wp2_with fail
  go_quiet (fail)
  go_wp2_with fail
  go_ret
  exact ⟨rfl, below_drewN (unhide HX_1) _⟩

end Go.Proofs.Ytidpmcanfedbdaa
