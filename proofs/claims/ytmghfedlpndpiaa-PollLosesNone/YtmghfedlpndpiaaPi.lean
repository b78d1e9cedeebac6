/-
  taskmilllaw.PollLosesNone: behind all moves.
-/
import Derived.Test.YtmghfedlpndpiaaPc
import Derived.LoopN
namespace Go.Proofs.Ytmghfedlpndpiaa
open Go.RowKit

set_option maxRecDepth 100000 in
set_option maxHeartbeats 4000000 in
theorem loses_tail_nn (w : World) (TD : Nat) (i now : Int) (r0 r1 : Bool) (t0 t1 u0 u1 f0 f1 g0 g1 : Int) (hOk : Ok i now r0 r1 t0 t1 u0 u1 f0 f1 g0 g1) (hz0 : ¬ 0 < t0) (hz1 : ¬ 0 < t1) (hw : w.heap.size ≤ TD) (Wt : World) (hX : Below w.heap.size w Wt) (hD : Wt.heap[TD]? = some (.cells #[.bool false, .bool r0, .bool r1, .int .i64 t0, .int .i64 t1, .int .i64 u0, .int .i64 u1] 25))
    {s0 s1 s2 s5 s6 s7 s8 s9 s10 s11 s12 s13 s14 s15 s16 s17 s18 s19 s20 s21 s22 s23 s24 s25 s26 s27 s28 s29 s30 s31 s32 s33 s34 s35 s36 s37 s38 s39 s40 s41 s42 s43 s44 s45 s46 s47 s48 s49 s50 s51 s52 s53 s54 s55 s56 s57 s58 s59 s60 s61 s62 s63 s64 s65 s66 s67 s68 s69 s70 s71 s72 s73 s74 s75 s76 s77 s78 s79 s80 s81 s82 s83 s84 s85 s86 s87 s88 s89 s90 s91 s92 s93 s94 s95 s96 s97 s98 s99 s100 s101 s102 s103 s104 s105 s106 s107 s108 s109 s110 s111 s112 s113 s114 s115 s116 s117 s118 s119 s120 s121 s122 s123 s124 s125 s126 s127 s128 s129 s130 s131 s132 s133 s134 s135 s136 s137 s138 s139 s140 s141 s142 s143 s144 s145 s146 s147 s148 s149 s150 s151 s152 s153 s154 s155 s156 s157 s158 s159 s160 s161 s162 s163 s164 s165 s166 s167 s168 s169 s170 s171 s172 s173 s174 s175 s176 s177 s178 s179 s180 s181 s182 s183 s184 s185 s186 s187 s188 s189 s190 s191 s192 s193 s194 s195 s196 s197 s198 s199 s200 s201 s202 s203 s204 s205 s206 s207 s208 s209 s210 s211 s212 s213 s214 s215 s216 s217 s218 s219 s220 s221 s222 s223 s224 s225 s226 s227 s228 s229 s230 s231 s232 : Value} (b r : Code) (hcut : (Try.f5.body.bind (loopFor 0)) = some (b, r)) :
    r.wp Try.prog (bodyPost Try.prog Try.f5 fun e w' => e = .returned (.bool true) ∧ Below w.heap.size w w') { tmps := (s0 :: s1 :: s2 :: .pointer (some ⟨TD, 0, none⟩) :: .int .i64 now :: s5 :: s6 :: s7 :: s8 :: s9 :: s10 :: s11 :: s12 :: s13 :: s14 :: s15 :: s16 :: s17 :: s18 :: s19 :: s20 :: s21 :: s22 :: s23 :: s24 :: s25 :: s26 :: s27 :: s28 :: s29 :: s30 :: s31 :: s32 :: s33 :: s34 :: s35 :: s36 :: s37 :: s38 :: s39 :: s40 :: s41 :: s42 :: s43 :: s44 :: s45 :: s46 :: s47 :: s48 :: s49 :: s50 :: s51 :: s52 :: s53 :: s54 :: s55 :: s56 :: s57 :: s58 :: s59 :: s60 :: s61 :: s62 :: s63 :: s64 :: s65 :: s66 :: s67 :: s68 :: s69 :: s70 :: s71 :: s72 :: s73 :: s74 :: s75 :: s76 :: s77 :: s78 :: s79 :: s80 :: s81 :: s82 :: s83 :: s84 :: s85 :: s86 :: s87 :: s88 :: s89 :: s90 :: s91 :: s92 :: s93 :: s94 :: s95 :: s96 :: s97 :: s98 :: s99 :: s100 :: s101 :: s102 :: s103 :: s104 :: s105 :: s106 :: s107 :: s108 :: s109 :: s110 :: s111 :: s112 :: s113 :: s114 :: s115 :: s116 :: s117 :: s118 :: s119 :: s120 :: s121 :: s122 :: s123 :: s124 :: s125 :: s126 :: s127 :: s128 :: s129 :: s130 :: s131 :: s132 :: s133 :: s134 :: s135 :: s136 :: s137 :: s138 :: s139 :: s140 :: s141 :: s142 :: s143 :: s144 :: s145 :: s146 :: s147 :: s148 :: s149 :: s150 :: s151 :: s152 :: s153 :: s154 :: s155 :: s156 :: s157 :: s158 :: s159 :: s160 :: s161 :: s162 :: s163 :: s164 :: s165 :: s166 :: s167 :: s168 :: s169 :: s170 :: s171 :: s172 :: s173 :: s174 :: s175 :: s176 :: s177 :: s178 :: s179 :: s180 :: s181 :: s182 :: s183 :: s184 :: s185 :: s186 :: s187 :: s188 :: s189 :: s190 :: s191 :: s192 :: s193 :: s194 :: s195 :: s196 :: s197 :: s198 :: s199 :: s200 :: s201 :: s202 :: s203 :: s204 :: s205 :: s206 :: s207 :: s208 :: s209 :: s210 :: s211 :: s212 :: s213 :: s214 :: s215 :: s216 :: s217 :: s218 :: s219 :: s220 :: s221 :: s222 :: s223 :: s224 :: s225 :: s226 :: s227 :: s228 :: s229 :: s230 :: s231 :: s232 :: []).toArray, defers := [] } Wt := by
  have hcc : (Try.f5.body.bind (loopFor 0)) = some (_, _) := rfl
  rw [hcc] at hcut
  cases hcut
  clear hcc
  have xz0 : decide (0 < t0) = false := decide_eq_false hz0
  have xz1 : decide (0 < t1) = false := decide_eq_false hz1
  have HCL : Hid (∀ W, Calls Try.prog 16 #[.agg #[.bool false, .bool r0, .bool r1, .int .i64 t0, .int .i64 t1, .int .i64 u0, .int .i64 u1]] W fun e w' => ∃ a k, e = .returned (.tuple #[.agg #[.bool true, .bool false, .bool false, .int .i64 0, .int .i64 0, .int .i64 0, .int .i64 0], .slice a 0 k, .bool false, .agg #[.int .i64 0, .int .i64 0]]) ∧ Below W.heap.size W w') := fun W => (close_nn W false r0 r1 t0 t1 u0 u1 0 hOk.desc hz0 hz1).mono fun e w' ⟨a, k, h1, _, h3⟩ => ⟨a, k, h1, h3⟩
  have hn0 := hOk.n0; have hn1 := hOk.n1; have hi1 := hOk.i1
  have HWT : Hid (∀ W, Calls Try.prog 7 #[.agg #[.bool true, .bool false, .bool false, .int .i64 0, .int .i64 0, .int .i64 0, .int .i64 0], .int .i64 0, .int .i64 1, .int .i64 now] W fun e w' => e = .returned (.tuple #[.agg #[.bool true, .bool false, .bool false, .int .i64 0, .int .i64 0, .int .i64 0, .int .i64 0], .int .i64 3, .agg #[.int .i64 0, .int .i64 0]]) ∧ Below W.heap.size W w') := fun W => wait0_closed W true false false 0 0 0 0 1 now 0 0 0 (by decide) (show waitF (onF (0, 0) 0) 0 0 1 now = (0, 0) by rw [show onF (0, 0) 0 = (0, 0) from by decide]; unfold waitF; rw [if_neg (by simp), if_neg (by omega), if_neg (by decide), if_neg (by decide)]) rfl
  have HX := hide hX; have HD := hide hD
  clear hX hD hOk hn0 hn1 hi1
  obtain ⟨⟨p0, p1, p2, p3, p4, p5, p6⟩, ⟨pf0, pf1, pf2, pf3, pf4, pf5, pf6⟩, pl⟩ := block7 (unhide HD)
  go_upto_region 52 with (go_at_call 16; refine (unhide HCL _).mono ?_; rintro e w2 ⟨la, lk, rfl, hb2⟩; have HX_1 := hide (Below.next (unhide HX) hb2 (by first | exact Nat.le_refl _ | (have := unhide HBA; omega))); have Kd_1 := hide (keep_below (unhide HD) hb2); clear HX HD; clear hb2 HCL p0 p1 p2 p3 p4 p5 p6 pf0 pf1 pf2 pf3 pf4 pf5 pf6 pl)
  obtain ⟨W2, eW2, hBW2, k0_2, k1_2⟩ := two_new w2 (.cells #[.bool true, .bool false, .bool false, .int .i64 0, .int .i64 0, .int .i64 0, .int .i64 0] 25) (.cells #[.int .i64 0, .int .i64 0] 27)
  rw [eW2]
  clear eW2
  have hld_e : TD < w2.heap.size := size_of (unhide Kd_1)
  (have HX_2 := hide (Below.next (unhide HX_1) hBW2 (by first | exact Nat.le_refl _ | (have := unhide HBA; omega))); have Kd_2 := hide (keep_below (unhide Kd_1) hBW2); clear HX_1 Kd_1)
  obtain ⟨TE, eTE⟩ : ∃ X, w2.heap.size = X := ⟨_, rfl⟩
  rw [eTE] at k0_2 k1_2 hld_e ⊢
  have Ke_2 := hide k0_2
  have Kq_2 := hide k1_2
  clear eTE hBW2 k0_2 k1_2
  obtain ⟨⟨p0, p1, p2, p3, p4, p5, p6⟩, ⟨pf0, pf1, pf2, pf3, pf4, pf5, pf6⟩, pl⟩ := block7 (unhide Kd_2)
  go_wp2_with fail
  refine wp_loop_rounds 3 ?_
  rw [rounds_succ]
  go_wp2_with fail
  rw [rounds_succ]
  go_wp2_with fail
  rw [rounds_succ]
  obtain ⟨h0, h1, hf0, hf1, hl⟩ := block2 (unhide Kq_2)
  obtain ⟨⟨e0, e1, e2, e3, e4, e5, e6⟩, ⟨ef0, ef1, ef2, ef3, ef4, ef5, ef6⟩, el⟩ := block7 (unhide Ke_2)
  go_upto_region 61 with (go_at_call 7; refine (unhide HWT _).mono ?_; rintro e w3 ⟨rfl, hb3⟩; have HX_3 := hide (Below.next (unhide HX_2) hb3 (by first | exact Nat.le_refl _ | (have := unhide HBA; omega))); have Kd_3 := hide (keep_below (unhide Kd_2) hb3); have Ke_3 := hide (keep_below (unhide Ke_2) hb3); have Kq_3 := hide (keep_below (unhide Kq_2) hb3); clear HX_2 Kd_2 Ke_2 Kq_2; clear hb3 HWT p0 p1 p2 p3 p4 p5 p6 pf0 pf1 pf2 pf3 pf4 pf5 pf6 pl h0 h1 hf0 hf1 hl e0 e1 e2 e3 e4 e5 e6 ef0 ef1 ef2 ef3 ef4 ef5 ef6 el; obtain ⟨h0, h1, hf0, hf1, hl⟩ := block2 (unhide Kq_3))
  have h2 := fun (y0 y1 : Value) => below_set (i := 1) (below_set (i := 0) (unhide HX_3) (show w.heap.size ≤ TE + 1 by omega) y0) (show w.heap.size ≤ TE + 1 by omega) y1
  have H2 := hide h2
  clear h2
  go_wp2_with fail
  go_ret
  exact ⟨rfl, (unhide H2 _ _).alloc (unhide H2 _ _).size _⟩

set_option maxRecDepth 100000 in
set_option maxHeartbeats 4000000 in
theorem loses_tail_ng (w : World) (TD : Nat) (i now : Int) (r0 r1 : Bool) (t0 t1 u0 u1 f0 f1 g0 g1 : Int) (hOk : Ok i now r0 r1 t0 t1 u0 u1 f0 f1 g0 g1) (hz0 : ¬ 0 < t0) (hz1 : 0 < t1) (hw : w.heap.size ≤ TD) (Wt : World) (hX : Below w.heap.size w Wt) (hD : Wt.heap[TD]? = some (.cells #[.bool false, .bool r0, .bool r1, .int .i64 t0, .int .i64 t1, .int .i64 u0, .int .i64 u1] 25))
    {s0 s1 s2 s5 s6 s7 s8 s9 s10 s11 s12 s13 s14 s15 s16 s17 s18 s19 s20 s21 s22 s23 s24 s25 s26 s27 s28 s29 s30 s31 s32 s33 s34 s35 s36 s37 s38 s39 s40 s41 s42 s43 s44 s45 s46 s47 s48 s49 s50 s51 s52 s53 s54 s55 s56 s57 s58 s59 s60 s61 s62 s63 s64 s65 s66 s67 s68 s69 s70 s71 s72 s73 s74 s75 s76 s77 s78 s79 s80 s81 s82 s83 s84 s85 s86 s87 s88 s89 s90 s91 s92 s93 s94 s95 s96 s97 s98 s99 s100 s101 s102 s103 s104 s105 s106 s107 s108 s109 s110 s111 s112 s113 s114 s115 s116 s117 s118 s119 s120 s121 s122 s123 s124 s125 s126 s127 s128 s129 s130 s131 s132 s133 s134 s135 s136 s137 s138 s139 s140 s141 s142 s143 s144 s145 s146 s147 s148 s149 s150 s151 s152 s153 s154 s155 s156 s157 s158 s159 s160 s161 s162 s163 s164 s165 s166 s167 s168 s169 s170 s171 s172 s173 s174 s175 s176 s177 s178 s179 s180 s181 s182 s183 s184 s185 s186 s187 s188 s189 s190 s191 s192 s193 s194 s195 s196 s197 s198 s199 s200 s201 s202 s203 s204 s205 s206 s207 s208 s209 s210 s211 s212 s213 s214 s215 s216 s217 s218 s219 s220 s221 s222 s223 s224 s225 s226 s227 s228 s229 s230 s231 s232 : Value} (b r : Code) (hcut : (Try.f5.body.bind (loopFor 0)) = some (b, r)) :
    r.wp Try.prog (bodyPost Try.prog Try.f5 fun e w' => e = .returned (.bool true) ∧ Below w.heap.size w w') { tmps := (s0 :: s1 :: s2 :: .pointer (some ⟨TD, 0, none⟩) :: .int .i64 now :: s5 :: s6 :: s7 :: s8 :: s9 :: s10 :: s11 :: s12 :: s13 :: s14 :: s15 :: s16 :: s17 :: s18 :: s19 :: s20 :: s21 :: s22 :: s23 :: s24 :: s25 :: s26 :: s27 :: s28 :: s29 :: s30 :: s31 :: s32 :: s33 :: s34 :: s35 :: s36 :: s37 :: s38 :: s39 :: s40 :: s41 :: s42 :: s43 :: s44 :: s45 :: s46 :: s47 :: s48 :: s49 :: s50 :: s51 :: s52 :: s53 :: s54 :: s55 :: s56 :: s57 :: s58 :: s59 :: s60 :: s61 :: s62 :: s63 :: s64 :: s65 :: s66 :: s67 :: s68 :: s69 :: s70 :: s71 :: s72 :: s73 :: s74 :: s75 :: s76 :: s77 :: s78 :: s79 :: s80 :: s81 :: s82 :: s83 :: s84 :: s85 :: s86 :: s87 :: s88 :: s89 :: s90 :: s91 :: s92 :: s93 :: s94 :: s95 :: s96 :: s97 :: s98 :: s99 :: s100 :: s101 :: s102 :: s103 :: s104 :: s105 :: s106 :: s107 :: s108 :: s109 :: s110 :: s111 :: s112 :: s113 :: s114 :: s115 :: s116 :: s117 :: s118 :: s119 :: s120 :: s121 :: s122 :: s123 :: s124 :: s125 :: s126 :: s127 :: s128 :: s129 :: s130 :: s131 :: s132 :: s133 :: s134 :: s135 :: s136 :: s137 :: s138 :: s139 :: s140 :: s141 :: s142 :: s143 :: s144 :: s145 :: s146 :: s147 :: s148 :: s149 :: s150 :: s151 :: s152 :: s153 :: s154 :: s155 :: s156 :: s157 :: s158 :: s159 :: s160 :: s161 :: s162 :: s163 :: s164 :: s165 :: s166 :: s167 :: s168 :: s169 :: s170 :: s171 :: s172 :: s173 :: s174 :: s175 :: s176 :: s177 :: s178 :: s179 :: s180 :: s181 :: s182 :: s183 :: s184 :: s185 :: s186 :: s187 :: s188 :: s189 :: s190 :: s191 :: s192 :: s193 :: s194 :: s195 :: s196 :: s197 :: s198 :: s199 :: s200 :: s201 :: s202 :: s203 :: s204 :: s205 :: s206 :: s207 :: s208 :: s209 :: s210 :: s211 :: s212 :: s213 :: s214 :: s215 :: s216 :: s217 :: s218 :: s219 :: s220 :: s221 :: s222 :: s223 :: s224 :: s225 :: s226 :: s227 :: s228 :: s229 :: s230 :: s231 :: s232 :: []).toArray, defers := [] } Wt := by
  have hcc : (Try.f5.body.bind (loopFor 0)) = some (_, _) := rfl
  rw [hcc] at hcut
  cases hcut
  clear hcc
  have xz0 : decide (0 < t0) = false := decide_eq_false hz0
  have xz1 : decide (0 < t1) = true := decide_eq_true hz1
  have HCL : Hid (∀ W, Calls Try.prog 16 #[.agg #[.bool false, .bool r0, .bool r1, .int .i64 t0, .int .i64 t1, .int .i64 u0, .int .i64 u1]] W fun e w' => ∃ a k, e = .returned (.tuple #[.agg #[.bool true, .bool false, .bool false, .int .i64 0, .int .i64 0, .int .i64 0, .int .i64 0], .slice a 1 k, .bool false, .agg #[.int .i64 0, .int .i64 0]]) ∧ Below W.heap.size W w') := fun W => (close_ng W false r0 r1 t0 t1 u0 u1 0 hOk.desc hz0 hz1).mono fun e w' ⟨a, k, h1, _, h3⟩ => ⟨a, k, h1, h3⟩
  have hn0 := hOk.n0; have hn1 := hOk.n1; have hi1 := hOk.i1
  have HWT : Hid (∀ W, Calls Try.prog 7 #[.agg #[.bool true, .bool false, .bool false, .int .i64 0, .int .i64 0, .int .i64 0, .int .i64 0], .int .i64 0, .int .i64 1, .int .i64 now] W fun e w' => e = .returned (.tuple #[.agg #[.bool true, .bool false, .bool false, .int .i64 0, .int .i64 0, .int .i64 0, .int .i64 0], .int .i64 3, .agg #[.int .i64 0, .int .i64 0]]) ∧ Below W.heap.size W w') := fun W => wait0_closed W true false false 0 0 0 0 1 now 0 0 0 (by decide) (show waitF (onF (0, 0) 0) 0 0 1 now = (0, 0) by rw [show onF (0, 0) 0 = (0, 0) from by decide]; unfold waitF; rw [if_neg (by simp), if_neg (by omega), if_neg (by decide), if_neg (by decide)]) rfl
  have HX := hide hX; have HD := hide hD
  clear hX hD hOk hn0 hn1 hi1
  obtain ⟨⟨p0, p1, p2, p3, p4, p5, p6⟩, ⟨pf0, pf1, pf2, pf3, pf4, pf5, pf6⟩, pl⟩ := block7 (unhide HD)
  go_upto_region 52 with (go_at_call 16; refine (unhide HCL _).mono ?_; rintro e w2 ⟨la, lk, rfl, hb2⟩; have HX_1 := hide (Below.next (unhide HX) hb2 (by first | exact Nat.le_refl _ | (have := unhide HBA; omega))); have Kd_1 := hide (keep_below (unhide HD) hb2); clear HX HD; clear hb2 HCL p0 p1 p2 p3 p4 p5 p6 pf0 pf1 pf2 pf3 pf4 pf5 pf6 pl)
  obtain ⟨W2, eW2, hBW2, k0_2, k1_2⟩ := two_new w2 (.cells #[.bool true, .bool false, .bool false, .int .i64 0, .int .i64 0, .int .i64 0, .int .i64 0] 25) (.cells #[.int .i64 0, .int .i64 0] 27)
  rw [eW2]
  clear eW2
  have hld_e : TD < w2.heap.size := size_of (unhide Kd_1)
  (have HX_2 := hide (Below.next (unhide HX_1) hBW2 (by first | exact Nat.le_refl _ | (have := unhide HBA; omega))); have Kd_2 := hide (keep_below (unhide Kd_1) hBW2); clear HX_1 Kd_1)
  obtain ⟨TE, eTE⟩ : ∃ X, w2.heap.size = X := ⟨_, rfl⟩
  rw [eTE] at k0_2 k1_2 hld_e ⊢
  have Ke_2 := hide k0_2
  have Kq_2 := hide k1_2
  clear eTE hBW2 k0_2 k1_2
  obtain ⟨⟨p0, p1, p2, p3, p4, p5, p6⟩, ⟨pf0, pf1, pf2, pf3, pf4, pf5, pf6⟩, pl⟩ := block7 (unhide Kd_2)
  go_wp2_with fail
  refine wp_loop_rounds 3 ?_
  rw [rounds_succ]
  go_wp2_with fail
  rw [rounds_succ]
  go_wp2_with fail
  rw [rounds_succ]
  obtain ⟨h0, h1, hf0, hf1, hl⟩ := block2 (unhide Kq_2)
  obtain ⟨⟨e0, e1, e2, e3, e4, e5, e6⟩, ⟨ef0, ef1, ef2, ef3, ef4, ef5, ef6⟩, el⟩ := block7 (unhide Ke_2)
  go_upto_region 61 with (go_at_call 7; refine (unhide HWT _).mono ?_; rintro e w3 ⟨rfl, hb3⟩; have HX_3 := hide (Below.next (unhide HX_2) hb3 (by first | exact Nat.le_refl _ | (have := unhide HBA; omega))); have Kd_3 := hide (keep_below (unhide Kd_2) hb3); have Ke_3 := hide (keep_below (unhide Ke_2) hb3); have Kq_3 := hide (keep_below (unhide Kq_2) hb3); clear HX_2 Kd_2 Ke_2 Kq_2; clear hb3 HWT p0 p1 p2 p3 p4 p5 p6 pf0 pf1 pf2 pf3 pf4 pf5 pf6 pl h0 h1 hf0 hf1 hl e0 e1 e2 e3 e4 e5 e6 ef0 ef1 ef2 ef3 ef4 ef5 ef6 el; obtain ⟨h0, h1, hf0, hf1, hl⟩ := block2 (unhide Kq_3))
  have h2 := fun (y0 y1 : Value) => below_set (i := 1) (below_set (i := 0) (unhide HX_3) (show w.heap.size ≤ TE + 1 by omega) y0) (show w.heap.size ≤ TE + 1 by omega) y1
  have H2 := hide h2
  clear h2
  go_wp2_with fail
  go_ret
  exact ⟨rfl, (unhide H2 _ _).alloc (unhide H2 _ _).size _⟩

set_option maxRecDepth 100000 in
set_option maxHeartbeats 4000000 in
theorem loses_tail_gn (w : World) (TD : Nat) (i now : Int) (r0 r1 : Bool) (t0 t1 u0 u1 f0 f1 g0 g1 : Int) (hOk : Ok i now r0 r1 t0 t1 u0 u1 f0 f1 g0 g1) (hz0 : 0 < t0) (hz1 : ¬ 0 < t1) (hw : w.heap.size ≤ TD) (Wt : World) (hX : Below w.heap.size w Wt) (hD : Wt.heap[TD]? = some (.cells #[.bool false, .bool r0, .bool r1, .int .i64 t0, .int .i64 t1, .int .i64 u0, .int .i64 u1] 25))
    {s0 s1 s2 s5 s6 s7 s8 s9 s10 s11 s12 s13 s14 s15 s16 s17 s18 s19 s20 s21 s22 s23 s24 s25 s26 s27 s28 s29 s30 s31 s32 s33 s34 s35 s36 s37 s38 s39 s40 s41 s42 s43 s44 s45 s46 s47 s48 s49 s50 s51 s52 s53 s54 s55 s56 s57 s58 s59 s60 s61 s62 s63 s64 s65 s66 s67 s68 s69 s70 s71 s72 s73 s74 s75 s76 s77 s78 s79 s80 s81 s82 s83 s84 s85 s86 s87 s88 s89 s90 s91 s92 s93 s94 s95 s96 s97 s98 s99 s100 s101 s102 s103 s104 s105 s106 s107 s108 s109 s110 s111 s112 s113 s114 s115 s116 s117 s118 s119 s120 s121 s122 s123 s124 s125 s126 s127 s128 s129 s130 s131 s132 s133 s134 s135 s136 s137 s138 s139 s140 s141 s142 s143 s144 s145 s146 s147 s148 s149 s150 s151 s152 s153 s154 s155 s156 s157 s158 s159 s160 s161 s162 s163 s164 s165 s166 s167 s168 s169 s170 s171 s172 s173 s174 s175 s176 s177 s178 s179 s180 s181 s182 s183 s184 s185 s186 s187 s188 s189 s190 s191 s192 s193 s194 s195 s196 s197 s198 s199 s200 s201 s202 s203 s204 s205 s206 s207 s208 s209 s210 s211 s212 s213 s214 s215 s216 s217 s218 s219 s220 s221 s222 s223 s224 s225 s226 s227 s228 s229 s230 s231 s232 : Value} (b r : Code) (hcut : (Try.f5.body.bind (loopFor 0)) = some (b, r)) :
    r.wp Try.prog (bodyPost Try.prog Try.f5 fun e w' => e = .returned (.bool true) ∧ Below w.heap.size w w') { tmps := (s0 :: s1 :: s2 :: .pointer (some ⟨TD, 0, none⟩) :: .int .i64 now :: s5 :: s6 :: s7 :: s8 :: s9 :: s10 :: s11 :: s12 :: s13 :: s14 :: s15 :: s16 :: s17 :: s18 :: s19 :: s20 :: s21 :: s22 :: s23 :: s24 :: s25 :: s26 :: s27 :: s28 :: s29 :: s30 :: s31 :: s32 :: s33 :: s34 :: s35 :: s36 :: s37 :: s38 :: s39 :: s40 :: s41 :: s42 :: s43 :: s44 :: s45 :: s46 :: s47 :: s48 :: s49 :: s50 :: s51 :: s52 :: s53 :: s54 :: s55 :: s56 :: s57 :: s58 :: s59 :: s60 :: s61 :: s62 :: s63 :: s64 :: s65 :: s66 :: s67 :: s68 :: s69 :: s70 :: s71 :: s72 :: s73 :: s74 :: s75 :: s76 :: s77 :: s78 :: s79 :: s80 :: s81 :: s82 :: s83 :: s84 :: s85 :: s86 :: s87 :: s88 :: s89 :: s90 :: s91 :: s92 :: s93 :: s94 :: s95 :: s96 :: s97 :: s98 :: s99 :: s100 :: s101 :: s102 :: s103 :: s104 :: s105 :: s106 :: s107 :: s108 :: s109 :: s110 :: s111 :: s112 :: s113 :: s114 :: s115 :: s116 :: s117 :: s118 :: s119 :: s120 :: s121 :: s122 :: s123 :: s124 :: s125 :: s126 :: s127 :: s128 :: s129 :: s130 :: s131 :: s132 :: s133 :: s134 :: s135 :: s136 :: s137 :: s138 :: s139 :: s140 :: s141 :: s142 :: s143 :: s144 :: s145 :: s146 :: s147 :: s148 :: s149 :: s150 :: s151 :: s152 :: s153 :: s154 :: s155 :: s156 :: s157 :: s158 :: s159 :: s160 :: s161 :: s162 :: s163 :: s164 :: s165 :: s166 :: s167 :: s168 :: s169 :: s170 :: s171 :: s172 :: s173 :: s174 :: s175 :: s176 :: s177 :: s178 :: s179 :: s180 :: s181 :: s182 :: s183 :: s184 :: s185 :: s186 :: s187 :: s188 :: s189 :: s190 :: s191 :: s192 :: s193 :: s194 :: s195 :: s196 :: s197 :: s198 :: s199 :: s200 :: s201 :: s202 :: s203 :: s204 :: s205 :: s206 :: s207 :: s208 :: s209 :: s210 :: s211 :: s212 :: s213 :: s214 :: s215 :: s216 :: s217 :: s218 :: s219 :: s220 :: s221 :: s222 :: s223 :: s224 :: s225 :: s226 :: s227 :: s228 :: s229 :: s230 :: s231 :: s232 :: []).toArray, defers := [] } Wt := by
  have hcc : (Try.f5.body.bind (loopFor 0)) = some (_, _) := rfl
  rw [hcc] at hcut
  cases hcut
  clear hcc
  have xz0 : decide (0 < t0) = true := decide_eq_true hz0
  have xz1 : decide (0 < t1) = false := decide_eq_false hz1
  have HCL : Hid (∀ W, Calls Try.prog 16 #[.agg #[.bool false, .bool r0, .bool r1, .int .i64 t0, .int .i64 t1, .int .i64 u0, .int .i64 u1]] W fun e w' => ∃ a k, e = .returned (.tuple #[.agg #[.bool true, .bool false, .bool false, .int .i64 0, .int .i64 0, .int .i64 0, .int .i64 0], .slice a 1 k, .bool false, .agg #[.int .i64 0, .int .i64 0]]) ∧ Below W.heap.size W w') := fun W => (close_gn W false r0 r1 t0 t1 u0 u1 0 hOk.desc hz0 hz1).mono fun e w' ⟨a, k, h1, _, h3⟩ => ⟨a, k, h1, h3⟩
  have hn0 := hOk.n0; have hn1 := hOk.n1; have hi1 := hOk.i1
  have HWT : Hid (∀ W, Calls Try.prog 7 #[.agg #[.bool true, .bool false, .bool false, .int .i64 0, .int .i64 0, .int .i64 0, .int .i64 0], .int .i64 0, .int .i64 1, .int .i64 now] W fun e w' => e = .returned (.tuple #[.agg #[.bool true, .bool false, .bool false, .int .i64 0, .int .i64 0, .int .i64 0, .int .i64 0], .int .i64 3, .agg #[.int .i64 0, .int .i64 0]]) ∧ Below W.heap.size W w') := fun W => wait0_closed W true false false 0 0 0 0 1 now 0 0 0 (by decide) (show waitF (onF (0, 0) 0) 0 0 1 now = (0, 0) by rw [show onF (0, 0) 0 = (0, 0) from by decide]; unfold waitF; rw [if_neg (by simp), if_neg (by omega), if_neg (by decide), if_neg (by decide)]) rfl
  have HX := hide hX; have HD := hide hD
  clear hX hD hOk hn0 hn1 hi1
  obtain ⟨⟨p0, p1, p2, p3, p4, p5, p6⟩, ⟨pf0, pf1, pf2, pf3, pf4, pf5, pf6⟩, pl⟩ := block7 (unhide HD)
  go_upto_region 52 with (go_at_call 16; refine (unhide HCL _).mono ?_; rintro e w2 ⟨la, lk, rfl, hb2⟩; have HX_1 := hide (Below.next (unhide HX) hb2 (by first | exact Nat.le_refl _ | (have := unhide HBA; omega))); have Kd_1 := hide (keep_below (unhide HD) hb2); clear HX HD; clear hb2 HCL p0 p1 p2 p3 p4 p5 p6 pf0 pf1 pf2 pf3 pf4 pf5 pf6 pl)
  obtain ⟨W2, eW2, hBW2, k0_2, k1_2⟩ := two_new w2 (.cells #[.bool true, .bool false, .bool false, .int .i64 0, .int .i64 0, .int .i64 0, .int .i64 0] 25) (.cells #[.int .i64 0, .int .i64 0] 27)
  rw [eW2]
  clear eW2
  have hld_e : TD < w2.heap.size := size_of (unhide Kd_1)
  (have HX_2 := hide (Below.next (unhide HX_1) hBW2 (by first | exact Nat.le_refl _ | (have := unhide HBA; omega))); have Kd_2 := hide (keep_below (unhide Kd_1) hBW2); clear HX_1 Kd_1)
  obtain ⟨TE, eTE⟩ : ∃ X, w2.heap.size = X := ⟨_, rfl⟩
  rw [eTE] at k0_2 k1_2 hld_e ⊢
  have Ke_2 := hide k0_2
  have Kq_2 := hide k1_2
  clear eTE hBW2 k0_2 k1_2
  obtain ⟨⟨p0, p1, p2, p3, p4, p5, p6⟩, ⟨pf0, pf1, pf2, pf3, pf4, pf5, pf6⟩, pl⟩ := block7 (unhide Kd_2)
  go_wp2_with fail
  refine wp_loop_rounds 3 ?_
  rw [rounds_succ]
  go_wp2_with fail
  rw [rounds_succ]
  go_wp2_with fail
  rw [rounds_succ]
  obtain ⟨h0, h1, hf0, hf1, hl⟩ := block2 (unhide Kq_2)
  obtain ⟨⟨e0, e1, e2, e3, e4, e5, e6⟩, ⟨ef0, ef1, ef2, ef3, ef4, ef5, ef6⟩, el⟩ := block7 (unhide Ke_2)
  go_upto_region 61 with (go_at_call 7; refine (unhide HWT _).mono ?_; rintro e w3 ⟨rfl, hb3⟩; have HX_3 := hide (Below.next (unhide HX_2) hb3 (by first | exact Nat.le_refl _ | (have := unhide HBA; omega))); have Kd_3 := hide (keep_below (unhide Kd_2) hb3); have Ke_3 := hide (keep_below (unhide Ke_2) hb3); have Kq_3 := hide (keep_below (unhide Kq_2) hb3); clear HX_2 Kd_2 Ke_2 Kq_2; clear hb3 HWT p0 p1 p2 p3 p4 p5 p6 pf0 pf1 pf2 pf3 pf4 pf5 pf6 pl h0 h1 hf0 hf1 hl e0 e1 e2 e3 e4 e5 e6 ef0 ef1 ef2 ef3 ef4 ef5 ef6 el; obtain ⟨h0, h1, hf0, hf1, hl⟩ := block2 (unhide Kq_3))
  have h2 := fun (y0 y1 : Value) => below_set (i := 1) (below_set (i := 0) (unhide HX_3) (show w.heap.size ≤ TE + 1 by omega) y0) (show w.heap.size ≤ TE + 1 by omega) y1
  have H2 := hide h2
  clear h2
  go_wp2_with fail
  go_ret
  exact ⟨rfl, (unhide H2 _ _).alloc (unhide H2 _ _).size _⟩

set_option maxRecDepth 100000 in
set_option maxHeartbeats 4000000 in
theorem loses_tail_gg (w : World) (TD : Nat) (i now : Int) (r0 r1 : Bool) (t0 t1 u0 u1 f0 f1 g0 g1 : Int) (hOk : Ok i now r0 r1 t0 t1 u0 u1 f0 f1 g0 g1) (hz0 : 0 < t0) (hz1 : 0 < t1) (hw : w.heap.size ≤ TD) (Wt : World) (hX : Below w.heap.size w Wt) (hD : Wt.heap[TD]? = some (.cells #[.bool false, .bool r0, .bool r1, .int .i64 t0, .int .i64 t1, .int .i64 u0, .int .i64 u1] 25))
    {s0 s1 s2 s5 s6 s7 s8 s9 s10 s11 s12 s13 s14 s15 s16 s17 s18 s19 s20 s21 s22 s23 s24 s25 s26 s27 s28 s29 s30 s31 s32 s33 s34 s35 s36 s37 s38 s39 s40 s41 s42 s43 s44 s45 s46 s47 s48 s49 s50 s51 s52 s53 s54 s55 s56 s57 s58 s59 s60 s61 s62 s63 s64 s65 s66 s67 s68 s69 s70 s71 s72 s73 s74 s75 s76 s77 s78 s79 s80 s81 s82 s83 s84 s85 s86 s87 s88 s89 s90 s91 s92 s93 s94 s95 s96 s97 s98 s99 s100 s101 s102 s103 s104 s105 s106 s107 s108 s109 s110 s111 s112 s113 s114 s115 s116 s117 s118 s119 s120 s121 s122 s123 s124 s125 s126 s127 s128 s129 s130 s131 s132 s133 s134 s135 s136 s137 s138 s139 s140 s141 s142 s143 s144 s145 s146 s147 s148 s149 s150 s151 s152 s153 s154 s155 s156 s157 s158 s159 s160 s161 s162 s163 s164 s165 s166 s167 s168 s169 s170 s171 s172 s173 s174 s175 s176 s177 s178 s179 s180 s181 s182 s183 s184 s185 s186 s187 s188 s189 s190 s191 s192 s193 s194 s195 s196 s197 s198 s199 s200 s201 s202 s203 s204 s205 s206 s207 s208 s209 s210 s211 s212 s213 s214 s215 s216 s217 s218 s219 s220 s221 s222 s223 s224 s225 s226 s227 s228 s229 s230 s231 s232 : Value} (b r : Code) (hcut : (Try.f5.body.bind (loopFor 0)) = some (b, r)) :
    r.wp Try.prog (bodyPost Try.prog Try.f5 fun e w' => e = .returned (.bool true) ∧ Below w.heap.size w w') { tmps := (s0 :: s1 :: s2 :: .pointer (some ⟨TD, 0, none⟩) :: .int .i64 now :: s5 :: s6 :: s7 :: s8 :: s9 :: s10 :: s11 :: s12 :: s13 :: s14 :: s15 :: s16 :: s17 :: s18 :: s19 :: s20 :: s21 :: s22 :: s23 :: s24 :: s25 :: s26 :: s27 :: s28 :: s29 :: s30 :: s31 :: s32 :: s33 :: s34 :: s35 :: s36 :: s37 :: s38 :: s39 :: s40 :: s41 :: s42 :: s43 :: s44 :: s45 :: s46 :: s47 :: s48 :: s49 :: s50 :: s51 :: s52 :: s53 :: s54 :: s55 :: s56 :: s57 :: s58 :: s59 :: s60 :: s61 :: s62 :: s63 :: s64 :: s65 :: s66 :: s67 :: s68 :: s69 :: s70 :: s71 :: s72 :: s73 :: s74 :: s75 :: s76 :: s77 :: s78 :: s79 :: s80 :: s81 :: s82 :: s83 :: s84 :: s85 :: s86 :: s87 :: s88 :: s89 :: s90 :: s91 :: s92 :: s93 :: s94 :: s95 :: s96 :: s97 :: s98 :: s99 :: s100 :: s101 :: s102 :: s103 :: s104 :: s105 :: s106 :: s107 :: s108 :: s109 :: s110 :: s111 :: s112 :: s113 :: s114 :: s115 :: s116 :: s117 :: s118 :: s119 :: s120 :: s121 :: s122 :: s123 :: s124 :: s125 :: s126 :: s127 :: s128 :: s129 :: s130 :: s131 :: s132 :: s133 :: s134 :: s135 :: s136 :: s137 :: s138 :: s139 :: s140 :: s141 :: s142 :: s143 :: s144 :: s145 :: s146 :: s147 :: s148 :: s149 :: s150 :: s151 :: s152 :: s153 :: s154 :: s155 :: s156 :: s157 :: s158 :: s159 :: s160 :: s161 :: s162 :: s163 :: s164 :: s165 :: s166 :: s167 :: s168 :: s169 :: s170 :: s171 :: s172 :: s173 :: s174 :: s175 :: s176 :: s177 :: s178 :: s179 :: s180 :: s181 :: s182 :: s183 :: s184 :: s185 :: s186 :: s187 :: s188 :: s189 :: s190 :: s191 :: s192 :: s193 :: s194 :: s195 :: s196 :: s197 :: s198 :: s199 :: s200 :: s201 :: s202 :: s203 :: s204 :: s205 :: s206 :: s207 :: s208 :: s209 :: s210 :: s211 :: s212 :: s213 :: s214 :: s215 :: s216 :: s217 :: s218 :: s219 :: s220 :: s221 :: s222 :: s223 :: s224 :: s225 :: s226 :: s227 :: s228 :: s229 :: s230 :: s231 :: s232 :: []).toArray, defers := [] } Wt := by
  have hcc : (Try.f5.body.bind (loopFor 0)) = some (_, _) := rfl
  rw [hcc] at hcut
  cases hcut
  clear hcc
  have xz0 : decide (0 < t0) = true := decide_eq_true hz0
  have xz1 : decide (0 < t1) = true := decide_eq_true hz1
  have HCL : Hid (∀ W, Calls Try.prog 16 #[.agg #[.bool false, .bool r0, .bool r1, .int .i64 t0, .int .i64 t1, .int .i64 u0, .int .i64 u1]] W fun e w' => ∃ a k, e = .returned (.tuple #[.agg #[.bool true, .bool false, .bool false, .int .i64 0, .int .i64 0, .int .i64 0, .int .i64 0], .slice a 2 k, .bool false, .agg #[.int .i64 0, .int .i64 0]]) ∧ Below W.heap.size W w') := fun W => (close_gg W false r0 r1 t0 t1 u0 u1 0 hOk.desc hz0 hz1).mono fun e w' ⟨a, k, h1, _, h3⟩ => ⟨a, k, h1, h3⟩
  have hn0 := hOk.n0; have hn1 := hOk.n1; have hi1 := hOk.i1
  have HWT : Hid (∀ W, Calls Try.prog 7 #[.agg #[.bool true, .bool false, .bool false, .int .i64 0, .int .i64 0, .int .i64 0, .int .i64 0], .int .i64 0, .int .i64 1, .int .i64 now] W fun e w' => e = .returned (.tuple #[.agg #[.bool true, .bool false, .bool false, .int .i64 0, .int .i64 0, .int .i64 0, .int .i64 0], .int .i64 3, .agg #[.int .i64 0, .int .i64 0]]) ∧ Below W.heap.size W w') := fun W => wait0_closed W true false false 0 0 0 0 1 now 0 0 0 (by decide) (show waitF (onF (0, 0) 0) 0 0 1 now = (0, 0) by rw [show onF (0, 0) 0 = (0, 0) from by decide]; unfold waitF; rw [if_neg (by simp), if_neg (by omega), if_neg (by decide), if_neg (by decide)]) rfl
  have HX := hide hX; have HD := hide hD
  clear hX hD hOk hn0 hn1 hi1
  obtain ⟨⟨p0, p1, p2, p3, p4, p5, p6⟩, ⟨pf0, pf1, pf2, pf3, pf4, pf5, pf6⟩, pl⟩ := block7 (unhide HD)
  go_upto_region 52 with (go_at_call 16; refine (unhide HCL _).mono ?_; rintro e w2 ⟨la, lk, rfl, hb2⟩; have HX_1 := hide (Below.next (unhide HX) hb2 (by first | exact Nat.le_refl _ | (have := unhide HBA; omega))); have Kd_1 := hide (keep_below (unhide HD) hb2); clear HX HD; clear hb2 HCL p0 p1 p2 p3 p4 p5 p6 pf0 pf1 pf2 pf3 pf4 pf5 pf6 pl)
  obtain ⟨W2, eW2, hBW2, k0_2, k1_2⟩ := two_new w2 (.cells #[.bool true, .bool false, .bool false, .int .i64 0, .int .i64 0, .int .i64 0, .int .i64 0] 25) (.cells #[.int .i64 0, .int .i64 0] 27)
  rw [eW2]
  clear eW2
  have hld_e : TD < w2.heap.size := size_of (unhide Kd_1)
  (have HX_2 := hide (Below.next (unhide HX_1) hBW2 (by first | exact Nat.le_refl _ | (have := unhide HBA; omega))); have Kd_2 := hide (keep_below (unhide Kd_1) hBW2); clear HX_1 Kd_1)
  obtain ⟨TE, eTE⟩ : ∃ X, w2.heap.size = X := ⟨_, rfl⟩
  rw [eTE] at k0_2 k1_2 hld_e ⊢
  have Ke_2 := hide k0_2
  have Kq_2 := hide k1_2
  clear eTE hBW2 k0_2 k1_2
  obtain ⟨⟨p0, p1, p2, p3, p4, p5, p6⟩, ⟨pf0, pf1, pf2, pf3, pf4, pf5, pf6⟩, pl⟩ := block7 (unhide Kd_2)
  go_wp2_with fail
  refine wp_loop_rounds 3 ?_
  rw [rounds_succ]
  go_wp2_with fail
  rw [rounds_succ]
  go_wp2_with fail
  rw [rounds_succ]
  obtain ⟨h0, h1, hf0, hf1, hl⟩ := block2 (unhide Kq_2)
  obtain ⟨⟨e0, e1, e2, e3, e4, e5, e6⟩, ⟨ef0, ef1, ef2, ef3, ef4, ef5, ef6⟩, el⟩ := block7 (unhide Ke_2)
  go_upto_region 61 with (go_at_call 7; refine (unhide HWT _).mono ?_; rintro e w3 ⟨rfl, hb3⟩; have HX_3 := hide (Below.next (unhide HX_2) hb3 (by first | exact Nat.le_refl _ | (have := unhide HBA; omega))); have Kd_3 := hide (keep_below (unhide Kd_2) hb3); have Ke_3 := hide (keep_below (unhide Ke_2) hb3); have Kq_3 := hide (keep_below (unhide Kq_2) hb3); clear HX_2 Kd_2 Ke_2 Kq_2; clear hb3 HWT p0 p1 p2 p3 p4 p5 p6 pf0 pf1 pf2 pf3 pf4 pf5 pf6 pl h0 h1 hf0 hf1 hl e0 e1 e2 e3 e4 e5 e6 ef0 ef1 ef2 ef3 ef4 ef5 ef6 el; obtain ⟨h0, h1, hf0, hf1, hl⟩ := block2 (unhide Kq_3))
  have h2 := fun (y0 y1 : Value) => below_set (i := 1) (below_set (i := 0) (unhide HX_3) (show w.heap.size ≤ TE + 1 by omega) y0) (show w.heap.size ≤ TE + 1 by omega) y1
  have H2 := hide h2
  clear h2
  go_wp2_with fail
  go_ret
  exact ⟨rfl, (unhide H2 _ _).alloc (unhide H2 _ _).size _⟩

end Go.Proofs.Ytmghfedlpndpiaa
