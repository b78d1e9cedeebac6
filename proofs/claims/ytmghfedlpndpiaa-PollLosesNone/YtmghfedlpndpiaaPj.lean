/-
  taskmilllaw.PollLosesNone, put together.
-/
import Derived.Test.YtmghfedlpndpiaaPh
import Derived.Test.YtmghfedlpndpiaaPi
namespace Go.Proofs.Ytmghfedlpndpiaa
open Go.RowKit

theorem loses_tail (w : World) (TD : Nat) (i now : Int) (r0 r1 : Bool) (t0 t1 u0 u1 f0 f1 g0 g1 : Int) (hOk : Ok i now r0 r1 t0 t1 u0 u1 f0 f1 g0 g1) (hw : w.heap.size ≤ TD) (Wt : World) (hX : Below w.heap.size w Wt) (hD : Wt.heap[TD]? = some (.cells #[.bool false, .bool r0, .bool r1, .int .i64 t0, .int .i64 t1, .int .i64 u0, .int .i64 u1] 25))
    {s0 s1 s2 s5 s6 s7 s8 s9 s10 s11 s12 s13 s14 s15 s16 s17 s18 s19 s20 s21 s22 s23 s24 s25 s26 s27 s28 s29 s30 s31 s32 s33 s34 s35 s36 s37 s38 s39 s40 s41 s42 s43 s44 s45 s46 s47 s48 s49 s50 s51 s52 s53 s54 s55 s56 s57 s58 s59 s60 s61 s62 s63 s64 s65 s66 s67 s68 s69 s70 s71 s72 s73 s74 s75 s76 s77 s78 s79 s80 s81 s82 s83 s84 s85 s86 s87 s88 s89 s90 s91 s92 s93 s94 s95 s96 s97 s98 s99 s100 s101 s102 s103 s104 s105 s106 s107 s108 s109 s110 s111 s112 s113 s114 s115 s116 s117 s118 s119 s120 s121 s122 s123 s124 s125 s126 s127 s128 s129 s130 s131 s132 s133 s134 s135 s136 s137 s138 s139 s140 s141 s142 s143 s144 s145 s146 s147 s148 s149 s150 s151 s152 s153 s154 s155 s156 s157 s158 s159 s160 s161 s162 s163 s164 s165 s166 s167 s168 s169 s170 s171 s172 s173 s174 s175 s176 s177 s178 s179 s180 s181 s182 s183 s184 s185 s186 s187 s188 s189 s190 s191 s192 s193 s194 s195 s196 s197 s198 s199 s200 s201 s202 s203 s204 s205 s206 s207 s208 s209 s210 s211 s212 s213 s214 s215 s216 s217 s218 s219 s220 s221 s222 s223 s224 s225 s226 s227 s228 s229 s230 s231 s232 : Value} (b r : Code) (hcut : (Try.f5.body.bind (loopFor 0)) = some (b, r)) :
    r.wp Try.prog (bodyPost Try.prog Try.f5 fun e w' => e = .returned (.bool true) ∧ Below w.heap.size w w') { tmps := (s0 :: s1 :: s2 :: .pointer (some ⟨TD, 0, none⟩) :: .int .i64 now :: s5 :: s6 :: s7 :: s8 :: s9 :: s10 :: s11 :: s12 :: s13 :: s14 :: s15 :: s16 :: s17 :: s18 :: s19 :: s20 :: s21 :: s22 :: s23 :: s24 :: s25 :: s26 :: s27 :: s28 :: s29 :: s30 :: s31 :: s32 :: s33 :: s34 :: s35 :: s36 :: s37 :: s38 :: s39 :: s40 :: s41 :: s42 :: s43 :: s44 :: s45 :: s46 :: s47 :: s48 :: s49 :: s50 :: s51 :: s52 :: s53 :: s54 :: s55 :: s56 :: s57 :: s58 :: s59 :: s60 :: s61 :: s62 :: s63 :: s64 :: s65 :: s66 :: s67 :: s68 :: s69 :: s70 :: s71 :: s72 :: s73 :: s74 :: s75 :: s76 :: s77 :: s78 :: s79 :: s80 :: s81 :: s82 :: s83 :: s84 :: s85 :: s86 :: s87 :: s88 :: s89 :: s90 :: s91 :: s92 :: s93 :: s94 :: s95 :: s96 :: s97 :: s98 :: s99 :: s100 :: s101 :: s102 :: s103 :: s104 :: s105 :: s106 :: s107 :: s108 :: s109 :: s110 :: s111 :: s112 :: s113 :: s114 :: s115 :: s116 :: s117 :: s118 :: s119 :: s120 :: s121 :: s122 :: s123 :: s124 :: s125 :: s126 :: s127 :: s128 :: s129 :: s130 :: s131 :: s132 :: s133 :: s134 :: s135 :: s136 :: s137 :: s138 :: s139 :: s140 :: s141 :: s142 :: s143 :: s144 :: s145 :: s146 :: s147 :: s148 :: s149 :: s150 :: s151 :: s152 :: s153 :: s154 :: s155 :: s156 :: s157 :: s158 :: s159 :: s160 :: s161 :: s162 :: s163 :: s164 :: s165 :: s166 :: s167 :: s168 :: s169 :: s170 :: s171 :: s172 :: s173 :: s174 :: s175 :: s176 :: s177 :: s178 :: s179 :: s180 :: s181 :: s182 :: s183 :: s184 :: s185 :: s186 :: s187 :: s188 :: s189 :: s190 :: s191 :: s192 :: s193 :: s194 :: s195 :: s196 :: s197 :: s198 :: s199 :: s200 :: s201 :: s202 :: s203 :: s204 :: s205 :: s206 :: s207 :: s208 :: s209 :: s210 :: s211 :: s212 :: s213 :: s214 :: s215 :: s216 :: s217 :: s218 :: s219 :: s220 :: s221 :: s222 :: s223 :: s224 :: s225 :: s226 :: s227 :: s228 :: s229 :: s230 :: s231 :: s232 :: []).toArray, defers := [] } Wt := by
  by_cases z0 : 0 < t0
  · by_cases z1 : 0 < t1
    · exact loses_tail_gg w TD i now r0 r1 t0 t1 u0 u1 f0 f1 g0 g1 hOk z0 z1 hw Wt hX hD b r hcut
    · exact loses_tail_gn w TD i now r0 r1 t0 t1 u0 u1 f0 f1 g0 g1 hOk z0 z1 hw Wt hX hD b r hcut
  · by_cases z1 : 0 < t1
    · exact loses_tail_ng w TD i now r0 r1 t0 t1 u0 u1 f0 f1 g0 g1 hOk z0 z1 hw Wt hX hD b r hcut
    · exact loses_tail_nn w TD i now r0 r1 t0 t1 u0 u1 f0 f1 g0 g1 hOk z0 z1 hw Wt hX hD b r hcut

theorem ok_first : Ok 0 0 false false 0 0 0 0 0 0 0 0 := by
  refine ⟨by omega, by omega, by omega, by omega, by omega, by omega, by omega, by omega, by omega, by omega, by omega, by omega, fun _ => rfl, fun _ => rfl, fun h => by omega, fun h => by omega, rfl, rfl, by omega, by omega, by omega, by omega⟩

theorem in_block {K : Act → World → Prop} {Q : Exit → Act → World → Prop} {r : Code} {a : Act} {w : World} (h : ∀ a w, r.wp Try.prog Q a w → K a w) (t : r.wp Try.prog Q a w) : Exit.inBlock 0 (Exit.then K Q) (.exit 0) a w := by
  have e : Exit.inBlock 0 (Exit.then K Q) (.exit 0) a w = K a w := by simp [Exit.inBlock, Exit.then]
  rw [e]
  exact h a w t

theorem loop_any (w : World) (xs : List Int) (a0 : Option Addr) (n c0 TD TF TG : Nat) (hIL : IsL KI w (.slice a0 n c0) xs) (hn : n ≤ 300) (ho : w.heap.size ≤ TD ∧ TD < TF ∧ TF < TG) (K : Act → World → Prop) (b r : Code) (hK : ∀ a w', r.wp Try.prog (bodyPost Try.prog Try.f5 fun e w' => e = .returned (.bool true) ∧ Below w.heap.size w w') a w' → K a w') (hcut : (Try.f5.body.bind (loopFor 0)) = some (b, r)) (Wt : World) (hX : Below w.heap.size w Wt) (hD : Wt.heap[TD]? = some (.cells #[.bool false, .bool false, .bool false, .int .i64 0, .int .i64 0, .int .i64 0, .int .i64 0] 25)) (hF : Wt.heap[TF]? = some (.cells #[.int .i64 0, .int .i64 0] 23)) (hG : Wt.heap[TG]? = some (.cells #[.int .i64 0, .int .i64 0] 23))
    {s1 s8 s9 s10 s11 s12 s13 s14 s15 s16 s17 s18 s19 s20 s21 s22 s23 s24 s25 s26 s27 s28 s29 s30 s31 s32 s33 s34 s35 s36 s37 s38 s39 s40 s41 s42 s43 s44 s45 s46 s47 s48 s49 s50 s51 s52 s53 s54 s55 s56 s57 s58 s59 s60 s61 s62 s63 s64 s65 s66 s67 s68 s69 s70 s71 s72 s73 s74 s75 s76 s77 s78 s79 s80 s81 s82 s83 s84 s85 s86 s87 s88 s89 s90 s91 s92 s93 s94 s95 s96 s97 s98 s99 s100 s101 s102 s103 s104 s105 s106 s107 s108 s109 s110 s111 s112 s113 s114 s115 s116 s117 s118 s119 s120 s121 s122 s123 s124 s125 s126 s127 s128 s129 s130 s131 s132 s133 s134 s135 s136 s137 s138 s139 s140 s141 s142 s143 s144 s145 s146 s147 s148 s149 s150 s151 s152 s153 s154 s155 s156 s157 s158 s159 s160 s161 s162 s163 s164 s165 s166 s167 s168 s169 s170 s171 s172 s173 s174 s175 s176 s177 s178 s179 s180 s181 s182 s183 s184 s185 s186 s187 s188 s189 s190 s191 s192 s193 s194 s195 s196 s197 s198 s199 s200 s201 s202 s203 s204 s205 s206 s207 s208 s209 s210 s211 s212 s213 s214 s215 s216 s217 s218 s219 s220 s221 s222 s223 s224 s225 s226 s227 s228 s229 s230 s231 s232 : Value} : (Code.loop b).wp Try.prog (Exit.inBlock 0 (Exit.then K (bodyPost Try.prog Try.f5 fun e w' => e = .returned (.bool true) ∧ Below w.heap.size w w'))) { tmps := (.slice a0 n c0 :: s1 :: .bool false :: .pointer (some ⟨TD, 0, none⟩) :: .int .i64 0 :: .pointer (some ⟨TF, 0, none⟩) :: .pointer (some ⟨TG, 0, none⟩) :: .int .i64 0 :: s8 :: s9 :: s10 :: s11 :: s12 :: s13 :: s14 :: s15 :: s16 :: s17 :: s18 :: s19 :: s20 :: s21 :: s22 :: s23 :: s24 :: s25 :: s26 :: s27 :: s28 :: s29 :: s30 :: s31 :: s32 :: s33 :: s34 :: s35 :: s36 :: s37 :: s38 :: s39 :: s40 :: s41 :: s42 :: s43 :: s44 :: s45 :: s46 :: s47 :: s48 :: s49 :: s50 :: s51 :: s52 :: s53 :: s54 :: s55 :: s56 :: s57 :: s58 :: s59 :: s60 :: s61 :: s62 :: s63 :: s64 :: s65 :: s66 :: s67 :: s68 :: s69 :: s70 :: s71 :: s72 :: s73 :: s74 :: s75 :: s76 :: s77 :: s78 :: s79 :: s80 :: s81 :: s82 :: s83 :: s84 :: s85 :: s86 :: s87 :: s88 :: s89 :: s90 :: s91 :: s92 :: s93 :: s94 :: s95 :: s96 :: s97 :: s98 :: s99 :: s100 :: s101 :: s102 :: s103 :: s104 :: s105 :: s106 :: s107 :: s108 :: s109 :: s110 :: s111 :: s112 :: s113 :: s114 :: s115 :: s116 :: s117 :: s118 :: s119 :: s120 :: s121 :: s122 :: s123 :: s124 :: s125 :: s126 :: s127 :: s128 :: s129 :: s130 :: s131 :: s132 :: s133 :: s134 :: s135 :: s136 :: s137 :: s138 :: s139 :: s140 :: s141 :: s142 :: s143 :: s144 :: s145 :: s146 :: s147 :: s148 :: s149 :: s150 :: s151 :: s152 :: s153 :: s154 :: s155 :: s156 :: s157 :: s158 :: s159 :: s160 :: s161 :: s162 :: s163 :: s164 :: s165 :: s166 :: s167 :: s168 :: s169 :: s170 :: s171 :: s172 :: s173 :: s174 :: s175 :: s176 :: s177 :: s178 :: s179 :: s180 :: s181 :: s182 :: s183 :: s184 :: s185 :: s186 :: s187 :: s188 :: s189 :: s190 :: s191 :: s192 :: s193 :: s194 :: s195 :: s196 :: s197 :: s198 :: s199 :: s200 :: s201 :: s202 :: s203 :: s204 :: s205 :: s206 :: s207 :: s208 :: s209 :: s210 :: s211 :: s212 :: s213 :: s214 :: s215 :: s216 :: s217 :: s218 :: s219 :: s220 :: s221 :: s222 :: s223 :: s224 :: s225 :: s226 :: s227 :: s228 :: s229 :: s230 :: s231 :: s232 :: []).toArray, defers := [] } Wt := by
  refine wp_loop_rounds (n + 1) ?_
  refine rounds_any w xs a0 n c0 TD TF TG hIL hn ho _ b r hcut ?_ n 0 (by omega) _ _ _ _ _ _ _ _ _ _ _ _ _ _ _ _ _ _ _ _ _ _ _ _ _ _ _ _ _ _ _ _ _ _ _ _ _ _ _ _ _ _ _ _ _ _ _ _ _ _ _ _ _ _ _ _ _ _ _ _ _ _ _ _ _ _ _ _ _ _ _ _ _ _ _ _ _ _ _ _ _ _ _ _ _ _ _ _ _ _ _ _ _ _ _ _ _ _ _ _ _ _ _ _ _ _ _ _ _ _ _ _ _ _ _ _ _ _ _ _ _ _ _ _ _ _ _ _ _ _ _ _ _ _ _ _ _ _ _ _ _ _ _ _ _ _ _ _ _ _ _ _ _ _ _ _ _ _ _ _ _ _ _ _ _ _ _ _ _ _ _ _ _ _ _ _ _ _ _ _ _ _ _ _ _ _ _ _ _ _ _ _ _ _ _ _ _ _ _ _ _ _ _ _ _ _ _ _ _ _ _ _ _ _ _ _ _ _ _ _ _ _ _ _ _ _ 0 false false 0 0 0 0 0 0 0 0 _ ok_first hX hD hF hG
  unfold NxE
  intros
  rename_i now r0 r1 t0 t1 u0 u1 f0 f1 g0 g1 W' hOk hX' hD' hF' hG'
  exact in_block hK (loses_tail w TD _ now r0 r1 t0 t1 u0 u1 f0 f1 g0 g1 hOk ho.1 W' hX' hD' b r hcut)

set_option maxRecDepth 100000 in
set_option maxHeartbeats 4000000 in
theorem loses_walk (w : World) (v : Value) (xs : List Int) (h : IsL KI w v xs) (hm : xs.length * 8 ≤ 140737488355328) :
    Calls Try.prog 5 #[v] w fun e w' => e = .returned (.bool true) ∧ Below w.heap.size w w' := by
  obtain ⟨a0, c0, rfl⟩ := h.form
  obtain ⟨n, en⟩ : ∃ n, xs.length = n := ⟨_, rfl⟩
  rw [en] at h hm ⊢
  have HIL := hide h; have HN := hide en
  clear h en
  have HX0 : Hid (Below w.heap.size w w) := Below.refl _ _
  go_enter Try.func5, Try.ntmps5
  go_upto_region 3 with (go_at_call 9; refine (begun_any _).mono ?_; rintro e w1 ⟨rfl, hb1⟩; have HX := hide hb1; clear hb1 HX0)
  by_cases h3 : 300 < n
  · have j3 : (300 : Int) < (n : Int) := by omega
    go_wp2_with fail
    go_ret
    exact ⟨rfl, unhide HX⟩
  have j3 : ¬ (300 : Int) < (n : Int) := by omega
  go_upto_region 6 with fail
  obtain ⟨W1, e1, hB1, k1⟩ := one_new w1 (.cells #[.bool false, .bool false, .bool false, .int .i64 0, .int .i64 0, .int .i64 0, .int .i64 0] 25)
  rw [e1]
  have HX1 := hide (Below.next (unhide HX) hB1 (Nat.le_refl _)); have HD := hide k1
  have hld : w.heap.size ≤ w1.heap.size := (unhide HX).size
  clear e1 hB1 k1 HX
  obtain ⟨TD, eTD⟩ : ∃ X, w1.heap.size = X := ⟨_, rfl⟩
  rw [eTD] at HD hld ⊢
  clear eTD
  go_upto_region 8 with fail
  have HX_1 := hide ((unhide HX1).alloc (Nat.le_trans (show w.heap.size ≤ w.heap.size from Nat.le_refl _) (unhide HX1).size) (.cells #[.int .i64 0, .int .i64 0] 23))
  have Kd_1 := hide (keep_alloc (unhide HD) (.cells #[.int .i64 0, .int .i64 0] 23))
  have Kf_1 := hide (new_block W1 (.cells #[.int .i64 0, .int .i64 0] 23))
  have hld_f : TD < W1.heap.size := size_of (unhide HD)
  obtain ⟨TF, eTF⟩ : ∃ X, W1.heap.size = X := ⟨_, rfl⟩
  obtain ⟨W2, eW2⟩ : ∃ X, W1.alloc (.cells #[.int .i64 0, .int .i64 0] 23) = X := ⟨_, rfl⟩
  rw [eTF, eW2] at Kf_1; rw [eW2] at HX_1 Kd_1; rw [eTF] at hld_f; rw [eTF, eW2]
  clear eTF eW2 HX1 HD
  go_upto_region 9 with fail
  have HX_2 := hide ((unhide HX_1).alloc (Nat.le_trans (show w.heap.size ≤ w.heap.size from Nat.le_refl _) (unhide HX_1).size) (.cells #[.int .i64 0, .int .i64 0] 23))
  have Kd_2 := hide (keep_alloc (unhide Kd_1) (.cells #[.int .i64 0, .int .i64 0] 23))
  have Kf_2 := hide (keep_alloc (unhide Kf_1) (.cells #[.int .i64 0, .int .i64 0] 23))
  have Kg_2 := hide (new_block W2 (.cells #[.int .i64 0, .int .i64 0] 23))
  have hld_g : TD < W2.heap.size := size_of (unhide Kd_1)
  have hlf_g : TF < W2.heap.size := size_of (unhide Kf_1)
  obtain ⟨TG, eTG⟩ : ∃ X, W2.heap.size = X := ⟨_, rfl⟩
  obtain ⟨W3, eW3⟩ : ∃ X, W2.alloc (.cells #[.int .i64 0, .int .i64 0] 23) = X := ⟨_, rfl⟩
  rw [eTG, eW3] at Kg_2; rw [eW3] at HX_2 Kd_2 Kf_2; rw [eTG] at hld_g hlf_g; rw [eTG, eW3]
  clear eTG eW3 HX_1 Kd_1 Kf_1
  go_wp2_with fail
  exact loop_any w xs a0 n c0 TD TF TG (unhide HIL) (by omega) ⟨hld, hld_f, hlf_g⟩ _ _ _ (by assumption) (by kernel_rfl) _ (unhide HX_2) (unhide Kd_2) (unhide Kf_2) (unhide Kg_2)

end Go.Proofs.Ytmghfedlpndpiaa
