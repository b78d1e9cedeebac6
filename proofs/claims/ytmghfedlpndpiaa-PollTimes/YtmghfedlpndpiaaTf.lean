/-
  taskmilllaw.PollTimes, from Tick on.
-/
import Derived.Test.YtmghfedlpndpiaaTd
namespace Go.Proofs.Ytmghfedlpndpiaa
open Go.RowKit

set_option maxRecDepth 100000 in
set_option maxHeartbeats 4000000 in
theorem tail1_nn (w : World) (c r0 r1 : Bool) (t0 t1 u0 u1 now : Int) (hC : descF c r0 r1 t0 t1 u0 u1 = (0, 0)) (h3 : ¬ now < 0) (h4 : ¬ 1000000000 < now) (hz0 : ¬ 0 < t0) (hz1 : ¬ 0 < t1)  (c0 : Bool) (M : List Int) (p : Bool) (hR : closeR c t0 t1 (0, 0) = (c0, M, p)) (m : Nat) (hm : M.length = m) (la : Option Addr) (lk : Nat) (ma : Option Addr) (mk TB TC TW : Nat) (y0 y1 : Int) (Wt : World) (hX : Below w.heap.size w Wt) (hD : Wt.heap[w.heap.size]? = some (.cells #[.bool c, .bool r0, .bool r1, .int .i64 t0, .int .i64 t1, .int .i64 u0, .int .i64 u1] 25)) (hB : Wt.heap[TB]? = some (.cells #[.bool c, .bool r0, .bool r1, .int .i64 t0, .int .i64 t1, .int .i64 u0, .int .i64 u1] 25)) (hF2 : Wt.heap[TB + 1]? = some (.cells #[.int .i64 0, .int .i64 0] 27)) (hCc : Wt.heap[TC]? = some (.cells #[.bool c0, .bool false, .bool false, .int .i64 0, .int .i64 0, .int .i64 0, .int .i64 0] 25)) (hF3 : Wt.heap[TC + 1]? = some (.cells #[.int .i64 0, .int .i64 0] 27)) (hWw : Wt.heap[TW]? = some (.cells #[.int .i64 y0, .int .i64 y1] 27)) (hL : Own KI w.heap.size Wt (.slice la 0 lk) []) (hM : Own KI w.heap.size Wt (.slice ma m mk) M) (hne : w.heap.size < TB ∧ TB + 1 < TC ∧ TC + 1 < TW)
    {s0 s1 s2 s5 s6 s7 s9 s10 s11 s20 s21 s22 s23 s24 s25 s26 s27 s28 s29 s30 s31 s32 s33 s34 s35 s36 s37 s38 s39 s40 s41 s42 s43 s44 s45 s46 s47 s48 s49 s50 s51 s52 s53 s54 s55 s56 s57 s58 s59 s60 s61 s62 s63 s64 s65 s66 s67 s68 s69 s70 s71 s72 s73 s74 s75 s76 s77 s78 s79 s80 s81 s82 s83 s84 s85 s86 s87 s88 s89 s90 s91 s92 s93 s94 s95 s96 s97 s98 s99 s100 s101 s102 s103 s104 s105 s106 s107 s108 s109 s110 s111 s112 s113 s114 s115 s116 s117 s118 s119 s120 s121 s122 s123 s124 s125 s126 s127 s128 s129 s130 s131 s132 s133 s134 s135 s136 s137 s138 s139 s140 s141 s142 s143 s144 s145 s146 s147 s148 s149 s150 s151 s152 s153 s154 s155 s156 s157 s158 s159 s160 s161 s162 s163 s164 s165 s166 s167 s168 s169 s170 s171 s172 s173 s174 s175 s176 s177 s178 s179 s180 s181 s182 s183 s184 s185 s186 s187 s188 s189 s190 s191 s192 s193 s194 s195 s196 s197 s198 s199 s200 s201 s202 s203 s204 s205 s206 s207 s208 s209 s210 s211 s212 s213 s214 s215 s216 s217 s218 s219 s220 s221 s222 s223 s224 s225 s226 s227 s228 s229 s230 s231 s232 s233 s234 s235 s236 s237 s238 s239 s240 s241 s242 s243 s244 s245 : Value} (K : Act → World → Prop) (x z : Code) (hK : ∀ a w', z.wp Try.prog (bodyPost Try.prog Try.f4 fun e w' => e = .returned (.bool true) ∧ Below w.heap.size w w') a w' → K a w') (hcut : Try.f4.body.bind (cutAt 24) = some (x, z)) :
    x.wp Try.prog (Exit.then K (bodyPost Try.prog Try.f4 fun e w' => e = .returned (.bool true) ∧ Below w.heap.size w w')) { tmps := (s0 :: s1 :: s2 :: .int .i64 now :: .pointer (some ⟨w.heap.size, 0, none⟩) :: s5 :: s6 :: s7 :: .bool false :: s9 :: s10 :: s11 :: .pointer (some ⟨TB, 0, none⟩) :: .slice la 0 lk :: .pointer (some ⟨TB + 1, 0, none⟩) :: .pointer (some ⟨TC, 0, none⟩) :: .slice ma m mk :: .bool p :: .pointer (some ⟨TC + 1, 0, none⟩) :: .pointer (some ⟨TW, 0, none⟩) :: s20 :: s21 :: s22 :: s23 :: s24 :: s25 :: s26 :: s27 :: s28 :: s29 :: s30 :: s31 :: s32 :: s33 :: s34 :: s35 :: s36 :: s37 :: s38 :: s39 :: s40 :: s41 :: s42 :: s43 :: s44 :: s45 :: s46 :: s47 :: s48 :: s49 :: s50 :: s51 :: s52 :: s53 :: s54 :: s55 :: s56 :: s57 :: s58 :: s59 :: s60 :: s61 :: s62 :: s63 :: s64 :: s65 :: s66 :: s67 :: s68 :: s69 :: s70 :: s71 :: s72 :: s73 :: s74 :: s75 :: s76 :: s77 :: s78 :: s79 :: s80 :: s81 :: s82 :: s83 :: s84 :: s85 :: s86 :: s87 :: s88 :: s89 :: s90 :: s91 :: s92 :: s93 :: s94 :: s95 :: s96 :: s97 :: s98 :: s99 :: s100 :: s101 :: s102 :: s103 :: s104 :: s105 :: s106 :: s107 :: s108 :: s109 :: s110 :: s111 :: s112 :: s113 :: s114 :: s115 :: s116 :: s117 :: s118 :: s119 :: s120 :: s121 :: s122 :: s123 :: s124 :: s125 :: s126 :: s127 :: s128 :: s129 :: s130 :: s131 :: s132 :: s133 :: s134 :: s135 :: s136 :: s137 :: s138 :: s139 :: s140 :: s141 :: s142 :: s143 :: s144 :: s145 :: s146 :: s147 :: s148 :: s149 :: s150 :: s151 :: s152 :: s153 :: s154 :: s155 :: s156 :: s157 :: s158 :: s159 :: s160 :: s161 :: s162 :: s163 :: s164 :: s165 :: s166 :: s167 :: s168 :: s169 :: s170 :: s171 :: s172 :: s173 :: s174 :: s175 :: s176 :: s177 :: s178 :: s179 :: s180 :: s181 :: s182 :: s183 :: s184 :: s185 :: s186 :: s187 :: s188 :: s189 :: s190 :: s191 :: s192 :: s193 :: s194 :: s195 :: s196 :: s197 :: s198 :: s199 :: s200 :: s201 :: s202 :: s203 :: s204 :: s205 :: s206 :: s207 :: s208 :: s209 :: s210 :: s211 :: s212 :: s213 :: s214 :: s215 :: s216 :: s217 :: s218 :: s219 :: s220 :: s221 :: s222 :: s223 :: s224 :: s225 :: s226 :: s227 :: s228 :: s229 :: s230 :: s231 :: s232 :: s233 :: s234 :: s235 :: s236 :: s237 :: s238 :: s239 :: s240 :: s241 :: s242 :: s243 :: s244 :: s245 :: []).toArray, defers := [] } Wt := by
  have h0 : Try.f4.body.bind (cutAt 24) = some (_, _) := rfl
  rw [h0] at hcut
  cases hcut
  clear h0
  have HDF : Hid (∀ W, Calls Try.prog 10 #[.agg #[.bool c, .bool r0, .bool r1, .int .i64 t0, .int .i64 t1, .int .i64 u0, .int .i64 u1]] W fun e w' => e = .returned (.agg #[.int .i64 0, .int .i64 0]) ∧ Below W.heap.size W w') := fun W => descFault_any W c r0 r1 t0 t1 u0 u1 0 0 hC
  have HX := hide hX; have HD := hide hD; have HB := hide hB; have HF2 := hide hF2; have HC := hide hCc; have HF3 := hide hF3; have HW := hide hWw; have HOL := hide hL; have HOM := hide hM
  have HC0 := hide hC; have HR := hide hR; have HM := hide hm
  obtain ⟨hn1, hn2, hn3⟩ := hne
  have HBW : Hid (w.heap.size ≤ Wt.heap.size) := hX.size
  have HLl : Hid (∀ j, (Value.slice la 0 lk).ownBlock = some j → j < Wt.heap.size) := fun j hj => (hL.lt j hj).2
  have HLm : Hid (∀ j, (Value.slice ma m mk).ownBlock = some j → j < Wt.heap.size) := fun j hj => (hM.lt j hj).2
  have HCQ : Hid (Below Wt.heap.size Wt Wt) := Below.refl _ _
  clear hX hD hB hF2 hCc hF3 hWw hL hM hC hR hm
  have xz0 : decide (0 < t0) = false := decide_eq_false hz0
  have xz1 : decide (0 < t1) = false := decide_eq_false hz1
  have xi := arr_i; have xb := arr_b
  have xbb : ∀ b : Bool, (b == b) = true := fun b => by cases b <;> rfl
  have xii : ∀ b : Int, (b == b) = true := fun b => by simp
  obtain ⟨⟨p0, p1, p2, p3, p4, p5, p6⟩, ⟨pf0, pf1, pf2, pf3, pf4, pf5, pf6⟩, pl⟩ := block7 (unhide HD)
  obtain ⟨x0, x1, xf0, xf1, xl⟩ := block2 (unhide HW)
  go_upto_region 25 with (go_at_call 10; refine (unhide HDF _).mono ?_; rintro e w6 ⟨rfl, hb6⟩; have HX_1 := hide (Below.next (unhide HX) hb6 (by first | exact Nat.le_refl _ | (have := unhide HBA; omega))); have Kd_1 := hide (keep_below (unhide HD) hb6); have Kb_1 := hide (keep_below (unhide HB) hb6); have Kf2_1 := hide (keep_below (unhide HF2) hb6); have Kc_1 := hide (keep_below (unhide HC) hb6); have Kf3_1 := hide (keep_below (unhide HF3) hb6); have Kw_1 := hide (keep_below (unhide HW) hb6); have Ol_1 := hide ((unhide HOL).below hb6); have Om_1 := hide ((unhide HOM).below hb6); clear HX HD HB HF2 HC HF3 HW HOL HOM; have HCQ6 : Hid (Below Wt.heap.size Wt w6) := hb6; clear hb6 HDF HCQ p0 p1 p2 p3 p4 p5 p6 pf0 pf1 pf2 pf3 pf4 pf5 pf6 pl x0 x1 xf0 xf1 xl; obtain ⟨x0, x1, xf0, xf1, xl⟩ := block2 (unhide Kw_1))
  clear x0 x1 xf0 xf1 xl
  have HTW : Hid (Wt.heap.size ≤ Wt.heap.size) := Nat.le_refl _
  have HX_2 := hide (put2_below (y0 := .int .i64 0) (y1 := .int .i64 0) (unhide HX_1) (show w.heap.size ≤ TW by first | omega | (have := unhide HBA; omega)))
  have Kd_2 := hide ((put2_keep (y0 := .int .i64 0) (y1 := .int .i64 0) (show w.heap.size ≠ TW by omega)).trans (unhide Kd_1))
  have Kb_2 := hide ((put2_keep (y0 := .int .i64 0) (y1 := .int .i64 0) (show TB ≠ TW by omega)).trans (unhide Kb_1))
  have Kf2_2 := hide ((put2_keep (y0 := .int .i64 0) (y1 := .int .i64 0) (show TB + 1 ≠ TW by omega)).trans (unhide Kf2_1))
  have Kc_2 := hide ((put2_keep (y0 := .int .i64 0) (y1 := .int .i64 0) (show TC ≠ TW by omega)).trans (unhide Kc_1))
  have Kf3_2 := hide ((put2_keep (y0 := .int .i64 0) (y1 := .int .i64 0) (show TC + 1 ≠ TW by omega)).trans (unhide Kf3_1))
  have Kw_2 := hide (put2_new (y0 := .int .i64 0) (y1 := .int .i64 0) (unhide Kw_1))
  have Ol_2 := hide ((unhide Ol_1).keep (fun k hk => put2_keep (y0 := .int .i64 0) (y1 := .int .i64 0) (Own.ne (unhide Ol_1) (unhide Kw_1) (by decide) k hk)))
  have Om_2 := hide ((unhide Om_1).keep (fun k hk => put2_keep (y0 := .int .i64 0) (y1 := .int .i64 0) (Own.ne (unhide Om_1) (unhide Kw_1) (by decide) k hk)))
  obtain ⟨W7, eW7⟩ : ∃ X, put2 w6 (TW) (.int .i64 0) (.int .i64 0) = X := ⟨_, rfl⟩
  rw [eW7] at HX_2 Kd_2 Kb_2 Kf2_2 Kc_2 Kf3_2 Kw_2 Ol_2 Om_2
  have eW72 : ((w6).setCell ⟨TW, 0, none⟩ (.int .i64 0)).setCell ⟨TW, 1, none⟩ (.int .i64 0) = W7 := eW7
  rw [eW72]
  clear eW7 eW72 HX_1 Kd_1 Kb_1 Kf2_1 Kc_1 Kf3_1 Kw_1 Ol_1 Om_1
  clear HCQ6 HTW
  obtain ⟨x0, x1, xf0, xf1, xl⟩ := block2 (unhide Kw_2)
  go_upto_region 26 with fail
  clear x0 x1 xf0 xf1 xl
  have HX_3 := hide ((unhide HX_2).alloc (Nat.le_trans (show w.heap.size ≤ w.heap.size from Nat.le_refl _) (unhide HX_2).size) (.cells #[.int .i64 0, .int .i64 0] 27))
  have Kd_3 := hide (keep_alloc (unhide Kd_2) (.cells #[.int .i64 0, .int .i64 0] 27))
  have Kb_3 := hide (keep_alloc (unhide Kb_2) (.cells #[.int .i64 0, .int .i64 0] 27))
  have Kf2_3 := hide (keep_alloc (unhide Kf2_2) (.cells #[.int .i64 0, .int .i64 0] 27))
  have Kc_3 := hide (keep_alloc (unhide Kc_2) (.cells #[.int .i64 0, .int .i64 0] 27))
  have Kf3_3 := hide (keep_alloc (unhide Kf3_2) (.cells #[.int .i64 0, .int .i64 0] 27))
  have Kw_3 := hide (keep_alloc (unhide Kw_2) (.cells #[.int .i64 0, .int .i64 0] 27))
  have Ol_3 := hide ((unhide Ol_2).below ((Below.refl _ _).alloc (Nat.le_refl _) (.cells #[.int .i64 0, .int .i64 0] 27)))
  have Om_3 := hide ((unhide Om_2).below ((Below.refl _ _).alloc (Nat.le_refl _) (.cells #[.int .i64 0, .int .i64 0] 27)))
  have Kv_3 := hide (new_block W7 (.cells #[.int .i64 0, .int .i64 0] 27))
  have hld_v : w.heap.size < W7.heap.size := size_of (unhide Kd_2)
  have hlb_v : TB < W7.heap.size := size_of (unhide Kb_2)
  have hlf2_v : TB + 1 < W7.heap.size := size_of (unhide Kf2_2)
  have hlc_v : TC < W7.heap.size := size_of (unhide Kc_2)
  have hlf3_v : TC + 1 < W7.heap.size := size_of (unhide Kf3_2)
  have hlw_v : TW < W7.heap.size := size_of (unhide Kw_2)
  obtain ⟨TV, eTV⟩ : ∃ X, W7.heap.size = X := ⟨_, rfl⟩
  obtain ⟨W8, eW8⟩ : ∃ X, W7.alloc (.cells #[.int .i64 0, .int .i64 0] 27) = X := ⟨_, rfl⟩
  rw [eTV, eW8] at Kv_3; rw [eW8] at HX_3 Kd_3 Kb_3 Kf2_3 Kc_3 Kf3_3 Kw_3 Ol_3 Om_3; rw [eTV] at hld_v hlb_v hlf2_v hlc_v hlf3_v hlw_v; rw [eTV, eW8]
  clear eTV eW8 HX_2 Kd_2 Kb_2 Kf2_2 Kc_2 Kf3_2 Kw_2 Ol_2 Om_2
  obtain ⟨v0, v1, vf0, vf1, vl⟩ := block2 (unhide Kv_3)
  obtain ⟨e0, e1, ef0, ef1, el⟩ := block2 (unhide Kf2_3)
  obtain ⟨g0, g1, gf0, gf1, gl⟩ := block2 (unhide Kf3_3)
  obtain ⟨x0, x1, xf0, xf1, xl⟩ := block2 (unhide Kw_3)
  obtain ⟨⟨b0, b1, b2, b3, b4, b5, b6⟩, ⟨bf0, bf1, bf2, bf3, bf4, bf5, bf6⟩, bl⟩ := block7 (unhide Kb_3)
  obtain ⟨⟨p0, p1, p2, p3, p4, p5, p6⟩, ⟨pf0, pf1, pf2, pf3, pf4, pf5, pf6⟩, pl⟩ := block7 (unhide Kd_3)
  go_upto_region 34 with fail
  clear v0 v1 vf0 vf1 vl e0 e1 ef0 ef1 el g0 g1 gf0 gf1 gl x0 x1 xf0 xf1 xl b0 b1 b2 b3 b4 b5 b6 bf0 bf1 bf2 bf3 bf4 bf5 bf6 bl p0 p1 p2 p3 p4 p5 p6 pf0 pf1 pf2 pf3 pf4 pf5 pf6 pl
  clear HBW HLl HLm
  have HLl : Hid (∀ j, (Value.slice la 0 lk).ownBlock = some j → j < W8.heap.size) := fun j hj => ((unhide Ol_3).lt j hj).2
  have HLm : Hid (∀ j, (Value.slice ma m mk).ownBlock = some j → j < W8.heap.size) := fun j hj => ((unhide Om_3).lt j hj).2
  have HX_4 := hide ((unhide HX_3).alloc (Nat.le_trans (show w.heap.size ≤ w.heap.size from Nat.le_refl _) (unhide HX_3).size) (.cells #[.bool c, .bool r0, .bool r1, .int .i64 t0, .int .i64 t1, .int .i64 u0, .int .i64 u1] 25))
  have Kd_4 := hide (keep_alloc (unhide Kd_3) (.cells #[.bool c, .bool r0, .bool r1, .int .i64 t0, .int .i64 t1, .int .i64 u0, .int .i64 u1] 25))
  have Kb_4 := hide (keep_alloc (unhide Kb_3) (.cells #[.bool c, .bool r0, .bool r1, .int .i64 t0, .int .i64 t1, .int .i64 u0, .int .i64 u1] 25))
  have Kf2_4 := hide (keep_alloc (unhide Kf2_3) (.cells #[.bool c, .bool r0, .bool r1, .int .i64 t0, .int .i64 t1, .int .i64 u0, .int .i64 u1] 25))
  have Kc_4 := hide (keep_alloc (unhide Kc_3) (.cells #[.bool c, .bool r0, .bool r1, .int .i64 t0, .int .i64 t1, .int .i64 u0, .int .i64 u1] 25))
  have Kf3_4 := hide (keep_alloc (unhide Kf3_3) (.cells #[.bool c, .bool r0, .bool r1, .int .i64 t0, .int .i64 t1, .int .i64 u0, .int .i64 u1] 25))
  have Kw_4 := hide (keep_alloc (unhide Kw_3) (.cells #[.bool c, .bool r0, .bool r1, .int .i64 t0, .int .i64 t1, .int .i64 u0, .int .i64 u1] 25))
  have Kv_4 := hide (keep_alloc (unhide Kv_3) (.cells #[.bool c, .bool r0, .bool r1, .int .i64 t0, .int .i64 t1, .int .i64 u0, .int .i64 u1] 25))
  have Ol_4 := hide ((unhide Ol_3).below ((Below.refl _ _).alloc (Nat.le_refl _) (.cells #[.bool c, .bool r0, .bool r1, .int .i64 t0, .int .i64 t1, .int .i64 u0, .int .i64 u1] 25)))
  have Om_4 := hide ((unhide Om_3).below ((Below.refl _ _).alloc (Nat.le_refl _) (.cells #[.bool c, .bool r0, .bool r1, .int .i64 t0, .int .i64 t1, .int .i64 u0, .int .i64 u1] 25)))
  have Kn_4 := hide (new_block W8 (.cells #[.bool c, .bool r0, .bool r1, .int .i64 t0, .int .i64 t1, .int .i64 u0, .int .i64 u1] 25))
  have hld_n : w.heap.size < W8.heap.size := size_of (unhide Kd_3)
  have hlb_n : TB < W8.heap.size := size_of (unhide Kb_3)
  have hlf2_n : TB + 1 < W8.heap.size := size_of (unhide Kf2_3)
  have hlc_n : TC < W8.heap.size := size_of (unhide Kc_3)
  have hlf3_n : TC + 1 < W8.heap.size := size_of (unhide Kf3_3)
  have hlw_n : TW < W8.heap.size := size_of (unhide Kw_3)
  have hlv_n : TV < W8.heap.size := size_of (unhide Kv_3)
  obtain ⟨TN, eTN⟩ : ∃ X, W8.heap.size = X := ⟨_, rfl⟩
  obtain ⟨W10, eW10⟩ : ∃ X, W8.alloc (.cells #[.bool c, .bool r0, .bool r1, .int .i64 t0, .int .i64 t1, .int .i64 u0, .int .i64 u1] 25) = X := ⟨_, rfl⟩
  rw [eTN, eW10] at Kn_4; rw [eW10] at HX_4 Kd_4 Kb_4 Kf2_4 Kc_4 Kf3_4 Kw_4 Kv_4 Ol_4 Om_4; rw [eTN] at hld_n hlb_n hlf2_n hlc_n hlf3_n hlw_n hlv_n HLl HLm; rw [eTN, eW10]
  clear eTN eW10 HX_3 Kd_3 Kb_3 Kf2_3 Kc_3 Kf3_3 Kw_3 Kv_3 Ol_3 Om_3
  have HOO := hide (own_nil (K := KI) (TN + 1) W10)
  obtain ⟨⟨p0, p1, p2, p3, p4, p5, p6⟩, ⟨pf0, pf1, pf2, pf3, pf4, pf5, pf6⟩, pl⟩ := block7 (unhide Kd_4)
  go_wp2_with fail
  refine wp_loop_rounds 3 ?_
  rw [rounds_succ]
  go_wp2_with fail
  rw [rounds_succ]
  go_wp2_with fail
  rw [rounds_succ]
  obtain ⟨⟨n0, n1, n2, n3, n4, n5, n6⟩, ⟨nf0, nf1, nf2, nf3, nf4, nf5, nf6⟩, nl⟩ := block7 (unhide Kn_4)
  obtain ⟨⟨b0, b1, b2, b3, b4, b5, b6⟩, ⟨bf0, bf1, bf2, bf3, bf4, bf5, bf6⟩, bl⟩ := block7 (unhide Kb_4)
  have HSI := hide (ints_same _ _ _ [] (unhide Ol_4).isl (unhide HOO).isl (by simp [maxLen]))
  go_upto_region 43 with (go_at_call 17; refine (unhide HSI).mono ?_; rintro e w9 ⟨rfl, hb9⟩; have HX_5 := hide (Below.next (unhide HX_4) hb9 (by first | exact Nat.le_refl _ | (have := unhide HBA; omega))); have Kd_5 := hide (keep_below (unhide Kd_4) hb9); have Kb_5 := hide (keep_below (unhide Kb_4) hb9); have Kf2_5 := hide (keep_below (unhide Kf2_4) hb9); have Kc_5 := hide (keep_below (unhide Kc_4) hb9); have Kf3_5 := hide (keep_below (unhide Kf3_4) hb9); have Kw_5 := hide (keep_below (unhide Kw_4) hb9); have Kv_5 := hide (keep_below (unhide Kv_4) hb9); have Kn_5 := hide (keep_below (unhide Kn_4) hb9); have Ol_5 := hide ((unhide Ol_4).below hb9); have Om_5 := hide ((unhide Om_4).below hb9); have Oo_5 := hide ((unhide HOO).below hb9); clear HX_4 Kd_4 Kb_4 Kf2_4 Kc_4 Kf3_4 Kw_4 Kv_4 Kn_4 Ol_4 Om_4 HOO; clear hb9 HSI p0 p1 p2 p3 p4 p5 p6 pf0 pf1 pf2 pf3 pf4 pf5 pf6 pl n0 n1 n2 n3 n4 n5 n6 nf0 nf1 nf2 nf3 nf4 nf5 nf6 nl b0 b1 b2 b3 b4 b5 b6 bf0 bf1 bf2 bf3 bf4 bf5 bf6 bl)
  exact tail2_any w c r0 r1 t0 t1 u0 u1 now 0 0 (unhide HC0) c0 M p (unhide HR) m (unhide HM) ma mk TC TW _ (unhide HX_5) (unhide Kd_5) (unhide Kc_5) (unhide Kw_5) (unhide Om_5) _ _ _ _ _ (by assumption) (by assumption) (by kernel_rfl)

set_option maxRecDepth 100000 in
set_option maxHeartbeats 4000000 in
theorem tail1_nl (w : World) (c r0 r1 : Bool) (t0 t1 u0 u1 now : Int) (hC : descF c r0 r1 t0 t1 u0 u1 = (0, 0)) (h3 : ¬ now < 0) (h4 : ¬ 1000000000 < now) (hz0 : ¬ 0 < t0) (hz1 : 0 < t1) (hL1 : late u1 now = false)  (c0 : Bool) (M : List Int) (p : Bool) (hR : closeR c t0 t1 (0, 0) = (c0, M, p)) (m : Nat) (hm : M.length = m) (la : Option Addr) (lk : Nat) (ma : Option Addr) (mk TB TC TW : Nat) (y0 y1 : Int) (Wt : World) (hX : Below w.heap.size w Wt) (hD : Wt.heap[w.heap.size]? = some (.cells #[.bool c, .bool r0, .bool r1, .int .i64 t0, .int .i64 t1, .int .i64 u0, .int .i64 u1] 25)) (hB : Wt.heap[TB]? = some (.cells #[.bool c, .bool r0, .bool r1, .int .i64 t0, .int .i64 t1, .int .i64 u0, .int .i64 u1] 25)) (hF2 : Wt.heap[TB + 1]? = some (.cells #[.int .i64 0, .int .i64 0] 27)) (hCc : Wt.heap[TC]? = some (.cells #[.bool c0, .bool false, .bool false, .int .i64 0, .int .i64 0, .int .i64 0, .int .i64 0] 25)) (hF3 : Wt.heap[TC + 1]? = some (.cells #[.int .i64 0, .int .i64 0] 27)) (hWw : Wt.heap[TW]? = some (.cells #[.int .i64 y0, .int .i64 y1] 27)) (hL : Own KI w.heap.size Wt (.slice la 0 lk) []) (hM : Own KI w.heap.size Wt (.slice ma m mk) M) (hne : w.heap.size < TB ∧ TB + 1 < TC ∧ TC + 1 < TW)
    {s0 s1 s2 s5 s6 s7 s9 s10 s11 s20 s21 s22 s23 s24 s25 s26 s27 s28 s29 s30 s31 s32 s33 s34 s35 s36 s37 s38 s39 s40 s41 s42 s43 s44 s45 s46 s47 s48 s49 s50 s51 s52 s53 s54 s55 s56 s57 s58 s59 s60 s61 s62 s63 s64 s65 s66 s67 s68 s69 s70 s71 s72 s73 s74 s75 s76 s77 s78 s79 s80 s81 s82 s83 s84 s85 s86 s87 s88 s89 s90 s91 s92 s93 s94 s95 s96 s97 s98 s99 s100 s101 s102 s103 s104 s105 s106 s107 s108 s109 s110 s111 s112 s113 s114 s115 s116 s117 s118 s119 s120 s121 s122 s123 s124 s125 s126 s127 s128 s129 s130 s131 s132 s133 s134 s135 s136 s137 s138 s139 s140 s141 s142 s143 s144 s145 s146 s147 s148 s149 s150 s151 s152 s153 s154 s155 s156 s157 s158 s159 s160 s161 s162 s163 s164 s165 s166 s167 s168 s169 s170 s171 s172 s173 s174 s175 s176 s177 s178 s179 s180 s181 s182 s183 s184 s185 s186 s187 s188 s189 s190 s191 s192 s193 s194 s195 s196 s197 s198 s199 s200 s201 s202 s203 s204 s205 s206 s207 s208 s209 s210 s211 s212 s213 s214 s215 s216 s217 s218 s219 s220 s221 s222 s223 s224 s225 s226 s227 s228 s229 s230 s231 s232 s233 s234 s235 s236 s237 s238 s239 s240 s241 s242 s243 s244 s245 : Value} (K : Act → World → Prop) (x z : Code) (hK : ∀ a w', z.wp Try.prog (bodyPost Try.prog Try.f4 fun e w' => e = .returned (.bool true) ∧ Below w.heap.size w w') a w' → K a w') (hcut : Try.f4.body.bind (cutAt 24) = some (x, z)) :
    x.wp Try.prog (Exit.then K (bodyPost Try.prog Try.f4 fun e w' => e = .returned (.bool true) ∧ Below w.heap.size w w')) { tmps := (s0 :: s1 :: s2 :: .int .i64 now :: .pointer (some ⟨w.heap.size, 0, none⟩) :: s5 :: s6 :: s7 :: .bool false :: s9 :: s10 :: s11 :: .pointer (some ⟨TB, 0, none⟩) :: .slice la 0 lk :: .pointer (some ⟨TB + 1, 0, none⟩) :: .pointer (some ⟨TC, 0, none⟩) :: .slice ma m mk :: .bool p :: .pointer (some ⟨TC + 1, 0, none⟩) :: .pointer (some ⟨TW, 0, none⟩) :: s20 :: s21 :: s22 :: s23 :: s24 :: s25 :: s26 :: s27 :: s28 :: s29 :: s30 :: s31 :: s32 :: s33 :: s34 :: s35 :: s36 :: s37 :: s38 :: s39 :: s40 :: s41 :: s42 :: s43 :: s44 :: s45 :: s46 :: s47 :: s48 :: s49 :: s50 :: s51 :: s52 :: s53 :: s54 :: s55 :: s56 :: s57 :: s58 :: s59 :: s60 :: s61 :: s62 :: s63 :: s64 :: s65 :: s66 :: s67 :: s68 :: s69 :: s70 :: s71 :: s72 :: s73 :: s74 :: s75 :: s76 :: s77 :: s78 :: s79 :: s80 :: s81 :: s82 :: s83 :: s84 :: s85 :: s86 :: s87 :: s88 :: s89 :: s90 :: s91 :: s92 :: s93 :: s94 :: s95 :: s96 :: s97 :: s98 :: s99 :: s100 :: s101 :: s102 :: s103 :: s104 :: s105 :: s106 :: s107 :: s108 :: s109 :: s110 :: s111 :: s112 :: s113 :: s114 :: s115 :: s116 :: s117 :: s118 :: s119 :: s120 :: s121 :: s122 :: s123 :: s124 :: s125 :: s126 :: s127 :: s128 :: s129 :: s130 :: s131 :: s132 :: s133 :: s134 :: s135 :: s136 :: s137 :: s138 :: s139 :: s140 :: s141 :: s142 :: s143 :: s144 :: s145 :: s146 :: s147 :: s148 :: s149 :: s150 :: s151 :: s152 :: s153 :: s154 :: s155 :: s156 :: s157 :: s158 :: s159 :: s160 :: s161 :: s162 :: s163 :: s164 :: s165 :: s166 :: s167 :: s168 :: s169 :: s170 :: s171 :: s172 :: s173 :: s174 :: s175 :: s176 :: s177 :: s178 :: s179 :: s180 :: s181 :: s182 :: s183 :: s184 :: s185 :: s186 :: s187 :: s188 :: s189 :: s190 :: s191 :: s192 :: s193 :: s194 :: s195 :: s196 :: s197 :: s198 :: s199 :: s200 :: s201 :: s202 :: s203 :: s204 :: s205 :: s206 :: s207 :: s208 :: s209 :: s210 :: s211 :: s212 :: s213 :: s214 :: s215 :: s216 :: s217 :: s218 :: s219 :: s220 :: s221 :: s222 :: s223 :: s224 :: s225 :: s226 :: s227 :: s228 :: s229 :: s230 :: s231 :: s232 :: s233 :: s234 :: s235 :: s236 :: s237 :: s238 :: s239 :: s240 :: s241 :: s242 :: s243 :: s244 :: s245 :: []).toArray, defers := [] } Wt := by
  have h0 : Try.f4.body.bind (cutAt 24) = some (_, _) := rfl
  rw [h0] at hcut
  cases hcut
  clear h0
  have HDF : Hid (∀ W, Calls Try.prog 10 #[.agg #[.bool c, .bool r0, .bool r1, .int .i64 t0, .int .i64 t1, .int .i64 u0, .int .i64 u1]] W fun e w' => e = .returned (.agg #[.int .i64 0, .int .i64 0]) ∧ Below W.heap.size W w') := fun W => descFault_any W c r0 r1 t0 t1 u0 u1 0 0 hC
  have HI1 : Hid (∀ W, Calls Try.prog 13 #[.agg #[.bool c, .bool r0, .bool r1, .int .i64 t0, .int .i64 t1, .int .i64 u0, .int .i64 u1], .int .i64 1, .int .i64 now] W fun e w' => e = .returned (.bool (late u1 now)) ∧ Below W.heap.size W w') := fun W => isLate1_any W c r0 r1 t0 t1 u0 u1 now
  rw [hL1] at HI1
  clear hL1
  have HX := hide hX; have HD := hide hD; have HB := hide hB; have HF2 := hide hF2; have HC := hide hCc; have HF3 := hide hF3; have HW := hide hWw; have HOL := hide hL; have HOM := hide hM
  have HC0 := hide hC; have HR := hide hR; have HM := hide hm
  obtain ⟨hn1, hn2, hn3⟩ := hne
  have HBW : Hid (w.heap.size ≤ Wt.heap.size) := hX.size
  have HLl : Hid (∀ j, (Value.slice la 0 lk).ownBlock = some j → j < Wt.heap.size) := fun j hj => (hL.lt j hj).2
  have HLm : Hid (∀ j, (Value.slice ma m mk).ownBlock = some j → j < Wt.heap.size) := fun j hj => (hM.lt j hj).2
  have HCQ : Hid (Below Wt.heap.size Wt Wt) := Below.refl _ _
  clear hX hD hB hF2 hCc hF3 hWw hL hM hC hR hm
  have xz0 : decide (0 < t0) = false := decide_eq_false hz0
  have xz1 : decide (0 < t1) = true := decide_eq_true hz1
  have xi := arr_i; have xb := arr_b
  have xbb : ∀ b : Bool, (b == b) = true := fun b => by cases b <;> rfl
  have xii : ∀ b : Int, (b == b) = true := fun b => by simp
  obtain ⟨⟨p0, p1, p2, p3, p4, p5, p6⟩, ⟨pf0, pf1, pf2, pf3, pf4, pf5, pf6⟩, pl⟩ := block7 (unhide HD)
  obtain ⟨x0, x1, xf0, xf1, xl⟩ := block2 (unhide HW)
  go_upto_region 25 with (go_at_call 10; refine (unhide HDF _).mono ?_; rintro e w6 ⟨rfl, hb6⟩; have HX_1 := hide (Below.next (unhide HX) hb6 (by first | exact Nat.le_refl _ | (have := unhide HBA; omega))); have Kd_1 := hide (keep_below (unhide HD) hb6); have Kb_1 := hide (keep_below (unhide HB) hb6); have Kf2_1 := hide (keep_below (unhide HF2) hb6); have Kc_1 := hide (keep_below (unhide HC) hb6); have Kf3_1 := hide (keep_below (unhide HF3) hb6); have Kw_1 := hide (keep_below (unhide HW) hb6); have Ol_1 := hide ((unhide HOL).below hb6); have Om_1 := hide ((unhide HOM).below hb6); clear HX HD HB HF2 HC HF3 HW HOL HOM; have HCQ6 : Hid (Below Wt.heap.size Wt w6) := hb6; clear hb6 HDF HCQ p0 p1 p2 p3 p4 p5 p6 pf0 pf1 pf2 pf3 pf4 pf5 pf6 pl x0 x1 xf0 xf1 xl; obtain ⟨x0, x1, xf0, xf1, xl⟩ := block2 (unhide Kw_1))
  clear x0 x1 xf0 xf1 xl
  have HTW : Hid (Wt.heap.size ≤ Wt.heap.size) := Nat.le_refl _
  have HX_2 := hide (put2_below (y0 := .int .i64 0) (y1 := .int .i64 0) (unhide HX_1) (show w.heap.size ≤ TW by first | omega | (have := unhide HBA; omega)))
  have Kd_2 := hide ((put2_keep (y0 := .int .i64 0) (y1 := .int .i64 0) (show w.heap.size ≠ TW by omega)).trans (unhide Kd_1))
  have Kb_2 := hide ((put2_keep (y0 := .int .i64 0) (y1 := .int .i64 0) (show TB ≠ TW by omega)).trans (unhide Kb_1))
  have Kf2_2 := hide ((put2_keep (y0 := .int .i64 0) (y1 := .int .i64 0) (show TB + 1 ≠ TW by omega)).trans (unhide Kf2_1))
  have Kc_2 := hide ((put2_keep (y0 := .int .i64 0) (y1 := .int .i64 0) (show TC ≠ TW by omega)).trans (unhide Kc_1))
  have Kf3_2 := hide ((put2_keep (y0 := .int .i64 0) (y1 := .int .i64 0) (show TC + 1 ≠ TW by omega)).trans (unhide Kf3_1))
  have Kw_2 := hide (put2_new (y0 := .int .i64 0) (y1 := .int .i64 0) (unhide Kw_1))
  have Ol_2 := hide ((unhide Ol_1).keep (fun k hk => put2_keep (y0 := .int .i64 0) (y1 := .int .i64 0) (Own.ne (unhide Ol_1) (unhide Kw_1) (by decide) k hk)))
  have Om_2 := hide ((unhide Om_1).keep (fun k hk => put2_keep (y0 := .int .i64 0) (y1 := .int .i64 0) (Own.ne (unhide Om_1) (unhide Kw_1) (by decide) k hk)))
  obtain ⟨W7, eW7⟩ : ∃ X, put2 w6 (TW) (.int .i64 0) (.int .i64 0) = X := ⟨_, rfl⟩
  rw [eW7] at HX_2 Kd_2 Kb_2 Kf2_2 Kc_2 Kf3_2 Kw_2 Ol_2 Om_2
  have eW72 : ((w6).setCell ⟨TW, 0, none⟩ (.int .i64 0)).setCell ⟨TW, 1, none⟩ (.int .i64 0) = W7 := eW7
  rw [eW72]
  clear eW7 eW72 HX_1 Kd_1 Kb_1 Kf2_1 Kc_1 Kf3_1 Kw_1 Ol_1 Om_1
  clear HCQ6 HTW
  obtain ⟨x0, x1, xf0, xf1, xl⟩ := block2 (unhide Kw_2)
  go_upto_region 26 with fail
  clear x0 x1 xf0 xf1 xl
  have HX_3 := hide ((unhide HX_2).alloc (Nat.le_trans (show w.heap.size ≤ w.heap.size from Nat.le_refl _) (unhide HX_2).size) (.cells #[.int .i64 0, .int .i64 0] 27))
  have Kd_3 := hide (keep_alloc (unhide Kd_2) (.cells #[.int .i64 0, .int .i64 0] 27))
  have Kb_3 := hide (keep_alloc (unhide Kb_2) (.cells #[.int .i64 0, .int .i64 0] 27))
  have Kf2_3 := hide (keep_alloc (unhide Kf2_2) (.cells #[.int .i64 0, .int .i64 0] 27))
  have Kc_3 := hide (keep_alloc (unhide Kc_2) (.cells #[.int .i64 0, .int .i64 0] 27))
  have Kf3_3 := hide (keep_alloc (unhide Kf3_2) (.cells #[.int .i64 0, .int .i64 0] 27))
  have Kw_3 := hide (keep_alloc (unhide Kw_2) (.cells #[.int .i64 0, .int .i64 0] 27))
  have Ol_3 := hide ((unhide Ol_2).below ((Below.refl _ _).alloc (Nat.le_refl _) (.cells #[.int .i64 0, .int .i64 0] 27)))
  have Om_3 := hide ((unhide Om_2).below ((Below.refl _ _).alloc (Nat.le_refl _) (.cells #[.int .i64 0, .int .i64 0] 27)))
  have Kv_3 := hide (new_block W7 (.cells #[.int .i64 0, .int .i64 0] 27))
  have hld_v : w.heap.size < W7.heap.size := size_of (unhide Kd_2)
  have hlb_v : TB < W7.heap.size := size_of (unhide Kb_2)
  have hlf2_v : TB + 1 < W7.heap.size := size_of (unhide Kf2_2)
  have hlc_v : TC < W7.heap.size := size_of (unhide Kc_2)
  have hlf3_v : TC + 1 < W7.heap.size := size_of (unhide Kf3_2)
  have hlw_v : TW < W7.heap.size := size_of (unhide Kw_2)
  obtain ⟨TV, eTV⟩ : ∃ X, W7.heap.size = X := ⟨_, rfl⟩
  obtain ⟨W8, eW8⟩ : ∃ X, W7.alloc (.cells #[.int .i64 0, .int .i64 0] 27) = X := ⟨_, rfl⟩
  rw [eTV, eW8] at Kv_3; rw [eW8] at HX_3 Kd_3 Kb_3 Kf2_3 Kc_3 Kf3_3 Kw_3 Ol_3 Om_3; rw [eTV] at hld_v hlb_v hlf2_v hlc_v hlf3_v hlw_v; rw [eTV, eW8]
  clear eTV eW8 HX_2 Kd_2 Kb_2 Kf2_2 Kc_2 Kf3_2 Kw_2 Ol_2 Om_2
  obtain ⟨v0, v1, vf0, vf1, vl⟩ := block2 (unhide Kv_3)
  obtain ⟨e0, e1, ef0, ef1, el⟩ := block2 (unhide Kf2_3)
  obtain ⟨g0, g1, gf0, gf1, gl⟩ := block2 (unhide Kf3_3)
  obtain ⟨x0, x1, xf0, xf1, xl⟩ := block2 (unhide Kw_3)
  obtain ⟨⟨b0, b1, b2, b3, b4, b5, b6⟩, ⟨bf0, bf1, bf2, bf3, bf4, bf5, bf6⟩, bl⟩ := block7 (unhide Kb_3)
  obtain ⟨⟨p0, p1, p2, p3, p4, p5, p6⟩, ⟨pf0, pf1, pf2, pf3, pf4, pf5, pf6⟩, pl⟩ := block7 (unhide Kd_3)
  go_upto_region 34 with fail
  clear v0 v1 vf0 vf1 vl e0 e1 ef0 ef1 el g0 g1 gf0 gf1 gl x0 x1 xf0 xf1 xl b0 b1 b2 b3 b4 b5 b6 bf0 bf1 bf2 bf3 bf4 bf5 bf6 bl p0 p1 p2 p3 p4 p5 p6 pf0 pf1 pf2 pf3 pf4 pf5 pf6 pl
  clear HBW HLl HLm
  have HLl : Hid (∀ j, (Value.slice la 0 lk).ownBlock = some j → j < W8.heap.size) := fun j hj => ((unhide Ol_3).lt j hj).2
  have HLm : Hid (∀ j, (Value.slice ma m mk).ownBlock = some j → j < W8.heap.size) := fun j hj => ((unhide Om_3).lt j hj).2
  have HX_4 := hide ((unhide HX_3).alloc (Nat.le_trans (show w.heap.size ≤ w.heap.size from Nat.le_refl _) (unhide HX_3).size) (.cells #[.bool c, .bool r0, .bool r1, .int .i64 t0, .int .i64 t1, .int .i64 u0, .int .i64 u1] 25))
  have Kd_4 := hide (keep_alloc (unhide Kd_3) (.cells #[.bool c, .bool r0, .bool r1, .int .i64 t0, .int .i64 t1, .int .i64 u0, .int .i64 u1] 25))
  have Kb_4 := hide (keep_alloc (unhide Kb_3) (.cells #[.bool c, .bool r0, .bool r1, .int .i64 t0, .int .i64 t1, .int .i64 u0, .int .i64 u1] 25))
  have Kf2_4 := hide (keep_alloc (unhide Kf2_3) (.cells #[.bool c, .bool r0, .bool r1, .int .i64 t0, .int .i64 t1, .int .i64 u0, .int .i64 u1] 25))
  have Kc_4 := hide (keep_alloc (unhide Kc_3) (.cells #[.bool c, .bool r0, .bool r1, .int .i64 t0, .int .i64 t1, .int .i64 u0, .int .i64 u1] 25))
  have Kf3_4 := hide (keep_alloc (unhide Kf3_3) (.cells #[.bool c, .bool r0, .bool r1, .int .i64 t0, .int .i64 t1, .int .i64 u0, .int .i64 u1] 25))
  have Kw_4 := hide (keep_alloc (unhide Kw_3) (.cells #[.bool c, .bool r0, .bool r1, .int .i64 t0, .int .i64 t1, .int .i64 u0, .int .i64 u1] 25))
  have Kv_4 := hide (keep_alloc (unhide Kv_3) (.cells #[.bool c, .bool r0, .bool r1, .int .i64 t0, .int .i64 t1, .int .i64 u0, .int .i64 u1] 25))
  have Ol_4 := hide ((unhide Ol_3).below ((Below.refl _ _).alloc (Nat.le_refl _) (.cells #[.bool c, .bool r0, .bool r1, .int .i64 t0, .int .i64 t1, .int .i64 u0, .int .i64 u1] 25)))
  have Om_4 := hide ((unhide Om_3).below ((Below.refl _ _).alloc (Nat.le_refl _) (.cells #[.bool c, .bool r0, .bool r1, .int .i64 t0, .int .i64 t1, .int .i64 u0, .int .i64 u1] 25)))
  have Kn_4 := hide (new_block W8 (.cells #[.bool c, .bool r0, .bool r1, .int .i64 t0, .int .i64 t1, .int .i64 u0, .int .i64 u1] 25))
  have hld_n : w.heap.size < W8.heap.size := size_of (unhide Kd_3)
  have hlb_n : TB < W8.heap.size := size_of (unhide Kb_3)
  have hlf2_n : TB + 1 < W8.heap.size := size_of (unhide Kf2_3)
  have hlc_n : TC < W8.heap.size := size_of (unhide Kc_3)
  have hlf3_n : TC + 1 < W8.heap.size := size_of (unhide Kf3_3)
  have hlw_n : TW < W8.heap.size := size_of (unhide Kw_3)
  have hlv_n : TV < W8.heap.size := size_of (unhide Kv_3)
  obtain ⟨TN, eTN⟩ : ∃ X, W8.heap.size = X := ⟨_, rfl⟩
  obtain ⟨W10, eW10⟩ : ∃ X, W8.alloc (.cells #[.bool c, .bool r0, .bool r1, .int .i64 t0, .int .i64 t1, .int .i64 u0, .int .i64 u1] 25) = X := ⟨_, rfl⟩
  rw [eTN, eW10] at Kn_4; rw [eW10] at HX_4 Kd_4 Kb_4 Kf2_4 Kc_4 Kf3_4 Kw_4 Kv_4 Ol_4 Om_4; rw [eTN] at hld_n hlb_n hlf2_n hlc_n hlf3_n hlw_n hlv_n HLl HLm; rw [eTN, eW10]
  clear eTN eW10 HX_3 Kd_3 Kb_3 Kf2_3 Kc_3 Kf3_3 Kw_3 Kv_3 Ol_3 Om_3
  have HOO := hide (own_nil (K := KI) (TN + 1) W10)
  obtain ⟨⟨p0, p1, p2, p3, p4, p5, p6⟩, ⟨pf0, pf1, pf2, pf3, pf4, pf5, pf6⟩, pl⟩ := block7 (unhide Kd_4)
  go_wp2_with fail
  refine wp_loop_rounds 3 ?_
  rw [rounds_succ]
  go_wp2_with fail
  rw [rounds_succ]
  go_wp2_with (go_at_call 13; refine (unhide HI1 _).mono ?_; rintro e v1w ⟨rfl, hb9⟩; have HX_5 := hide (Below.next (unhide HX_4) hb9 (by first | exact Nat.le_refl _ | (have := unhide HBA; omega))); have Kd_5 := hide (keep_below (unhide Kd_4) hb9); have Kb_5 := hide (keep_below (unhide Kb_4) hb9); have Kf2_5 := hide (keep_below (unhide Kf2_4) hb9); have Kc_5 := hide (keep_below (unhide Kc_4) hb9); have Kf3_5 := hide (keep_below (unhide Kf3_4) hb9); have Kw_5 := hide (keep_below (unhide Kw_4) hb9); have Kv_5 := hide (keep_below (unhide Kv_4) hb9); have Kn_5 := hide (keep_below (unhide Kn_4) hb9); have Ol_5 := hide ((unhide Ol_4).below hb9); have Om_5 := hide ((unhide Om_4).below hb9); have Oo_5 := hide ((unhide HOO).below hb9); clear HX_4 Kd_4 Kb_4 Kf2_4 Kc_4 Kf3_4 Kw_4 Kv_4 Kn_4 Ol_4 Om_4 HOO; clear hb9 HI1 p0 p1 p2 p3 p4 p5 p6 pf0 pf1 pf2 pf3 pf4 pf5 pf6 pl; obtain ⟨⟨p0, p1, p2, p3, p4, p5, p6⟩, ⟨pf0, pf1, pf2, pf3, pf4, pf5, pf6⟩, pl⟩ := block7 (unhide Kd_5))
  rw [rounds_succ]
  obtain ⟨⟨n0, n1, n2, n3, n4, n5, n6⟩, ⟨nf0, nf1, nf2, nf3, nf4, nf5, nf6⟩, nl⟩ := block7 (unhide Kn_5)
  obtain ⟨⟨b0, b1, b2, b3, b4, b5, b6⟩, ⟨bf0, bf1, bf2, bf3, bf4, bf5, bf6⟩, bl⟩ := block7 (unhide Kb_5)
  have HSI := hide (ints_same _ _ _ [] (unhide Ol_5).isl (unhide Oo_5).isl (by simp [maxLen]))
  go_upto_region 43 with (go_at_call 17; refine (unhide HSI).mono ?_; rintro e w9 ⟨rfl, hb9⟩; have HX_6 := hide (Below.next (unhide HX_5) hb9 (by first | exact Nat.le_refl _ | (have := unhide HBA; omega))); have Kd_6 := hide (keep_below (unhide Kd_5) hb9); have Kb_6 := hide (keep_below (unhide Kb_5) hb9); have Kf2_6 := hide (keep_below (unhide Kf2_5) hb9); have Kc_6 := hide (keep_below (unhide Kc_5) hb9); have Kf3_6 := hide (keep_below (unhide Kf3_5) hb9); have Kw_6 := hide (keep_below (unhide Kw_5) hb9); have Kv_6 := hide (keep_below (unhide Kv_5) hb9); have Kn_6 := hide (keep_below (unhide Kn_5) hb9); have Ol_6 := hide ((unhide Ol_5).below hb9); have Om_6 := hide ((unhide Om_5).below hb9); have Oo_6 := hide ((unhide Oo_5).below hb9); clear HX_5 Kd_5 Kb_5 Kf2_5 Kc_5 Kf3_5 Kw_5 Kv_5 Kn_5 Ol_5 Om_5 Oo_5; clear hb9 HSI p0 p1 p2 p3 p4 p5 p6 pf0 pf1 pf2 pf3 pf4 pf5 pf6 pl n0 n1 n2 n3 n4 n5 n6 nf0 nf1 nf2 nf3 nf4 nf5 nf6 nl b0 b1 b2 b3 b4 b5 b6 bf0 bf1 bf2 bf3 bf4 bf5 bf6 bl)
  exact tail2_any w c r0 r1 t0 t1 u0 u1 now 0 0 (unhide HC0) c0 M p (unhide HR) m (unhide HM) ma mk TC TW _ (unhide HX_6) (unhide Kd_6) (unhide Kc_6) (unhide Kw_6) (unhide Om_6) _ _ _ _ _ (by assumption) (by assumption) (by kernel_rfl)

set_option maxRecDepth 100000 in
set_option maxHeartbeats 4000000 in
theorem tail1_ln (w : World) (c r0 r1 : Bool) (t0 t1 u0 u1 now : Int) (hC : descF c r0 r1 t0 t1 u0 u1 = (0, 0)) (h3 : ¬ now < 0) (h4 : ¬ 1000000000 < now) (hz0 : 0 < t0) (hL0 : late u0 now = false) (hz1 : ¬ 0 < t1)  (c0 : Bool) (M : List Int) (p : Bool) (hR : closeR c t0 t1 (0, 0) = (c0, M, p)) (m : Nat) (hm : M.length = m) (la : Option Addr) (lk : Nat) (ma : Option Addr) (mk TB TC TW : Nat) (y0 y1 : Int) (Wt : World) (hX : Below w.heap.size w Wt) (hD : Wt.heap[w.heap.size]? = some (.cells #[.bool c, .bool r0, .bool r1, .int .i64 t0, .int .i64 t1, .int .i64 u0, .int .i64 u1] 25)) (hB : Wt.heap[TB]? = some (.cells #[.bool c, .bool r0, .bool r1, .int .i64 t0, .int .i64 t1, .int .i64 u0, .int .i64 u1] 25)) (hF2 : Wt.heap[TB + 1]? = some (.cells #[.int .i64 0, .int .i64 0] 27)) (hCc : Wt.heap[TC]? = some (.cells #[.bool c0, .bool false, .bool false, .int .i64 0, .int .i64 0, .int .i64 0, .int .i64 0] 25)) (hF3 : Wt.heap[TC + 1]? = some (.cells #[.int .i64 0, .int .i64 0] 27)) (hWw : Wt.heap[TW]? = some (.cells #[.int .i64 y0, .int .i64 y1] 27)) (hL : Own KI w.heap.size Wt (.slice la 0 lk) []) (hM : Own KI w.heap.size Wt (.slice ma m mk) M) (hne : w.heap.size < TB ∧ TB + 1 < TC ∧ TC + 1 < TW)
    {s0 s1 s2 s5 s6 s7 s9 s10 s11 s20 s21 s22 s23 s24 s25 s26 s27 s28 s29 s30 s31 s32 s33 s34 s35 s36 s37 s38 s39 s40 s41 s42 s43 s44 s45 s46 s47 s48 s49 s50 s51 s52 s53 s54 s55 s56 s57 s58 s59 s60 s61 s62 s63 s64 s65 s66 s67 s68 s69 s70 s71 s72 s73 s74 s75 s76 s77 s78 s79 s80 s81 s82 s83 s84 s85 s86 s87 s88 s89 s90 s91 s92 s93 s94 s95 s96 s97 s98 s99 s100 s101 s102 s103 s104 s105 s106 s107 s108 s109 s110 s111 s112 s113 s114 s115 s116 s117 s118 s119 s120 s121 s122 s123 s124 s125 s126 s127 s128 s129 s130 s131 s132 s133 s134 s135 s136 s137 s138 s139 s140 s141 s142 s143 s144 s145 s146 s147 s148 s149 s150 s151 s152 s153 s154 s155 s156 s157 s158 s159 s160 s161 s162 s163 s164 s165 s166 s167 s168 s169 s170 s171 s172 s173 s174 s175 s176 s177 s178 s179 s180 s181 s182 s183 s184 s185 s186 s187 s188 s189 s190 s191 s192 s193 s194 s195 s196 s197 s198 s199 s200 s201 s202 s203 s204 s205 s206 s207 s208 s209 s210 s211 s212 s213 s214 s215 s216 s217 s218 s219 s220 s221 s222 s223 s224 s225 s226 s227 s228 s229 s230 s231 s232 s233 s234 s235 s236 s237 s238 s239 s240 s241 s242 s243 s244 s245 : Value} (K : Act → World → Prop) (x z : Code) (hK : ∀ a w', z.wp Try.prog (bodyPost Try.prog Try.f4 fun e w' => e = .returned (.bool true) ∧ Below w.heap.size w w') a w' → K a w') (hcut : Try.f4.body.bind (cutAt 24) = some (x, z)) :
    x.wp Try.prog (Exit.then K (bodyPost Try.prog Try.f4 fun e w' => e = .returned (.bool true) ∧ Below w.heap.size w w')) { tmps := (s0 :: s1 :: s2 :: .int .i64 now :: .pointer (some ⟨w.heap.size, 0, none⟩) :: s5 :: s6 :: s7 :: .bool false :: s9 :: s10 :: s11 :: .pointer (some ⟨TB, 0, none⟩) :: .slice la 0 lk :: .pointer (some ⟨TB + 1, 0, none⟩) :: .pointer (some ⟨TC, 0, none⟩) :: .slice ma m mk :: .bool p :: .pointer (some ⟨TC + 1, 0, none⟩) :: .pointer (some ⟨TW, 0, none⟩) :: s20 :: s21 :: s22 :: s23 :: s24 :: s25 :: s26 :: s27 :: s28 :: s29 :: s30 :: s31 :: s32 :: s33 :: s34 :: s35 :: s36 :: s37 :: s38 :: s39 :: s40 :: s41 :: s42 :: s43 :: s44 :: s45 :: s46 :: s47 :: s48 :: s49 :: s50 :: s51 :: s52 :: s53 :: s54 :: s55 :: s56 :: s57 :: s58 :: s59 :: s60 :: s61 :: s62 :: s63 :: s64 :: s65 :: s66 :: s67 :: s68 :: s69 :: s70 :: s71 :: s72 :: s73 :: s74 :: s75 :: s76 :: s77 :: s78 :: s79 :: s80 :: s81 :: s82 :: s83 :: s84 :: s85 :: s86 :: s87 :: s88 :: s89 :: s90 :: s91 :: s92 :: s93 :: s94 :: s95 :: s96 :: s97 :: s98 :: s99 :: s100 :: s101 :: s102 :: s103 :: s104 :: s105 :: s106 :: s107 :: s108 :: s109 :: s110 :: s111 :: s112 :: s113 :: s114 :: s115 :: s116 :: s117 :: s118 :: s119 :: s120 :: s121 :: s122 :: s123 :: s124 :: s125 :: s126 :: s127 :: s128 :: s129 :: s130 :: s131 :: s132 :: s133 :: s134 :: s135 :: s136 :: s137 :: s138 :: s139 :: s140 :: s141 :: s142 :: s143 :: s144 :: s145 :: s146 :: s147 :: s148 :: s149 :: s150 :: s151 :: s152 :: s153 :: s154 :: s155 :: s156 :: s157 :: s158 :: s159 :: s160 :: s161 :: s162 :: s163 :: s164 :: s165 :: s166 :: s167 :: s168 :: s169 :: s170 :: s171 :: s172 :: s173 :: s174 :: s175 :: s176 :: s177 :: s178 :: s179 :: s180 :: s181 :: s182 :: s183 :: s184 :: s185 :: s186 :: s187 :: s188 :: s189 :: s190 :: s191 :: s192 :: s193 :: s194 :: s195 :: s196 :: s197 :: s198 :: s199 :: s200 :: s201 :: s202 :: s203 :: s204 :: s205 :: s206 :: s207 :: s208 :: s209 :: s210 :: s211 :: s212 :: s213 :: s214 :: s215 :: s216 :: s217 :: s218 :: s219 :: s220 :: s221 :: s222 :: s223 :: s224 :: s225 :: s226 :: s227 :: s228 :: s229 :: s230 :: s231 :: s232 :: s233 :: s234 :: s235 :: s236 :: s237 :: s238 :: s239 :: s240 :: s241 :: s242 :: s243 :: s244 :: s245 :: []).toArray, defers := [] } Wt := by
  have h0 : Try.f4.body.bind (cutAt 24) = some (_, _) := rfl
  rw [h0] at hcut
  cases hcut
  clear h0
  have HDF : Hid (∀ W, Calls Try.prog 10 #[.agg #[.bool c, .bool r0, .bool r1, .int .i64 t0, .int .i64 t1, .int .i64 u0, .int .i64 u1]] W fun e w' => e = .returned (.agg #[.int .i64 0, .int .i64 0]) ∧ Below W.heap.size W w') := fun W => descFault_any W c r0 r1 t0 t1 u0 u1 0 0 hC
  have HI0 : Hid (∀ W, Calls Try.prog 13 #[.agg #[.bool c, .bool r0, .bool r1, .int .i64 t0, .int .i64 t1, .int .i64 u0, .int .i64 u1], .int .i64 0, .int .i64 now] W fun e w' => e = .returned (.bool (late u0 now)) ∧ Below W.heap.size W w') := fun W => isLate0_any W c r0 r1 t0 t1 u0 u1 now
  rw [hL0] at HI0
  clear hL0
  have HX := hide hX; have HD := hide hD; have HB := hide hB; have HF2 := hide hF2; have HC := hide hCc; have HF3 := hide hF3; have HW := hide hWw; have HOL := hide hL; have HOM := hide hM
  have HC0 := hide hC; have HR := hide hR; have HM := hide hm
  obtain ⟨hn1, hn2, hn3⟩ := hne
  have HBW : Hid (w.heap.size ≤ Wt.heap.size) := hX.size
  have HLl : Hid (∀ j, (Value.slice la 0 lk).ownBlock = some j → j < Wt.heap.size) := fun j hj => (hL.lt j hj).2
  have HLm : Hid (∀ j, (Value.slice ma m mk).ownBlock = some j → j < Wt.heap.size) := fun j hj => (hM.lt j hj).2
  have HCQ : Hid (Below Wt.heap.size Wt Wt) := Below.refl _ _
  clear hX hD hB hF2 hCc hF3 hWw hL hM hC hR hm
  have xz0 : decide (0 < t0) = true := decide_eq_true hz0
  have xz1 : decide (0 < t1) = false := decide_eq_false hz1
  have xi := arr_i; have xb := arr_b
  have xbb : ∀ b : Bool, (b == b) = true := fun b => by cases b <;> rfl
  have xii : ∀ b : Int, (b == b) = true := fun b => by simp
  obtain ⟨⟨p0, p1, p2, p3, p4, p5, p6⟩, ⟨pf0, pf1, pf2, pf3, pf4, pf5, pf6⟩, pl⟩ := block7 (unhide HD)
  obtain ⟨x0, x1, xf0, xf1, xl⟩ := block2 (unhide HW)
  go_upto_region 25 with (go_at_call 10; refine (unhide HDF _).mono ?_; rintro e w6 ⟨rfl, hb6⟩; have HX_1 := hide (Below.next (unhide HX) hb6 (by first | exact Nat.le_refl _ | (have := unhide HBA; omega))); have Kd_1 := hide (keep_below (unhide HD) hb6); have Kb_1 := hide (keep_below (unhide HB) hb6); have Kf2_1 := hide (keep_below (unhide HF2) hb6); have Kc_1 := hide (keep_below (unhide HC) hb6); have Kf3_1 := hide (keep_below (unhide HF3) hb6); have Kw_1 := hide (keep_below (unhide HW) hb6); have Ol_1 := hide ((unhide HOL).below hb6); have Om_1 := hide ((unhide HOM).below hb6); clear HX HD HB HF2 HC HF3 HW HOL HOM; have HCQ6 : Hid (Below Wt.heap.size Wt w6) := hb6; clear hb6 HDF HCQ p0 p1 p2 p3 p4 p5 p6 pf0 pf1 pf2 pf3 pf4 pf5 pf6 pl x0 x1 xf0 xf1 xl; obtain ⟨x0, x1, xf0, xf1, xl⟩ := block2 (unhide Kw_1))
  clear x0 x1 xf0 xf1 xl
  have HTW : Hid (Wt.heap.size ≤ Wt.heap.size) := Nat.le_refl _
  have HX_2 := hide (put2_below (y0 := .int .i64 0) (y1 := .int .i64 0) (unhide HX_1) (show w.heap.size ≤ TW by first | omega | (have := unhide HBA; omega)))
  have Kd_2 := hide ((put2_keep (y0 := .int .i64 0) (y1 := .int .i64 0) (show w.heap.size ≠ TW by omega)).trans (unhide Kd_1))
  have Kb_2 := hide ((put2_keep (y0 := .int .i64 0) (y1 := .int .i64 0) (show TB ≠ TW by omega)).trans (unhide Kb_1))
  have Kf2_2 := hide ((put2_keep (y0 := .int .i64 0) (y1 := .int .i64 0) (show TB + 1 ≠ TW by omega)).trans (unhide Kf2_1))
  have Kc_2 := hide ((put2_keep (y0 := .int .i64 0) (y1 := .int .i64 0) (show TC ≠ TW by omega)).trans (unhide Kc_1))
  have Kf3_2 := hide ((put2_keep (y0 := .int .i64 0) (y1 := .int .i64 0) (show TC + 1 ≠ TW by omega)).trans (unhide Kf3_1))
  have Kw_2 := hide (put2_new (y0 := .int .i64 0) (y1 := .int .i64 0) (unhide Kw_1))
  have Ol_2 := hide ((unhide Ol_1).keep (fun k hk => put2_keep (y0 := .int .i64 0) (y1 := .int .i64 0) (Own.ne (unhide Ol_1) (unhide Kw_1) (by decide) k hk)))
  have Om_2 := hide ((unhide Om_1).keep (fun k hk => put2_keep (y0 := .int .i64 0) (y1 := .int .i64 0) (Own.ne (unhide Om_1) (unhide Kw_1) (by decide) k hk)))
  obtain ⟨W7, eW7⟩ : ∃ X, put2 w6 (TW) (.int .i64 0) (.int .i64 0) = X := ⟨_, rfl⟩
  rw [eW7] at HX_2 Kd_2 Kb_2 Kf2_2 Kc_2 Kf3_2 Kw_2 Ol_2 Om_2
  have eW72 : ((w6).setCell ⟨TW, 0, none⟩ (.int .i64 0)).setCell ⟨TW, 1, none⟩ (.int .i64 0) = W7 := eW7
  rw [eW72]
  clear eW7 eW72 HX_1 Kd_1 Kb_1 Kf2_1 Kc_1 Kf3_1 Kw_1 Ol_1 Om_1
  clear HCQ6 HTW
  obtain ⟨x0, x1, xf0, xf1, xl⟩ := block2 (unhide Kw_2)
  go_upto_region 26 with fail
  clear x0 x1 xf0 xf1 xl
  have HX_3 := hide ((unhide HX_2).alloc (Nat.le_trans (show w.heap.size ≤ w.heap.size from Nat.le_refl _) (unhide HX_2).size) (.cells #[.int .i64 0, .int .i64 0] 27))
  have Kd_3 := hide (keep_alloc (unhide Kd_2) (.cells #[.int .i64 0, .int .i64 0] 27))
  have Kb_3 := hide (keep_alloc (unhide Kb_2) (.cells #[.int .i64 0, .int .i64 0] 27))
  have Kf2_3 := hide (keep_alloc (unhide Kf2_2) (.cells #[.int .i64 0, .int .i64 0] 27))
  have Kc_3 := hide (keep_alloc (unhide Kc_2) (.cells #[.int .i64 0, .int .i64 0] 27))
  have Kf3_3 := hide (keep_alloc (unhide Kf3_2) (.cells #[.int .i64 0, .int .i64 0] 27))
  have Kw_3 := hide (keep_alloc (unhide Kw_2) (.cells #[.int .i64 0, .int .i64 0] 27))
  have Ol_3 := hide ((unhide Ol_2).below ((Below.refl _ _).alloc (Nat.le_refl _) (.cells #[.int .i64 0, .int .i64 0] 27)))
  have Om_3 := hide ((unhide Om_2).below ((Below.refl _ _).alloc (Nat.le_refl _) (.cells #[.int .i64 0, .int .i64 0] 27)))
  have Kv_3 := hide (new_block W7 (.cells #[.int .i64 0, .int .i64 0] 27))
  have hld_v : w.heap.size < W7.heap.size := size_of (unhide Kd_2)
  have hlb_v : TB < W7.heap.size := size_of (unhide Kb_2)
  have hlf2_v : TB + 1 < W7.heap.size := size_of (unhide Kf2_2)
  have hlc_v : TC < W7.heap.size := size_of (unhide Kc_2)
  have hlf3_v : TC + 1 < W7.heap.size := size_of (unhide Kf3_2)
  have hlw_v : TW < W7.heap.size := size_of (unhide Kw_2)
  obtain ⟨TV, eTV⟩ : ∃ X, W7.heap.size = X := ⟨_, rfl⟩
  obtain ⟨W8, eW8⟩ : ∃ X, W7.alloc (.cells #[.int .i64 0, .int .i64 0] 27) = X := ⟨_, rfl⟩
  rw [eTV, eW8] at Kv_3; rw [eW8] at HX_3 Kd_3 Kb_3 Kf2_3 Kc_3 Kf3_3 Kw_3 Ol_3 Om_3; rw [eTV] at hld_v hlb_v hlf2_v hlc_v hlf3_v hlw_v; rw [eTV, eW8]
  clear eTV eW8 HX_2 Kd_2 Kb_2 Kf2_2 Kc_2 Kf3_2 Kw_2 Ol_2 Om_2
  obtain ⟨v0, v1, vf0, vf1, vl⟩ := block2 (unhide Kv_3)
  obtain ⟨e0, e1, ef0, ef1, el⟩ := block2 (unhide Kf2_3)
  obtain ⟨g0, g1, gf0, gf1, gl⟩ := block2 (unhide Kf3_3)
  obtain ⟨x0, x1, xf0, xf1, xl⟩ := block2 (unhide Kw_3)
  obtain ⟨⟨b0, b1, b2, b3, b4, b5, b6⟩, ⟨bf0, bf1, bf2, bf3, bf4, bf5, bf6⟩, bl⟩ := block7 (unhide Kb_3)
  obtain ⟨⟨p0, p1, p2, p3, p4, p5, p6⟩, ⟨pf0, pf1, pf2, pf3, pf4, pf5, pf6⟩, pl⟩ := block7 (unhide Kd_3)
  go_upto_region 34 with fail
  clear v0 v1 vf0 vf1 vl e0 e1 ef0 ef1 el g0 g1 gf0 gf1 gl x0 x1 xf0 xf1 xl b0 b1 b2 b3 b4 b5 b6 bf0 bf1 bf2 bf3 bf4 bf5 bf6 bl p0 p1 p2 p3 p4 p5 p6 pf0 pf1 pf2 pf3 pf4 pf5 pf6 pl
  clear HBW HLl HLm
  have HLl : Hid (∀ j, (Value.slice la 0 lk).ownBlock = some j → j < W8.heap.size) := fun j hj => ((unhide Ol_3).lt j hj).2
  have HLm : Hid (∀ j, (Value.slice ma m mk).ownBlock = some j → j < W8.heap.size) := fun j hj => ((unhide Om_3).lt j hj).2
  have HX_4 := hide ((unhide HX_3).alloc (Nat.le_trans (show w.heap.size ≤ w.heap.size from Nat.le_refl _) (unhide HX_3).size) (.cells #[.bool c, .bool r0, .bool r1, .int .i64 t0, .int .i64 t1, .int .i64 u0, .int .i64 u1] 25))
  have Kd_4 := hide (keep_alloc (unhide Kd_3) (.cells #[.bool c, .bool r0, .bool r1, .int .i64 t0, .int .i64 t1, .int .i64 u0, .int .i64 u1] 25))
  have Kb_4 := hide (keep_alloc (unhide Kb_3) (.cells #[.bool c, .bool r0, .bool r1, .int .i64 t0, .int .i64 t1, .int .i64 u0, .int .i64 u1] 25))
  have Kf2_4 := hide (keep_alloc (unhide Kf2_3) (.cells #[.bool c, .bool r0, .bool r1, .int .i64 t0, .int .i64 t1, .int .i64 u0, .int .i64 u1] 25))
  have Kc_4 := hide (keep_alloc (unhide Kc_3) (.cells #[.bool c, .bool r0, .bool r1, .int .i64 t0, .int .i64 t1, .int .i64 u0, .int .i64 u1] 25))
  have Kf3_4 := hide (keep_alloc (unhide Kf3_3) (.cells #[.bool c, .bool r0, .bool r1, .int .i64 t0, .int .i64 t1, .int .i64 u0, .int .i64 u1] 25))
  have Kw_4 := hide (keep_alloc (unhide Kw_3) (.cells #[.bool c, .bool r0, .bool r1, .int .i64 t0, .int .i64 t1, .int .i64 u0, .int .i64 u1] 25))
  have Kv_4 := hide (keep_alloc (unhide Kv_3) (.cells #[.bool c, .bool r0, .bool r1, .int .i64 t0, .int .i64 t1, .int .i64 u0, .int .i64 u1] 25))
  have Ol_4 := hide ((unhide Ol_3).below ((Below.refl _ _).alloc (Nat.le_refl _) (.cells #[.bool c, .bool r0, .bool r1, .int .i64 t0, .int .i64 t1, .int .i64 u0, .int .i64 u1] 25)))
  have Om_4 := hide ((unhide Om_3).below ((Below.refl _ _).alloc (Nat.le_refl _) (.cells #[.bool c, .bool r0, .bool r1, .int .i64 t0, .int .i64 t1, .int .i64 u0, .int .i64 u1] 25)))
  have Kn_4 := hide (new_block W8 (.cells #[.bool c, .bool r0, .bool r1, .int .i64 t0, .int .i64 t1, .int .i64 u0, .int .i64 u1] 25))
  have hld_n : w.heap.size < W8.heap.size := size_of (unhide Kd_3)
  have hlb_n : TB < W8.heap.size := size_of (unhide Kb_3)
  have hlf2_n : TB + 1 < W8.heap.size := size_of (unhide Kf2_3)
  have hlc_n : TC < W8.heap.size := size_of (unhide Kc_3)
  have hlf3_n : TC + 1 < W8.heap.size := size_of (unhide Kf3_3)
  have hlw_n : TW < W8.heap.size := size_of (unhide Kw_3)
  have hlv_n : TV < W8.heap.size := size_of (unhide Kv_3)
  obtain ⟨TN, eTN⟩ : ∃ X, W8.heap.size = X := ⟨_, rfl⟩
  obtain ⟨W10, eW10⟩ : ∃ X, W8.alloc (.cells #[.bool c, .bool r0, .bool r1, .int .i64 t0, .int .i64 t1, .int .i64 u0, .int .i64 u1] 25) = X := ⟨_, rfl⟩
  rw [eTN, eW10] at Kn_4; rw [eW10] at HX_4 Kd_4 Kb_4 Kf2_4 Kc_4 Kf3_4 Kw_4 Kv_4 Ol_4 Om_4; rw [eTN] at hld_n hlb_n hlf2_n hlc_n hlf3_n hlw_n hlv_n HLl HLm; rw [eTN, eW10]
  clear eTN eW10 HX_3 Kd_3 Kb_3 Kf2_3 Kc_3 Kf3_3 Kw_3 Kv_3 Ol_3 Om_3
  have HOO := hide (own_nil (K := KI) (TN + 1) W10)
  obtain ⟨⟨p0, p1, p2, p3, p4, p5, p6⟩, ⟨pf0, pf1, pf2, pf3, pf4, pf5, pf6⟩, pl⟩ := block7 (unhide Kd_4)
  go_wp2_with fail
  refine wp_loop_rounds 3 ?_
  rw [rounds_succ]
  go_wp2_with (go_at_call 13; refine (unhide HI0 _).mono ?_; rintro e v0w ⟨rfl, hb9⟩; have HX_5 := hide (Below.next (unhide HX_4) hb9 (by first | exact Nat.le_refl _ | (have := unhide HBA; omega))); have Kd_5 := hide (keep_below (unhide Kd_4) hb9); have Kb_5 := hide (keep_below (unhide Kb_4) hb9); have Kf2_5 := hide (keep_below (unhide Kf2_4) hb9); have Kc_5 := hide (keep_below (unhide Kc_4) hb9); have Kf3_5 := hide (keep_below (unhide Kf3_4) hb9); have Kw_5 := hide (keep_below (unhide Kw_4) hb9); have Kv_5 := hide (keep_below (unhide Kv_4) hb9); have Kn_5 := hide (keep_below (unhide Kn_4) hb9); have Ol_5 := hide ((unhide Ol_4).below hb9); have Om_5 := hide ((unhide Om_4).below hb9); have Oo_5 := hide ((unhide HOO).below hb9); clear HX_4 Kd_4 Kb_4 Kf2_4 Kc_4 Kf3_4 Kw_4 Kv_4 Kn_4 Ol_4 Om_4 HOO; clear hb9 HI0 p0 p1 p2 p3 p4 p5 p6 pf0 pf1 pf2 pf3 pf4 pf5 pf6 pl; obtain ⟨⟨p0, p1, p2, p3, p4, p5, p6⟩, ⟨pf0, pf1, pf2, pf3, pf4, pf5, pf6⟩, pl⟩ := block7 (unhide Kd_5))
  rw [rounds_succ]
  go_wp2_with fail
  rw [rounds_succ]
  obtain ⟨⟨n0, n1, n2, n3, n4, n5, n6⟩, ⟨nf0, nf1, nf2, nf3, nf4, nf5, nf6⟩, nl⟩ := block7 (unhide Kn_5)
  obtain ⟨⟨b0, b1, b2, b3, b4, b5, b6⟩, ⟨bf0, bf1, bf2, bf3, bf4, bf5, bf6⟩, bl⟩ := block7 (unhide Kb_5)
  have HSI := hide (ints_same _ _ _ [] (unhide Ol_5).isl (unhide Oo_5).isl (by simp [maxLen]))
  go_upto_region 43 with (go_at_call 17; refine (unhide HSI).mono ?_; rintro e w9 ⟨rfl, hb9⟩; have HX_6 := hide (Below.next (unhide HX_5) hb9 (by first | exact Nat.le_refl _ | (have := unhide HBA; omega))); have Kd_6 := hide (keep_below (unhide Kd_5) hb9); have Kb_6 := hide (keep_below (unhide Kb_5) hb9); have Kf2_6 := hide (keep_below (unhide Kf2_5) hb9); have Kc_6 := hide (keep_below (unhide Kc_5) hb9); have Kf3_6 := hide (keep_below (unhide Kf3_5) hb9); have Kw_6 := hide (keep_below (unhide Kw_5) hb9); have Kv_6 := hide (keep_below (unhide Kv_5) hb9); have Kn_6 := hide (keep_below (unhide Kn_5) hb9); have Ol_6 := hide ((unhide Ol_5).below hb9); have Om_6 := hide ((unhide Om_5).below hb9); have Oo_6 := hide ((unhide Oo_5).below hb9); clear HX_5 Kd_5 Kb_5 Kf2_5 Kc_5 Kf3_5 Kw_5 Kv_5 Kn_5 Ol_5 Om_5 Oo_5; clear hb9 HSI p0 p1 p2 p3 p4 p5 p6 pf0 pf1 pf2 pf3 pf4 pf5 pf6 pl n0 n1 n2 n3 n4 n5 n6 nf0 nf1 nf2 nf3 nf4 nf5 nf6 nl b0 b1 b2 b3 b4 b5 b6 bf0 bf1 bf2 bf3 bf4 bf5 bf6 bl)
  exact tail2_any w c r0 r1 t0 t1 u0 u1 now 0 0 (unhide HC0) c0 M p (unhide HR) m (unhide HM) ma mk TC TW _ (unhide HX_6) (unhide Kd_6) (unhide Kc_6) (unhide Kw_6) (unhide Om_6) _ _ _ _ _ (by assumption) (by assumption) (by kernel_rfl)

set_option maxRecDepth 100000 in
set_option maxHeartbeats 4000000 in
theorem tail1_ll (w : World) (c r0 r1 : Bool) (t0 t1 u0 u1 now : Int) (hC : descF c r0 r1 t0 t1 u0 u1 = (0, 0)) (h3 : ¬ now < 0) (h4 : ¬ 1000000000 < now) (hz0 : 0 < t0) (hL0 : late u0 now = false) (hz1 : 0 < t1) (hL1 : late u1 now = false)  (c0 : Bool) (M : List Int) (p : Bool) (hR : closeR c t0 t1 (0, 0) = (c0, M, p)) (m : Nat) (hm : M.length = m) (la : Option Addr) (lk : Nat) (ma : Option Addr) (mk TB TC TW : Nat) (y0 y1 : Int) (Wt : World) (hX : Below w.heap.size w Wt) (hD : Wt.heap[w.heap.size]? = some (.cells #[.bool c, .bool r0, .bool r1, .int .i64 t0, .int .i64 t1, .int .i64 u0, .int .i64 u1] 25)) (hB : Wt.heap[TB]? = some (.cells #[.bool c, .bool r0, .bool r1, .int .i64 t0, .int .i64 t1, .int .i64 u0, .int .i64 u1] 25)) (hF2 : Wt.heap[TB + 1]? = some (.cells #[.int .i64 0, .int .i64 0] 27)) (hCc : Wt.heap[TC]? = some (.cells #[.bool c0, .bool false, .bool false, .int .i64 0, .int .i64 0, .int .i64 0, .int .i64 0] 25)) (hF3 : Wt.heap[TC + 1]? = some (.cells #[.int .i64 0, .int .i64 0] 27)) (hWw : Wt.heap[TW]? = some (.cells #[.int .i64 y0, .int .i64 y1] 27)) (hL : Own KI w.heap.size Wt (.slice la 0 lk) []) (hM : Own KI w.heap.size Wt (.slice ma m mk) M) (hne : w.heap.size < TB ∧ TB + 1 < TC ∧ TC + 1 < TW)
    {s0 s1 s2 s5 s6 s7 s9 s10 s11 s20 s21 s22 s23 s24 s25 s26 s27 s28 s29 s30 s31 s32 s33 s34 s35 s36 s37 s38 s39 s40 s41 s42 s43 s44 s45 s46 s47 s48 s49 s50 s51 s52 s53 s54 s55 s56 s57 s58 s59 s60 s61 s62 s63 s64 s65 s66 s67 s68 s69 s70 s71 s72 s73 s74 s75 s76 s77 s78 s79 s80 s81 s82 s83 s84 s85 s86 s87 s88 s89 s90 s91 s92 s93 s94 s95 s96 s97 s98 s99 s100 s101 s102 s103 s104 s105 s106 s107 s108 s109 s110 s111 s112 s113 s114 s115 s116 s117 s118 s119 s120 s121 s122 s123 s124 s125 s126 s127 s128 s129 s130 s131 s132 s133 s134 s135 s136 s137 s138 s139 s140 s141 s142 s143 s144 s145 s146 s147 s148 s149 s150 s151 s152 s153 s154 s155 s156 s157 s158 s159 s160 s161 s162 s163 s164 s165 s166 s167 s168 s169 s170 s171 s172 s173 s174 s175 s176 s177 s178 s179 s180 s181 s182 s183 s184 s185 s186 s187 s188 s189 s190 s191 s192 s193 s194 s195 s196 s197 s198 s199 s200 s201 s202 s203 s204 s205 s206 s207 s208 s209 s210 s211 s212 s213 s214 s215 s216 s217 s218 s219 s220 s221 s222 s223 s224 s225 s226 s227 s228 s229 s230 s231 s232 s233 s234 s235 s236 s237 s238 s239 s240 s241 s242 s243 s244 s245 : Value} (K : Act → World → Prop) (x z : Code) (hK : ∀ a w', z.wp Try.prog (bodyPost Try.prog Try.f4 fun e w' => e = .returned (.bool true) ∧ Below w.heap.size w w') a w' → K a w') (hcut : Try.f4.body.bind (cutAt 24) = some (x, z)) :
    x.wp Try.prog (Exit.then K (bodyPost Try.prog Try.f4 fun e w' => e = .returned (.bool true) ∧ Below w.heap.size w w')) { tmps := (s0 :: s1 :: s2 :: .int .i64 now :: .pointer (some ⟨w.heap.size, 0, none⟩) :: s5 :: s6 :: s7 :: .bool false :: s9 :: s10 :: s11 :: .pointer (some ⟨TB, 0, none⟩) :: .slice la 0 lk :: .pointer (some ⟨TB + 1, 0, none⟩) :: .pointer (some ⟨TC, 0, none⟩) :: .slice ma m mk :: .bool p :: .pointer (some ⟨TC + 1, 0, none⟩) :: .pointer (some ⟨TW, 0, none⟩) :: s20 :: s21 :: s22 :: s23 :: s24 :: s25 :: s26 :: s27 :: s28 :: s29 :: s30 :: s31 :: s32 :: s33 :: s34 :: s35 :: s36 :: s37 :: s38 :: s39 :: s40 :: s41 :: s42 :: s43 :: s44 :: s45 :: s46 :: s47 :: s48 :: s49 :: s50 :: s51 :: s52 :: s53 :: s54 :: s55 :: s56 :: s57 :: s58 :: s59 :: s60 :: s61 :: s62 :: s63 :: s64 :: s65 :: s66 :: s67 :: s68 :: s69 :: s70 :: s71 :: s72 :: s73 :: s74 :: s75 :: s76 :: s77 :: s78 :: s79 :: s80 :: s81 :: s82 :: s83 :: s84 :: s85 :: s86 :: s87 :: s88 :: s89 :: s90 :: s91 :: s92 :: s93 :: s94 :: s95 :: s96 :: s97 :: s98 :: s99 :: s100 :: s101 :: s102 :: s103 :: s104 :: s105 :: s106 :: s107 :: s108 :: s109 :: s110 :: s111 :: s112 :: s113 :: s114 :: s115 :: s116 :: s117 :: s118 :: s119 :: s120 :: s121 :: s122 :: s123 :: s124 :: s125 :: s126 :: s127 :: s128 :: s129 :: s130 :: s131 :: s132 :: s133 :: s134 :: s135 :: s136 :: s137 :: s138 :: s139 :: s140 :: s141 :: s142 :: s143 :: s144 :: s145 :: s146 :: s147 :: s148 :: s149 :: s150 :: s151 :: s152 :: s153 :: s154 :: s155 :: s156 :: s157 :: s158 :: s159 :: s160 :: s161 :: s162 :: s163 :: s164 :: s165 :: s166 :: s167 :: s168 :: s169 :: s170 :: s171 :: s172 :: s173 :: s174 :: s175 :: s176 :: s177 :: s178 :: s179 :: s180 :: s181 :: s182 :: s183 :: s184 :: s185 :: s186 :: s187 :: s188 :: s189 :: s190 :: s191 :: s192 :: s193 :: s194 :: s195 :: s196 :: s197 :: s198 :: s199 :: s200 :: s201 :: s202 :: s203 :: s204 :: s205 :: s206 :: s207 :: s208 :: s209 :: s210 :: s211 :: s212 :: s213 :: s214 :: s215 :: s216 :: s217 :: s218 :: s219 :: s220 :: s221 :: s222 :: s223 :: s224 :: s225 :: s226 :: s227 :: s228 :: s229 :: s230 :: s231 :: s232 :: s233 :: s234 :: s235 :: s236 :: s237 :: s238 :: s239 :: s240 :: s241 :: s242 :: s243 :: s244 :: s245 :: []).toArray, defers := [] } Wt := by
  have h0 : Try.f4.body.bind (cutAt 24) = some (_, _) := rfl
  rw [h0] at hcut
  cases hcut
  clear h0
  have HDF : Hid (∀ W, Calls Try.prog 10 #[.agg #[.bool c, .bool r0, .bool r1, .int .i64 t0, .int .i64 t1, .int .i64 u0, .int .i64 u1]] W fun e w' => e = .returned (.agg #[.int .i64 0, .int .i64 0]) ∧ Below W.heap.size W w') := fun W => descFault_any W c r0 r1 t0 t1 u0 u1 0 0 hC
  have HI0 : Hid (∀ W, Calls Try.prog 13 #[.agg #[.bool c, .bool r0, .bool r1, .int .i64 t0, .int .i64 t1, .int .i64 u0, .int .i64 u1], .int .i64 0, .int .i64 now] W fun e w' => e = .returned (.bool (late u0 now)) ∧ Below W.heap.size W w') := fun W => isLate0_any W c r0 r1 t0 t1 u0 u1 now
  rw [hL0] at HI0
  clear hL0
  have HI1 : Hid (∀ W, Calls Try.prog 13 #[.agg #[.bool c, .bool r0, .bool r1, .int .i64 t0, .int .i64 t1, .int .i64 u0, .int .i64 u1], .int .i64 1, .int .i64 now] W fun e w' => e = .returned (.bool (late u1 now)) ∧ Below W.heap.size W w') := fun W => isLate1_any W c r0 r1 t0 t1 u0 u1 now
  rw [hL1] at HI1
  clear hL1
  have HX := hide hX; have HD := hide hD; have HB := hide hB; have HF2 := hide hF2; have HC := hide hCc; have HF3 := hide hF3; have HW := hide hWw; have HOL := hide hL; have HOM := hide hM
  have HC0 := hide hC; have HR := hide hR; have HM := hide hm
  obtain ⟨hn1, hn2, hn3⟩ := hne
  have HBW : Hid (w.heap.size ≤ Wt.heap.size) := hX.size
  have HLl : Hid (∀ j, (Value.slice la 0 lk).ownBlock = some j → j < Wt.heap.size) := fun j hj => (hL.lt j hj).2
  have HLm : Hid (∀ j, (Value.slice ma m mk).ownBlock = some j → j < Wt.heap.size) := fun j hj => (hM.lt j hj).2
  have HCQ : Hid (Below Wt.heap.size Wt Wt) := Below.refl _ _
  clear hX hD hB hF2 hCc hF3 hWw hL hM hC hR hm
  have xz0 : decide (0 < t0) = true := decide_eq_true hz0
  have xz1 : decide (0 < t1) = true := decide_eq_true hz1
  have xi := arr_i; have xb := arr_b
  have xbb : ∀ b : Bool, (b == b) = true := fun b => by cases b <;> rfl
  have xii : ∀ b : Int, (b == b) = true := fun b => by simp
  obtain ⟨⟨p0, p1, p2, p3, p4, p5, p6⟩, ⟨pf0, pf1, pf2, pf3, pf4, pf5, pf6⟩, pl⟩ := block7 (unhide HD)
  obtain ⟨x0, x1, xf0, xf1, xl⟩ := block2 (unhide HW)
  go_upto_region 25 with (go_at_call 10; refine (unhide HDF _).mono ?_; rintro e w6 ⟨rfl, hb6⟩; have HX_1 := hide (Below.next (unhide HX) hb6 (by first | exact Nat.le_refl _ | (have := unhide HBA; omega))); have Kd_1 := hide (keep_below (unhide HD) hb6); have Kb_1 := hide (keep_below (unhide HB) hb6); have Kf2_1 := hide (keep_below (unhide HF2) hb6); have Kc_1 := hide (keep_below (unhide HC) hb6); have Kf3_1 := hide (keep_below (unhide HF3) hb6); have Kw_1 := hide (keep_below (unhide HW) hb6); have Ol_1 := hide ((unhide HOL).below hb6); have Om_1 := hide ((unhide HOM).below hb6); clear HX HD HB HF2 HC HF3 HW HOL HOM; have HCQ6 : Hid (Below Wt.heap.size Wt w6) := hb6; clear hb6 HDF HCQ p0 p1 p2 p3 p4 p5 p6 pf0 pf1 pf2 pf3 pf4 pf5 pf6 pl x0 x1 xf0 xf1 xl; obtain ⟨x0, x1, xf0, xf1, xl⟩ := block2 (unhide Kw_1))
  clear x0 x1 xf0 xf1 xl
  have HTW : Hid (Wt.heap.size ≤ Wt.heap.size) := Nat.le_refl _
  have HX_2 := hide (put2_below (y0 := .int .i64 0) (y1 := .int .i64 0) (unhide HX_1) (show w.heap.size ≤ TW by first | omega | (have := unhide HBA; omega)))
  have Kd_2 := hide ((put2_keep (y0 := .int .i64 0) (y1 := .int .i64 0) (show w.heap.size ≠ TW by omega)).trans (unhide Kd_1))
  have Kb_2 := hide ((put2_keep (y0 := .int .i64 0) (y1 := .int .i64 0) (show TB ≠ TW by omega)).trans (unhide Kb_1))
  have Kf2_2 := hide ((put2_keep (y0 := .int .i64 0) (y1 := .int .i64 0) (show TB + 1 ≠ TW by omega)).trans (unhide Kf2_1))
  have Kc_2 := hide ((put2_keep (y0 := .int .i64 0) (y1 := .int .i64 0) (show TC ≠ TW by omega)).trans (unhide Kc_1))
  have Kf3_2 := hide ((put2_keep (y0 := .int .i64 0) (y1 := .int .i64 0) (show TC + 1 ≠ TW by omega)).trans (unhide Kf3_1))
  have Kw_2 := hide (put2_new (y0 := .int .i64 0) (y1 := .int .i64 0) (unhide Kw_1))
  have Ol_2 := hide ((unhide Ol_1).keep (fun k hk => put2_keep (y0 := .int .i64 0) (y1 := .int .i64 0) (Own.ne (unhide Ol_1) (unhide Kw_1) (by decide) k hk)))
  have Om_2 := hide ((unhide Om_1).keep (fun k hk => put2_keep (y0 := .int .i64 0) (y1 := .int .i64 0) (Own.ne (unhide Om_1) (unhide Kw_1) (by decide) k hk)))
  obtain ⟨W7, eW7⟩ : ∃ X, put2 w6 (TW) (.int .i64 0) (.int .i64 0) = X := ⟨_, rfl⟩
  rw [eW7] at HX_2 Kd_2 Kb_2 Kf2_2 Kc_2 Kf3_2 Kw_2 Ol_2 Om_2
  have eW72 : ((w6).setCell ⟨TW, 0, none⟩ (.int .i64 0)).setCell ⟨TW, 1, none⟩ (.int .i64 0) = W7 := eW7
  rw [eW72]
  clear eW7 eW72 HX_1 Kd_1 Kb_1 Kf2_1 Kc_1 Kf3_1 Kw_1 Ol_1 Om_1
  clear HCQ6 HTW
  obtain ⟨x0, x1, xf0, xf1, xl⟩ := block2 (unhide Kw_2)
  go_upto_region 26 with fail
  clear x0 x1 xf0 xf1 xl
  have HX_3 := hide ((unhide HX_2).alloc (Nat.le_trans (show w.heap.size ≤ w.heap.size from Nat.le_refl _) (unhide HX_2).size) (.cells #[.int .i64 0, .int .i64 0] 27))
  have Kd_3 := hide (keep_alloc (unhide Kd_2) (.cells #[.int .i64 0, .int .i64 0] 27))
  have Kb_3 := hide (keep_alloc (unhide Kb_2) (.cells #[.int .i64 0, .int .i64 0] 27))
  have Kf2_3 := hide (keep_alloc (unhide Kf2_2) (.cells #[.int .i64 0, .int .i64 0] 27))
  have Kc_3 := hide (keep_alloc (unhide Kc_2) (.cells #[.int .i64 0, .int .i64 0] 27))
  have Kf3_3 := hide (keep_alloc (unhide Kf3_2) (.cells #[.int .i64 0, .int .i64 0] 27))
  have Kw_3 := hide (keep_alloc (unhide Kw_2) (.cells #[.int .i64 0, .int .i64 0] 27))
  have Ol_3 := hide ((unhide Ol_2).below ((Below.refl _ _).alloc (Nat.le_refl _) (.cells #[.int .i64 0, .int .i64 0] 27)))
  have Om_3 := hide ((unhide Om_2).below ((Below.refl _ _).alloc (Nat.le_refl _) (.cells #[.int .i64 0, .int .i64 0] 27)))
  have Kv_3 := hide (new_block W7 (.cells #[.int .i64 0, .int .i64 0] 27))
  have hld_v : w.heap.size < W7.heap.size := size_of (unhide Kd_2)
  have hlb_v : TB < W7.heap.size := size_of (unhide Kb_2)
  have hlf2_v : TB + 1 < W7.heap.size := size_of (unhide Kf2_2)
  have hlc_v : TC < W7.heap.size := size_of (unhide Kc_2)
  have hlf3_v : TC + 1 < W7.heap.size := size_of (unhide Kf3_2)
  have hlw_v : TW < W7.heap.size := size_of (unhide Kw_2)
  obtain ⟨TV, eTV⟩ : ∃ X, W7.heap.size = X := ⟨_, rfl⟩
  obtain ⟨W8, eW8⟩ : ∃ X, W7.alloc (.cells #[.int .i64 0, .int .i64 0] 27) = X := ⟨_, rfl⟩
  rw [eTV, eW8] at Kv_3; rw [eW8] at HX_3 Kd_3 Kb_3 Kf2_3 Kc_3 Kf3_3 Kw_3 Ol_3 Om_3; rw [eTV] at hld_v hlb_v hlf2_v hlc_v hlf3_v hlw_v; rw [eTV, eW8]
  clear eTV eW8 HX_2 Kd_2 Kb_2 Kf2_2 Kc_2 Kf3_2 Kw_2 Ol_2 Om_2
  obtain ⟨v0, v1, vf0, vf1, vl⟩ := block2 (unhide Kv_3)
  obtain ⟨e0, e1, ef0, ef1, el⟩ := block2 (unhide Kf2_3)
  obtain ⟨g0, g1, gf0, gf1, gl⟩ := block2 (unhide Kf3_3)
  obtain ⟨x0, x1, xf0, xf1, xl⟩ := block2 (unhide Kw_3)
  obtain ⟨⟨b0, b1, b2, b3, b4, b5, b6⟩, ⟨bf0, bf1, bf2, bf3, bf4, bf5, bf6⟩, bl⟩ := block7 (unhide Kb_3)
  obtain ⟨⟨p0, p1, p2, p3, p4, p5, p6⟩, ⟨pf0, pf1, pf2, pf3, pf4, pf5, pf6⟩, pl⟩ := block7 (unhide Kd_3)
  go_upto_region 34 with fail
  clear v0 v1 vf0 vf1 vl e0 e1 ef0 ef1 el g0 g1 gf0 gf1 gl x0 x1 xf0 xf1 xl b0 b1 b2 b3 b4 b5 b6 bf0 bf1 bf2 bf3 bf4 bf5 bf6 bl p0 p1 p2 p3 p4 p5 p6 pf0 pf1 pf2 pf3 pf4 pf5 pf6 pl
  clear HBW HLl HLm
  have HLl : Hid (∀ j, (Value.slice la 0 lk).ownBlock = some j → j < W8.heap.size) := fun j hj => ((unhide Ol_3).lt j hj).2
  have HLm : Hid (∀ j, (Value.slice ma m mk).ownBlock = some j → j < W8.heap.size) := fun j hj => ((unhide Om_3).lt j hj).2
  have HX_4 := hide ((unhide HX_3).alloc (Nat.le_trans (show w.heap.size ≤ w.heap.size from Nat.le_refl _) (unhide HX_3).size) (.cells #[.bool c, .bool r0, .bool r1, .int .i64 t0, .int .i64 t1, .int .i64 u0, .int .i64 u1] 25))
  have Kd_4 := hide (keep_alloc (unhide Kd_3) (.cells #[.bool c, .bool r0, .bool r1, .int .i64 t0, .int .i64 t1, .int .i64 u0, .int .i64 u1] 25))
  have Kb_4 := hide (keep_alloc (unhide Kb_3) (.cells #[.bool c, .bool r0, .bool r1, .int .i64 t0, .int .i64 t1, .int .i64 u0, .int .i64 u1] 25))
  have Kf2_4 := hide (keep_alloc (unhide Kf2_3) (.cells #[.bool c, .bool r0, .bool r1, .int .i64 t0, .int .i64 t1, .int .i64 u0, .int .i64 u1] 25))
  have Kc_4 := hide (keep_alloc (unhide Kc_3) (.cells #[.bool c, .bool r0, .bool r1, .int .i64 t0, .int .i64 t1, .int .i64 u0, .int .i64 u1] 25))
  have Kf3_4 := hide (keep_alloc (unhide Kf3_3) (.cells #[.bool c, .bool r0, .bool r1, .int .i64 t0, .int .i64 t1, .int .i64 u0, .int .i64 u1] 25))
  have Kw_4 := hide (keep_alloc (unhide Kw_3) (.cells #[.bool c, .bool r0, .bool r1, .int .i64 t0, .int .i64 t1, .int .i64 u0, .int .i64 u1] 25))
  have Kv_4 := hide (keep_alloc (unhide Kv_3) (.cells #[.bool c, .bool r0, .bool r1, .int .i64 t0, .int .i64 t1, .int .i64 u0, .int .i64 u1] 25))
  have Ol_4 := hide ((unhide Ol_3).below ((Below.refl _ _).alloc (Nat.le_refl _) (.cells #[.bool c, .bool r0, .bool r1, .int .i64 t0, .int .i64 t1, .int .i64 u0, .int .i64 u1] 25)))
  have Om_4 := hide ((unhide Om_3).below ((Below.refl _ _).alloc (Nat.le_refl _) (.cells #[.bool c, .bool r0, .bool r1, .int .i64 t0, .int .i64 t1, .int .i64 u0, .int .i64 u1] 25)))
  have Kn_4 := hide (new_block W8 (.cells #[.bool c, .bool r0, .bool r1, .int .i64 t0, .int .i64 t1, .int .i64 u0, .int .i64 u1] 25))
  have hld_n : w.heap.size < W8.heap.size := size_of (unhide Kd_3)
  have hlb_n : TB < W8.heap.size := size_of (unhide Kb_3)
  have hlf2_n : TB + 1 < W8.heap.size := size_of (unhide Kf2_3)
  have hlc_n : TC < W8.heap.size := size_of (unhide Kc_3)
  have hlf3_n : TC + 1 < W8.heap.size := size_of (unhide Kf3_3)
  have hlw_n : TW < W8.heap.size := size_of (unhide Kw_3)
  have hlv_n : TV < W8.heap.size := size_of (unhide Kv_3)
  obtain ⟨TN, eTN⟩ : ∃ X, W8.heap.size = X := ⟨_, rfl⟩
  obtain ⟨W10, eW10⟩ : ∃ X, W8.alloc (.cells #[.bool c, .bool r0, .bool r1, .int .i64 t0, .int .i64 t1, .int .i64 u0, .int .i64 u1] 25) = X := ⟨_, rfl⟩
  rw [eTN, eW10] at Kn_4; rw [eW10] at HX_4 Kd_4 Kb_4 Kf2_4 Kc_4 Kf3_4 Kw_4 Kv_4 Ol_4 Om_4; rw [eTN] at hld_n hlb_n hlf2_n hlc_n hlf3_n hlw_n hlv_n HLl HLm; rw [eTN, eW10]
  clear eTN eW10 HX_3 Kd_3 Kb_3 Kf2_3 Kc_3 Kf3_3 Kw_3 Kv_3 Ol_3 Om_3
  have HOO := hide (own_nil (K := KI) (TN + 1) W10)
  obtain ⟨⟨p0, p1, p2, p3, p4, p5, p6⟩, ⟨pf0, pf1, pf2, pf3, pf4, pf5, pf6⟩, pl⟩ := block7 (unhide Kd_4)
  go_wp2_with fail
  refine wp_loop_rounds 3 ?_
  rw [rounds_succ]
  go_wp2_with (go_at_call 13; refine (unhide HI0 _).mono ?_; rintro e v0w ⟨rfl, hb9⟩; have HX_5 := hide (Below.next (unhide HX_4) hb9 (by first | exact Nat.le_refl _ | (have := unhide HBA; omega))); have Kd_5 := hide (keep_below (unhide Kd_4) hb9); have Kb_5 := hide (keep_below (unhide Kb_4) hb9); have Kf2_5 := hide (keep_below (unhide Kf2_4) hb9); have Kc_5 := hide (keep_below (unhide Kc_4) hb9); have Kf3_5 := hide (keep_below (unhide Kf3_4) hb9); have Kw_5 := hide (keep_below (unhide Kw_4) hb9); have Kv_5 := hide (keep_below (unhide Kv_4) hb9); have Kn_5 := hide (keep_below (unhide Kn_4) hb9); have Ol_5 := hide ((unhide Ol_4).below hb9); have Om_5 := hide ((unhide Om_4).below hb9); have Oo_5 := hide ((unhide HOO).below hb9); clear HX_4 Kd_4 Kb_4 Kf2_4 Kc_4 Kf3_4 Kw_4 Kv_4 Kn_4 Ol_4 Om_4 HOO; clear hb9 HI0 p0 p1 p2 p3 p4 p5 p6 pf0 pf1 pf2 pf3 pf4 pf5 pf6 pl; obtain ⟨⟨p0, p1, p2, p3, p4, p5, p6⟩, ⟨pf0, pf1, pf2, pf3, pf4, pf5, pf6⟩, pl⟩ := block7 (unhide Kd_5))
  rw [rounds_succ]
  go_wp2_with (go_at_call 13; refine (unhide HI1 _).mono ?_; rintro e v1w ⟨rfl, hb9⟩; have HX_6 := hide (Below.next (unhide HX_5) hb9 (by first | exact Nat.le_refl _ | (have := unhide HBA; omega))); have Kd_6 := hide (keep_below (unhide Kd_5) hb9); have Kb_6 := hide (keep_below (unhide Kb_5) hb9); have Kf2_6 := hide (keep_below (unhide Kf2_5) hb9); have Kc_6 := hide (keep_below (unhide Kc_5) hb9); have Kf3_6 := hide (keep_below (unhide Kf3_5) hb9); have Kw_6 := hide (keep_below (unhide Kw_5) hb9); have Kv_6 := hide (keep_below (unhide Kv_5) hb9); have Kn_6 := hide (keep_below (unhide Kn_5) hb9); have Ol_6 := hide ((unhide Ol_5).below hb9); have Om_6 := hide ((unhide Om_5).below hb9); have Oo_6 := hide ((unhide Oo_5).below hb9); clear HX_5 Kd_5 Kb_5 Kf2_5 Kc_5 Kf3_5 Kw_5 Kv_5 Kn_5 Ol_5 Om_5 Oo_5; clear hb9 HI1 p0 p1 p2 p3 p4 p5 p6 pf0 pf1 pf2 pf3 pf4 pf5 pf6 pl; obtain ⟨⟨p0, p1, p2, p3, p4, p5, p6⟩, ⟨pf0, pf1, pf2, pf3, pf4, pf5, pf6⟩, pl⟩ := block7 (unhide Kd_6))
  rw [rounds_succ]
  obtain ⟨⟨n0, n1, n2, n3, n4, n5, n6⟩, ⟨nf0, nf1, nf2, nf3, nf4, nf5, nf6⟩, nl⟩ := block7 (unhide Kn_6)
  obtain ⟨⟨b0, b1, b2, b3, b4, b5, b6⟩, ⟨bf0, bf1, bf2, bf3, bf4, bf5, bf6⟩, bl⟩ := block7 (unhide Kb_6)
  have HSI := hide (ints_same _ _ _ [] (unhide Ol_6).isl (unhide Oo_6).isl (by simp [maxLen]))
  go_upto_region 43 with (go_at_call 17; refine (unhide HSI).mono ?_; rintro e w9 ⟨rfl, hb9⟩; have HX_7 := hide (Below.next (unhide HX_6) hb9 (by first | exact Nat.le_refl _ | (have := unhide HBA; omega))); have Kd_7 := hide (keep_below (unhide Kd_6) hb9); have Kb_7 := hide (keep_below (unhide Kb_6) hb9); have Kf2_7 := hide (keep_below (unhide Kf2_6) hb9); have Kc_7 := hide (keep_below (unhide Kc_6) hb9); have Kf3_7 := hide (keep_below (unhide Kf3_6) hb9); have Kw_7 := hide (keep_below (unhide Kw_6) hb9); have Kv_7 := hide (keep_below (unhide Kv_6) hb9); have Kn_7 := hide (keep_below (unhide Kn_6) hb9); have Ol_7 := hide ((unhide Ol_6).below hb9); have Om_7 := hide ((unhide Om_6).below hb9); have Oo_7 := hide ((unhide Oo_6).below hb9); clear HX_6 Kd_6 Kb_6 Kf2_6 Kc_6 Kf3_6 Kw_6 Kv_6 Kn_6 Ol_6 Om_6 Oo_6; clear hb9 HSI p0 p1 p2 p3 p4 p5 p6 pf0 pf1 pf2 pf3 pf4 pf5 pf6 pl n0 n1 n2 n3 n4 n5 n6 nf0 nf1 nf2 nf3 nf4 nf5 nf6 nl b0 b1 b2 b3 b4 b5 b6 bf0 bf1 bf2 bf3 bf4 bf5 bf6 bl)
  exact tail2_any w c r0 r1 t0 t1 u0 u1 now 0 0 (unhide HC0) c0 M p (unhide HR) m (unhide HM) ma mk TC TW _ (unhide HX_7) (unhide Kd_7) (unhide Kc_7) (unhide Kw_7) (unhide Om_7) _ _ _ _ _ (by assumption) (by assumption) (by kernel_rfl)

end Go.Proofs.Ytmghfedlpndpiaa
