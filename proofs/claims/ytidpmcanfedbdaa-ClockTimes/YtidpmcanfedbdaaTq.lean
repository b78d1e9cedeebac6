/-
  taskmilllaw.ClockTimes: behind the first loop.
-/
import Derived.Test.YtidpmcanfedbdaaTp
namespace Go.Proofs.Ytidpmcanfedbdaa
open Go.RowKit

theorem in_b2 {id : Nat} {Q : Exit → Act → World → Prop} {a : Act} {w : World} (h : Q Exit.normal a w) : Exit.inBlock id Q (.exit id) a w := by
  have e : Exit.inBlock id Q (.exit id) a w = Q Exit.normal a w := by simp [Exit.inBlock]
  rw [e]
  exact h

set_option maxRecDepth 100000 in
set_option maxHeartbeats 4000000 in
theorem tq_much (w : World) (id tk now next wf : Int) (a0 : Option Addr) (n c0 TC TF TY : Nat) (nx2 : Int) (zs2 : List Al) (ay : Option Addr) (my cy : Nat) (hw : w.heap.size ≤ TC ∧ TC < TF ∧ TF < TY) (hn0 : 0 ≤ now) (ht0 : 0 ≤ tk) (ht1 : now + tk ≤ 1000000000) (hwf : now + tk < wf) (g : Good (now + tk) nx2 zs2) (hR : passR (now + tk) nx2 (noL id zs2) tk = ((9, 0), (0, 0, []), [])) (Wt : World) (hX : Below w.heap.size w Wt) (hC : Wt.heap[TC]? = some (.cells #[.int .i64 now, .int .i64 next, .slice a0 n c0] 24)) (hF : Wt.heap[TF]? = some (.cells #[.int .i64 0, .int .i64 0] 29)) (hY : Wt.heap[TY]? = some (.cells #[.int .i64 (now + tk), .int .i64 nx2, .slice ay my cy] 24)) (hl : IsL KA Wt (.slice ay my cy) zs2)
    {s0 s2 s3 s6 s7 s8 s9 s10 s11 s12 s15 s17 s18 s19 s20 s21 s22 s23 s24 s25 s26 s27 s28 s29 s30 s31 s32 s33 s34 s35 s36 s37 s38 s39 s40 s41 s42 s43 s44 s45 s46 s47 s48 s49 s50 s51 s52 s53 s54 s55 s56 s57 s58 s59 s60 s61 s62 s63 s64 s65 s66 s67 s68 s69 s70 s71 s72 s73 s74 s75 s76 s77 s78 s79 s80 s81 s82 s83 s84 s85 s86 s87 s88 s89 s90 s91 s92 s93 s94 s95 s96 s97 s98 s99 s100 s101 s102 s103 s104 s105 s106 s107 s108 s109 s110 s111 s112 s113 s114 s115 s116 s117 s118 s119 s120 s121 s122 s123 s124 s125 s126 s127 s128 s129 s130 s131 s132 s133 s134 s135 s136 s137 s138 s139 s140 s141 s142 s143 s144 s145 s146 s147 s148 s149 s150 s151 s152 s153 s154 s155 s156 s157 s158 s159 s160 s161 s162 s163 s164 s165 s166 s167 s168 s169 s170 s171 s172 : Value} (b r : Code) (hcut : (Try.f6.body.bind (loopFor 0)) = some (b, r)) :
    r.wp Try.prog (bodyPost Try.prog Try.f6 fun e w' => e = .returned (.bool true) ∧ Below w.heap.size w w') { tmps := (s0 :: .int .i64 id :: s2 :: s3 :: .int .i64 tk :: .pointer (some ⟨TC, 0, none⟩) :: s6 :: s7 :: s8 :: s9 :: s10 :: s11 :: s12 :: .pointer (some ⟨TF, 0, none⟩) :: .pointer (some ⟨TY, 0, none⟩) :: s15 :: .int .i64 wf :: s17 :: s18 :: s19 :: s20 :: s21 :: s22 :: s23 :: s24 :: s25 :: s26 :: s27 :: s28 :: s29 :: s30 :: s31 :: s32 :: s33 :: s34 :: s35 :: s36 :: s37 :: s38 :: s39 :: s40 :: s41 :: s42 :: s43 :: s44 :: s45 :: s46 :: s47 :: s48 :: s49 :: s50 :: s51 :: s52 :: s53 :: s54 :: s55 :: s56 :: s57 :: s58 :: s59 :: s60 :: s61 :: s62 :: s63 :: s64 :: s65 :: s66 :: s67 :: s68 :: s69 :: s70 :: s71 :: s72 :: s73 :: s74 :: s75 :: s76 :: s77 :: s78 :: s79 :: s80 :: s81 :: s82 :: s83 :: s84 :: s85 :: s86 :: s87 :: s88 :: s89 :: s90 :: s91 :: s92 :: s93 :: s94 :: s95 :: s96 :: s97 :: s98 :: s99 :: s100 :: s101 :: s102 :: s103 :: s104 :: s105 :: s106 :: s107 :: s108 :: s109 :: s110 :: s111 :: s112 :: s113 :: s114 :: s115 :: s116 :: s117 :: s118 :: s119 :: s120 :: s121 :: s122 :: s123 :: s124 :: s125 :: s126 :: s127 :: s128 :: s129 :: s130 :: s131 :: s132 :: s133 :: s134 :: s135 :: s136 :: s137 :: s138 :: s139 :: s140 :: s141 :: s142 :: s143 :: s144 :: s145 :: s146 :: s147 :: s148 :: s149 :: s150 :: s151 :: s152 :: s153 :: s154 :: s155 :: s156 :: s157 :: s158 :: s159 :: s160 :: s161 :: s162 :: s163 :: s164 :: s165 :: s166 :: s167 :: s168 :: s169 :: s170 :: s171 :: s172 :: []).toArray, defers := [] } Wt := by
  have hcc : (Try.f6.body.bind (loopFor 0)) = some (_, _) := rfl
  rw [hcc] at hcut
  cases hcut
  clear hcc
  have glen := g.len
  have hle := (noL_sub id zs2).length_le
  obtain ⟨hw1, hw2, hw3⟩ := hw
  have HST : Hid (Calls Try.prog 13 #[.agg #[.int .i64 (now + tk), .int .i64 nx2, .slice ay my cy], .int .i64 id] Wt fun e w' => ∃ a c, e = .returned (.tuple #[.agg #[.int .i64 (now + tk), .int .i64 nx2, .slice a (noL id zs2).length c], .bool (decide ((noL id zs2).length < zs2.length)), .agg #[.int .i64 0, .int .i64 0]]) ∧ Own KA Wt.heap.size w' (.slice a (noL id zs2).length c) (noL id zs2) ∧ Below Wt.heap.size Wt w') := stop_ok Wt (.agg #[.int .i64 (now + tk), .int .i64 nx2, .slice ay my cy]) (now + tk) nx2 zs2 id ⟨_, rfl, hl⟩ (by unfold maxLen; omega) g
  have HPA : Hid (∀ W az cz, IsL KA W (.slice az (noL id zs2).length cz) (noL id zs2) → Calls Try.prog 20 #[.agg #[.int .i64 (now + tk), .int .i64 nx2, .slice az (noL id zs2).length cz], .int .i64 tk] W fun e w' => ∃ a1 c1 a c, e = .returned (.tuple #[.agg #[.int .i64 0, .int .i64 0, .slice a1 0 c1], .slice a 0 c, .agg #[.int .i64 9, .int .i64 0]]) ∧ Below W.heap.size W w') := fun W az cz hz => pass_much W _ (now + tk) nx2 (noL id zs2) tk ⟨_, rfl, hz⟩ (by unfold maxLen; omega) hR
  obtain ⟨mz, emz⟩ : ∃ m, (noL id zs2).length = m := ⟨_, rfl⟩
  obtain ⟨isb, eib⟩ : ∃ b, decide ((noL id zs2).length < zs2.length) = b := ⟨_, rfl⟩
  rw [eib, emz] at HST; rw [emz] at HPA
  have hwt : IntKind.i64.wrap (now + tk) = now + tk := wrapi (by omega) (by omega)
  have hw9 : ¬ wf ≤ now + tk := by omega
  have HX := hide hX; have H_c := hide hC; have H_f := hide hF; have H_y := hide hY
  clear hX hC hF hY hl g glen hle eib emz hwf
  obtain ⟨⟨p0, p1, p2⟩, ⟨pf0, pf1, pf2⟩, pl⟩ := block3 (unhide H_c)
  obtain ⟨⟨y0, y1, y2⟩, ⟨yf0, yf1, yf2⟩, yl⟩ := block3 (unhide H_y)
  obtain ⟨f0, f1, ff0, ff1, fl⟩ := block2 (unhide H_f)
  go_upto_region 28 with (go_at_call 13; refine (unhide HST).mono ?_; rintro e w2 ⟨az, cz, rfl, ho2, hb2⟩; have HO2 := hide (ho2.base (unhide HX).size); have HX_1 := hide (Below.next (unhide HX) hb2 (by first | exact Nat.le_refl _ | (have := unhide HBA; omega))); have Kc_1 := hide (keep_below (unhide H_c) hb2); have Kf_1 := hide (keep_below (unhide H_f) hb2); have Ky_1 := hide (keep_below (unhide H_y) hb2); clear HX H_c H_f H_y; clear hb2 ho2 HST p0 p1 p2 pf0 pf1 pf2 pl y0 y1 y2 yf0 yf1 yf2 yl f0 f1 ff0 ff1 fl; obtain ⟨f0, f1, ff0, ff1, fl⟩ := block2 (unhide Kf_1))
  clear f0 f1 ff0 ff1 fl
  have hs9 : (put2 w2 (TF) (.int .i64 0) (.int .i64 0)).heap.size = w2.heap.size := by simp [put2, World.setCell]
  have HX_2 := hide (put2_below (y0 := .int .i64 0) (y1 := .int .i64 0) (unhide HX_1) (show w.heap.size ≤ TF by first | omega | (have := unhide HBA; omega)))
  have Kc_2 := hide ((put2_keep (y0 := .int .i64 0) (y1 := .int .i64 0) (show TC ≠ TF by omega)).trans (unhide Kc_1))
  have Kf_2 := hide (put2_new (y0 := .int .i64 0) (y1 := .int .i64 0) (unhide Kf_1))
  have Ky_2 := hide ((put2_keep (y0 := .int .i64 0) (y1 := .int .i64 0) (show TY ≠ TF by omega)).trans (unhide Ky_1))
  have Oz_2 := hide ((unhide HO2).keep (fun k hk => put2_keep (y0 := .int .i64 0) (y1 := .int .i64 0) (Own.ne (unhide HO2) (unhide Kf_1) (by decide) k hk)))
  obtain ⟨W3, eW3⟩ : ∃ X, put2 w2 (TF) (.int .i64 0) (.int .i64 0) = X := ⟨_, rfl⟩
  rw [eW3] at HX_2 Kc_2 Kf_2 Ky_2 Oz_2 hs9
  have eW32 : ((w2).setCell ⟨TF, 0, none⟩ (.int .i64 0)).setCell ⟨TF, 1, none⟩ (.int .i64 0) = W3 := eW3
  rw [eW32]
  clear eW3 eW32 HX_1 Kc_1 Kf_1 Ky_1 HO2
  have hb9 : Below W3.heap.size W3 (W3.alloc (.cells #[.int .i64 (now + tk), .int .i64 nx2, .slice az mz cz] 24)) := (Below.refl _ _).alloc (Nat.le_refl _) _
  have kn9 := new_block W3 (.cells #[.int .i64 (now + tk), .int .i64 nx2, .slice az mz cz] 24)
  rw [hs9] at kn9
  obtain ⟨W4, eW4⟩ : ∃ X, W3.alloc (.cells #[.int .i64 (now + tk), .int .i64 nx2, .slice az mz cz] 24) = X := ⟨_, rfl⟩
  rw [eW4] at hb9 kn9 ⊢
  have hlc_z : TC < w2.heap.size := by rw [← hs9]; exact size_of (unhide Kc_2)
  have hlf_z : TF < w2.heap.size := by rw [← hs9]; exact size_of (unhide Kf_2)
  have hly_z : TY < w2.heap.size := by rw [← hs9]; exact size_of (unhide Ky_2)
  (have HX_3 := hide (Below.next (unhide HX_2) hb9 (by first | exact Nat.le_refl _ | (have := unhide HBA; omega))); have Kc_3 := hide (keep_below (unhide Kc_2) hb9); have Kf_3 := hide (keep_below (unhide Kf_2) hb9); have Ky_3 := hide (keep_below (unhide Ky_2) hb9); have Oz_3 := hide ((unhide Oz_2).below hb9); clear HX_2 Kc_2 Kf_2 Ky_2 Oz_2)
  obtain ⟨TZ, eTZ⟩ : ∃ X, w2.heap.size = X := ⟨_, rfl⟩
  rw [eTZ] at kn9 hlc_z hlf_z hly_z ⊢
  have H_z := hide kn9
  clear eTZ eW4 hb9 kn9 hs9
  obtain ⟨f0, f1, ff0, ff1, fl⟩ := block2 (unhide Kf_3)
  obtain ⟨⟨z0, z1, z2⟩, ⟨zf0, zf1, zf2⟩, zl⟩ := block3 (unhide H_z)
  go_upto_region 31 with (go_at_call 20; refine (unhide HPA _ az cz (unhide Oz_3).isl).mono ?_; rintro e w5 ⟨a5, c5, a6, c6, rfl, hb5⟩; have HX_4 := hide (Below.next (unhide HX_3) hb5 (by first | exact Nat.le_refl _ | (have := unhide HBA; omega))); have Kc_4 := hide (keep_below (unhide Kc_3) hb5); have Kf_4 := hide (keep_below (unhide Kf_3) hb5); have Ky_4 := hide (keep_below (unhide Ky_3) hb5); have Kz_4 := hide (keep_below (unhide H_z) hb5); have Oz_4 := hide ((unhide Oz_3).below hb5); clear HX_3 Kc_3 Kf_3 Ky_3 H_z Oz_3; clear hb5 HPA f0 f1 ff0 ff1 fl z0 z1 z2 zf0 zf1 zf2 zl; obtain ⟨f0, f1, ff0, ff1, fl⟩ := block2 (unhide Kf_4))
  clear f0 f1 ff0 ff1 fl
  have hs9 : (put2 w5 (TF) (.int .i64 9) (.int .i64 0)).heap.size = w5.heap.size := by simp [put2, World.setCell]
  have HX_5 := hide (put2_below (y0 := .int .i64 9) (y1 := .int .i64 0) (unhide HX_4) (show w.heap.size ≤ TF by first | omega | (have := unhide HBA; omega)))
  have Kc_5 := hide ((put2_keep (y0 := .int .i64 9) (y1 := .int .i64 0) (show TC ≠ TF by omega)).trans (unhide Kc_4))
  have Kf_5 := hide (put2_new (y0 := .int .i64 9) (y1 := .int .i64 0) (unhide Kf_4))
  have Ky_5 := hide ((put2_keep (y0 := .int .i64 9) (y1 := .int .i64 0) (show TY ≠ TF by omega)).trans (unhide Ky_4))
  have Kz_5 := hide ((put2_keep (y0 := .int .i64 9) (y1 := .int .i64 0) (show TZ ≠ TF by omega)).trans (unhide Kz_4))
  have Oz_5 := hide ((unhide Oz_4).keep (fun k hk => put2_keep (y0 := .int .i64 9) (y1 := .int .i64 0) (Own.ne (unhide Oz_4) (unhide Kf_4) (by decide) k hk)))
  obtain ⟨W6, eW6⟩ : ∃ X, put2 w5 (TF) (.int .i64 9) (.int .i64 0) = X := ⟨_, rfl⟩
  rw [eW6] at HX_5 Kc_5 Kf_5 Ky_5 Kz_5 Oz_5 hs9
  have eW62 : ((w5).setCell ⟨TF, 0, none⟩ (.int .i64 9)).setCell ⟨TF, 1, none⟩ (.int .i64 0) = W6 := eW6
  rw [eW62]
  clear eW6 eW62 HX_4 Kc_4 Kf_4 Ky_4 Kz_4 Oz_4
  have hb9 : Below W6.heap.size W6 (W6.alloc (.cells #[.int .i64 0, .int .i64 0, .slice a5 0 c5] 24)) := (Below.refl _ _).alloc (Nat.le_refl _) _
  have kn9 := new_block W6 (.cells #[.int .i64 0, .int .i64 0, .slice a5 0 c5] 24)
  rw [hs9] at kn9
  obtain ⟨W7, eW7⟩ : ∃ X, W6.alloc (.cells #[.int .i64 0, .int .i64 0, .slice a5 0 c5] 24) = X := ⟨_, rfl⟩
  rw [eW7] at hb9 kn9 ⊢
  have hlc_v : TC < w5.heap.size := by rw [← hs9]; exact size_of (unhide Kc_5)
  have hlf_v : TF < w5.heap.size := by rw [← hs9]; exact size_of (unhide Kf_5)
  have hly_v : TY < w5.heap.size := by rw [← hs9]; exact size_of (unhide Ky_5)
  have hlz_v : TZ < w5.heap.size := by rw [← hs9]; exact size_of (unhide Kz_5)
  (have HX_6 := hide (Below.next (unhide HX_5) hb9 (by first | exact Nat.le_refl _ | (have := unhide HBA; omega))); have Kc_6 := hide (keep_below (unhide Kc_5) hb9); have Kf_6 := hide (keep_below (unhide Kf_5) hb9); have Ky_6 := hide (keep_below (unhide Ky_5) hb9); have Kz_6 := hide (keep_below (unhide Kz_5) hb9); have Oz_6 := hide ((unhide Oz_5).below hb9); clear HX_5 Kc_5 Kf_5 Ky_5 Kz_5 Oz_5)
  obtain ⟨TV, eTV⟩ : ∃ X, w5.heap.size = X := ⟨_, rfl⟩
  rw [eTV] at kn9 hlc_v hlf_v hly_v hlz_v ⊢
  have H_v := hide kn9
  clear eTV eW7 hb9 kn9 hs9
  obtain ⟨f0, f1, ff0, ff1, fl⟩ := block2 (unhide Kf_6)
  go_upto_region 32 with fail
  clear f0 f1 ff0 ff1 fl
  have HSS : Hid (∀ W, Below W7.heap.size W7 W → (W.cell? ⟨TF, 0, none⟩ = some (.int .i64 9) ∧ W.cell? ⟨TF, 1, none⟩ = some (.int .i64 0)) ∧ Below W7.heap.size W7 W) := fun W hW => ⟨⟨(block2 (keep_below (unhide Kf_6) hW)).1, (block2 (keep_below (unhide Kf_6) hW)).2.1⟩, hW⟩
  go_region_held3 (fun W => (W.cell? ⟨TF, 0, none⟩ = some (.int .i64 9) ∧ W.cell? ⟨TF, 1, none⟩ = some (.int .i64 0)) ∧ Below W7.heap.size W7 W)
    (first | with_reducible exact unhide HSS _ (Below.refl _ _) | with_reducible exact unhide HSS _ (Below.refl _ _).drew | with_reducible exact unhide HSS _ (unhide HY7))
    (first | (go_at_call 17; refine (f_any _ _ _).mono ?_; rintro e wz ⟨rfl, hbz⟩; have HY7 : Hid (Below W7.heap.size W7 wz) := Below.next (by go_split_ands; assumption) hbz (Nat.le_refl _); clear hbz))
  all_goals
    go_wp2_with fail
    go_ret
    exact ⟨rfl, Below.next (unhide HX_6) (unhide HY7) (Nat.le_refl _)⟩

set_option maxRecDepth 100000 in
set_option maxHeartbeats 4000000 in
theorem tq_fine (w : World) (id tk now next wf : Int) (a0 : Option Addr) (n c0 TC TF TY : Nat) (nx2 : Int) (zs2 : List Al) (ay : Option Addr) (my cy : Nat) (hw : w.heap.size ≤ TC ∧ TC < TF ∧ TF < TY) (hn0 : 0 ≤ now) (ht0 : 0 ≤ tk) (ht1 : now + tk ≤ 1000000000) (hwf : now + tk < wf) (g : Good (now + tk) nx2 zs2) (hf : (passF (now + tk) nx2 (noL id zs2) tk).1 = 0) (nx3 : Int) (zs3 : List Al) (td3 : List (Int × Int)) (hr : runL (now + tk + tk) 5000 nx2 (noL id zs2) [] = some (nx3, zs3, td3)) (Wt : World) (hX : Below w.heap.size w Wt) (hC : Wt.heap[TC]? = some (.cells #[.int .i64 now, .int .i64 next, .slice a0 n c0] 24)) (hF : Wt.heap[TF]? = some (.cells #[.int .i64 0, .int .i64 0] 29)) (hY : Wt.heap[TY]? = some (.cells #[.int .i64 (now + tk), .int .i64 nx2, .slice ay my cy] 24)) (hl : IsL KA Wt (.slice ay my cy) zs2)
    {s0 s2 s3 s6 s7 s8 s9 s10 s11 s12 s15 s17 s18 s19 s20 s21 s22 s23 s24 s25 s26 s27 s28 s29 s30 s31 s32 s33 s34 s35 s36 s37 s38 s39 s40 s41 s42 s43 s44 s45 s46 s47 s48 s49 s50 s51 s52 s53 s54 s55 s56 s57 s58 s59 s60 s61 s62 s63 s64 s65 s66 s67 s68 s69 s70 s71 s72 s73 s74 s75 s76 s77 s78 s79 s80 s81 s82 s83 s84 s85 s86 s87 s88 s89 s90 s91 s92 s93 s94 s95 s96 s97 s98 s99 s100 s101 s102 s103 s104 s105 s106 s107 s108 s109 s110 s111 s112 s113 s114 s115 s116 s117 s118 s119 s120 s121 s122 s123 s124 s125 s126 s127 s128 s129 s130 s131 s132 s133 s134 s135 s136 s137 s138 s139 s140 s141 s142 s143 s144 s145 s146 s147 s148 s149 s150 s151 s152 s153 s154 s155 s156 s157 s158 s159 s160 s161 s162 s163 s164 s165 s166 s167 s168 s169 s170 s171 s172 : Value} (b r : Code) (hcut : (Try.f6.body.bind (loopFor 0)) = some (b, r)) :
    r.wp Try.prog (bodyPost Try.prog Try.f6 fun e w' => e = .returned (.bool true) ∧ Below w.heap.size w w') { tmps := (s0 :: .int .i64 id :: s2 :: s3 :: .int .i64 tk :: .pointer (some ⟨TC, 0, none⟩) :: s6 :: s7 :: s8 :: s9 :: s10 :: s11 :: s12 :: .pointer (some ⟨TF, 0, none⟩) :: .pointer (some ⟨TY, 0, none⟩) :: s15 :: .int .i64 wf :: s17 :: s18 :: s19 :: s20 :: s21 :: s22 :: s23 :: s24 :: s25 :: s26 :: s27 :: s28 :: s29 :: s30 :: s31 :: s32 :: s33 :: s34 :: s35 :: s36 :: s37 :: s38 :: s39 :: s40 :: s41 :: s42 :: s43 :: s44 :: s45 :: s46 :: s47 :: s48 :: s49 :: s50 :: s51 :: s52 :: s53 :: s54 :: s55 :: s56 :: s57 :: s58 :: s59 :: s60 :: s61 :: s62 :: s63 :: s64 :: s65 :: s66 :: s67 :: s68 :: s69 :: s70 :: s71 :: s72 :: s73 :: s74 :: s75 :: s76 :: s77 :: s78 :: s79 :: s80 :: s81 :: s82 :: s83 :: s84 :: s85 :: s86 :: s87 :: s88 :: s89 :: s90 :: s91 :: s92 :: s93 :: s94 :: s95 :: s96 :: s97 :: s98 :: s99 :: s100 :: s101 :: s102 :: s103 :: s104 :: s105 :: s106 :: s107 :: s108 :: s109 :: s110 :: s111 :: s112 :: s113 :: s114 :: s115 :: s116 :: s117 :: s118 :: s119 :: s120 :: s121 :: s122 :: s123 :: s124 :: s125 :: s126 :: s127 :: s128 :: s129 :: s130 :: s131 :: s132 :: s133 :: s134 :: s135 :: s136 :: s137 :: s138 :: s139 :: s140 :: s141 :: s142 :: s143 :: s144 :: s145 :: s146 :: s147 :: s148 :: s149 :: s150 :: s151 :: s152 :: s153 :: s154 :: s155 :: s156 :: s157 :: s158 :: s159 :: s160 :: s161 :: s162 :: s163 :: s164 :: s165 :: s166 :: s167 :: s168 :: s169 :: s170 :: s171 :: s172 :: []).toArray, defers := [] } Wt := by
  have hcc : (Try.f6.body.bind (loopFor 0)) = some (_, _) := rfl
  rw [hcc] at hcut
  cases hcut
  clear hcc
  have glen := g.len
  have hle := (noL_sub id zs2).length_le
  obtain ⟨hw1, hw2, hw3⟩ := hw
  have HST : Hid (Calls Try.prog 13 #[.agg #[.int .i64 (now + tk), .int .i64 nx2, .slice ay my cy], .int .i64 id] Wt fun e w' => ∃ a c, e = .returned (.tuple #[.agg #[.int .i64 (now + tk), .int .i64 nx2, .slice a (noL id zs2).length c], .bool (decide ((noL id zs2).length < zs2.length)), .agg #[.int .i64 0, .int .i64 0]]) ∧ Own KA Wt.heap.size w' (.slice a (noL id zs2).length c) (noL id zs2) ∧ Below Wt.heap.size Wt w') := stop_ok Wt (.agg #[.int .i64 (now + tk), .int .i64 nx2, .slice ay my cy]) (now + tk) nx2 zs2 id ⟨_, rfl, hl⟩ (by unfold maxLen; omega) g
  have HPA : Hid (∀ W az cz, IsL KA W (.slice az (noL id zs2).length cz) (noL id zs2) → Calls Try.prog 20 #[.agg #[.int .i64 (now + tk), .int .i64 nx2, .slice az (noL id zs2).length cz], .int .i64 tk] W fun e w' => ∃ a1 c1 a c, e = .returned (.tuple #[.agg #[.int .i64 (now + tk + tk), .int .i64 nx3, .slice a1 zs3.length c1], .slice a td3.length c, .agg #[.int .i64 0, .int .i64 0]]) ∧ Own KO W.heap.size w' (.slice a td3.length c) td3 ∧ Below W.heap.size W w') := fun W az cz hz => (pass_new W _ (now + tk) nx2 (noL id zs2) tk ⟨_, rfl, hz⟩ (by unfold maxLen; omega) hf nx3 zs3 td3 hr).mono fun e w' ⟨a1, c1, a, c, h1, _, h3, h4⟩ => ⟨a1, c1, a, c, h1, h3, h4⟩
  have HNV := hide (run_never (id := id) 5000 nx2 (noL id zs2) (fun b hb => (noL_mem.1 hb).2) _ _ _ hr)
  have hg3 := passF_good hf
  have hle3 := (run_good (E := now + tk + tk) (now := now + tk) hg3.2.2.2.2 (by omega) 5000 nx2 (noL id zs2) [] hg3.2.1 _ _ _ hr).2
  obtain ⟨m3, em3⟩ : ∃ m, td3.length = m := ⟨_, rfl⟩
  obtain ⟨m4, em4⟩ : ∃ m, zs3.length = m := ⟨_, rfl⟩
  rw [em3, em4] at HPA; rw [em3] at hle3
  simp only [List.length_nil, Nat.add_zero] at hle3
  clear em3 em4 hg3 hf hr
  obtain ⟨mz, emz⟩ : ∃ m, (noL id zs2).length = m := ⟨_, rfl⟩
  obtain ⟨isb, eib⟩ : ∃ b, decide ((noL id zs2).length < zs2.length) = b := ⟨_, rfl⟩
  rw [eib, emz] at HST; rw [emz] at HPA
  have hwt : IntKind.i64.wrap (now + tk) = now + tk := wrapi (by omega) (by omega)
  have hw9 : ¬ wf ≤ now + tk := by omega
  have HX := hide hX; have H_c := hide hC; have H_f := hide hF; have H_y := hide hY
  clear hX hC hF hY hl g glen hle eib emz hwf
  obtain ⟨⟨p0, p1, p2⟩, ⟨pf0, pf1, pf2⟩, pl⟩ := block3 (unhide H_c)
  obtain ⟨⟨y0, y1, y2⟩, ⟨yf0, yf1, yf2⟩, yl⟩ := block3 (unhide H_y)
  obtain ⟨f0, f1, ff0, ff1, fl⟩ := block2 (unhide H_f)
  go_upto_region 28 with (go_at_call 13; refine (unhide HST).mono ?_; rintro e w2 ⟨az, cz, rfl, ho2, hb2⟩; have HO2 := hide (ho2.base (unhide HX).size); have HX_1 := hide (Below.next (unhide HX) hb2 (by first | exact Nat.le_refl _ | (have := unhide HBA; omega))); have Kc_1 := hide (keep_below (unhide H_c) hb2); have Kf_1 := hide (keep_below (unhide H_f) hb2); have Ky_1 := hide (keep_below (unhide H_y) hb2); clear HX H_c H_f H_y; clear hb2 ho2 HST p0 p1 p2 pf0 pf1 pf2 pl y0 y1 y2 yf0 yf1 yf2 yl f0 f1 ff0 ff1 fl; obtain ⟨f0, f1, ff0, ff1, fl⟩ := block2 (unhide Kf_1))
  clear f0 f1 ff0 ff1 fl
  have hs9 : (put2 w2 (TF) (.int .i64 0) (.int .i64 0)).heap.size = w2.heap.size := by simp [put2, World.setCell]
  have HX_2 := hide (put2_below (y0 := .int .i64 0) (y1 := .int .i64 0) (unhide HX_1) (show w.heap.size ≤ TF by first | omega | (have := unhide HBA; omega)))
  have Kc_2 := hide ((put2_keep (y0 := .int .i64 0) (y1 := .int .i64 0) (show TC ≠ TF by omega)).trans (unhide Kc_1))
  have Kf_2 := hide (put2_new (y0 := .int .i64 0) (y1 := .int .i64 0) (unhide Kf_1))
  have Ky_2 := hide ((put2_keep (y0 := .int .i64 0) (y1 := .int .i64 0) (show TY ≠ TF by omega)).trans (unhide Ky_1))
  have Oz_2 := hide ((unhide HO2).keep (fun k hk => put2_keep (y0 := .int .i64 0) (y1 := .int .i64 0) (Own.ne (unhide HO2) (unhide Kf_1) (by decide) k hk)))
  obtain ⟨W3, eW3⟩ : ∃ X, put2 w2 (TF) (.int .i64 0) (.int .i64 0) = X := ⟨_, rfl⟩
  rw [eW3] at HX_2 Kc_2 Kf_2 Ky_2 Oz_2 hs9
  have eW32 : ((w2).setCell ⟨TF, 0, none⟩ (.int .i64 0)).setCell ⟨TF, 1, none⟩ (.int .i64 0) = W3 := eW3
  rw [eW32]
  clear eW3 eW32 HX_1 Kc_1 Kf_1 Ky_1 HO2
  have hb9 : Below W3.heap.size W3 (W3.alloc (.cells #[.int .i64 (now + tk), .int .i64 nx2, .slice az mz cz] 24)) := (Below.refl _ _).alloc (Nat.le_refl _) _
  have kn9 := new_block W3 (.cells #[.int .i64 (now + tk), .int .i64 nx2, .slice az mz cz] 24)
  rw [hs9] at kn9
  obtain ⟨W4, eW4⟩ : ∃ X, W3.alloc (.cells #[.int .i64 (now + tk), .int .i64 nx2, .slice az mz cz] 24) = X := ⟨_, rfl⟩
  rw [eW4] at hb9 kn9 ⊢
  have hlc_z : TC < w2.heap.size := by rw [← hs9]; exact size_of (unhide Kc_2)
  have hlf_z : TF < w2.heap.size := by rw [← hs9]; exact size_of (unhide Kf_2)
  have hly_z : TY < w2.heap.size := by rw [← hs9]; exact size_of (unhide Ky_2)
  (have HX_3 := hide (Below.next (unhide HX_2) hb9 (by first | exact Nat.le_refl _ | (have := unhide HBA; omega))); have Kc_3 := hide (keep_below (unhide Kc_2) hb9); have Kf_3 := hide (keep_below (unhide Kf_2) hb9); have Ky_3 := hide (keep_below (unhide Ky_2) hb9); have Oz_3 := hide ((unhide Oz_2).below hb9); clear HX_2 Kc_2 Kf_2 Ky_2 Oz_2)
  obtain ⟨TZ, eTZ⟩ : ∃ X, w2.heap.size = X := ⟨_, rfl⟩
  rw [eTZ] at kn9 hlc_z hlf_z hly_z ⊢
  have H_z := hide kn9
  clear eTZ eW4 hb9 kn9 hs9
  obtain ⟨f0, f1, ff0, ff1, fl⟩ := block2 (unhide Kf_3)
  obtain ⟨⟨z0, z1, z2⟩, ⟨zf0, zf1, zf2⟩, zl⟩ := block3 (unhide H_z)
  go_upto_region 31 with (go_at_call 20; refine (unhide HPA _ az cz (unhide Oz_3).isl).mono ?_; rintro e w5 ⟨a5, c5, a6, c6, rfl, ho5, hb5⟩; have HO5 := hide (ho5.base (unhide HX_3).size); have HX_4 := hide (Below.next (unhide HX_3) hb5 (by first | exact Nat.le_refl _ | (have := unhide HBA; omega))); have Kc_4 := hide (keep_below (unhide Kc_3) hb5); have Kf_4 := hide (keep_below (unhide Kf_3) hb5); have Ky_4 := hide (keep_below (unhide Ky_3) hb5); have Kz_4 := hide (keep_below (unhide H_z) hb5); have Oz_4 := hide ((unhide Oz_3).below hb5); clear HX_3 Kc_3 Kf_3 Ky_3 H_z Oz_3; clear hb5 ho5 HPA f0 f1 ff0 ff1 fl z0 z1 z2 zf0 zf1 zf2 zl; obtain ⟨f0, f1, ff0, ff1, fl⟩ := block2 (unhide Kf_4))
  clear f0 f1 ff0 ff1 fl
  have hs9 : (put2 w5 (TF) (.int .i64 0) (.int .i64 0)).heap.size = w5.heap.size := by simp [put2, World.setCell]
  have HX_5 := hide (put2_below (y0 := .int .i64 0) (y1 := .int .i64 0) (unhide HX_4) (show w.heap.size ≤ TF by first | omega | (have := unhide HBA; omega)))
  have Kc_5 := hide ((put2_keep (y0 := .int .i64 0) (y1 := .int .i64 0) (show TC ≠ TF by omega)).trans (unhide Kc_4))
  have Kf_5 := hide (put2_new (y0 := .int .i64 0) (y1 := .int .i64 0) (unhide Kf_4))
  have Ky_5 := hide ((put2_keep (y0 := .int .i64 0) (y1 := .int .i64 0) (show TY ≠ TF by omega)).trans (unhide Ky_4))
  have Kz_5 := hide ((put2_keep (y0 := .int .i64 0) (y1 := .int .i64 0) (show TZ ≠ TF by omega)).trans (unhide Kz_4))
  have Oz_5 := hide ((unhide Oz_4).keep (fun k hk => put2_keep (y0 := .int .i64 0) (y1 := .int .i64 0) (Own.ne (unhide Oz_4) (unhide Kf_4) (by decide) k hk)))
  have Ol_5 := hide ((unhide HO5).keep (fun k hk => put2_keep (y0 := .int .i64 0) (y1 := .int .i64 0) (Own.ne (unhide HO5) (unhide Kf_4) (by decide) k hk)))
  obtain ⟨W6, eW6⟩ : ∃ X, put2 w5 (TF) (.int .i64 0) (.int .i64 0) = X := ⟨_, rfl⟩
  rw [eW6] at HX_5 Kc_5 Kf_5 Ky_5 Kz_5 Oz_5 Ol_5 hs9
  have eW62 : ((w5).setCell ⟨TF, 0, none⟩ (.int .i64 0)).setCell ⟨TF, 1, none⟩ (.int .i64 0) = W6 := eW6
  rw [eW62]
  clear eW6 eW62 HX_4 Kc_4 Kf_4 Ky_4 Kz_4 Oz_4 HO5
  have hb9 : Below W6.heap.size W6 (W6.alloc (.cells #[.int .i64 (now + tk + tk), .int .i64 nx3, .slice a5 m4 c5] 24)) := (Below.refl _ _).alloc (Nat.le_refl _) _
  have kn9 := new_block W6 (.cells #[.int .i64 (now + tk + tk), .int .i64 nx3, .slice a5 m4 c5] 24)
  rw [hs9] at kn9
  obtain ⟨W7, eW7⟩ : ∃ X, W6.alloc (.cells #[.int .i64 (now + tk + tk), .int .i64 nx3, .slice a5 m4 c5] 24) = X := ⟨_, rfl⟩
  rw [eW7] at hb9 kn9 ⊢
  have hlc_v : TC < w5.heap.size := by rw [← hs9]; exact size_of (unhide Kc_5)
  have hlf_v : TF < w5.heap.size := by rw [← hs9]; exact size_of (unhide Kf_5)
  have hly_v : TY < w5.heap.size := by rw [← hs9]; exact size_of (unhide Ky_5)
  have hlz_v : TZ < w5.heap.size := by rw [← hs9]; exact size_of (unhide Kz_5)
  (have HX_6 := hide (Below.next (unhide HX_5) hb9 (by first | exact Nat.le_refl _ | (have := unhide HBA; omega))); have Kc_6 := hide (keep_below (unhide Kc_5) hb9); have Kf_6 := hide (keep_below (unhide Kf_5) hb9); have Ky_6 := hide (keep_below (unhide Ky_5) hb9); have Kz_6 := hide (keep_below (unhide Kz_5) hb9); have Oz_6 := hide ((unhide Oz_5).below hb9); have Ol_6 := hide ((unhide Ol_5).below hb9); clear HX_5 Kc_5 Kf_5 Ky_5 Kz_5 Oz_5 Ol_5)
  obtain ⟨TV, eTV⟩ : ∃ X, w5.heap.size = X := ⟨_, rfl⟩
  rw [eTV] at kn9 hlc_v hlf_v hly_v hlz_v ⊢
  have H_v := hide kn9
  clear eTV eW7 hb9 kn9 hs9
  obtain ⟨f0, f1, ff0, ff1, fl⟩ := block2 (unhide Kf_6)
  go_wp2_with fail
  refine wp_loop_rounds (m3 + 1) ?_
  refine to_rounds id a6 m3 c6 td3 W7 (unhide Ol_6).isl hle3 (unhide HNV) _ _ _ (by kernel_rfl) ?_ m3 0 (by omega) _ _ _ _ _ _ _ _ _ _ _ _ _ _ _ _ _ _ _ _ _ _ _ _ _ _ _ _ _ _ _ _ _ _ _ _ _ _ _ _ _ _ _ _ _ _ _ _ _ _ _ _ _ _ _ _ _ _ _ _ _ _ _ _ _ _ _ _ _ _ _ _ _ _ _ _ _ _ _ _ _ _ _ _ _ _ _ _ _ _ _ _ _ _ _ _ _ _ _ _ _ _ _ _ _ _ _ _ _ _ _ _ _ _ _ _ _ _ _ _ _ _ _ _ _ _ _ _ _ _ _ _ _ _ _ _ _ _ _ _ _ _ _ _ _ _ _ _ _ _ _ _ _ _ _ _ _ _ _ _ _ _ _ _ _ _ _ _ _
  unfold NxD
  intros
  refine in_b2 ?_
  go_wp2_with fail
  go_ret
  exact ⟨rfl, unhide HX_6⟩

end Go.Proofs.Ytidpmcanfedbdaa
