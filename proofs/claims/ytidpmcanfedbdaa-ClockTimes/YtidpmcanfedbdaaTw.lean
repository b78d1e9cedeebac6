/-
  taskmilllaw.ClockTimes, put together.
-/
import Derived.Test.YtidpmcanfedbdaaTq
namespace Go.Proofs.Ytidpmcanfedbdaa
open Go.RowKit

theorem one_new (w : World) (o0 : Obj) : ∃ W, w.alloc o0 = W ∧ Below w.heap.size w W ∧ W.heap[w.heap.size]? = some o0 := ⟨_, rfl, (Below.refl w.heap.size w).alloc (Nat.le_refl _) o0, new_block w o0⟩
theorem set_times {now next : Int} {xs : List Al} {id after period F1 n1 x1 E : Int} {zs1 : List Al} {was : Bool} (h : setR now next xs id after period = ((0, F1), (n1, x1, zs1), was)) : n1 = now ∧ Good now x1 zs1 ∧ HasA id E period (now + after) zs1 ∧ 1 ≤ after ∧ after ≤ 1000000000 ∧ 0 ≤ period ∧ period ≤ 1000000000 := by
  unfold setR at h
  by_cases hf : (setF now next xs id after period).1 ≠ 0
  · rw [if_pos hf] at h
    have h1 : setF now next xs id after period = (0, F1) := congrArg Prod.fst h
    rw [h1] at hf
    exact absurd rfl hf
  · rw [if_neg hf] at h
    obtain ⟨-, g, i1, a1, a2, p0, p1, hl, hx⟩ := setF_good (Decidable.not_not.1 hf)
    cases h
    have hle := (noL_sub id xs).length_le
    have gl := g.len
    have n3 := g.n3
    have n0 := g.n0
    have n1 := g.n1
    refine ⟨rfl, (g.sub (noL_sub id xs)).ins (fun b hb => (noL_mem.1 hb).2) i1 (by omega) (by omega) p0 p1 (by omega) (by omega), Or.inl ⟨_, (ins_mem _ _ _).2 (Or.inl rfl), rfl, rfl, rfl⟩, a1, a2, p0, p1⟩

theorem tl_loop (w : World) (id P tk now next af : Int) (a0 : Option Addr) (n c0 TC TF TY : Nat) (nx2 wf : Int) (zs2 : List Al) (ay : Option Addr) (my cy : Nat) (al : Option Addr) (ml cl : Nat) (td : List (Int × Int)) (W0 : World) (hw : w.heap.size ≤ TC ∧ TC < TF ∧ TF < TY) (hC : W0.heap[TC]? = some (.cells #[.int .i64 now, .int .i64 next, .slice a0 n c0] 24)) (hL : IsL KO W0 (.slice al ml cl) td) (hml : ml ≤ 5000) (hn0 : 0 ≤ now) (ht0 : 0 ≤ tk) (ht1 : now + tk ≤ 1000000000) (hP0 : 0 ≤ P) (hP1 : P ≤ 1000000000) (htk : tk ≤ 2000) (hT : Told id now (now + tk) P 0 (now + af) td wf) (hwf : now + tk < wf) (g : Good (now + tk) nx2 zs2) (hX : Below w.heap.size w W0) (hF : W0.heap[TF]? = some (.cells #[.int .i64 0, .int .i64 0] 29)) (hY : W0.heap[TY]? = some (.cells #[.int .i64 (now + tk), .int .i64 nx2, .slice ay my cy] 24)) (hl : IsL KA W0 (.slice ay my cy) zs2) (K : Act → World → Prop) (b r : Code) (hK : ∀ a w', r.wp Try.prog (bodyPost Try.prog Try.f6 fun e w' => e = .returned (.bool true) ∧ Below w.heap.size w w') a w' → K a w') (hcut : (Try.f6.body.bind (loopFor 0)) = some (b, r))
    {s0 s2 s6 s7 s8 s9 s10 s11 s12 s19 s20 s21 s22 s23 s24 s25 s26 s27 s28 s29 s30 s31 s32 s33 s34 s35 s36 s37 s38 s39 s40 s41 s42 s43 s44 s45 s46 s47 s48 s49 s50 s51 s52 s53 s54 s55 s56 s57 s58 s59 s60 s61 s62 s63 s64 s65 s66 s67 s68 s69 s70 s71 s72 s73 s74 s75 s76 s77 s78 s79 s80 s81 s82 s83 s84 s85 s86 s87 s88 s89 s90 s91 s92 s93 s94 s95 s96 s97 s98 s99 s100 s101 s102 s103 s104 s105 s106 s107 s108 s109 s110 s111 s112 s113 s114 s115 s116 s117 s118 s119 s120 s121 s122 s123 s124 s125 s126 s127 s128 s129 s130 s131 s132 s133 s134 s135 s136 s137 s138 s139 s140 s141 s142 s143 s144 s145 s146 s147 s148 s149 s150 s151 s152 s153 s154 s155 s156 s157 s158 s159 s160 s161 s162 s163 s164 s165 s166 s167 s168 s169 s170 s171 s172 : Value} : (Code.loop b).wp Try.prog (Exit.inBlock 0 (Exit.then K (bodyPost Try.prog Try.f6 fun e w' => e = .returned (.bool true) ∧ Below w.heap.size w w'))) { tmps := (s0 :: .int .i64 id :: s2 :: .int .i64 P :: .int .i64 tk :: .pointer (some ⟨TC, 0, none⟩) :: s6 :: s7 :: s8 :: s9 :: s10 :: s11 :: s12 :: .pointer (some ⟨TF, 0, none⟩) :: .pointer (some ⟨TY, 0, none⟩) :: .slice al ml cl :: .int .i64 (now + af) :: .int .i64 0 :: .int .i64 0 :: s19 :: s20 :: s21 :: s22 :: s23 :: s24 :: s25 :: s26 :: s27 :: s28 :: s29 :: s30 :: s31 :: s32 :: s33 :: s34 :: s35 :: s36 :: s37 :: s38 :: s39 :: s40 :: s41 :: s42 :: s43 :: s44 :: s45 :: s46 :: s47 :: s48 :: s49 :: s50 :: s51 :: s52 :: s53 :: s54 :: s55 :: s56 :: s57 :: s58 :: s59 :: s60 :: s61 :: s62 :: s63 :: s64 :: s65 :: s66 :: s67 :: s68 :: s69 :: s70 :: s71 :: s72 :: s73 :: s74 :: s75 :: s76 :: s77 :: s78 :: s79 :: s80 :: s81 :: s82 :: s83 :: s84 :: s85 :: s86 :: s87 :: s88 :: s89 :: s90 :: s91 :: s92 :: s93 :: s94 :: s95 :: s96 :: s97 :: s98 :: s99 :: s100 :: s101 :: s102 :: s103 :: s104 :: s105 :: s106 :: s107 :: s108 :: s109 :: s110 :: s111 :: s112 :: s113 :: s114 :: s115 :: s116 :: s117 :: s118 :: s119 :: s120 :: s121 :: s122 :: s123 :: s124 :: s125 :: s126 :: s127 :: s128 :: s129 :: s130 :: s131 :: s132 :: s133 :: s134 :: s135 :: s136 :: s137 :: s138 :: s139 :: s140 :: s141 :: s142 :: s143 :: s144 :: s145 :: s146 :: s147 :: s148 :: s149 :: s150 :: s151 :: s152 :: s153 :: s154 :: s155 :: s156 :: s157 :: s158 :: s159 :: s160 :: s161 :: s162 :: s163 :: s164 :: s165 :: s166 :: s167 :: s168 :: s169 :: s170 :: s171 :: s172 :: []).toArray, defers := [] } W0 := by
  refine wp_loop_rounds (ml + 1) ?_
  refine tm_rounds id P tk now next a0 n c0 TC al ml cl td W0 hC hL hml hn0 ht0 ht1 hP0 hP1 _ _ _ wf _ b r hcut ?_ ml 0 (by omega) _ _ _ _ _ _ _ _ _ _ _ _ _ _ _ _ _ _ _ _ _ _ _ _ _ _ _ _ _ _ _ _ _ _ _ _ _ _ _ _ _ _ _ _ _ _ _ _ _ _ _ _ _ _ _ _ _ _ _ _ _ _ _ _ _ _ _ _ _ _ _ _ _ _ _ _ _ _ _ _ _ _ _ _ _ _ _ _ _ _ _ _ _ _ _ _ _ _ _ _ _ _ _ _ _ _ _ _ _ _ _ _ _ _ _ _ _ _ _ _ _ _ _ _ _ _ _ _ _ _ _ _ _ _ _ _ _ _ _ _ _ _ _ _ _ _ _ _ _ _ _ _ _ _ _ _ _ _ _ _ _ _ (now + af) 0 W0 hT (Below.refl _ _)
  unfold NxB
  intros
  rename_i last W' hB
  refine in_b2 ?_
  refine hK _ _ ?_
  rcases pass_cases (g.sub (noL_sub id zs2)) ht0 htk with hR | ⟨-, hf, nx3, zs3, td3, hr⟩
  · exact tq_much w id tk now next wf a0 n c0 TC TF TY nx2 zs2 ay my cy hw hn0 ht0 ht1 hwf g hR W' (Below.next hX hB (Nat.le_refl _)) (keep_below hC hB) (keep_below hF hB) (keep_below hY hB) (hl.below hB) b r hcut
  · exact tq_fine w id tk now next wf a0 n c0 TC TF TY nx2 zs2 ay my cy hw hn0 ht0 ht1 hwf g hf nx3 zs3 td3 hr W' (Below.next hX hB (Nat.le_refl _)) (keep_below hC hB) (keep_below hF hB) (keep_below hY hB) (hl.below hB) b r hcut

set_option maxRecDepth 100000 in
set_option maxHeartbeats 4000000 in
theorem times_walk (w : World) (v : Value) (now next : Int) (xs : List Al) (id after period ticks : Int) (h : IsC w v now next xs) (hm : xs.length * 32 ≤ 140737488355328) :
    Calls Try.prog 6 #[v, .int .i64 id, .int .i64 after, .int .i64 period, .int .i64 ticks] w fun e w' => e = .returned (.bool true) ∧ Below w.heap.size w w' := by
  have hn : xs.length ≤ maxLen := by unfold maxLen; omega
  obtain ⟨a0, c0, rfl, hL⟩ := h.form
  obtain ⟨⟨⟨F0, F1⟩, ⟨n1, x1, zs1⟩, was⟩, e1⟩ : ∃ r, setR now next xs id after period = r := ⟨_, rfl⟩
  have HSE : Hid (∀ W, Below w.heap.size w W → Calls Try.prog 12 #[.agg #[.int .i64 now, .int .i64 next, .slice a0 xs.length c0], .int .i64 id, .int .i64 after, .int .i64 period] W fun e w' => ∃ av cv, e = .returned (.tuple #[.agg #[.int .i64 n1, .int .i64 x1, .slice av zs1.length cv], .bool was, .agg #[.int .i64 F0, .int .i64 F1]]) ∧ IsL KA w' (.slice av zs1.length cv) zs1 ∧ Below W.heap.size W w') := fun W hW => set_any W _ now next xs id after period (h.below hW) hn F0 F1 n1 x1 zs1 was e1
  obtain ⟨n, en⟩ : ∃ n, xs.length = n := ⟨_, rfl⟩
  rw [en] at HSE hn hm ⊢
  have HN := hide en; have HE1 := hide e1
  clear h hL en e1
  obtain ⟨W0, e0, hB, k0⟩ := one_new w (.cells #[.int .i64 now, .int .i64 next, .slice a0 n c0] 24)
  have HX := hide hB; have HE := hide e0; have HP := hide k0
  clear hB e0 k0
  go_enter Try.func6, Try.ntmps6
  go_upto_region 1 with fail
  rw [unhide HE]
  clear HE
  go_upto_region 3 with (go_at_call 8; refine (begun_any _).mono ?_; rintro e w1 ⟨rfl, hb1⟩; have HX_1 := hide (Below.next (unhide HX) hb1 (by first | exact Nat.le_refl _ | (have := unhide HBA; omega))); have Kp_1 := hide (keep_below (unhide HP) hb1); clear HX HP; clear hb1)
  obtain ⟨⟨p0, p1, p2⟩, ⟨pf0, pf1, pf2⟩, pl⟩ := block3 (unhide Kp_1)
  by_cases q1 : 100 < n
  · have j1 : (100 : Int) < (n : Int) := by omega
    go_wp2_with fail
    go_ret
    exact ⟨rfl, unhide HX_1⟩
  have j1 : ¬ (100 : Int) < (n : Int) := by omega
  by_cases q2 : ticks < 0
  · go_wp2_with fail
    go_ret
    exact ⟨rfl, unhide HX_1⟩
  by_cases q3 : 2000 < ticks
  · go_wp2_with fail
    go_ret
    exact ⟨rfl, unhide HX_1⟩
  go_upto_region 6 with (go_at_call 12; refine (unhide HSE _ (unhide HX_1)).mono ?_; rintro e w2 ⟨av1, cv1, rfl, hl2, hb2⟩; have HL2 := hide hl2; have HX_2 := hide (Below.next (unhide HX_1) hb2 (by first | exact Nat.le_refl _ | (have := unhide HBA; omega))); have Kp_2 := hide (keep_below (unhide Kp_1) hb2); clear HX_1 Kp_1; clear hb2 hl2 HSE p0 p1 p2 pf0 pf1 pf2 pl)
  obtain ⟨m1, em1⟩ : ∃ m, zs1.length = m := ⟨_, rfl⟩
  rw [em1] at HL2 ⊢
  have HM1 := hide em1
  clear em1
  obtain ⟨W2, eW2, hBW2, k0_3, k1_3⟩ := two_new w2 (.cells #[.int .i64 n1, .int .i64 x1, .slice av1 m1 cv1] 24) (.cells #[.int .i64 F0, .int .i64 F1] 29)
  rw [eW2]
  clear eW2
  have HLX := hide ((unhide HL2).below hBW2)
  have hlp_x : w.heap.size < w2.heap.size := size_of (unhide Kp_2)
  (have HX_3 := hide (Below.next (unhide HX_2) hBW2 (by first | exact Nat.le_refl _ | (have := unhide HBA; omega))); have Kp_3 := hide (keep_below (unhide Kp_2) hBW2); clear HX_2 Kp_2)
  obtain ⟨TX, eTX⟩ : ∃ X, w2.heap.size = X := ⟨_, rfl⟩
  rw [eTX] at k0_3 k1_3 hlp_x ⊢
  have Kx_3 := hide k0_3
  have Kf_3 := hide k1_3
  clear eTX hBW2 k0_3 k1_3
  obtain ⟨f0, f1, ff0, ff1, fl⟩ := block2 (unhide Kf_3)
  by_cases hF : F0 ≠ 0
  · have xf : (F0 != 0) = true := by simpa using hF
    clear hF
    go_wp2_with fail
    go_ret
    exact ⟨rfl, unhide HX_3⟩
  obtain rfl : F0 = 0 := Decidable.not_not.1 hF
  clear hF
  go_upto_region 8 with fail
  clear f0 f1 ff0 ff1 fl
  obtain ⟨hn1, g1, hh1, ha1, ha2, hp0, hp1⟩ := set_times (E := now + ticks) (unhide HE1)
  have hn1' := hn1.symm
  subst hn1'
  clear hn1
  have gn0 := g1.n0
  have gn1 := g1.n1
  have gl1 := g1.len
  have ht0 : 0 ≤ ticks := by omega
  have ht2 : ticks ≤ 2000 := by omega
  rcases pass_cases g1 ht0 ht2 with hR | ⟨ht1, hf, nx2, zs2, td, hr⟩
  · have HPA : Hid (Calls Try.prog 20 #[.agg #[.int .i64 now, .int .i64 x1, .slice av1 m1 cv1], .int .i64 ticks] W2 fun e w' => ∃ a1 c1 a c, e = .returned (.tuple #[.agg #[.int .i64 0, .int .i64 0, .slice a1 0 c1], .slice a 0 c, .agg #[.int .i64 9, .int .i64 0]]) ∧ Below W2.heap.size W2 w') := pass_much W2 _ now x1 zs1 ticks ⟨_, rfl, unhide HLX⟩ (by unfold maxLen; omega) hR
    clear hR
    obtain ⟨⟨x0, x1, x2⟩, ⟨xf0, xf1, xf2⟩, xl⟩ := block3 (unhide Kx_3)
    obtain ⟨f0, f1, ff0, ff1, fl⟩ := block2 (unhide Kf_3)
    go_upto_region 9 with (go_at_call 20; refine (unhide HPA).mono ?_; rintro e w5 ⟨a5, c5, a6, c6, rfl, hb5⟩; have HX_4 := hide (Below.next (unhide HX_3) hb5 (by first | exact Nat.le_refl _ | (have := unhide HBA; omega))); have Kp_4 := hide (keep_below (unhide Kp_3) hb5); have Kx_4 := hide (keep_below (unhide Kx_3) hb5); have Kf_4 := hide (keep_below (unhide Kf_3) hb5); clear HX_3 Kp_3 Kx_3 Kf_3; clear hb5 HPA x0 x1 x2 xf0 xf1 xf2 xl f0 f1 ff0 ff1 fl; obtain ⟨f0, f1, ff0, ff1, fl⟩ := block2 (unhide Kf_4))
    clear f0 f1 ff0 ff1 fl
    have hs9 : (put2 w5 (TX + 1) (.int .i64 9) (.int .i64 0)).heap.size = w5.heap.size := by simp [put2, World.setCell]
    have HX_5 := hide (put2_below (y0 := .int .i64 9) (y1 := .int .i64 0) (unhide HX_4) (show w.heap.size ≤ TX + 1 by first | omega | (have := unhide HBA; omega)))
    have Kp_5 := hide ((put2_keep (y0 := .int .i64 9) (y1 := .int .i64 0) (show w.heap.size ≠ TX + 1 by omega)).trans (unhide Kp_4))
    have Kx_5 := hide ((put2_keep (y0 := .int .i64 9) (y1 := .int .i64 0) (show TX ≠ TX + 1 by omega)).trans (unhide Kx_4))
    have Kf_5 := hide (put2_new (y0 := .int .i64 9) (y1 := .int .i64 0) (unhide Kf_4))
    obtain ⟨W6, eW6⟩ : ∃ X, put2 w5 (TX + 1) (.int .i64 9) (.int .i64 0) = X := ⟨_, rfl⟩
    rw [eW6] at HX_5 Kp_5 Kx_5 Kf_5 hs9
    have eW62 : ((w5).setCell ⟨TX + 1, 0, none⟩ (.int .i64 9)).setCell ⟨TX + 1, 1, none⟩ (.int .i64 0) = W6 := eW6
    rw [eW62]
    clear eW6 eW62 HX_4 Kp_4 Kx_4 Kf_4
    have hb9 : Below W6.heap.size W6 (W6.alloc (.cells #[.int .i64 0, .int .i64 0, .slice a5 0 c5] 24)) := (Below.refl _ _).alloc (Nat.le_refl _) _
    have kn9 := new_block W6 (.cells #[.int .i64 0, .int .i64 0, .slice a5 0 c5] 24)
    rw [hs9] at kn9
    obtain ⟨W7, eW7⟩ : ∃ X, W6.alloc (.cells #[.int .i64 0, .int .i64 0, .slice a5 0 c5] 24) = X := ⟨_, rfl⟩
    rw [eW7] at hb9 kn9 ⊢
    have hlp_y : w.heap.size < w5.heap.size := by rw [← hs9]; exact size_of (unhide Kp_5)
    have hlx_y : TX < w5.heap.size := by rw [← hs9]; exact size_of (unhide Kx_5)
    have hlf_y : TX + 1 < w5.heap.size := by rw [← hs9]; exact size_of (unhide Kf_5)
    (have HX_6 := hide (Below.next (unhide HX_5) hb9 (by first | exact Nat.le_refl _ | (have := unhide HBA; omega))); have Kp_6 := hide (keep_below (unhide Kp_5) hb9); have Kx_6 := hide (keep_below (unhide Kx_5) hb9); have Kf_6 := hide (keep_below (unhide Kf_5) hb9); clear HX_5 Kp_5 Kx_5 Kf_5)
    obtain ⟨TY, eTY⟩ : ∃ X, w5.heap.size = X := ⟨_, rfl⟩
    rw [eTY] at kn9 hlp_y hlx_y hlf_y ⊢
    have H_y := hide kn9
    clear eTY eW7 hb9 kn9 hs9
    obtain ⟨f0, f1, ff0, ff1, fl⟩ := block2 (unhide Kf_6)
    go_upto_region 10 with fail
    clear f0 f1 ff0 ff1 fl
    have HSS : Hid (∀ W, Below W7.heap.size W7 W → (W.cell? ⟨TX + 1, 0, none⟩ = some (.int .i64 9) ∧ W.cell? ⟨TX + 1, 1, none⟩ = some (.int .i64 0)) ∧ Below W7.heap.size W7 W) := fun W hW => ⟨⟨(block2 (keep_below (unhide Kf_6) hW)).1, (block2 (keep_below (unhide Kf_6) hW)).2.1⟩, hW⟩
    go_region_held3 (fun W => (W.cell? ⟨TX + 1, 0, none⟩ = some (.int .i64 9) ∧ W.cell? ⟨TX + 1, 1, none⟩ = some (.int .i64 0)) ∧ Below W7.heap.size W7 W)
      (first | with_reducible exact unhide HSS _ (Below.refl _ _) | with_reducible exact unhide HSS _ (Below.refl _ _).drew | with_reducible exact unhide HSS _ (unhide HY7))
      (first | (go_at_call 17; refine (f_any _ _ _).mono ?_; rintro e wz ⟨rfl, hbz⟩; have HY7 : Hid (Below W7.heap.size W7 wz) := Below.next (by go_split_ands; assumption) hbz (Nat.le_refl _); clear hbz))
    all_goals
      go_wp2_with fail
      go_ret
      exact ⟨rfl, Below.next (unhide HX_6) (unhide HY7) (Nat.le_refl _)⟩
  · obtain ⟨wf, hT, hwf⟩ := told_run (id := id) (P := period) (E := now + ticks) ht1 5000 x1 0 (now + after) zs1 g1 (fun b hb => by have := (oor_iff now x1 b).1 (g1.rng b hb); omega) hh1 _ _ _ hr
    obtain ⟨g2, hle2⟩ := run_good (E := now + ticks) (now := now) ht1 (by omega) 5000 x1 zs1 [] g1 _ _ _ hr
    simp only [List.length_nil, Nat.add_zero] at hle2
    have HPA : Hid (Calls Try.prog 20 #[.agg #[.int .i64 now, .int .i64 x1, .slice av1 m1 cv1], .int .i64 ticks] W2 fun e w' => ∃ a1 c1 a c, e = .returned (.tuple #[.agg #[.int .i64 (now + ticks), .int .i64 nx2, .slice a1 zs2.length c1], .slice a td.length c, .agg #[.int .i64 0, .int .i64 0]]) ∧ New KA W2.heap.size w' (.slice a1 zs2.length c1) zs2 ∧ Own KO W2.heap.size w' (.slice a td.length c) td ∧ Below W2.heap.size W2 w') := pass_new W2 _ now x1 zs1 ticks ⟨_, rfl, unhide HLX⟩ (by unfold maxLen; omega) hf nx2 zs2 td hr
    clear hf hr
    obtain ⟨my, emy⟩ : ∃ m, zs2.length = m := ⟨_, rfl⟩
    obtain ⟨ml, eml⟩ : ∃ m, td.length = m := ⟨_, rfl⟩
    rw [emy, eml] at HPA; rw [eml] at hle2
    clear emy eml
    have HTO := hide hT; have HG2 := hide g2
    clear hT g2
    obtain ⟨⟨x0, x1, x2⟩, ⟨xf0, xf1, xf2⟩, xl⟩ := block3 (unhide Kx_3)
    obtain ⟨f0, f1, ff0, ff1, fl⟩ := block2 (unhide Kf_3)
    have hxs : TX + 1 < W2.heap.size := fl
    go_upto_region 9 with (go_at_call 20; refine (unhide HPA).mono ?_; rintro e w5 ⟨a5, c5, a6, c6, rfl, hn5, ho5, hb5⟩; have HN5 := hide hn5; have HO5 := hide ho5; have HX_4 := hide (Below.next (unhide HX_3) hb5 (by first | exact Nat.le_refl _ | (have := unhide HBA; omega))); have Kp_4 := hide (keep_below (unhide Kp_3) hb5); have Kx_4 := hide (keep_below (unhide Kx_3) hb5); have Kf_4 := hide (keep_below (unhide Kf_3) hb5); clear HX_3 Kp_3 Kx_3 Kf_3; clear hb5 hn5 ho5 HPA x0 x1 x2 xf0 xf1 xf2 xl f0 f1 ff0 ff1 fl; obtain ⟨f0, f1, ff0, ff1, fl⟩ := block2 (unhide Kf_4))
    clear f0 f1 ff0 ff1 fl
    have hs9 : (put2 w5 (TX + 1) (.int .i64 0) (.int .i64 0)).heap.size = w5.heap.size := by simp [put2, World.setCell]
    have Nn_5 := hide ((unhide HN5).keep ka (fun k hk _ => put2_keep (y0 := .int .i64 0) (y1 := .int .i64 0) (show k ≠ TX + 1 by omega)))
    clear HN5
    have HX_5 := hide (put2_below (y0 := .int .i64 0) (y1 := .int .i64 0) (unhide HX_4) (show w.heap.size ≤ TX + 1 by first | omega | (have := unhide HBA; omega)))
    have Kp_5 := hide ((put2_keep (y0 := .int .i64 0) (y1 := .int .i64 0) (show w.heap.size ≠ TX + 1 by omega)).trans (unhide Kp_4))
    have Kx_5 := hide ((put2_keep (y0 := .int .i64 0) (y1 := .int .i64 0) (show TX ≠ TX + 1 by omega)).trans (unhide Kx_4))
    have Kf_5 := hide (put2_new (y0 := .int .i64 0) (y1 := .int .i64 0) (unhide Kf_4))
    have Ol_5 := hide ((unhide HO5).keep (fun k hk => put2_keep (y0 := .int .i64 0) (y1 := .int .i64 0) (Own.ne (unhide HO5) (unhide Kf_4) (by decide) k hk)))
    obtain ⟨W6, eW6⟩ : ∃ X, put2 w5 (TX + 1) (.int .i64 0) (.int .i64 0) = X := ⟨_, rfl⟩
    rw [eW6] at HX_5 Kp_5 Kx_5 Kf_5 Ol_5 Nn_5 hs9
    have eW62 : ((w5).setCell ⟨TX + 1, 0, none⟩ (.int .i64 0)).setCell ⟨TX + 1, 1, none⟩ (.int .i64 0) = W6 := eW6
    rw [eW62]
    clear eW6 eW62 HX_4 Kp_4 Kx_4 Kf_4 HO5
    have hb9 : Below W6.heap.size W6 (W6.alloc (.cells #[.int .i64 (now + ticks), .int .i64 nx2, .slice a5 my c5] 24)) := (Below.refl _ _).alloc (Nat.le_refl _) _
    have kn9 := new_block W6 (.cells #[.int .i64 (now + ticks), .int .i64 nx2, .slice a5 my c5] 24)
    rw [hs9] at kn9
    obtain ⟨W7, eW7⟩ : ∃ X, W6.alloc (.cells #[.int .i64 (now + ticks), .int .i64 nx2, .slice a5 my c5] 24) = X := ⟨_, rfl⟩
    rw [eW7] at hb9 kn9 ⊢
    have hlp_y : w.heap.size < w5.heap.size := by rw [← hs9]; exact size_of (unhide Kp_5)
    have hlx_y : TX < w5.heap.size := by rw [← hs9]; exact size_of (unhide Kx_5)
    have hlf_y : TX + 1 < w5.heap.size := by rw [← hs9]; exact size_of (unhide Kf_5)
    (have HX_6 := hide (Below.next (unhide HX_5) hb9 (by first | exact Nat.le_refl _ | (have := unhide HBA; omega))); have Kp_6 := hide (keep_below (unhide Kp_5) hb9); have Kx_6 := hide (keep_below (unhide Kx_5) hb9); have Kf_6 := hide (keep_below (unhide Kf_5) hb9); have Ol_6 := hide ((unhide Ol_5).below hb9); have Fn_6 := hide ((unhide Nn_5).below hb9); clear HX_5 Kp_5 Kx_5 Kf_5 Ol_5 Nn_5)
    obtain ⟨TY, eTY⟩ : ∃ X, w5.heap.size = X := ⟨_, rfl⟩
    rw [eTY] at kn9 hlp_y hlx_y hlf_y ⊢
    have H_y := hide kn9
    clear eTY eW7 hb9 kn9 hs9
    have hwa : IntKind.i64.wrap (now + after) = now + after := wrapi (by omega) (by omega)
    obtain ⟨f0, f1, ff0, ff1, fl⟩ := block2 (unhide Kf_6)
    obtain ⟨⟨p0, p1, p2⟩, ⟨pf0, pf1, pf2⟩, pl⟩ := block3 (unhide Kp_6)
    go_wp2_with fail
    exact tl_loop w id period ticks now next after a0 n c0 w.heap.size (TX + 1) TY nx2 wf zs2 a5 my c5 a6 ml c6 td W7 ⟨Nat.le_refl _, by omega, by omega⟩ (unhide Kp_6) (unhide Ol_6).isl hle2 gn0 ht0 ht1 hp0 hp1 ht2 (unhide HTO) hwf (unhide HG2) (unhide HX_6) (unhide Kf_6) (unhide H_y) (unhide Fn_6).1 _ _ _ (by assumption) (by kernel_rfl)

end Go.Proofs.Ytidpmcanfedbdaa
