/-
  taskmilllaw.ClockTurns: a round.
-/
import Derived.Test.YtidpmcanfedbdaaUd
namespace Go.Proofs.Ytidpmcanfedbdaa
open Go.RowKit

/-- What holds ahead of the round k. -/
structure StU (w : World) (A : Int) (TC k : Nat) (zs : List Al) (ac : Option Addr) (mc cc : Nat) (aw : Option Addr) (mw cw : Nat) (W : World) : Prop where
  al : Alike A (k : Int) zs
  gd : Good 0 (k : Int) zs
  len : zs.length ≤ k
  smm : 0 < k → zs ≠ []
  bel : Below w.heap.size w W
  blk : W.heap[TC]? = some (.cells #[.int .i64 0, .int .i64 (k : Int), .slice ac mc cc] 24)
  own : Own KA w.heap.size W (.slice ac mc cc) zs
  wnt : Own KO w.heap.size W (.slice aw mw cw) (zs.map (fun p : Al => (p.2.1, p.1)))
def NxP (w : World) (a0 : Option Addr) (n c0 TC j : Nat) (A : Int) (N : Act → World → Prop) : Prop := ∀ (s2 s3 s8 s9 s10 s11 s12 s13 s14 s15 s16 s17 s18 s19 s20 s21 s22 s23 s24 s25 s26 s27 s28 s29 s30 s31 s32 s33 s34 s35 s36 s37 s38 s39 s40 s41 s42 s43 s44 s45 s46 s47 s48 s49 s50 s51 s52 s53 s54 s55 s56 s57 s58 s59 s60 s61 s62 s63 s64 s65 s66 s67 s68 s69 s70 s71 s72 s73 s74 s75 s76 s77 s78 s79 s80 s81 s82 s83 s84 s85 s86 s87 s88 s89 s90 s91 s92 s93 s94 s95 s96 s97 s98 s99 s100 s101 s102 s103 s104 s105 s106 s107 s108 s109 s110 s111 s112 s113 s114 s115 s116 s117 s118 s119 s120 s121 s122 s123 s124 s125 s126 s127 s128 : Value) (zs : List Al) (ac : Option Addr) (mc cc : Nat) (aw : Option Addr) (mw cw : Nat) (W' : World), StU w A TC (j + 1) zs ac mc cc aw mw cw W' → N { tmps := (.slice a0 n c0 :: .int .i64 A :: s2 :: s3 :: .bool false :: .pointer (some ⟨TC, 0, none⟩) :: .slice aw mw cw :: .int .i64 ((j : Int) + 1) :: s8 :: s9 :: s10 :: s11 :: s12 :: s13 :: s14 :: s15 :: s16 :: s17 :: s18 :: s19 :: s20 :: s21 :: s22 :: s23 :: s24 :: s25 :: s26 :: s27 :: s28 :: s29 :: s30 :: s31 :: s32 :: s33 :: s34 :: s35 :: s36 :: s37 :: s38 :: s39 :: s40 :: s41 :: s42 :: s43 :: s44 :: s45 :: s46 :: s47 :: s48 :: s49 :: s50 :: s51 :: s52 :: s53 :: s54 :: s55 :: s56 :: s57 :: s58 :: s59 :: s60 :: s61 :: s62 :: s63 :: s64 :: s65 :: s66 :: s67 :: s68 :: s69 :: s70 :: s71 :: s72 :: s73 :: s74 :: s75 :: s76 :: s77 :: s78 :: s79 :: s80 :: s81 :: s82 :: s83 :: s84 :: s85 :: s86 :: s87 :: s88 :: s89 :: s90 :: s91 :: s92 :: s93 :: s94 :: s95 :: s96 :: s97 :: s98 :: s99 :: s100 :: s101 :: s102 :: s103 :: s104 :: s105 :: s106 :: s107 :: s108 :: s109 :: s110 :: s111 :: s112 :: s113 :: s114 :: s115 :: s116 :: s117 :: s118 :: s119 :: s120 :: s121 :: s122 :: s123 :: s124 :: s125 :: s126 :: s127 :: s128 :: []).toArray, defers := [] } W'
theorem in_b2 {id : Nat} {Q : Exit → Act → World → Prop} {a : Act} {w : World} (h : Q Exit.normal a w) : Exit.inBlock id Q (.exit id) a w := by
  have e : Exit.inBlock id Q (.exit id) a w = Q Exit.normal a w := by simp [Exit.inBlock]
  rw [e]
  exact h

set_option maxRecDepth 100000 in
set_option maxHeartbeats 4000000 in
theorem turns_low (w : World) (xs : List Int) (a0 : Option Addr) (n c0 TC j : Nat) (A : Int) (zs : List Al) (ac : Option Addr) (mc cc : Nat) (aw : Option Addr) (mw cw : Nat) (hIL : IsL KI w (.slice a0 n c0) xs) (hn : n ≤ 100) (_hA : 1 ≤ A) (_hA1 : A ≤ 1000) (_hw : w.heap.size ≤ TC) (hj : j < n) (hid : xs.getD j 0 < 1) (Wt : World) (hS : StU w A TC j zs ac mc cc aw mw cw Wt)
    {s2 s3 s8 s9 s10 s11 s12 s13 s14 s15 s16 s17 s18 s19 s20 s21 s22 s23 s24 s25 s26 s27 s28 s29 s30 s31 s32 s33 s34 s35 s36 s37 s38 s39 s40 s41 s42 s43 s44 s45 s46 s47 s48 s49 s50 s51 s52 s53 s54 s55 s56 s57 s58 s59 s60 s61 s62 s63 s64 s65 s66 s67 s68 s69 s70 s71 s72 s73 s74 s75 s76 s77 s78 s79 s80 s81 s82 s83 s84 s85 s86 s87 s88 s89 s90 s91 s92 s93 s94 s95 s96 s97 s98 s99 s100 s101 s102 s103 s104 s105 s106 s107 s108 s109 s110 s111 s112 s113 s114 s115 s116 s117 s118 s119 s120 s121 s122 s123 s124 s125 s126 s127 s128 : Value} (K N : Act → World → Prop) (b r : Code) (hcut : (Try.f7.body.bind (loopFor 0)) = some (b, r)) :
    b.wp Try.prog (Exit.then N (Exit.inBlock 0 (Exit.then K (bodyPost Try.prog Try.f7 fun e w' => e = .returned (.bool true) ∧ Below w.heap.size w w')))) { tmps := (.slice a0 n c0 :: .int .i64 A :: s2 :: s3 :: .bool false :: .pointer (some ⟨TC, 0, none⟩) :: .slice aw mw cw :: .int .i64 (j : Int) :: s8 :: s9 :: s10 :: s11 :: s12 :: s13 :: s14 :: s15 :: s16 :: s17 :: s18 :: s19 :: s20 :: s21 :: s22 :: s23 :: s24 :: s25 :: s26 :: s27 :: s28 :: s29 :: s30 :: s31 :: s32 :: s33 :: s34 :: s35 :: s36 :: s37 :: s38 :: s39 :: s40 :: s41 :: s42 :: s43 :: s44 :: s45 :: s46 :: s47 :: s48 :: s49 :: s50 :: s51 :: s52 :: s53 :: s54 :: s55 :: s56 :: s57 :: s58 :: s59 :: s60 :: s61 :: s62 :: s63 :: s64 :: s65 :: s66 :: s67 :: s68 :: s69 :: s70 :: s71 :: s72 :: s73 :: s74 :: s75 :: s76 :: s77 :: s78 :: s79 :: s80 :: s81 :: s82 :: s83 :: s84 :: s85 :: s86 :: s87 :: s88 :: s89 :: s90 :: s91 :: s92 :: s93 :: s94 :: s95 :: s96 :: s97 :: s98 :: s99 :: s100 :: s101 :: s102 :: s103 :: s104 :: s105 :: s106 :: s107 :: s108 :: s109 :: s110 :: s111 :: s112 :: s113 :: s114 :: s115 :: s116 :: s117 :: s118 :: s119 :: s120 :: s121 :: s122 :: s123 :: s124 :: s125 :: s126 :: s127 :: s128 :: []).toArray, defers := [] } Wt := by
  have hcc : (Try.f7.body.bind (loopFor 0)) = some (_, _) := rfl
  rw [hcc] at hcut
  cases hcut
  clear hcc
  obtain ⟨al, gd, len, sm, bel, blk, own, wnt⟩ := hS
  obtain ⟨b0, o0, rfl, hb0, l0⟩ := hIL.opens ki hIL.len (by omega)
  obtain ⟨id, eid⟩ : ∃ z, xs.getD j 0 = z := ⟨_, rfl⟩
  have cm := (l0.below bel hb0).ints (j := j) (by rw [hIL.len]; exact hj)
  rw [eid] at cm
  have i0 : (0 : Int) ≤ (j : Int) := by omega
  have i1 : (j : Int) < (n : Int) := by omega
  rw [eid] at hid
  have HX := hide bel
  clear hIL l0 al gd sm bel blk own wnt eid
  go_wp2_with fail
  go_ret
  exact ⟨rfl, unhide HX⟩

set_option maxRecDepth 100000 in
set_option maxHeartbeats 4000000 in
theorem turns_set (w : World) (xs : List Int) (a0 : Option Addr) (n c0 TC j : Nat) (A : Int) (zs : List Al) (ac : Option Addr) (mc cc : Nat) (aw : Option Addr) (mw cw : Nat) (hIL : IsL KI w (.slice a0 n c0) xs) (hn : n ≤ 100) (hA : 1 ≤ A) (hA1 : A ≤ 1000) (hw : w.heap.size ≤ TC) (hj : j < n) (hid : ¬ xs.getD j 0 < 1) (Wt : World) (hS : StU w A TC j zs ac mc cc aw mw cw Wt)
    {s2 s3 s8 s9 s10 s11 s12 s13 s14 s15 s16 s17 s18 s19 s20 s21 s22 s23 s24 s25 s26 s27 s28 s29 s30 s31 s32 s33 s34 s35 s36 s37 s38 s39 s40 s41 s42 s43 s44 s45 s46 s47 s48 s49 s50 s51 s52 s53 s54 s55 s56 s57 s58 s59 s60 s61 s62 s63 s64 s65 s66 s67 s68 s69 s70 s71 s72 s73 s74 s75 s76 s77 s78 s79 s80 s81 s82 s83 s84 s85 s86 s87 s88 s89 s90 s91 s92 s93 s94 s95 s96 s97 s98 s99 s100 s101 s102 s103 s104 s105 s106 s107 s108 s109 s110 s111 s112 s113 s114 s115 s116 s117 s118 s119 s120 s121 s122 s123 s124 s125 s126 s127 s128 : Value} (K N : Act → World → Prop) (b r : Code) (hcut : (Try.f7.body.bind (loopFor 0)) = some (b, r)) (hN : NxP w a0 n c0 TC j A N) :
    b.wp Try.prog (Exit.then N (Exit.inBlock 0 (Exit.then K (bodyPost Try.prog Try.f7 fun e w' => e = .returned (.bool true) ∧ Below w.heap.size w w')))) { tmps := (.slice a0 n c0 :: .int .i64 A :: s2 :: s3 :: .bool false :: .pointer (some ⟨TC, 0, none⟩) :: .slice aw mw cw :: .int .i64 (j : Int) :: s8 :: s9 :: s10 :: s11 :: s12 :: s13 :: s14 :: s15 :: s16 :: s17 :: s18 :: s19 :: s20 :: s21 :: s22 :: s23 :: s24 :: s25 :: s26 :: s27 :: s28 :: s29 :: s30 :: s31 :: s32 :: s33 :: s34 :: s35 :: s36 :: s37 :: s38 :: s39 :: s40 :: s41 :: s42 :: s43 :: s44 :: s45 :: s46 :: s47 :: s48 :: s49 :: s50 :: s51 :: s52 :: s53 :: s54 :: s55 :: s56 :: s57 :: s58 :: s59 :: s60 :: s61 :: s62 :: s63 :: s64 :: s65 :: s66 :: s67 :: s68 :: s69 :: s70 :: s71 :: s72 :: s73 :: s74 :: s75 :: s76 :: s77 :: s78 :: s79 :: s80 :: s81 :: s82 :: s83 :: s84 :: s85 :: s86 :: s87 :: s88 :: s89 :: s90 :: s91 :: s92 :: s93 :: s94 :: s95 :: s96 :: s97 :: s98 :: s99 :: s100 :: s101 :: s102 :: s103 :: s104 :: s105 :: s106 :: s107 :: s108 :: s109 :: s110 :: s111 :: s112 :: s113 :: s114 :: s115 :: s116 :: s117 :: s118 :: s119 :: s120 :: s121 :: s122 :: s123 :: s124 :: s125 :: s126 :: s127 :: s128 :: []).toArray, defers := [] } Wt := by
  have hcc : (Try.f7.body.bind (loopFor 0)) = some (_, _) := rfl
  rw [hcc] at hcut
  cases hcut
  clear hcc
  obtain ⟨al, gd, len, sm, bel, blk, own, wnt⟩ := hS
  obtain ⟨b0, o0, rfl, hb0, l0⟩ := hIL.opens ki hIL.len (by omega)
  obtain ⟨id, eid⟩ : ∃ z, xs.getD j 0 = z := ⟨_, rfl⟩
  have cm := (l0.below bel hb0).ints (j := j) (by rw [hIL.len]; exact hj)
  rw [eid] at cm
  have i0 : (0 : Int) ≤ (j : Int) := by omega
  have i1 : (j : Int) < (n : Int) := by omega
  rw [eid] at hid
  have hwr : IntKind.i64.wrap ((j : Int) + 1) = (j : Int) + 1 := wrapi (by omega) (by omega)
  obtain ⟨hsa, hsg⟩ := set_alike al gd hA hA1 (by omega : 1 ≤ id) (by omega) (by omega)
  have hle := (noL_sub id zs).length_le
  have hmc := own.isl.len
  have hmw : (zs.map (fun p : Al => (p.2.1, p.1))).length = mw := wnt.isl.len
  rw [List.length_map] at hmw
  have hsf : (setF 0 (j : Int) zs id A 0).1 = 0 := by rw [setF_fine gd (by omega) ⟨hA, by omega⟩ ⟨by omega, by omega⟩ (by omega) (by omega)]
  have HSE : Hid (∀ W, Below Wt.heap.size Wt W → Calls Try.prog 12 #[.agg #[.int .i64 0, .int .i64 (j : Int), .slice ac mc cc], .int .i64 id, .int .i64 A, .int .i64 0] W fun e w' => ∃ a c, e = .returned (.tuple #[.agg #[.int .i64 0, .int .i64 ((j : Int) + 1), .slice a ((noL id zs).length + 1) c], .bool (decide ((noL id zs).length < zs.length)), .agg #[.int .i64 0, .int .i64 0]]) ∧ Own KA W.heap.size w' (.slice a ((noL id zs).length + 1) c) (noL id zs ++ [(id, A, 0, (j : Int))]) ∧ Below W.heap.size W w') := fun W hW => by
    have := set_ok W (.agg #[.int .i64 0, .int .i64 (j : Int), .slice ac mc cc]) 0 (j : Int) zs id A 0 ⟨_, rfl, own.isl.below hW⟩ (by unfold maxLen; omega) hsf
    rw [Int.zero_add, ins_alike (al.no id)] at this
    exact this
  have HN := hide hN; have HX := hide bel; have HC := hide blk; have HW := hide wnt; have HCM := hide cm; have HB0 := hide hb0
  have HAL := hide (al.more (id := id)); have HGD := hide hsg
  have hb0t : b0 < Wt.heap.size := Nat.lt_of_lt_of_le hb0 bel.size
  have HB0T := hide hb0t
  obtain ⟨m1, em1⟩ : ∃ m, (noL id zs).length + 1 = m := ⟨_, rfl⟩
  obtain ⟨was, ewas⟩ : ∃ b, decide ((noL id zs).length < zs.length) = b := ⟨_, rfl⟩
  rw [em1, ewas] at HSE
  have HEM := hide em1; have HEW := hide ewas; have HMW := hide hmw; have HLE := hide hle; have HLN := hide len
  clear hIL l0 al gd sm bel blk own wnt eid hsa hsg hsf hN em1 ewas hmc hb0t hb0 hle hmw len
  go_upto_region 12 with fail
  clear cm
  refine turns_12 n c0 TC j b0 o0 A (j : Int) id ac mc cc m1 was (noL id zs ++ [(id, A, 0, (j : Int))]) hj Wt (unhide HC) (unhide HCM) (unhide HB0T) (unhide HSE) _ _ _ (by kernel_rfl) ?_
  intros
  rename_i T8 T9 a5 c5 W5 hb5 ht8 ht9 hne h8 h9 ho5
  have hsc := size_of (unhide HC)
  have HX5 := hide (Below.next (unhide HX) hb5 (Nat.le_refl _)); have HC5 := hide (keep_below (unhide HC) hb5); have HW5 := hide ((unhide HW).below hb5); have H8 := hide h8; have H9 := hide h9; have HO5 := hide (ho5.base (unhide HX).size)
  have HCM5 : Hid (W5.cell? ⟨b0, o0 + j, none⟩ = some (.int .i64 id)) := by
    show W5.cell? _ = _
    rw [World.cell?_of_block (w := Wt) (a := ⟨b0, o0 + j, none⟩) (hb5.block b0 (unhide HB0T))]
    exact unhide HCM
  have hb05 : b0 < W5.heap.size := Nat.lt_of_lt_of_le (unhide HB0T) hb5.size
  have HB05 := hide hb05
  have hn8 : TC ≠ T8 := by omega
  have hn9 : TC ≠ T9 := by omega
  clear HX HC HW hb5 h8 h9 ho5 HCM HB0T HSE hb05
  obtain ⟨⟨e0, e1, e2⟩, ⟨ef0, ef1, ef2⟩, el⟩ := block3 (unhide H8)
  obtain ⟨⟨p0, p1, p2⟩, ⟨pf0, pf1, pf2⟩, pl⟩ := block3 (unhide HC5)
  obtain ⟨g0, g1, gf0, gf1, gl⟩ := block2 (unhide H9)
  go_upto_region 16 with fail
  clear e0 e1 e2 ef0 ef1 ef2 el p0 p1 p2 pf0 pf1 pf2 pl g0 g1 gf0 gf1 gl
  have HX6 := hide (putL_below (y0 := .int .i64 0) (y1 := .int .i64 ((j : Int) + 1)) (y2 := .slice a5 m1 c5) (unhide HX5) (show w.heap.size ≤ TC from hw))
  have HC6 := hide (putL_new (y0 := .int .i64 0) (y1 := .int .i64 ((j : Int) + 1)) (y2 := .slice a5 m1 c5) (unhide HC5))
  have HO6 := hide (putL_own (y0 := .int .i64 0) (y1 := .int .i64 ((j : Int) + 1)) (y2 := .slice a5 m1 c5) (unhide HO5) (unhide HC5) (by decide))
  have HW6 := hide (putL_own (y0 := .int .i64 0) (y1 := .int .i64 ((j : Int) + 1)) (y2 := .slice a5 m1 c5) (unhide HW5) (unhide HC5) (by decide))
  have HCM6 : Hid ((putL W5 TC (.int .i64 0) (.int .i64 ((j : Int) + 1)) (.slice a5 m1 c5)).cell? ⟨b0, o0 + j, none⟩ = some (.int .i64 id)) := by
    show (putL W5 TC _ _ _).cell? _ = _
    rw [World.cell?_of_block (w := W5) (a := ⟨b0, o0 + j, none⟩) (putL_keep (by have := unhide HB0; show b0 ≠ TC; omega))]
    exact unhide HCM5
  have hs6 : (putL W5 TC (.int .i64 0) (.int .i64 ((j : Int) + 1)) (.slice a5 m1 c5)).heap.size = W5.heap.size := by simp [putL, World.setCell]
  have HB06 : Hid (b0 < (putL W5 TC (.int .i64 0) (.int .i64 ((j : Int) + 1)) (.slice a5 m1 c5)).heap.size) := by
    show b0 < _
    rw [hs6]
    exact unhide HB05
  obtain ⟨W6, eW6⟩ : ∃ X, putL W5 TC (.int .i64 0) (.int .i64 ((j : Int) + 1)) (.slice a5 m1 c5) = X := ⟨_, rfl⟩
  rw [eW6] at HX6 HC6 HO6 HW6 HCM6 HB06
  have eW62 : ((W5.setCell ⟨TC, 0, none⟩ (.int .i64 0)).setCell ⟨TC, 1, none⟩ (.int .i64 ((j : Int) + 1))).setCell ⟨TC, 2, none⟩ (.slice a5 m1 c5) = W6 := eW6
  rw [eW62]
  clear eW6 eW62 hs6 HX5 HC5 HO5 HW5 HCM5 HB05 H8 H9
  go_wp2_with fail
  refine wp_loop_rounds (mw + 1) ?_
  refine turns_rounds n c0 j b0 o0 id aw mw cw (zs.map (fun p : Al => (p.2.1, p.1))) W6 hj (by have := unhide HMW; have := unhide HLN; omega) (unhide HW6).isl (unhide HCM6) (unhide HB06) _ _ _ _ _ _ _ _ (by kernel_rfl) ?_ mw 0 (by omega) _ _ _ _ _ _ _ _ _ _ _ _ _ _ _ _ _ _ _ _ _ _ _ _ _ _ _ _ _ _ _ _ _ _ _ _ _ _ _ _ _ _ _ _ _ _ _ _ _ _ _ _ _ _ _ _ _ _ _ _ _ _ _ _ _ _ _ _ _ _ _ _ _ _ _ _ _ _ _ _ _ _ _ _ _ _ _ _ _ _ _ _ _ _ _ _ _ _ _ _ _ _ _ _ _ _ _ _ _ _ _ _ _ _ _ _ _ _ none 0 0 W6 (by simpa using own_nil (K := KO) W6.heap.size W6) (Below.refl _ _)
  unfold NxV
  intros
  rename_i ar mr cr W7 hR7 hl7 hB7
  refine in_b2 ?_
  rw [← map_no] at hR7 hl7
  rw [List.length_map] at hl7
  have xw : was = decide ((mr : Int) < (mw : Int)) := by
    rw [← unhide HEW, ← hl7, ← unhide HMW]
    by_cases hc : (noL id zs).length < zs.length
    · rw [decide_eq_true hc, decide_eq_true (by omega)]
    · rw [decide_eq_false hc, decide_eq_false (by omega)]
  have XW := hide xw
  clear xw
  have cm : W7.cell? ⟨b0, o0 + j, none⟩ = some (.int .i64 id) := by
    rw [World.cell?_of_block (w := W6) (a := ⟨b0, o0 + j, none⟩) (hB7.block b0 (unhide HB06))]
    exact unhide HCM6
  have hmr : mr ≤ 1000 := by have := unhide HLE; have := unhide HLN; omega
  have HR7 := hide hR7; have HB7 := hide hB7; have HL7 := hide hl7
  have HO7 := hide ((unhide HO6).below hB7); have HC7 := hide (keep_below (unhide HC6) hB7)
  have HLO : Hid (∀ k, (Value.slice a5 m1 c5).ownBlock = some k → k < W6.heap.size) := fun k hk => ((unhide HO6).lt k hk).2
  have htc6 : TC < W6.heap.size := size_of (unhide HC6)
  clear hR7 hB7 hl7
  clear HEW
  by_cases hlt : (mr : Int) < (mw : Int)
  · have ew := unhide XW
    rw [decide_eq_true hlt] at ew
    subst ew
    clear XW
    go_wp2_with (at_builtin; refine wpList_append ko rfl (.tmp 87) (.tmp 94) rfl W6.heap.size _ ((noL id zs).map (fun p : Al => (p.2.1, p.1))) rfl ((unhide HR7).below ((Below.refl _ _).alloc (Nat.le_refl _) (.cells #[.int .i64 A, .int .i64 id] 52))) _ [(A, id)] rfl (isl_one ko _ (A, id)) (mr + 1) (by rw [List.length_map, unhide HL7]; rfl) (show (mr + 1) * 16 ≤ _ by omega) (by have := (unhide HB7).size; rw [World.size_alloc]; omega) ?_; intro ar2 cr2 W8 ho hg; have HO8 := hide ho; have HB8 := hide (((unhide HB7).alloc (unhide HB7).size (.cells #[.int .i64 A, .int .i64 id] 52)).grown hg ((unhide HB7).alloc (unhide HB7).size (.cells #[.int .i64 A, .int .i64 id] 52)).size (fun k hk => ((unhide HR7).lt k hk).1)); have HOC := hide (((unhide HO7).below ((Below.refl _ _).alloc (Nat.le_refl _) (.cells #[.int .i64 A, .int .i64 id] 52))).grown hg (fun k hk hk2 => by have q1 := ((unhide HR7).lt k hk).1; have q2 := unhide HLO k hk2; omega)); have HCC := hide (keep_grown (keep_alloc (unhide HC7) (.cells #[.int .i64 A, .int .i64 id] 52)) hg (fun k hk => by have q1 := ((unhide HR7).lt k hk).1; omega)); clear ho hg cm)
    refine unhide HN _ _ _ _ _ _ _ _ _ _ _ _ _ _ _ _ _ _ _ _ _ _ _ _ _ _ _ _ _ _ _ _ _ _ _ _ _ _ _ _ _ _ _ _ _ _ _ _ _ _ _ _ _ _ _ _ _ _ _ _ _ _ _ _ _ _ _ _ _ _ _ _ _ _ _ _ _ _ _ _ _ _ _ _ _ _ _ _ _ _ _ _ _ _ _ _ _ _ _ _ _ _ _ _ _ _ _ _ _ _ _ _ _ _ _ _ _ _ _ _ _ _ _ (noL id zs ++ [(id, A, 0, (j : Int))]) a5 m1 c5 ar2 (mr + 1) cr2 _ ⟨unhide HAL, unhide HGD, ?_, fun _ => by simp, (unhide HX6).trans ((unhide HB8).mono (unhide HX6).size), unhide HCC, unhide HOC, ?_⟩
    · rw [List.length_append]
      have := unhide HLE
      have := unhide HLN
      simp only [List.length_cons, List.length_nil]
      omega
    · rw [List.map_append]
      exact (unhide HO8).base (unhide HX6).size
  · have ew := unhide XW
    rw [decide_eq_false hlt] at ew
    subst ew
    clear XW
    go_wp2_with (at_builtin; refine wpList_append ko rfl (.tmp 87) (.tmp 94) rfl W6.heap.size _ ((noL id zs).map (fun p : Al => (p.2.1, p.1))) rfl ((unhide HR7).below ((Below.refl _ _).alloc (Nat.le_refl _) (.cells #[.int .i64 A, .int .i64 id] 52))) _ [(A, id)] rfl (isl_one ko _ (A, id)) (mr + 1) (by rw [List.length_map, unhide HL7]; rfl) (show (mr + 1) * 16 ≤ _ by omega) (by have := (unhide HB7).size; rw [World.size_alloc]; omega) ?_; intro ar2 cr2 W8 ho hg; have HO8 := hide ho; have HB8 := hide (((unhide HB7).alloc (unhide HB7).size (.cells #[.int .i64 A, .int .i64 id] 52)).grown hg ((unhide HB7).alloc (unhide HB7).size (.cells #[.int .i64 A, .int .i64 id] 52)).size (fun k hk => ((unhide HR7).lt k hk).1)); have HOC := hide (((unhide HO7).below ((Below.refl _ _).alloc (Nat.le_refl _) (.cells #[.int .i64 A, .int .i64 id] 52))).grown hg (fun k hk hk2 => by have q1 := ((unhide HR7).lt k hk).1; have q2 := unhide HLO k hk2; omega)); have HCC := hide (keep_grown (keep_alloc (unhide HC7) (.cells #[.int .i64 A, .int .i64 id] 52)) hg (fun k hk => by have q1 := ((unhide HR7).lt k hk).1; omega)); clear ho hg cm)
    refine unhide HN _ _ _ _ _ _ _ _ _ _ _ _ _ _ _ _ _ _ _ _ _ _ _ _ _ _ _ _ _ _ _ _ _ _ _ _ _ _ _ _ _ _ _ _ _ _ _ _ _ _ _ _ _ _ _ _ _ _ _ _ _ _ _ _ _ _ _ _ _ _ _ _ _ _ _ _ _ _ _ _ _ _ _ _ _ _ _ _ _ _ _ _ _ _ _ _ _ _ _ _ _ _ _ _ _ _ _ _ _ _ _ _ _ _ _ _ _ _ _ _ _ _ _ (noL id zs ++ [(id, A, 0, (j : Int))]) a5 m1 c5 ar2 (mr + 1) cr2 _ ⟨unhide HAL, unhide HGD, ?_, fun _ => by simp, (unhide HX6).trans ((unhide HB8).mono (unhide HX6).size), unhide HCC, unhide HOC, ?_⟩
    · rw [List.length_append]
      have := unhide HLE
      have := unhide HLN
      simp only [List.length_cons, List.length_nil]
      omega
    · rw [List.map_append]
      exact (unhide HO8).base (unhide HX6).size

end Go.Proofs.Ytidpmcanfedbdaa
