/-
  taskmilllaw.ClockTurns: all rounds; behind the loop.
-/
import Derived.Test.YtidpmcanfedbdaaUe
namespace Go.Proofs.Ytidpmcanfedbdaa
open Go.RowKit

/-- What follows the loop. -/
def NxZ (w : World) (a0 : Option Addr) (n c0 TC : Nat) (A : Int) (Q0 : Exit → Act → World → Prop) : Prop := ∀ (s2 s3 s8 s9 s10 s11 s12 s13 s14 s15 s16 s17 s18 s19 s20 s21 s22 s23 s24 s25 s26 s27 s28 s29 s30 s31 s32 s33 s34 s35 s36 s37 s38 s39 s40 s41 s42 s43 s44 s45 s46 s47 s48 s49 s50 s51 s52 s53 s54 s55 s56 s57 s58 s59 s60 s61 s62 s63 s64 s65 s66 s67 s68 s69 s70 s71 s72 s73 s74 s75 s76 s77 s78 s79 s80 s81 s82 s83 s84 s85 s86 s87 s88 s89 s90 s91 s92 s93 s94 s95 s96 s97 s98 s99 s100 s101 s102 s103 s104 s105 s106 s107 s108 s109 s110 s111 s112 s113 s114 s115 s116 s117 s118 s119 s120 s121 s122 s123 s124 s125 s126 s127 s128 : Value) (zs : List Al) (ac : Option Addr) (mc cc : Nat) (aw : Option Addr) (mw cw : Nat) (W' : World), StU w A TC n zs ac mc cc aw mw cw W' → Q0 (.exit 0) { tmps := (.slice a0 n c0 :: .int .i64 A :: s2 :: s3 :: .bool false :: .pointer (some ⟨TC, 0, none⟩) :: .slice aw mw cw :: .int .i64 (n : Int) :: s8 :: s9 :: s10 :: s11 :: s12 :: s13 :: s14 :: s15 :: s16 :: s17 :: s18 :: s19 :: s20 :: s21 :: s22 :: s23 :: s24 :: s25 :: s26 :: s27 :: s28 :: s29 :: s30 :: s31 :: s32 :: s33 :: s34 :: s35 :: s36 :: s37 :: s38 :: s39 :: s40 :: s41 :: s42 :: s43 :: s44 :: s45 :: s46 :: s47 :: s48 :: s49 :: s50 :: s51 :: s52 :: s53 :: s54 :: s55 :: s56 :: s57 :: s58 :: s59 :: s60 :: s61 :: s62 :: s63 :: s64 :: s65 :: s66 :: s67 :: s68 :: s69 :: s70 :: s71 :: s72 :: s73 :: s74 :: s75 :: s76 :: s77 :: s78 :: s79 :: s80 :: s81 :: s82 :: s83 :: s84 :: s85 :: s86 :: s87 :: s88 :: s89 :: s90 :: s91 :: s92 :: s93 :: s94 :: s95 :: s96 :: s97 :: s98 :: s99 :: s100 :: s101 :: s102 :: s103 :: s104 :: s105 :: s106 :: s107 :: s108 :: s109 :: s110 :: s111 :: s112 :: s113 :: s114 :: s115 :: s116 :: s117 :: s118 :: s119 :: s120 :: s121 :: s122 :: s123 :: s124 :: s125 :: s126 :: s127 :: s128 :: []).toArray, defers := [] } W'

set_option maxRecDepth 100000 in
set_option maxHeartbeats 4000000 in
theorem turns_last (w : World) (a0 : Option Addr) (n c0 TC : Nat) (A : Int) (zs : List Al) (ac : Option Addr) (mc cc : Nat) (aw : Option Addr) (mw cw : Nat) (Wt : World) (hS : StU w A TC n zs ac mc cc aw mw cw Wt)
    {s2 s3 s8 s9 s10 s11 s12 s13 s14 s15 s16 s17 s18 s19 s20 s21 s22 s23 s24 s25 s26 s27 s28 s29 s30 s31 s32 s33 s34 s35 s36 s37 s38 s39 s40 s41 s42 s43 s44 s45 s46 s47 s48 s49 s50 s51 s52 s53 s54 s55 s56 s57 s58 s59 s60 s61 s62 s63 s64 s65 s66 s67 s68 s69 s70 s71 s72 s73 s74 s75 s76 s77 s78 s79 s80 s81 s82 s83 s84 s85 s86 s87 s88 s89 s90 s91 s92 s93 s94 s95 s96 s97 s98 s99 s100 s101 s102 s103 s104 s105 s106 s107 s108 s109 s110 s111 s112 s113 s114 s115 s116 s117 s118 s119 s120 s121 s122 s123 s124 s125 s126 s127 s128 : Value} (N : Act → World → Prop) (Q0 : Exit → Act → World → Prop) (b r : Code) (hcut : (Try.f7.body.bind (loopFor 0)) = some (b, r)) (hE : NxZ w a0 n c0 TC A Q0) :
    b.wp Try.prog (Exit.then N Q0) { tmps := (.slice a0 n c0 :: .int .i64 A :: s2 :: s3 :: .bool false :: .pointer (some ⟨TC, 0, none⟩) :: .slice aw mw cw :: .int .i64 (n : Int) :: s8 :: s9 :: s10 :: s11 :: s12 :: s13 :: s14 :: s15 :: s16 :: s17 :: s18 :: s19 :: s20 :: s21 :: s22 :: s23 :: s24 :: s25 :: s26 :: s27 :: s28 :: s29 :: s30 :: s31 :: s32 :: s33 :: s34 :: s35 :: s36 :: s37 :: s38 :: s39 :: s40 :: s41 :: s42 :: s43 :: s44 :: s45 :: s46 :: s47 :: s48 :: s49 :: s50 :: s51 :: s52 :: s53 :: s54 :: s55 :: s56 :: s57 :: s58 :: s59 :: s60 :: s61 :: s62 :: s63 :: s64 :: s65 :: s66 :: s67 :: s68 :: s69 :: s70 :: s71 :: s72 :: s73 :: s74 :: s75 :: s76 :: s77 :: s78 :: s79 :: s80 :: s81 :: s82 :: s83 :: s84 :: s85 :: s86 :: s87 :: s88 :: s89 :: s90 :: s91 :: s92 :: s93 :: s94 :: s95 :: s96 :: s97 :: s98 :: s99 :: s100 :: s101 :: s102 :: s103 :: s104 :: s105 :: s106 :: s107 :: s108 :: s109 :: s110 :: s111 :: s112 :: s113 :: s114 :: s115 :: s116 :: s117 :: s118 :: s119 :: s120 :: s121 :: s122 :: s123 :: s124 :: s125 :: s126 :: s127 :: s128 :: []).toArray, defers := [] } Wt := by
  have hcc : (Try.f7.body.bind (loopFor 0)) = some (_, _) := rfl
  rw [hcc] at hcut
  cases hcut
  clear hcc
  have HE := hide hE; have HS := hide hS
  clear hE hS
  have i1 : ¬ (n : Int) < (n : Int) := by omega
  go_wp2_with fail
  exact unhide HE _ _ _ _ _ _ _ _ _ _ _ _ _ _ _ _ _ _ _ _ _ _ _ _ _ _ _ _ _ _ _ _ _ _ _ _ _ _ _ _ _ _ _ _ _ _ _ _ _ _ _ _ _ _ _ _ _ _ _ _ _ _ _ _ _ _ _ _ _ _ _ _ _ _ _ _ _ _ _ _ _ _ _ _ _ _ _ _ _ _ _ _ _ _ _ _ _ _ _ _ _ _ _ _ _ _ _ _ _ _ _ _ _ _ _ _ _ _ _ _ _ _ _ zs ac mc cc aw mw cw _ (unhide HS)

theorem turns_all (w : World) (xs : List Int) (a0 : Option Addr) (n c0 TC : Nat) (A : Int) (hIL : IsL KI w (.slice a0 n c0) xs) (hn : n ≤ 100) (hA : 1 ≤ A) (hA1 : A ≤ 1000) (hw : w.heap.size ≤ TC) (K : Act → World → Prop) (b r : Code) (hcut : (Try.f7.body.bind (loopFor 0)) = some (b, r)) (hE : NxZ w a0 n c0 TC A (Exit.inBlock 0 (Exit.then K (bodyPost Try.prog Try.f7 fun e w' => e = .returned (.bool true) ∧ Below w.heap.size w w')))) : ∀ (k j : Nat), j + k = n → ∀ (s2 s3 s8 s9 s10 s11 s12 s13 s14 s15 s16 s17 s18 s19 s20 s21 s22 s23 s24 s25 s26 s27 s28 s29 s30 s31 s32 s33 s34 s35 s36 s37 s38 s39 s40 s41 s42 s43 s44 s45 s46 s47 s48 s49 s50 s51 s52 s53 s54 s55 s56 s57 s58 s59 s60 s61 s62 s63 s64 s65 s66 s67 s68 s69 s70 s71 s72 s73 s74 s75 s76 s77 s78 s79 s80 s81 s82 s83 s84 s85 s86 s87 s88 s89 s90 s91 s92 s93 s94 s95 s96 s97 s98 s99 s100 s101 s102 s103 s104 s105 s106 s107 s108 s109 s110 s111 s112 s113 s114 s115 s116 s117 s118 s119 s120 s121 s122 s123 s124 s125 s126 s127 s128 : Value) (zs : List Al) (ac : Option Addr) (mc cc : Nat) (aw : Option Addr) (mw cw : Nat) (Wt : World), StU w A TC j zs ac mc cc aw mw cw Wt →
    Code.rounds Try.prog b (Exit.inBlock 0 (Exit.then K (bodyPost Try.prog Try.f7 fun e w' => e = .returned (.bool true) ∧ Below w.heap.size w w'))) (k + 1) { tmps := (.slice a0 n c0 :: .int .i64 A :: s2 :: s3 :: .bool false :: .pointer (some ⟨TC, 0, none⟩) :: .slice aw mw cw :: .int .i64 (j : Int) :: s8 :: s9 :: s10 :: s11 :: s12 :: s13 :: s14 :: s15 :: s16 :: s17 :: s18 :: s19 :: s20 :: s21 :: s22 :: s23 :: s24 :: s25 :: s26 :: s27 :: s28 :: s29 :: s30 :: s31 :: s32 :: s33 :: s34 :: s35 :: s36 :: s37 :: s38 :: s39 :: s40 :: s41 :: s42 :: s43 :: s44 :: s45 :: s46 :: s47 :: s48 :: s49 :: s50 :: s51 :: s52 :: s53 :: s54 :: s55 :: s56 :: s57 :: s58 :: s59 :: s60 :: s61 :: s62 :: s63 :: s64 :: s65 :: s66 :: s67 :: s68 :: s69 :: s70 :: s71 :: s72 :: s73 :: s74 :: s75 :: s76 :: s77 :: s78 :: s79 :: s80 :: s81 :: s82 :: s83 :: s84 :: s85 :: s86 :: s87 :: s88 :: s89 :: s90 :: s91 :: s92 :: s93 :: s94 :: s95 :: s96 :: s97 :: s98 :: s99 :: s100 :: s101 :: s102 :: s103 :: s104 :: s105 :: s106 :: s107 :: s108 :: s109 :: s110 :: s111 :: s112 :: s113 :: s114 :: s115 :: s116 :: s117 :: s118 :: s119 :: s120 :: s121 :: s122 :: s123 :: s124 :: s125 :: s126 :: s127 :: s128 :: []).toArray, defers := [] } Wt := by
  intro k
  induction k with
  | zero =>
    intro j hj
    obtain rfl : j = n := by omega
    intros
    rename_i zs ac mc cc aw mw cw Wt hS
    exact turns_last w a0 j c0 TC A zs ac mc cc aw mw cw Wt hS _ _ b r hcut hE
  | succ k ih =>
    intro j hj
    intros
    rename_i zs ac mc cc aw mw cw Wt hS
    by_cases hid : xs.getD j 0 < 1
    · exact turns_low w xs a0 n c0 TC j A zs ac mc cc aw mw cw hIL hn hA hA1 hw (by omega) hid Wt hS K _ b r hcut
    · refine turns_set w xs a0 n c0 TC j A zs ac mc cc aw mw cw hIL hn hA hA1 hw (by omega) hid Wt hS K _ b r hcut ?_
      unfold NxP
      intros
      rename_i zs' ac' mc' cc' aw' mw' cw' W' hS'
      exact ih (j + 1) (by omega) _ _ _ _ _ _ _ _ _ _ _ _ _ _ _ _ _ _ _ _ _ _ _ _ _ _ _ _ _ _ _ _ _ _ _ _ _ _ _ _ _ _ _ _ _ _ _ _ _ _ _ _ _ _ _ _ _ _ _ _ _ _ _ _ _ _ _ _ _ _ _ _ _ _ _ _ _ _ _ _ _ _ _ _ _ _ _ _ _ _ _ _ _ _ _ _ _ _ _ _ _ _ _ _ _ _ _ _ _ _ _ _ _ _ _ _ _ _ _ _ _ _ _ zs' ac' mc' cc' aw' mw' cw' W' hS'

set_option maxRecDepth 100000 in
set_option maxHeartbeats 4000000 in
theorem turns_tail_no (w : World) (a0 : Option Addr) (n c0 TC : Nat) (A : Int) (zs : List Al) (ac : Option Addr) (mc cc : Nat) (aw : Option Addr) (mw cw : Nat) (hA : 1 ≤ A) (hA1 : A ≤ 1000) (hw : w.heap.size ≤ TC) (hn : n ≤ 100) (hk : n = 0) (Wt : World) (hS : StU w A TC n zs ac mc cc aw mw cw Wt)
    {s2 s3 s4 s7 s8 s9 s10 s11 s12 s13 s14 s15 s16 s17 s18 s19 s20 s21 s22 s23 s24 s25 s26 s27 s28 s29 s30 s31 s32 s33 s34 s35 s36 s37 s38 s39 s40 s41 s42 s43 s44 s45 s46 s47 s48 s49 s50 s51 s52 s53 s54 s55 s56 s57 s58 s59 s60 s61 s62 s63 s64 s65 s66 s67 s68 s69 s70 s71 s72 s73 s74 s75 s76 s77 s78 s79 s80 s81 s82 s83 s84 s85 s86 s87 s88 s89 s90 s91 s92 s93 s94 s95 s96 s97 s98 s99 s100 s101 s102 s103 s104 s105 s106 s107 s108 s109 s110 s111 s112 s113 s114 s115 s116 s117 s118 s119 s120 s121 s122 s123 s124 s125 s126 s127 s128 : Value} (b r : Code) (hcut : (Try.f7.body.bind (loopFor 0)) = some (b, r)) :
    r.wp Try.prog (bodyPost Try.prog Try.f7 fun e w' => e = .returned (.bool true) ∧ Below w.heap.size w w') { tmps := (.slice a0 n c0 :: .int .i64 A :: s2 :: s3 :: s4 :: .pointer (some ⟨TC, 0, none⟩) :: .slice aw mw cw :: s7 :: s8 :: s9 :: s10 :: s11 :: s12 :: s13 :: s14 :: s15 :: s16 :: s17 :: s18 :: s19 :: s20 :: s21 :: s22 :: s23 :: s24 :: s25 :: s26 :: s27 :: s28 :: s29 :: s30 :: s31 :: s32 :: s33 :: s34 :: s35 :: s36 :: s37 :: s38 :: s39 :: s40 :: s41 :: s42 :: s43 :: s44 :: s45 :: s46 :: s47 :: s48 :: s49 :: s50 :: s51 :: s52 :: s53 :: s54 :: s55 :: s56 :: s57 :: s58 :: s59 :: s60 :: s61 :: s62 :: s63 :: s64 :: s65 :: s66 :: s67 :: s68 :: s69 :: s70 :: s71 :: s72 :: s73 :: s74 :: s75 :: s76 :: s77 :: s78 :: s79 :: s80 :: s81 :: s82 :: s83 :: s84 :: s85 :: s86 :: s87 :: s88 :: s89 :: s90 :: s91 :: s92 :: s93 :: s94 :: s95 :: s96 :: s97 :: s98 :: s99 :: s100 :: s101 :: s102 :: s103 :: s104 :: s105 :: s106 :: s107 :: s108 :: s109 :: s110 :: s111 :: s112 :: s113 :: s114 :: s115 :: s116 :: s117 :: s118 :: s119 :: s120 :: s121 :: s122 :: s123 :: s124 :: s125 :: s126 :: s127 :: s128 :: []).toArray, defers := [] } Wt := by
  have hcc : (Try.f7.body.bind (loopFor 0)) = some (_, _) := rfl
  rw [hcc] at hcut
  cases hcut
  clear hcc
  obtain ⟨al, gd, len, sm, bel, blk, own, wnt⟩ := hS
  have hmw : (zs.map (fun p : Al => (p.2.1, p.1))).length = mw := wnt.isl.len
  have hmc := own.isl.len
  have hsr : soonR 0 (n : Int) zs = (0, (6, 0)) := by
    unfold soonR
    rw [good_clockF gd, if_neg (by simp)]
    have hz : zs = [] := List.eq_nil_of_length_eq_zero (by omega)
    rw [hz]
  have HSO : Hid (∀ W, Below Wt.heap.size Wt W → Calls Try.prog 14 #[.agg #[.int .i64 0, .int .i64 (n : Int), .slice ac mc cc]] W fun e w' => e = .returned (.tuple #[.int .i64 0, .agg #[.int .i64 6, .int .i64 0]]) ∧ Below W.heap.size W w') := fun W hW => soon_any W (.agg #[.int .i64 0, .int .i64 (n : Int), .slice ac mc cc]) 0 (n : Int) zs ⟨_, rfl, own.isl.below hW⟩ (by unfold maxLen; omega) _ _ _ hsr
  have HPA : Hid (∀ W, Below Wt.heap.size Wt W → Calls Try.prog 20 #[.agg #[.int .i64 0, .int .i64 (n : Int), .slice ac mc cc], .int .i64 A] W fun e w' => ∃ a1 c1 a c, e = .returned (.tuple #[.agg #[.int .i64 A, .int .i64 (n : Int), .slice a1 0 c1], .slice a mw c, .agg #[.int .i64 0, .int .i64 0]]) ∧ Own KO W.heap.size w' (.slice a mw c) (zs.map (fun p : Al => (p.2.1, p.1))) ∧ Below W.heap.size W w') := fun W hW => by
    refine (pass_run W (.agg #[.int .i64 0, .int .i64 (n : Int), .slice ac mc cc]) 0 (n : Int) zs A ⟨_, rfl, own.isl.below hW⟩ (by unfold maxLen; omega) (by rw [passF_fine gd (by omega) (by omega)])).mono fun e w' ⟨h1, _, h3⟩ => ?_
    obtain ⟨v', a, c, e1, e2, e3⟩ := h1 _ _ _ (run_alike (A := A) (k := (n : Int)) (E := 0 + A) (by omega) 5000 zs [] al (by omega))
    obtain ⟨a1, c1, ev⟩ := e2.1.form
    subst ev
    simp only [List.nil_append] at e1 e3
    rw [hmw, Int.zero_add] at e1
    rw [hmw] at e3
    exact ⟨a1, c1, a, c, e1, e3, h3⟩
  have HX := hide bel; have HC := hide blk; have HW := hide wnt; have HMW := hide hmw; have HLN := hide len
  clear al gd sm bel blk own wnt hmc hsr hmw
  have xk : ¬ (0 : Int) < (n : Int) := by omega
  clear hk
  have HCT : Hid (Below Wt.heap.size Wt Wt) := Below.refl _ _
  obtain ⟨⟨p0, p1, p2⟩, ⟨pf0, pf1, pf2⟩, pl⟩ := block3 (unhide HC)
  go_upto_region 26 with (go_at_call 14; refine (unhide HSO _ (unhide HCT)).mono ?_; rintro e w2 ⟨rfl, hb2⟩; have HX_1 := hide (Below.next (unhide HX) hb2 (by first | exact Nat.le_refl _ | (have := unhide HBA; omega))); have Kc_1 := hide (keep_below (unhide HC) hb2); have Ow_1 := hide ((unhide HW).below hb2); have Cq_1 := hide (Below.next (unhide HCT) hb2 (Nat.le_refl _)); clear HX HC HW HCT; clear hb2 HSO p0 p1 p2 pf0 pf1 pf2 pl)
  have HX_2 := hide ((unhide HX_1).alloc (Nat.le_trans (show w.heap.size ≤ w.heap.size from Nat.le_refl _) (unhide HX_1).size) (.cells #[.int .i64 6, .int .i64 0] 29))
  have Kc_2 := hide (keep_alloc (unhide Kc_1) (.cells #[.int .i64 6, .int .i64 0] 29))
  have Ow_2 := hide ((unhide Ow_1).below ((Below.refl _ _).alloc (Nat.le_refl _) (.cells #[.int .i64 6, .int .i64 0] 29)))
  have Cq_2 := hide ((unhide Cq_1).alloc (unhide Cq_1).size (.cells #[.int .i64 6, .int .i64 0] 29))
  have Kf_2 := hide (new_block w2 (.cells #[.int .i64 6, .int .i64 0] 29))
  have hlc_f : TC < w2.heap.size := size_of (unhide Kc_1)
  obtain ⟨TF, eTF⟩ : ∃ X, w2.heap.size = X := ⟨_, rfl⟩
  obtain ⟨W2, eW2⟩ : ∃ X, w2.alloc (.cells #[.int .i64 6, .int .i64 0] 29) = X := ⟨_, rfl⟩
  rw [eTF, eW2] at Kf_2; rw [eW2] at HX_2 Kc_2 Ow_2 Cq_2; rw [eTF] at hlc_f; rw [eTF, eW2]
  clear eTF eW2 HX_1 Kc_1 Ow_1 Cq_1
  obtain ⟨⟨p0, p1, p2⟩, ⟨pf0, pf1, pf2⟩, pl⟩ := block3 (unhide Kc_2)
  obtain ⟨f0, f1, ff0, ff1, fl⟩ := block2 (unhide Kf_2)
  go_upto_region 29 with (go_at_call 20; refine (unhide HPA _ (unhide Cq_2)).mono ?_; rintro e w3 ⟨a1, c1, a3, c3, rfl, ho3, hb3⟩; have HO3 := hide (ho3.base (unhide HX_2).size); have HX_3 := hide (Below.next (unhide HX_2) hb3 (by first | exact Nat.le_refl _ | (have := unhide HBA; omega))); have Kc_3 := hide (keep_below (unhide Kc_2) hb3); have Kf_3 := hide (keep_below (unhide Kf_2) hb3); have Ow_3 := hide ((unhide Ow_2).below hb3); have Cq_3 := hide (Below.next (unhide Cq_2) hb3 (Nat.le_refl _)); clear HX_2 Kc_2 Kf_2 Ow_2 Cq_2; clear hb3 ho3 HPA p0 p1 p2 pf0 pf1 pf2 pl f0 f1 ff0 ff1 fl; obtain ⟨f0, f1, ff0, ff1, fl⟩ := block2 (unhide Kf_3))
  clear f0 f1 ff0 ff1 fl
  clear Cq_3
  have HX_4 := hide (put2_below (y0 := .int .i64 0) (y1 := .int .i64 0) (unhide HX_3) (show w.heap.size ≤ TF by first | omega | (have := unhide HBA; omega)))
  have Kc_4 := hide ((put2_keep (y0 := .int .i64 0) (y1 := .int .i64 0) (show TC ≠ TF by omega)).trans (unhide Kc_3))
  have Kf_4 := hide (put2_new (y0 := .int .i64 0) (y1 := .int .i64 0) (unhide Kf_3))
  have Ow_4 := hide ((unhide Ow_3).keep (fun k hk => put2_keep (y0 := .int .i64 0) (y1 := .int .i64 0) (Own.ne (unhide Ow_3) (unhide Kf_3) (by decide) k hk)))
  have Ol_4 := hide ((unhide HO3).keep (fun k hk => put2_keep (y0 := .int .i64 0) (y1 := .int .i64 0) (Own.ne (unhide HO3) (unhide Kf_3) (by decide) k hk)))
  obtain ⟨W4, eW4⟩ : ∃ X, put2 w3 (TF) (.int .i64 0) (.int .i64 0) = X := ⟨_, rfl⟩
  rw [eW4] at HX_4 Kc_4 Kf_4 Ow_4 Ol_4
  have eW42 : ((w3).setCell ⟨TF, 0, none⟩ (.int .i64 0)).setCell ⟨TF, 1, none⟩ (.int .i64 0) = W4 := eW4
  rw [eW42]
  clear eW4 eW42 HX_3 Kc_3 Kf_3 Ow_3 HO3
  have hb9 : Below W4.heap.size W4 (W4.alloc (.cells #[.int .i64 A, .int .i64 (n : Int), .slice a1 0 c1] 24)) := (Below.refl _ _).alloc (Nat.le_refl _) _
  obtain ⟨W5, eW5⟩ : ∃ X, W4.alloc (.cells #[.int .i64 A, .int .i64 (n : Int), .slice a1 0 c1] 24) = X := ⟨_, rfl⟩
  rw [eW5] at hb9 ⊢
  (have HX_5 := hide (Below.next (unhide HX_4) hb9 (by first | exact Nat.le_refl _ | (have := unhide HBA; omega))); have Kc_5 := hide (keep_below (unhide Kc_4) hb9); have Kf_5 := hide (keep_below (unhide Kf_4) hb9); have Ow_5 := hide ((unhide Ow_4).below hb9); have Ol_5 := hide ((unhide Ol_4).below hb9); clear HX_4 Kc_4 Kf_4 Ow_4 Ol_4)
  clear hb9 eW5
  obtain ⟨f0, f1, ff0, ff1, fl⟩ := block2 (unhide Kf_5)
  have HSF := hide (sameOff_same W5 (.slice a3 mw c3) (.slice aw mw cw) (zs.map (fun p : Al => (p.2.1, p.1))) (unhide Ol_5).isl (unhide Ow_5).isl (by rw [unhide HMW]; have := unhide HLN; have h9 := unhide HMW; rw [List.length_map] at h9; omega))
  go_wp2_with (go_at_call 22; refine (unhide HSF).mono ?_; rintro e w9 ⟨rfl, hb9⟩; have HX_6 := hide (Below.next (unhide HX_5) hb9 (by first | exact Nat.le_refl _ | (have := unhide HBA; omega))); have Kc_6 := hide (keep_below (unhide Kc_5) hb9); have Kf_6 := hide (keep_below (unhide Kf_5) hb9); have Ow_6 := hide ((unhide Ow_5).below hb9); have Ol_6 := hide ((unhide Ol_5).below hb9); clear HX_5 Kc_5 Kf_5 Ow_5 Ol_5; clear hb9 HSF)
  go_ret
  exact ⟨rfl, unhide HX_6⟩

set_option maxRecDepth 100000 in
set_option maxHeartbeats 4000000 in
theorem turns_tail_yes (w : World) (a0 : Option Addr) (n c0 TC : Nat) (A : Int) (zs : List Al) (ac : Option Addr) (mc cc : Nat) (aw : Option Addr) (mw cw : Nat) (hA : 1 ≤ A) (hA1 : A ≤ 1000) (hw : w.heap.size ≤ TC) (hn : n ≤ 100) (hk : 0 < n) (Wt : World) (hS : StU w A TC n zs ac mc cc aw mw cw Wt)
    {s2 s3 s4 s7 s8 s9 s10 s11 s12 s13 s14 s15 s16 s17 s18 s19 s20 s21 s22 s23 s24 s25 s26 s27 s28 s29 s30 s31 s32 s33 s34 s35 s36 s37 s38 s39 s40 s41 s42 s43 s44 s45 s46 s47 s48 s49 s50 s51 s52 s53 s54 s55 s56 s57 s58 s59 s60 s61 s62 s63 s64 s65 s66 s67 s68 s69 s70 s71 s72 s73 s74 s75 s76 s77 s78 s79 s80 s81 s82 s83 s84 s85 s86 s87 s88 s89 s90 s91 s92 s93 s94 s95 s96 s97 s98 s99 s100 s101 s102 s103 s104 s105 s106 s107 s108 s109 s110 s111 s112 s113 s114 s115 s116 s117 s118 s119 s120 s121 s122 s123 s124 s125 s126 s127 s128 : Value} (b r : Code) (hcut : (Try.f7.body.bind (loopFor 0)) = some (b, r)) :
    r.wp Try.prog (bodyPost Try.prog Try.f7 fun e w' => e = .returned (.bool true) ∧ Below w.heap.size w w') { tmps := (.slice a0 n c0 :: .int .i64 A :: s2 :: s3 :: s4 :: .pointer (some ⟨TC, 0, none⟩) :: .slice aw mw cw :: s7 :: s8 :: s9 :: s10 :: s11 :: s12 :: s13 :: s14 :: s15 :: s16 :: s17 :: s18 :: s19 :: s20 :: s21 :: s22 :: s23 :: s24 :: s25 :: s26 :: s27 :: s28 :: s29 :: s30 :: s31 :: s32 :: s33 :: s34 :: s35 :: s36 :: s37 :: s38 :: s39 :: s40 :: s41 :: s42 :: s43 :: s44 :: s45 :: s46 :: s47 :: s48 :: s49 :: s50 :: s51 :: s52 :: s53 :: s54 :: s55 :: s56 :: s57 :: s58 :: s59 :: s60 :: s61 :: s62 :: s63 :: s64 :: s65 :: s66 :: s67 :: s68 :: s69 :: s70 :: s71 :: s72 :: s73 :: s74 :: s75 :: s76 :: s77 :: s78 :: s79 :: s80 :: s81 :: s82 :: s83 :: s84 :: s85 :: s86 :: s87 :: s88 :: s89 :: s90 :: s91 :: s92 :: s93 :: s94 :: s95 :: s96 :: s97 :: s98 :: s99 :: s100 :: s101 :: s102 :: s103 :: s104 :: s105 :: s106 :: s107 :: s108 :: s109 :: s110 :: s111 :: s112 :: s113 :: s114 :: s115 :: s116 :: s117 :: s118 :: s119 :: s120 :: s121 :: s122 :: s123 :: s124 :: s125 :: s126 :: s127 :: s128 :: []).toArray, defers := [] } Wt := by
  have hcc : (Try.f7.body.bind (loopFor 0)) = some (_, _) := rfl
  rw [hcc] at hcut
  cases hcut
  clear hcc
  obtain ⟨al, gd, len, sm, bel, blk, own, wnt⟩ := hS
  have hmw : (zs.map (fun p : Al => (p.2.1, p.1))).length = mw := wnt.isl.len
  have hmc := own.isl.len
  have hsr : soonR 0 (n : Int) zs = (A, (0, 0)) := by
    unfold soonR
    rw [good_clockF gd, if_neg (by simp)]
    cases zs with
    | nil => exact absurd rfl (sm hk)
    | cons z l =>
      have := al.when z (by simp)
      show (z.2.1 - 0, _) = _
      rw [this, Int.sub_zero]
  have HSO : Hid (∀ W, Below Wt.heap.size Wt W → Calls Try.prog 14 #[.agg #[.int .i64 0, .int .i64 (n : Int), .slice ac mc cc]] W fun e w' => e = .returned (.tuple #[.int .i64 A, .agg #[.int .i64 0, .int .i64 0]]) ∧ Below W.heap.size W w') := fun W hW => soon_any W (.agg #[.int .i64 0, .int .i64 (n : Int), .slice ac mc cc]) 0 (n : Int) zs ⟨_, rfl, own.isl.below hW⟩ (by unfold maxLen; omega) _ _ _ hsr
  have HPA : Hid (∀ W, Below Wt.heap.size Wt W → Calls Try.prog 20 #[.agg #[.int .i64 0, .int .i64 (n : Int), .slice ac mc cc], .int .i64 A] W fun e w' => ∃ a1 c1 a c, e = .returned (.tuple #[.agg #[.int .i64 A, .int .i64 (n : Int), .slice a1 0 c1], .slice a mw c, .agg #[.int .i64 0, .int .i64 0]]) ∧ Own KO W.heap.size w' (.slice a mw c) (zs.map (fun p : Al => (p.2.1, p.1))) ∧ Below W.heap.size W w') := fun W hW => by
    refine (pass_run W (.agg #[.int .i64 0, .int .i64 (n : Int), .slice ac mc cc]) 0 (n : Int) zs A ⟨_, rfl, own.isl.below hW⟩ (by unfold maxLen; omega) (by rw [passF_fine gd (by omega) (by omega)])).mono fun e w' ⟨h1, _, h3⟩ => ?_
    obtain ⟨v', a, c, e1, e2, e3⟩ := h1 _ _ _ (run_alike (A := A) (k := (n : Int)) (E := 0 + A) (by omega) 5000 zs [] al (by omega))
    obtain ⟨a1, c1, ev⟩ := e2.1.form
    subst ev
    simp only [List.nil_append] at e1 e3
    rw [hmw, Int.zero_add] at e1
    rw [hmw] at e3
    exact ⟨a1, c1, a, c, e1, e3, h3⟩
  have HX := hide bel; have HC := hide blk; have HW := hide wnt; have HMW := hide hmw; have HLN := hide len
  clear al gd sm bel blk own wnt hmc hsr hmw
  have xk : (0 : Int) < (n : Int) := by omega
  have xA : (A != A) = false := by simp
  clear hk
  have HCT : Hid (Below Wt.heap.size Wt Wt) := Below.refl _ _
  obtain ⟨⟨p0, p1, p2⟩, ⟨pf0, pf1, pf2⟩, pl⟩ := block3 (unhide HC)
  go_upto_region 26 with (go_at_call 14; refine (unhide HSO _ (unhide HCT)).mono ?_; rintro e w2 ⟨rfl, hb2⟩; have HX_1 := hide (Below.next (unhide HX) hb2 (by first | exact Nat.le_refl _ | (have := unhide HBA; omega))); have Kc_1 := hide (keep_below (unhide HC) hb2); have Ow_1 := hide ((unhide HW).below hb2); have Cq_1 := hide (Below.next (unhide HCT) hb2 (Nat.le_refl _)); clear HX HC HW HCT; clear hb2 HSO p0 p1 p2 pf0 pf1 pf2 pl)
  have HX_2 := hide ((unhide HX_1).alloc (Nat.le_trans (show w.heap.size ≤ w.heap.size from Nat.le_refl _) (unhide HX_1).size) (.cells #[.int .i64 0, .int .i64 0] 29))
  have Kc_2 := hide (keep_alloc (unhide Kc_1) (.cells #[.int .i64 0, .int .i64 0] 29))
  have Ow_2 := hide ((unhide Ow_1).below ((Below.refl _ _).alloc (Nat.le_refl _) (.cells #[.int .i64 0, .int .i64 0] 29)))
  have Cq_2 := hide ((unhide Cq_1).alloc (unhide Cq_1).size (.cells #[.int .i64 0, .int .i64 0] 29))
  have Kf_2 := hide (new_block w2 (.cells #[.int .i64 0, .int .i64 0] 29))
  have hlc_f : TC < w2.heap.size := size_of (unhide Kc_1)
  obtain ⟨TF, eTF⟩ : ∃ X, w2.heap.size = X := ⟨_, rfl⟩
  obtain ⟨W2, eW2⟩ : ∃ X, w2.alloc (.cells #[.int .i64 0, .int .i64 0] 29) = X := ⟨_, rfl⟩
  rw [eTF, eW2] at Kf_2; rw [eW2] at HX_2 Kc_2 Ow_2 Cq_2; rw [eTF] at hlc_f; rw [eTF, eW2]
  clear eTF eW2 HX_1 Kc_1 Ow_1 Cq_1
  obtain ⟨⟨p0, p1, p2⟩, ⟨pf0, pf1, pf2⟩, pl⟩ := block3 (unhide Kc_2)
  obtain ⟨f0, f1, ff0, ff1, fl⟩ := block2 (unhide Kf_2)
  go_upto_region 29 with (go_at_call 20; refine (unhide HPA _ (unhide Cq_2)).mono ?_; rintro e w3 ⟨a1, c1, a3, c3, rfl, ho3, hb3⟩; have HO3 := hide (ho3.base (unhide HX_2).size); have HX_3 := hide (Below.next (unhide HX_2) hb3 (by first | exact Nat.le_refl _ | (have := unhide HBA; omega))); have Kc_3 := hide (keep_below (unhide Kc_2) hb3); have Kf_3 := hide (keep_below (unhide Kf_2) hb3); have Ow_3 := hide ((unhide Ow_2).below hb3); have Cq_3 := hide (Below.next (unhide Cq_2) hb3 (Nat.le_refl _)); clear HX_2 Kc_2 Kf_2 Ow_2 Cq_2; clear hb3 ho3 HPA p0 p1 p2 pf0 pf1 pf2 pl f0 f1 ff0 ff1 fl; obtain ⟨f0, f1, ff0, ff1, fl⟩ := block2 (unhide Kf_3))
  clear f0 f1 ff0 ff1 fl
  clear Cq_3
  have HX_4 := hide (put2_below (y0 := .int .i64 0) (y1 := .int .i64 0) (unhide HX_3) (show w.heap.size ≤ TF by first | omega | (have := unhide HBA; omega)))
  have Kc_4 := hide ((put2_keep (y0 := .int .i64 0) (y1 := .int .i64 0) (show TC ≠ TF by omega)).trans (unhide Kc_3))
  have Kf_4 := hide (put2_new (y0 := .int .i64 0) (y1 := .int .i64 0) (unhide Kf_3))
  have Ow_4 := hide ((unhide Ow_3).keep (fun k hk => put2_keep (y0 := .int .i64 0) (y1 := .int .i64 0) (Own.ne (unhide Ow_3) (unhide Kf_3) (by decide) k hk)))
  have Ol_4 := hide ((unhide HO3).keep (fun k hk => put2_keep (y0 := .int .i64 0) (y1 := .int .i64 0) (Own.ne (unhide HO3) (unhide Kf_3) (by decide) k hk)))
  obtain ⟨W4, eW4⟩ : ∃ X, put2 w3 (TF) (.int .i64 0) (.int .i64 0) = X := ⟨_, rfl⟩
  rw [eW4] at HX_4 Kc_4 Kf_4 Ow_4 Ol_4
  have eW42 : ((w3).setCell ⟨TF, 0, none⟩ (.int .i64 0)).setCell ⟨TF, 1, none⟩ (.int .i64 0) = W4 := eW4
  rw [eW42]
  clear eW4 eW42 HX_3 Kc_3 Kf_3 Ow_3 HO3
  have hb9 : Below W4.heap.size W4 (W4.alloc (.cells #[.int .i64 A, .int .i64 (n : Int), .slice a1 0 c1] 24)) := (Below.refl _ _).alloc (Nat.le_refl _) _
  obtain ⟨W5, eW5⟩ : ∃ X, W4.alloc (.cells #[.int .i64 A, .int .i64 (n : Int), .slice a1 0 c1] 24) = X := ⟨_, rfl⟩
  rw [eW5] at hb9 ⊢
  (have HX_5 := hide (Below.next (unhide HX_4) hb9 (by first | exact Nat.le_refl _ | (have := unhide HBA; omega))); have Kc_5 := hide (keep_below (unhide Kc_4) hb9); have Kf_5 := hide (keep_below (unhide Kf_4) hb9); have Ow_5 := hide ((unhide Ow_4).below hb9); have Ol_5 := hide ((unhide Ol_4).below hb9); clear HX_4 Kc_4 Kf_4 Ow_4 Ol_4)
  clear hb9 eW5
  obtain ⟨f0, f1, ff0, ff1, fl⟩ := block2 (unhide Kf_5)
  have HSF := hide (sameOff_same W5 (.slice a3 mw c3) (.slice aw mw cw) (zs.map (fun p : Al => (p.2.1, p.1))) (unhide Ol_5).isl (unhide Ow_5).isl (by rw [unhide HMW]; have := unhide HLN; have h9 := unhide HMW; rw [List.length_map] at h9; omega))
  go_wp2_with (go_at_call 22; refine (unhide HSF).mono ?_; rintro e w9 ⟨rfl, hb9⟩; have HX_6 := hide (Below.next (unhide HX_5) hb9 (by first | exact Nat.le_refl _ | (have := unhide HBA; omega))); have Kc_6 := hide (keep_below (unhide Kc_5) hb9); have Kf_6 := hide (keep_below (unhide Kf_5) hb9); have Ow_6 := hide ((unhide Ow_5).below hb9); have Ol_6 := hide ((unhide Ol_5).below hb9); clear HX_5 Kc_5 Kf_5 Ow_5 Ol_5; clear hb9 HSF)
  go_ret
  exact ⟨rfl, unhide HX_6⟩

end Go.Proofs.Ytidpmcanfedbdaa
