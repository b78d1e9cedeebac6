/-
  law.SweepCycles: a good cycle; its whole walk.
-/
import Derived.Test.YtmkehjncnaokoaaEt
import Derived.Test.YtmkehjncnaokoaaCs
namespace Go.Proofs.Ytmkehjncnaokoaa
open Go.RowKit

set_option maxRecDepth 100000 in
set_option maxHeartbeats 4000000 in
theorem cycles_good (w : World) (ao : Option Addr) (no co : Nat) (ar : Option Addr) (nr cr : Nat) (z : Int) (aa : Option Addr) (na ca : Nat) (us : List Sl) (os : List (List Int)) (rs : List Int) (acts : List Ac) (hO : IsLL w (.slice ao no co) us os) (hR : IsL KI w (.slice ar nr cr) rs) (hA : IsL KA w (.slice aa na ca) acts) (hbeg : ∀ W : World, Calls Try.prog 8 #[] W fun e w' => e = .returned (.bool true) ∧ Below W.heap.size W w') (hv : vastB os rs = false) (hn6 : na ≤ 6000) (hf : heapF os rs = (0, 0)) (hz0 : 0 ≤ z) (hz3 : z ≤ 3) (hna : na ≤ 5000) (hpre : PreOk z ⟨os, rs, shadeL ⟨fun _ => true, []⟩ rs⟩ acts acts.length) :
    Calls Try.prog 4 #[.agg #[.slice ao no co, .slice ar nr cr], .int .i64 z, .slice aa na ca] w fun e w' => e = .returned (.bool true) ∧ Below w.heap.size w w' := by
  obtain ⟨hr1, hr2, hr3⟩ := vast_no hv
  have hol : os.length = no := by rw [← hO.len]; exact hO.row.len
  have hrn := hR.len
  have hno : no ≤ 1000 := by rw [← hol]; exact hr2
  have hnr : nr ≤ 1000 := by rw [← hrn]; exact hr3
  have HRL := hide hr1
  have hgh : GoodH os rs := heapF_good (by rw [hf])
  have hal := hA.len
  obtain ⟨gN, egN⟩ : ∃ X, stG z ⟨os, rs, shadeL ⟨fun _ => true, []⟩ rs⟩ acts acts.length = X := ⟨_, rfl⟩
  have hgN : GoodG gN := by rw [← egN]; exact good_st ⟨hgh, lnok_begin hgh⟩ acts.length (Nat.le_refl _) hpre
  have HCY : Hid (∀ W a3 c3 a4 c4 vs a' c', IsLL W (.slice a3 no c3) vs os → IsL KI W (.slice a4 nr c4) rs → IsL KA W (.slice a' na c') acts → Calls Try.prog 19 #[.agg #[.slice a3 no c3, .slice a4 nr c4], .int .i64 z, .slice a' na c'] W fun e w' => ∃ (g1 : Option Addr) (n1 c1 : Nat) (g2 : Option Addr) (n2 c2 : Nat) (L : Value) (fc fa : Int), e = .returned (.tuple #[.agg #[.slice g1 n1 c1, .slice g2 n2 c2], L, .agg #[.int .i64 fc, .int .i64 fa]]) ∧ (0 = fc ∧ 0 = fa ∧ gN.os.length = n1 ∧ gN.rs.length = n2 ∧ ∃ s', EndR z gN.os gN.rs gN.mm s' ∧ (∀ w2 : World, w'.heap.size ≤ w2.heap.size → (∀ k, W.heap.size ≤ k → k < w'.heap.size → w2.heap[k]? = w'.heap[k]?) → ∃ us, IsLL w2 (.slice g1 n1 c1) us gN.os ∧ IsL KI w2 (.slice g2 n2 c2) gN.rs) ∧ ∃ a c, L = .slice a ((List.range n1).filter s'.wh).length c ∧ OwnO W.heap.size w' (.slice a ((List.range n1).filter s'.wh).length c) (ixL ((List.range n1).filter s'.wh))) ∧ Below W.heap.size W w') := fun W a3 c3 a4 c4 vs a' c' q1 q2 hW => (cycle_kept W a3 no c3 a4 nr c4 vs os rs q1 q2 hf z hz0 hz3 a' na c' acts hW hna).mono fun e w' hc => by
    rcases hc with ⟨i, hi, h1, h2, rfl, hb⟩ | ⟨h1, bo, n, co', ar', nr', cr', s', a, c, rfl, p1, p2, p3, p4, p5, p6⟩
    · exact absurd (hpre i hi) h2
    · rw [egN] at p1 p2 p3 p4
      exact ⟨some ⟨bo, 0, none⟩, n, co', ar', nr', cr', _, 0, 0, rfl, ⟨rfl, rfl, p2, p3, s', p1, p4, a, c, rfl, p5⟩, p6⟩
  have HHF : Hid (∀ W, IsLL W (.slice ao no co) us os → IsL KI W (.slice ar nr cr) rs → Calls Try.prog 13 #[.agg #[.slice ao no co, .slice ar nr cr]] W fun e w' => e = .returned (.agg #[.int .i64 0, .int .i64 0]) ∧ Below W.heap.size W w') := fun W q1 q2 => by
    have h_ := heapsFault_any W ao no co ar nr cr us os rs q1 q2
    rwa [hf] at h_
  have HCD : Hid (∀ W, IsLL W (.slice ao no co) us os → IsL KI W (.slice ar nr cr) rs → IsL KA W (.slice aa na ca) acts → Calls Try.prog 21 #[.agg #[.slice ao no co, .slice ar nr cr], .int .i64 z, .slice aa na ca] W fun e w' => ∃ (oa : Option Addr) (n cO : Nat) (ar' : Option Addr) (nr' cr' : Nat) (s' : Mk) (a : Option Addr) (c : Nat), e = .returned (.tuple #[.agg #[.slice oa n cO, .slice ar' nr' cr'], .slice a ((List.range n).filter s'.wh).length c, .agg #[.int .i64 0, .int .i64 0]]) ∧ EndR z gN.os gN.rs gN.mm s' ∧ gN.os.length = n ∧ gN.rs.length = nr' ∧ (∀ w2 : World, w'.heap.size ≤ w2.heap.size → (∀ k, W.heap.size ≤ k → k < w'.heap.size → w2.heap[k]? = w'.heap[k]?) → ∃ us, IsLL w2 (.slice oa n cO) us gN.os ∧ IsL KI w2 (.slice ar' nr' cr') gN.rs) ∧ OwnO W.heap.size w' (.slice a ((List.range n).filter s'.wh).length c) (ixL ((List.range n).filter s'.wh)) ∧ Below W.heap.size W w') := fun W q1 q2 q3 => (cycled_any W ao no co ar nr cr us os rs q1 q2 hgh z hz0 hz3 aa na ca acts q3 hna).mono fun e w' hc => by
    rcases hc with ⟨i, hi, h1, h2, rfl, hb⟩ | ⟨h1, hc⟩
    · exact absurd (hpre i hi) h2
    · rw [egN] at hc
      exact hc
  have HGN := hide hgN
  have HX := hide ((Below.refl w.heap.size w).alloc (Nat.le_refl _) (.cells #[.slice ao no co, .slice ar nr cr] 25))
  have HH := hide (new_block w (.cells #[.slice ao no co, .slice ar nr cr] 25))
  have HO := hide hO; have HR := hide hR; have HV := hide hv; have HBG := hide hbeg; have HA := hide hA
  have n1 : ¬ (6000 : Int) < (na : Int) := by omega
  have x1 : ((0 : Int) == 0) = true := by decide
  have y1 : ¬ z < 0 := by omega
  have y2 : ¬ 3 < z := by omega
  have y3 : ¬ (5000 : Int) < (na : Int) := by omega
  clear hgN hgh hal egN hpre
  obtain ⟨W, eW⟩ : ∃ X, w.alloc (.cells #[.slice ao no co, .slice ar nr cr] 25) = X := ⟨_, rfl⟩
  rw [eW] at HX HH
  have HE := hide eW
  clear eW hO hR hv hbeg hf hA hr1 hr2 hr3 hol hrn
  go_enter Try.func4, Try.ntmps4
  go_upto_region 1 with fail
  rw [unhide HE]
  clear HE
  go_upto_region 3 with (go_at_call 8; (with_reducible refine Calls.mono (unhide HBG _) ?_); rintro e w1 ⟨rfl, hb1⟩; have HX1 := hide (Below.next (unhide HX) hb1 (Nat.le_refl _)); have HH1 := hide (keep_below (unhide HH) hb1); clear hb1)
  obtain ⟨b0, b1, bf0, bf1, bl⟩ := block2 (unhide HH1)
  go_upto_region 5 with (go_at_call 9; (with_reducible refine Calls.mono (vastHeap_any _ ao no co ar nr cr us os rs ((unhide HO).below (unhide HX1)) ((unhide HR).below (unhide HX1)) (by omega)) ?_); rintro e w2 ⟨rfl, hb2⟩; rw [unhide HV]; have HX2 := hide (Below.next (unhide HX1) hb2 (Nat.le_refl _)); have HH2 := hide (keep_below (unhide HH1) hb2); clear hb2)
  clear b0 b1 bf0 bf1 bl
  obtain ⟨b0, b1, bf0, bf1, bl⟩ := block2 (unhide HH2)
  go_upto_region 6 with (go_at_call 10; (with_reducible refine Calls.mono (ownHeap_any _ ao no co ar nr cr us os rs ((unhide HO).below (unhide HX2)) ((unhide HR).below (unhide HX2)) hno hnr (unhide HRL)) ?_); rintro e w3 ⟨a3, c3, a4, c4, rfl, ⟨us3, hi3⟩, hi4, hb3⟩; have HX3 := hide (Below.next (unhide HX2) hb3 (Nat.le_refl _)); have HH3 := hide (keep_below (unhide HH2) hb3); have HI3 := hide hi3; have HI4 := hide hi4; clear hi3 hi4 hb3)
  clear b0 b1 bf0 bf1 bl HX HX1 HX2 HH HH1 HH2
  have ha5 : Below w3.heap.size w3 (w3.alloc (.cells #[.slice a3 no c3, .slice a4 nr c4] 25)) := (Below.refl _ _).alloc (Nat.le_refl _) _
  have HX5 := hide (Below.next (unhide HX3) ha5 (Nat.le_refl _)); have HH5 := hide (keep_below (unhide HH3) ha5); have HXO5 := hide ((unhide HI3).below ha5); have HXR5 := hide ((unhide HI4).below ha5); have HBX5 := hide (new_block w3 (.cells #[.slice a3 no c3, .slice a4 nr c4] 25))
  obtain ⟨X, eX⟩ : ∃ X, w3.heap.size = X := ⟨_, rfl⟩
  obtain ⟨W5, e5⟩ : ∃ X, w3.alloc (.cells #[.slice a3 no c3, .slice a4 nr c4] 25) = X := ⟨_, rfl⟩
  rw [e5] at HX5 HH5 HXO5 HXR5
  rw [eX, e5] at HBX5
  rw [eX, e5]
  clear eX e5 ha5 HX3 HH3 HI3 HI4
  refine cycles_6 W5 X a3 no c3 a4 nr c4 z aa na ca acts (unhide HBX5) ((unhide HA).below (unhide HX5)) hn6 (fun W w' g1 n1 c1 g2 n2 c2 L fc fa => 0 = fc ∧ 0 = fa ∧ gN.os.length = n1 ∧ gN.rs.length = n2 ∧ ∃ s', EndR z gN.os gN.rs gN.mm s' ∧ (∀ w2 : World, w'.heap.size ≤ w2.heap.size → (∀ k, W.heap.size ≤ k → k < w'.heap.size → w2.heap[k]? = w'.heap[k]?) → ∃ us, IsLL w2 (.slice g1 n1 c1) us gN.os ∧ IsL KI w2 (.slice g2 n2 c2) gN.rs) ∧ ∃ a c, L = .slice a ((List.range n1).filter s'.wh).length c ∧ OwnO W.heap.size w' (.slice a ((List.range n1).filter s'.wh).length c) (ixL ((List.range n1).filter s'.wh))) (fun W a' c' hW hA' => unhide HCY W a3 c3 a4 c4 us3 a' c' ((unhide HXO5).below hW) ((unhide HXR5).below hW) hA') _ _ _ (by kernel_rfl) ?_
  rintro s25 s26 s27 s28 s29 s30 s31 s32 s33 G F g1 n1' c1 g2 n2' c2 L fc fa Wc w5 V hb6 ⟨rfl, rfl, hn1, hn2, s', he6, hr6, aL, cL, rfl, ho6⟩ hWc6 hz6 hk6 hG6 hF6
  obtain ⟨usg, hlg, hrg⟩ := hr6 V hz6 hk6
  have HLG := hide hlg; have HRG := hide hrg; have HEN := hide he6; have HOL := hide (ho6.keep hz6 (fun k q => hk6 k (ho6.lt k q).1 (ho6.lt k q).2)).isl
  have HN1 := hide hn1; have HN2 := hide hn2
  clear hlg hrg hr6 he6 ho6 hz6 hk6 hn1 hn2 hWc6
  have HXV := hide (Below.next (unhide HX5) hb6 (Nat.le_refl _)); have HBH := hide (keep_below (unhide HH5) hb6); have HBX := hide (keep_below (unhide HBX5) hb6); have HBG := hide hG6; have HBF := hide hF6; have HXO := hide ((unhide HXO5).below hb6); have HXR := hide ((unhide HXR5).below hb6)
  have HOV := hide ((unhide HO).below (unhide HXV)); have HRV := hide ((unhide HR).below (unhide HXV)); have HAV := hide ((unhide HA).below (unhide HXV))
  clear hb6 hG6 hF6 HX5 HH5 HBX5 HXO5 HXR5 HCY
  obtain ⟨b0, b1, bf0, bf1, bl⟩ := block2 (unhide HBH)
  go_upto_region 8 with (go_at_call 13; (with_reducible refine Calls.mono (unhide HHF _ (unhide HOV) (unhide HRV)) ?_); rintro e w7 ⟨rfl, hb7⟩; have HB7 := hide hb7; clear hb7)
  clear b0 b1 bf0 bf1 bl
  have HB8 := hide ((unhide HB7).alloc (unhide HB7).size (.cells #[.int .i64 0, .int .i64 0] 30)); have HD8 := hide (new_block w7 (.cells #[.int .i64 0, .int .i64 0] 30)); have HDZ := hide (unhide HB7).size
  obtain ⟨D, eD⟩ : ∃ X, w7.heap.size = X := ⟨_, rfl⟩
  obtain ⟨W8, e8⟩ : ∃ X, w7.alloc (.cells #[.int .i64 0, .int .i64 0] 30) = X := ⟨_, rfl⟩
  rw [e8] at HB8; rw [eD, e8] at HD8; rw [eD] at HDZ; rw [eD, e8]
  clear eD e8 HB7
  obtain ⟨d0, d1, df0, df1, dl⟩ := block2 (unhide HD8)
  go_upto_region 13 with fail
  have hb12 : Below W8.heap.size W8 (W8.alloc (.cells #[.slice none 0 0, .slice none 0 0] 25)) := (Below.refl _ _).alloc (Nat.le_refl _) _
  have HB12 := hide (Below.next (unhide HB8) hb12 (Nat.le_refl _)); have HD12 := hide (keep_below (unhide HD8) hb12); have HE12 := hide (new_block W8 (.cells #[.slice none 0 0, .slice none 0 0] 25))
  have HDE : Hid (D ≠ W8.heap.size) := Nat.ne_of_lt (size_of (unhide HD8)); have HEZ : Hid (V.heap.size ≤ W8.heap.size) := (unhide HB8).size
  obtain ⟨E, eE⟩ : ∃ X, W8.heap.size = X := ⟨_, rfl⟩
  obtain ⟨W12, e12⟩ : ∃ X, W8.alloc (.cells #[.slice none 0 0, .slice none 0 0] 25) = X := ⟨_, rfl⟩
  rw [e12] at HB12 HD12; rw [eE, e12] at HE12; rw [eE] at HDE HEZ; rw [eE, e12]
  clear eE e12 hb12 HB8 HD8
  clear d0 d1 df0 df1 dl
  obtain ⟨d0, d1, df0, df1, dl⟩ := block2 (unhide HD12)
  obtain ⟨b0, b1, bf0, bf1, bl⟩ := block2 (keep_below (unhide HBH) (unhide HB12))
  obtain ⟨e0, e1, ef0, ef1, el⟩ := block2 (unhide HE12)
  go_upto_region 16 with (go_at_call 21; (with_reducible refine Calls.mono (unhide HCD _ ((unhide HOV).below (unhide HB12)) ((unhide HRV).below (unhide HB12)) ((unhide HAV).below (unhide HB12))) ?_); rintro e w13 ⟨oa, nW, cO, aR, nR, cR, s2, aW, cW, rfl, he2, hn3, hn4, hrd, how, hb13⟩; have HB13 := hide (Below.next (unhide HB12) hb13 (Nat.le_refl _)); have HD13 := hide (keep_below (unhide HD12) hb13); have HE13 := hide (keep_below (unhide HE12) hb13); have HES := hide (endR_only (unhide HEN) he2); have HN3 := hide hn3; have HN4 := hide hn4; have HRD := hide hrd; have HOW := hide how; clear b0 b1 bf0 bf1 bl d0 d1 df0 df1 dl e0 e1 ef0 ef1 el hb13 he2 hn3 hn4 hrd how; obtain ⟨d0, d1, df0, df1, dl⟩ := block2 (unhide HD13); obtain ⟨e0, e1, ef0, ef1, el⟩ := block2 (unhide HE13); have nde := unhide HDE; have ned := Ne.symm (unhide HDE))
  have hzd := size_of (unhide HD12); have hze := size_of (unhide HE12)
  have hk14 : ∀ k, W12.heap.size ≤ k → k < w13.heap.size → (put2 (put2 w13 E (.slice oa nW cO) (.slice aR nR cR)) D (.int .i64 0) (.int .i64 0)).heap[k]? = w13.heap[k]? := fun k k1 k2 => (put2_keep (by omega)).trans (put2_keep (by omega))
  have hz14 : w13.heap.size ≤ (put2 (put2 w13 E (.slice oa nW cO) (.slice aR nR cR)) D (.int .i64 0) (.int .i64 0)).heap.size := by rw [put2_size, put2_size]; exact Nat.le_refl _
  have hb14 : Below V.heap.size V (put2 (put2 w13 E (.slice oa nW cO) (.slice aR nR cR)) D (.int .i64 0) (.int .i64 0)) := put2_below (put2_below (unhide HB13) (unhide HEZ)) (unhide HDZ)
  have hd14 : (put2 (put2 w13 E (.slice oa nW cO) (.slice aR nR cR)) D (.int .i64 0) (.int .i64 0)).heap[D]? = some (.cells #[.int .i64 0, .int .i64 0] 30 (0, 0)) := put2_new ((put2_keep (unhide HDE)).trans (unhide HD13))
  have he14 : (put2 (put2 w13 E (.slice oa nW cO) (.slice aR nR cR)) D (.int .i64 0) (.int .i64 0)).heap[E]? = some (.cells #[.slice oa nW cO, .slice aR nR cR] 25 (0, 0)) := (put2_keep (Ne.symm (unhide HDE))).trans (put2_new (unhide HE13))
  obtain ⟨usw, hlw, hrw⟩ := unhide HRD _ hz14 hk14
  have how := ((unhide HOW).keep hz14 (fun k q => hk14 k ((unhide HOW).lt k q).1 ((unhide HOW).lt k q).2)).isl
  unfold put2 at hb14 hd14 he14 hlw hrw how
  obtain ⟨W14, e14⟩ : ∃ X, (((w13.setCell ⟨E, 0, none⟩ (.slice oa nW cO)).setCell ⟨E, 1, none⟩ (.slice aR nR cR)).setCell ⟨D, 0, none⟩ (.int .i64 0)).setCell ⟨D, 1, none⟩ (.int .i64 0) = X := ⟨_, rfl⟩
  rw [e14] at hb14 hd14 he14 hlw hrw how
  rw [e14]
  have HB14 := hide hb14; have HD14 := hide hd14; have HE14 := hide he14; have HLW := hide hlw; have HRW := hide hrw; have HWW := hide how
  clear e14 hb14 hd14 he14 hlw hrw how hz14 hk14 hzd hze HB12 HD12 HB13 HD13 HE12 HE13 HRD HOW e0 e1 ef0 ef1 el nde ned
  clear d0 d1 df0 df1 dl
  obtain ⟨d0, d1, df0, df1, dl⟩ := block2 (unhide HD14)
  obtain ⟨b0, b1, bf0, bf1, bl⟩ := block2 (keep_below (unhide HBH) (unhide HB14)); obtain ⟨x0, x1, xf0, xf1, xl⟩ := block2 (keep_below (unhide HBX) (unhide HB14)); obtain ⟨f0, f1, ff0, ff1, fl⟩ := block2 (keep_below (unhide HBF) (unhide HB14))
  go_upto_region 18 with (go_at_call 14; (with_reducible refine Calls.mono (sameHeap_any _ a3 no c3 a4 nr c4 ao co ar cr us3 us os rs ((unhide HXO).below (unhide HB14)) ((unhide HXR).below (unhide HB14)) ((unhide HOV).below (unhide HB14)) ((unhide HRV).below (unhide HB14)) (by omega) (by omega) (fun i hi => Nat.le_trans (unhide HRL i hi) (by decide))) ?_); rintro e w17 ⟨rfl, hb17⟩; have HB17 := hide (Below.next (unhide HB14) hb17 (Nat.le_refl _)); have HD17 := hide (keep_below (unhide HD14) hb17); have HE17 := hide (keep_below (unhide HE14) hb17); have HLW17 := hide ((unhide HLW).below hb17); have HRW17 := hide ((unhide HRW).below hb17); have HWW17 := hide ((unhide HWW).below hb17); clear hb17)
  clear b0 b1 bf0 bf1 bl x0 x1 xf0 xf1 xl f0 f1 ff0 ff1 fl d0 d1 df0 df1 dl
  obtain ⟨d0, d1, df0, df1, dl⟩ := block2 (unhide HD17)
  obtain ⟨e0, e1, ef0, ef1, el⟩ := block2 (unhide HE17)
  obtain ⟨g0, g1, gf0, gf1, gl⟩ := block2 (keep_below (unhide HBG) (unhide HB17))
  have hs := unhide HES
  subst hs
  obtain rfl := (unhide HN3).symm.trans (unhide HN1)
  obtain rfl := (unhide HN4).symm.trans (unhide HN2)
  have hn5 : gN.os.length ≤ 500 := (unhide HGN).gh.no
  have hn6' : gN.rs.length ≤ 16 := (unhide HGN).gh.nr
  have hn7 := unhide HN1
  have hn8 := unhide HN2
  have hfl := List.length_filter_le s'.wh (List.range gN.os.length)
  rw [List.length_range] at hfl
  go_wp2_with (first | (go_at_call 14; (with_reducible refine Calls.mono (sameHeap_any _ _ _ _ _ _ _ _ _ _ _ usg usw gN.os gN.rs ((unhide HLG).below (unhide HB17)) ((unhide HRG).below (unhide HB17)) (unhide HLW17) (unhide HRW17) (by omega) (by omega) (fun i hi => Nat.le_trans ((unhide HGN).gh.ns i hi) (by decide))) ?_); rintro e w18 ⟨rfl, hb18⟩; have HB18 := hide (Below.next (unhide HB17) hb18 (Nat.le_refl _)); have HWW18 := hide ((unhide HWW17).below hb18); clear hb18) | (go_at_call 22; (with_reducible refine Calls.mono (ints_same _ _ _ (ixL ((List.range _).filter s'.wh)) ((unhide HOL).below (unhide HB18)) (unhide HWW18) (by rw [ixL_len]; refine Nat.le_trans (List.length_filter_le _ _) ?_; rw [List.length_range]; omega)) ?_); rintro e w19 ⟨rfl, hb19⟩; have HB19 := hide (Below.next (unhide HB18) hb19 (Nat.le_refl _)); clear hb19))
  go_ret
  exact ⟨rfl, Below.next (unhide HXV) (unhide HB19) (Nat.le_refl _)⟩

set_option maxRecDepth 100000 in
set_option maxHeartbeats 4000000 in
theorem cycles_vast (w : World) (ao : Option Addr) (no co : Nat) (ar : Option Addr) (nr cr : Nat) (z : Int) (aa : Option Addr) (na ca : Nat) (us : List Sl) (os : List (List Int)) (rs : List Int) (acts : List Ac) (hO : IsLL w (.slice ao no co) us os) (hR : IsL KI w (.slice ar nr cr) rs) (_hA : IsL KA w (.slice aa na ca) acts) (hbeg : ∀ W : World, Calls Try.prog 8 #[] W fun e w' => e = .returned (.bool true) ∧ Below W.heap.size W w') (hno : no ≤ 1000000000000000) (hv : vastB os rs = true) :
    Calls Try.prog 4 #[.agg #[.slice ao no co, .slice ar nr cr], .int .i64 z, .slice aa na ca] w fun e w' => e = .returned (.bool true) ∧ Below w.heap.size w w' := by
  have HX := hide ((Below.refl w.heap.size w).alloc (Nat.le_refl _) (.cells #[.slice ao no co, .slice ar nr cr] 25))
  have HH := hide (new_block w (.cells #[.slice ao no co, .slice ar nr cr] 25))
  have HO := hide hO; have HR := hide hR; have HV := hide hv; have HBG := hide hbeg
  obtain ⟨W, eW⟩ : ∃ X, w.alloc (.cells #[.slice ao no co, .slice ar nr cr] 25) = X := ⟨_, rfl⟩
  rw [eW] at HX HH
  have HE := hide eW
  
  clear eW hO hR hv hbeg
  go_enter Try.func4, Try.ntmps4
  go_upto_region 1 with fail
  rw [unhide HE]
  clear HE
  go_upto_region 3 with (go_at_call 8; (with_reducible refine Calls.mono (unhide HBG _) ?_); rintro e w1 ⟨rfl, hb1⟩; have HX1 := hide (Below.next (unhide HX) hb1 (Nat.le_refl _)); have HH1 := hide (keep_below (unhide HH) hb1); clear hb1)
  obtain ⟨b0, b1, bf0, bf1, bl⟩ := block2 (unhide HH1)
  go_wp2_with (go_at_call 9; (with_reducible refine Calls.mono (vastHeap_any _ ao no co ar nr cr us os rs ((unhide HO).below (unhide HX1)) ((unhide HR).below (unhide HX1)) hno) ?_); rintro e w2 ⟨rfl, hb2⟩; rw [unhide HV]; have HX2 := hide (Below.next (unhide HX1) hb2 (Nat.le_refl _)); clear hb2)
  go_ret
  exact ⟨rfl, unhide HX2⟩

set_option maxRecDepth 100000 in
set_option maxHeartbeats 4000000 in
theorem cycles_many (w : World) (ao : Option Addr) (no co : Nat) (ar : Option Addr) (nr cr : Nat) (z : Int) (aa : Option Addr) (na ca : Nat) (us : List Sl) (os : List (List Int)) (rs : List Int) (acts : List Ac) (hO : IsLL w (.slice ao no co) us os) (hR : IsL KI w (.slice ar nr cr) rs) (_hA : IsL KA w (.slice aa na ca) acts) (hbeg : ∀ W : World, Calls Try.prog 8 #[] W fun e w' => e = .returned (.bool true) ∧ Below W.heap.size W w') (hno : no ≤ 1000000000000000) (hv : vastB os rs = false) (hn6 : 6000 < na) :
    Calls Try.prog 4 #[.agg #[.slice ao no co, .slice ar nr cr], .int .i64 z, .slice aa na ca] w fun e w' => e = .returned (.bool true) ∧ Below w.heap.size w w' := by
  have HX := hide ((Below.refl w.heap.size w).alloc (Nat.le_refl _) (.cells #[.slice ao no co, .slice ar nr cr] 25))
  have HH := hide (new_block w (.cells #[.slice ao no co, .slice ar nr cr] 25))
  have HO := hide hO; have HR := hide hR; have HV := hide hv; have HBG := hide hbeg
  obtain ⟨W, eW⟩ : ∃ X, w.alloc (.cells #[.slice ao no co, .slice ar nr cr] 25) = X := ⟨_, rfl⟩
  rw [eW] at HX HH
  have HE := hide eW
  have n1 : (6000 : Int) < (na : Int) := by omega
  clear eW hO hR hv hbeg
  go_enter Try.func4, Try.ntmps4
  go_upto_region 1 with fail
  rw [unhide HE]
  clear HE
  go_upto_region 3 with (go_at_call 8; (with_reducible refine Calls.mono (unhide HBG _) ?_); rintro e w1 ⟨rfl, hb1⟩; have HX1 := hide (Below.next (unhide HX) hb1 (Nat.le_refl _)); have HH1 := hide (keep_below (unhide HH) hb1); clear hb1)
  obtain ⟨b0, b1, bf0, bf1, bl⟩ := block2 (unhide HH1)
  go_wp2_with (go_at_call 9; (with_reducible refine Calls.mono (vastHeap_any _ ao no co ar nr cr us os rs ((unhide HO).below (unhide HX1)) ((unhide HR).below (unhide HX1)) hno) ?_); rintro e w2 ⟨rfl, hb2⟩; rw [unhide HV]; have HX2 := hide (Below.next (unhide HX1) hb2 (Nat.le_refl _)); clear hb2)
  go_ret
  exact ⟨rfl, unhide HX2⟩

theorem cycles_walk (w : World) (ao : Option Addr) (no co : Nat) (ar : Option Addr) (nr cr : Nat) (z : Int) (aa : Option Addr) (na ca : Nat) (us : List Sl) (os : List (List Int)) (rs : List Int) (acts : List Ac) (hO : IsLL w (.slice ao no co) us os) (hR : IsL KI w (.slice ar nr cr) rs) (hA : IsL KA w (.slice aa na ca) acts) (hbeg : ∀ W : World, Calls Try.prog 8 #[] W fun e w' => e = .returned (.bool true) ∧ Below W.heap.size W w') (hno : no ≤ 1000000000000000) :
    Calls Try.prog 4 #[.agg #[.slice ao no co, .slice ar nr cr], .int .i64 z, .slice aa na ca] w fun e w' => e = .returned (.bool true) ∧ Below w.heap.size w w' := by
  have hal := hA.len
  cases hv : vastB os rs with
  | true => exact cycles_vast w ao no co ar nr cr z aa na ca us os rs acts hO hR hA hbeg hno hv
  | false =>
    by_cases h6 : 6000 < na
    · exact cycles_many w ao no co ar nr cr z aa na ca us os rs acts hO hR hA hbeg hno hv h6
    have hn6 : na ≤ 6000 := by omega
    obtain ⟨⟨hc, ha⟩, hf⟩ : ∃ X, heapF os rs = X := ⟨_, rfl⟩
    by_cases hhc : hc = 0
    · have hf0 := heapF_zero (by rw [hf]; exact hhc)
      by_cases z0 : z < 0
      · exact cycles_z0 w ao no co ar nr cr z aa na ca us os rs acts hO hR hA hbeg hv hn6 hf0 z0
      by_cases z3 : 3 < z
      · exact cycles_z3 w ao no co ar nr cr z aa na ca us os rs acts hO hR hA hbeg hv hn6 hf0 z3
      by_cases h5 : 5000 < na
      · exact cycles_na w ao no co ar nr cr z aa na ca us os rs acts hO hR hA hbeg hv hn6 hf0 (by omega) (by omega) h5
      rcases pre_cases z ⟨os, rs, shadeL ⟨fun _ => true, []⟩ rs⟩ acts acts.length with hp | ⟨k, hk, hp, hw⟩
      · exact cycles_good w ao no co ar nr cr z aa na ca us os rs acts hO hR hA hbeg hv hn6 hf0 (by omega) (by omega) (by omega) hp
      · exact cycles_act w ao no co ar nr cr z aa na ca us os rs acts hO hR hA hbeg hv hn6 hf0 (by omega) (by omega) (by omega) k hk hp hw
    · exact cycles_heap w ao no co ar nr cr z aa na ca us os rs acts hO hR hA hbeg hv hn6 hc ha hf hhc
end Go.Proofs.Ytmkehjncnaokoaa
