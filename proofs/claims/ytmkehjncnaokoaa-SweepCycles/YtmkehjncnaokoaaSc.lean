/-
  sweep.Cycle: acts that are all GcMark, any barrier, a good heap.
  law.SweepStopped: what ends ahead of the cycle.
-/
import Derived.Test.YtmkehjncnaokoaaSa
namespace Go.Proofs.Ytmkehjncnaokoaa
open Go.RowKit

set_option maxRecDepth 100000 in
set_option maxHeartbeats 4000000 in
theorem cycle_marks (w : World) (ao : Option Addr) (no co : Nat) (ar : Option Addr) (nr cr : Nat) (us : List Sl) (os : List (List Int)) (rs : List Int) (hO : IsLL w (.slice ao no co) us os) (hR : IsL KI w (.slice ar nr cr) rs) (hf : heapF os rs = (0, 0)) (z : Int) (hz0 : 0 ≤ z) (hz3 : z ≤ 3) (aa : Option Addr) (na ca : Nat) (hA : IsL KA w (.slice aa na ca) (List.replicate na acM)) (hna : na ≤ 5000) :
    Calls Try.prog 19 #[.agg #[.slice ao no co, .slice ar nr cr], .int .i64 z, .slice aa na ca] w fun e w' => ∃ (b : Nat) (a1 : Option Addr) (c1 : Nat) (xs : List Nat) (a : Option Addr) (c : Nat) (us' : List Sl), e = .returned (.tuple #[.agg #[.slice (some ⟨b, 0, none⟩) no no, .slice a1 nr c1], .slice a xs.length c, .agg #[.int .i64 0, .int .i64 0]]) ∧ LostIs os rs xs ∧ OwnO w.heap.size w' (.slice a xs.length c) (ixL xs) ∧ IsLL w' (.slice (some ⟨b, 0, none⟩) no no) us' os ∧ IsL KI w' (.slice a1 nr c1) rs ∧ Below w.heap.size w w' := by
  have hg : GoodH os rs := heapF_good (by rw [hf])
  have hol : os.length = no := by rw [← hO.len]; exact hO.row.len
  have HWC : Hid (∀ W, Below w.heap.size w W → Calls Try.prog 29 #[.agg #[.slice ao no co, .slice ar nr cr], .int .i64 z, .slice aa na ca] W fun e w' => e = .returned (.agg #[.int .i64 0, .int .i64 0]) ∧ Below W.heap.size W w') := fun W hW => wrongCycle_ok W ao no co ar nr cr us os rs (hO.below hW) (hR.below hW) hf z hz0 hz3 _ na ca hna
  have HNC : Hid (∀ W, Below w.heap.size w W → Calls Try.prog 30 #[.agg #[.slice ao no co, .slice ar nr cr], .int .i64 z] W fun e w' => ∃ cb mb wb vl b a1 c1, e = .returned (.pointer (some ⟨cb, 0, none⟩)) ∧ CycAt w' cb mb wb vl z ∧ MkAt W.heap.size w' mb no no (.slice (some ⟨b, 0, none⟩) no no) (.slice a1 nr c1) wb vl (shadeL ⟨fun _ => true, []⟩ rs) ∧ RrL W.heap.size w' mb wb vl (.slice (some ⟨b, 0, none⟩) no no) os ∧ RtL W.heap.size w' mb wb vl a1 nr c1 rs ∧ Below W.heap.size W w') := fun W hW => newCycle_full W ao no co ar nr cr z us os rs (hO.below hW) (hR.below hW) hg
  have HG := hide hg; have HOL := hide hol
  have hal := hA.len
  have HA := hide hA; have HAO := hide (hA.opens ka hal)
  have HNA := hide hna
  obtain ⟨W3, e3, hx, hh, hq, hp⟩ := three_new w (.cells #[.slice ao no co, .slice ar nr cr] 25) (.cells #[.slice none 0 0, .slice none 0 0] 25) (.cells #[.int .i64 0, .int .i64 0] 30)
  have HX := hide hx; have HH := hide hh; have HQ := hide hq; have HP := hide hp; have HE := hide e3
  clear hx hh hq hp e3 hO hR hf hg hol hA hal
  go_enter Try.func19, Try.ntmps19
  go_upto_region 1 with fail
  rw [unhide HE]
  clear HE
  obtain ⟨b0, b1, bf0, bf1, bl⟩ := block2 (unhide HH)
  go_upto_region 2 with (go_at_call 29; (with_reducible refine Calls.mono (unhide HWC _ (unhide HX)) ?_); rintro e w4 ⟨rfl, hb4⟩; have HX4 := hide (Below.next (unhide HX) hb4 (Nat.le_refl _)); have HH4 := hide (keep_below (unhide HH) hb4); have HQ4 := hide (keep_below (unhide HQ) hb4); have HP4 := hide (keep_below (unhide HP) hb4); clear hb4)
  have HX5 := hide ((unhide HX4).alloc (unhide HX4).size (.cells #[.int .i64 0, .int .i64 0] 30)); have HH5 := hide (keep_alloc (unhide HH4) (.cells #[.int .i64 0, .int .i64 0] 30)); have HQ5 := hide (keep_alloc (unhide HQ4) (.cells #[.int .i64 0, .int .i64 0] 30)); have HP5 := hide (keep_alloc (unhide HP4) (.cells #[.int .i64 0, .int .i64 0] 30)); have HF5 := hide (new_block w4 (.cells #[.int .i64 0, .int .i64 0] 30))
  obtain ⟨F, eF⟩ : ∃ X, w4.heap.size = X := ⟨_, rfl⟩
  obtain ⟨W5, e5⟩ : ∃ X, w4.alloc (.cells #[.int .i64 0, .int .i64 0] 30) = X := ⟨_, rfl⟩
  rw [e5] at HX5 HH5 HQ5 HP5; rw [eF, e5] at HF5; rw [eF, e5]
  clear eF e5 HX HH HQ HP HX4 HH4 HQ4 HP4 HWC b0 b1 bf0 bf1 bl
  obtain ⟨g0, g1, gf0, gf1, gl⟩ := block2 (unhide HF5)
  obtain ⟨b0, b1, bf0, bf1, bl⟩ := block2 (unhide HH5)
  go_upto_region 5 with (go_at_call 30; (with_reducible refine Calls.mono (unhide HNC _ (unhide HX5)) ?_); rintro e w6 ⟨cb, mb, wb, vl, hb, a1, c1, rfl, hc6, hm6, hr6, ht6, hb6⟩; have HC6 := hide hc6; have HM6 := hide hm6; have HR6 := hide hr6; have HT6 := hide ht6; have HX6 := hide (Below.next (unhide HX5) hb6 (Nat.le_refl _)); have HQ6 := hide (keep_below (unhide HQ5) hb6); have HP6 := hide (keep_below (unhide HP5) hb6); have hs6 := hb6.size; clear hc6 hm6 hr6 ht6 hb6)
  have hq5 := size_of (unhide HQ5); have hp5 := size_of (unhide HP5)
  have hk6 : LnOk no (shadeL ⟨fun _ => true, []⟩ rs) := LnOk.shade ⟨fun x hx => (by cases hx), by
    have h_ : cntW no ⟨fun _ => true, []⟩ ≤ no := by
      unfold cntW
      have := List.length_filter_le (fun _ => true) (List.range no)
      rwa [List.length_range] at this
    have := (unhide HG).no
    rw [unhide HOL] at this
    show _ + 0 ≤ 2000
    omega⟩ (by rw [← unhide HOL]; exact (unhide HG).ro)
  have hi6 := inv_begin (unhide HG)
  have HK6 := hide hk6; have HI6 := hide hi6
  have HGR : Hid (GoodR os no) := by have h_ := (unhide HG).rows; rwa [unhide HOL] at h_
  clear hk6 hi6 HNC HH5 HF5 g0 g1 gf0 gf1 gl b0 b1 bf0 bf1 bl
  go_wp2_with fail
  go_loopw [28] (fun s28 wr => ∃ (i : Nat) (v : Value) (s : Mk), i ≤ na ∧ s28 = .int .i64 (i : Int) ∧ Hid (CycAt wr cb mb wb v z) ∧ Hid (MkAt W5.heap.size wr mb no no (.slice (some ⟨hb, 0, none⟩) no no) (.slice a1 nr c1) wb v s) ∧ Hid (RrL W5.heap.size wr mb wb v (.slice (some ⟨hb, 0, none⟩) no no) os) ∧ Hid (RtL W5.heap.size wr mb wb v a1 nr c1 rs) ∧ Hid (Inv os rs s) ∧ Hid (LnOk no s) ∧ Hid (Below w.heap.size w wr) ∧ Hid (wr.heap[w.heap.size + 1]? = some (.cells #[.slice none 0 0, .slice none 0 0] 25 (0, 0))) ∧ Hid (wr.heap[w.heap.size + 1 + 1]? = some (.cells #[.int .i64 0, .int .i64 0] 30 (0, 0)))) (fun s28 _ => na - (intOf s28).toNat)
  case atStart => exact ⟨0, vl, _, Nat.zero_le _, rfl, HC6, HM6, HR6, HT6, HI6, HK6, HX6, HQ6, HP6⟩
  case round =>
    obtain ⟨i, v, s, hi, rfl, HCi, HMi, HRi, HTi, HIi, HKi, HXi, HQi, HPi⟩ := hrel
    clear HC6 HM6 HR6 HT6 HI6 HK6 HX6 HQ6 HP6
    by_cases hin : i < na
    · have i6 : (0 : Int) ≤ (i : Int) := by omega
      have i7 : (i : Int) < (na : Int) := by omega
      have hw1 : IntKind.i64.wrap ((i : Int) + 1) = (i : Int) + 1 := wrapi (by omega) (by omega)
      obtain ⟨ab, ao2, rfl, hab, hli⟩ := unhide HAO (by omega)
      obtain ⟨a0, a1', a2, a3⟩ := (hli.below (unhide HXi) hab).acts (j := i) (by simpa using hin) (by show _ = acM; rw [List.getD_eq_getElem?_getD, List.getElem?_replicate, if_pos hin]; rfl)
      clear hli
      go_upto_region 8 with fail
      have HB8 : Hid (Below wr.heap.size wr (wr.alloc (.cells #[.int .i64 5, .int .i64 0, .int .i64 0, .int .i64 0] 47))) := (Below.refl _ _).alloc (Nat.le_refl _) _
      have HA8 := hide (new_block wr (.cells #[.int .i64 5, .int .i64 0, .int .i64 0, .int .i64 0] 47))
      obtain ⟨AC, eA⟩ : ∃ X, wr.heap.size = X := ⟨_, rfl⟩
      obtain ⟨W8, e8⟩ : ∃ X, wr.alloc (.cells #[.int .i64 5, .int .i64 0, .int .i64 0, .int .i64 0] 47) = X := ⟨_, rfl⟩
      rw [e8] at HB8; rw [eA, e8] at HA8; rw [eA, e8]
      clear e8 a0 a1' a2 a3
      obtain ⟨⟨a0, a1', a2, a3⟩, ⟨af0, af1, af2, af3⟩, al⟩ := block4 (unhide HA8)
      go_upto_region 9 with (go_at_call 31; (with_reducible refine Calls.mono (wrong_mark W8 cb) ?_); rintro e w9 ⟨rfl, hb9⟩; have HB9 := hide (Below.next (unhide HB8) hb9 (Nat.le_refl _)); have HA9 := hide (keep_below (unhide HA8) hb9); clear hb9)
      clear a0 a1' a2 a3 af0 af1 af2 af3 al HA8
      obtain ⟨⟨a0, a1', a2, a3⟩, ⟨af0, af1, af2, af3⟩, al⟩ := block4 (unhide HA9)
      have hkp : Kp wr w9 mb wb v v := Kp.of_below (unhide HB9)
      have HDO := hide (do_any w9 cb mb wb W5.heap.size no (.slice (some ⟨hb, 0, none⟩) no no) (.slice a1 nr c1) v z s ((unhide HCi).kp hkp) ((unhide HMi).below (unhide HB9)) os (unhide HGR) ((unhide HRi).rr.kp hkp) (unhide HKi))
      have HKP := hide hkp
      clear hkp
      go_wp2_with (go_at_call 32; (with_reducible refine Calls.mono (unhide HDO) ?_); rintro e w10 ⟨rfl, vl', hm10, hl10, hk10, hb10⟩; have HC10 := hide (((unhide HCi).kp (unhide HKP)).kp hk10); have HM10 := hide hm10; have HK10 := hide hl10; have HR10 := hide (((unhide HRi).kp (unhide HKP)).kp hk10); have HT10 := hide (((unhide HTi).kp (unhide HKP)).kp hk10); have HX10 := hide ((unhide HXi).trans (((unhide HB9).mono (unhide HXi).size).trans (hb10.mono (unhide HX5).size))); have HQ10 := hide ((hb10.block (w.heap.size + 1) hq5).trans (keep_below (unhide HQi) (unhide HB9))); have HP10 := hide ((hb10.block (w.heap.size + 1 + 1) hp5).trans (keep_below (unhide HPi) (unhide HB9))); clear hm10 hl10 hk10 hb10)
      go_roundw
      case rel => exact ⟨i + 1, vl', _, by omega, by go_num, HC10, HM10, HR10, HT10, hide (inv_mark (unhide HG) (unhide HIi)), HK10, HX10, HQ10, HP10⟩
      case measure => simp [intOf]; omega
    · obtain rfl : i = na := by omega
      have i7 : ¬ (i : Int) < (i : Int) := by omega
      have HEN := hide (end_any wr cb mb wb W5.heap.size W5.heap.size no (.slice (some ⟨hb, 0, none⟩) no no) a1 nr c1 v z s os rs (unhide HG) (unhide HIi) (unhide HCi) (unhide HMi) (unhide HGR) (unhide HRi).rr (unhide HTi) (unhide HKi))
      go_upto_region 14 with (go_at_call 33; (with_reducible refine Calls.mono (unhide HEN) ?_); rintro e w10 ⟨rfl, vl', s', hm10, hs10, hl10, _, hk10, hb10⟩; have HC10 := hide ((unhide HCi).kp hk10); have HM10 := hide hm10; have HS10 := hide hs10; have HL10 := hide hl10; have HR10 := hide ((unhide HRi).kp hk10); have HT10 := hide ((unhide HTi).kp hk10); have HX10 := hide ((unhide HXi).trans (hb10.mono (unhide HX5).size)); have HQ10 := hide ((hb10.block (w.heap.size + 1) hq5).trans (unhide HQi)); have HP10 := hide ((hb10.block (w.heap.size + 1 + 1) hp5).trans (unhide HPi)); clear hm10 hs10 hl10 hk10 hb10)
      have hne : w.heap.size + 1 ≠ w.heap.size + 1 + 1 ∧ w.heap.size + 1 ≠ cb ∧ w.heap.size + 1 ≠ mb ∧ w.heap.size + 1 + 1 ≠ cb ∧ w.heap.size + 1 + 1 ≠ mb := by
        refine ⟨by omega, fun q => ?_, fun q => ?_, fun q => ?_, fun q => ?_⟩
        · have h_ := unhide HQ10; rw [q, (unhide HC10).blk] at h_; cases h_
        · have h_ := unhide HQ10; rw [q, (unhide HM10).blk] at h_; cases h_
        · have h_ := unhide HP10; rw [q, (unhide HC10).blk] at h_; cases h_
        · have h_ := unhide HP10; rw [q, (unhide HM10).blk] at h_; cases h_
      have hno : no ≤ 500 := by rw [← unhide HOL]; exact (unhide HG).no
      refine cycle_14 w10 w.heap.size cb mb (w.heap.size + 1) (w.heap.size + 1 + 1) z (some ⟨hb, 0, none⟩) no no a1 nr c1 _ _ ((List.range no).filter s'.wh).length (ixL ((List.range no).filter s'.wh)) (unhide HC10).blk (unhide HM10).blk (unhide HQ10) (unhide HP10) hne ⟨by omega, by omega, (unhide HX10).size⟩ (fun W hW => whites_any W W5.heap.size mb no (.slice (some ⟨hb, 0, none⟩) no no) (.slice a1 nr c1) wb vl' s' ((unhide HM10).below hW) (by omega)) _ _ _ (by kernel_rfl) ?_
      intro s48 s49 s50 s51 s52 s53 s54 s55 s56 s57 s58 s59 s60 a12 c12 W12 hb12 hh12 hf12 ho12 hk12
      have HO12 := hide ho12; have HB12 := hide hb12
      have hsz12 : w10.heap.size ≤ W12.heap.size := by
        rcases Nat.lt_or_ge W12.heap.size w10.heap.size with q | q
        · exfalso
          have hn : W12.heap[W12.heap.size]? = none := by simp
          by_cases e1 : W12.heap.size = w.heap.size + 1
          · rw [← e1] at hh12; rw [hn] at hh12; cases hh12
          · by_cases e2 : W12.heap.size = w.heap.size + 1 + 1
            · rw [← e2] at hf12; rw [hn] at hf12; cases hf12
            · have h_ := hk12 W12.heap.size q e1 e2
              rw [hn, Array.getElem?_eq_getElem q] at h_
              cases h_
        · exact q
      have hkk : ∀ k, W5.heap.size ≤ k → k < w10.heap.size → k ≠ mb → k ≠ wb → vl'.ownBlock ≠ some k → W12.heap[k]? = w10.heap[k]? := fun k h1 h2 _ _ _ => hk12 k h2 (by omega) (by omega)
      have hr12 := (unhide HR10).kept (vl' := vl') hsz12 hkk (fun _ _ h => h)
      have ht12 := (unhide HT10).kept (vl' := vl') hsz12 hkk (fun _ _ h => h)
      obtain ⟨us', hll⟩ := hr12.isll (unhide HOL)
      have HLL := hide hll; have HTT := hide ht12.isl
      obtain ⟨b0, b1, bf0, bf1, bl⟩ := block2 hh12
      obtain ⟨g0, g1, gf0, gf1, gl⟩ := block2 hf12
      clear hb12 hh12 hf12 ho12 hk12 hkk hr12 ht12 hll
      go_wp2_with fail
      refine bodyPost_ret (v := .tuple #[.agg #[.slice (some ⟨hb, 0, none⟩) no no, .slice a1 nr c1], .slice a12 ((List.range no).filter s'.wh).length c12, .agg #[.int .i64 0, .int .i64 0]]) (by simp [results, Try.results19, go_sem, b0, b1, g0, g1]) rfl ⟨hb, a1, c1, _, a12, c12, us', rfl, ⟨s'.wh, by rw [unhide HOL], fun x hx => inv_end (unhide HG) (unhide HS10) (unhide HL10) hx⟩, (unhide HO12).low (unhide HX10).size, unhide HLL, unhide HTT, (unhide HX10).trans (unhide HB12)⟩


theorem fld0 (w : World) (a b : Int) : (Instr.field 30 (.agg #[.int .i64 a, .int .i64 b]) 0).run Try.prog w = .ok (.int .i64 a) w := by kernel_rfl

set_option maxRecDepth 100000 in
set_option maxHeartbeats 4000000 in
theorem stopped_vast (w : World) (ao : Option Addr) (no co : Nat) (ar : Option Addr) (nr cr : Nat) (z k : Int) (us : List Sl) (os : List (List Int)) (rs : List Int) (hO : IsLL w (.slice ao no co) us os) (hR : IsL KI w (.slice ar nr cr) rs) (hbeg : ∀ W : World, Calls Try.prog 8 #[] W fun e w' => e = .returned (.bool true) ∧ Below W.heap.size W w') (hno : no ≤ 1000000000000000) (hv : vastB os rs = true) :
    Calls Try.prog 7 #[.agg #[.slice ao no co, .slice ar nr cr], .int .i64 z, .int .i64 k] w fun e w' => e = .returned (.bool true) ∧ Below w.heap.size w w' := by
  have HX := hide ((Below.refl w.heap.size w).alloc (Nat.le_refl _) (.cells #[.slice ao no co, .slice ar nr cr] 25))
  have HH := hide (new_block w (.cells #[.slice ao no co, .slice ar nr cr] 25))
  have HO := hide hO; have HR := hide hR; have HV := hide hv; have HBG := hide hbeg
  obtain ⟨W, eW⟩ : ∃ X, w.alloc (.cells #[.slice ao no co, .slice ar nr cr] 25) = X := ⟨_, rfl⟩
  rw [eW] at HX HH
  have HE := hide eW
  clear eW hO hR hv hbeg
  have hfl := fld0
  go_enter Try.func7, Try.ntmps7
  go_upto_region 1 with fail
  rw [unhide HE]
  clear HE
  go_upto_region 3 with (go_at_call 8; (with_reducible refine Calls.mono (unhide HBG _) ?_); rintro e w1 ⟨rfl, hb1⟩; have HX1 := hide (Below.next (unhide HX) hb1 (Nat.le_refl _)); have HH1 := hide (keep_below (unhide HH) hb1); clear hb1)
  obtain ⟨b0, b1, bf0, bf1, bl⟩ := block2 (unhide HH1)
  go_wp2_with (go_at_call 9; (with_reducible refine Calls.mono (vastHeap_any _ ao no co ar nr cr us os rs ((unhide HO).below (unhide HX1)) ((unhide HR).below (unhide HX1)) hno) ?_); rintro e w2 ⟨rfl, hb2⟩; rw [unhide HV]; have HX2 := hide (Below.next (unhide HX1) hb2 (Nat.le_refl _)); clear hb2)
  go_ret
  exact ⟨rfl, unhide HX2⟩

set_option maxRecDepth 100000 in
set_option maxHeartbeats 4000000 in
theorem stopped_fault (w : World) (ao : Option Addr) (no co : Nat) (ar : Option Addr) (nr cr : Nat) (z k : Int) (us : List Sl) (os : List (List Int)) (rs : List Int) (hO : IsLL w (.slice ao no co) us os) (hR : IsL KI w (.slice ar nr cr) rs) (hbeg : ∀ W : World, Calls Try.prog 8 #[] W fun e w' => e = .returned (.bool true) ∧ Below W.heap.size W w') (hno : no ≤ 1000000000000000) (hv : vastB os rs = false) (fc fa : Int) (hf : heapF os rs = (fc, fa)) (hfc : fc ≠ 0) :
    Calls Try.prog 7 #[.agg #[.slice ao no co, .slice ar nr cr], .int .i64 z, .int .i64 k] w fun e w' => e = .returned (.bool true) ∧ Below w.heap.size w w' := by
  have HX := hide ((Below.refl w.heap.size w).alloc (Nat.le_refl _) (.cells #[.slice ao no co, .slice ar nr cr] 25))
  have HH := hide (new_block w (.cells #[.slice ao no co, .slice ar nr cr] 25))
  have HO := hide hO; have HR := hide hR; have HV := hide hv; have HBG := hide hbeg; have HF := hide hf
  have x2 : (fc != 0) = true := by simpa using hfc
  obtain ⟨W, eW⟩ : ∃ X, w.alloc (.cells #[.slice ao no co, .slice ar nr cr] 25) = X := ⟨_, rfl⟩
  rw [eW] at HX HH
  have HE := hide eW
  clear eW hO hR hv hbeg hf
  have hfl := fld0
  go_enter Try.func7, Try.ntmps7
  go_upto_region 1 with fail
  rw [unhide HE]
  clear HE
  go_upto_region 3 with (go_at_call 8; (with_reducible refine Calls.mono (unhide HBG _) ?_); rintro e w1 ⟨rfl, hb1⟩; have HX1 := hide (Below.next (unhide HX) hb1 (Nat.le_refl _)); have HH1 := hide (keep_below (unhide HH) hb1); clear hb1)
  obtain ⟨b0, b1, bf0, bf1, bl⟩ := block2 (unhide HH1)
  go_wp2_with (first | (go_at_call 9; (with_reducible refine Calls.mono (vastHeap_any _ ao no co ar nr cr us os rs ((unhide HO).below (unhide HX1)) ((unhide HR).below (unhide HX1)) hno) ?_); rintro e w2 ⟨rfl, hb2⟩; rw [unhide HV]; have HX2 := hide (Below.next (unhide HX1) hb2 (Nat.le_refl _)); have HH2 := hide (keep_below (unhide HH1) hb2); obtain ⟨g0, g1, gf0, gf1, gl⟩ := block2 (unhide HH2); clear hb2) | (go_at_call 13; (with_reducible refine Calls.mono (heapsFault_any _ ao no co ar nr cr us os rs ((unhide HO).below (unhide HX2)) ((unhide HR).below (unhide HX2))) ?_); rintro e w3 ⟨rfl, hb3⟩; rw [unhide HF]; have HX3 := hide (Below.next (unhide HX2) hb3 (Nat.le_refl _)); clear hb3))
  go_ret
  exact ⟨rfl, unhide HX3⟩

set_option maxRecDepth 100000 in
set_option maxHeartbeats 4000000 in
theorem stopped_out (w : World) (ao : Option Addr) (no co : Nat) (ar : Option Addr) (nr cr : Nat) (z k : Int) (us : List Sl) (os : List (List Int)) (rs : List Int) (hO : IsLL w (.slice ao no co) us os) (hR : IsL KI w (.slice ar nr cr) rs) (hbeg : ∀ W : World, Calls Try.prog 8 #[] W fun e w' => e = .returned (.bool true) ∧ Below W.heap.size W w') (hno : no ≤ 1000000000000000) (hv : vastB os rs = false) (hf : heapF os rs = (0, 0)) (hw : z < 0 ∨ 3 < z ∨ k < 0 ∨ 1000 < k) :
    Calls Try.prog 7 #[.agg #[.slice ao no co, .slice ar nr cr], .int .i64 z, .int .i64 k] w fun e w' => e = .returned (.bool true) ∧ Below w.heap.size w w' := by
  have HX := hide ((Below.refl w.heap.size w).alloc (Nat.le_refl _) (.cells #[.slice ao no co, .slice ar nr cr] 25))
  have HH := hide (new_block w (.cells #[.slice ao no co, .slice ar nr cr] 25))
  have HO := hide hO; have HR := hide hR; have HV := hide hv; have HBG := hide hbeg; have HF := hide hf
  have x2 : ((0 : Int) != 0) = false := by decide
  obtain ⟨W, eW⟩ : ∃ X, w.alloc (.cells #[.slice ao no co, .slice ar nr cr] 25) = X := ⟨_, rfl⟩
  rw [eW] at HX HH
  have HE := hide eW
  have HW := hide hw
  clear eW hO hR hv hbeg hf hw
  have hfl := fld0
  go_enter Try.func7, Try.ntmps7
  go_upto_region 1 with fail
  rw [unhide HE]
  clear HE
  go_upto_region 3 with (go_at_call 8; (with_reducible refine Calls.mono (unhide HBG _) ?_); rintro e w1 ⟨rfl, hb1⟩; have HX1 := hide (Below.next (unhide HX) hb1 (Nat.le_refl _)); have HH1 := hide (keep_below (unhide HH) hb1); clear hb1)
  obtain ⟨b0, b1, bf0, bf1, bl⟩ := block2 (unhide HH1)
  by_cases h1 : z < 0
  · go_wp2_with (first | (go_at_call 9; (with_reducible refine Calls.mono (vastHeap_any _ ao no co ar nr cr us os rs ((unhide HO).below (unhide HX1)) ((unhide HR).below (unhide HX1)) hno) ?_); rintro e w2 ⟨rfl, hb2⟩; rw [unhide HV]; have HX2 := hide (Below.next (unhide HX1) hb2 (Nat.le_refl _)); have HH2 := hide (keep_below (unhide HH1) hb2); obtain ⟨g0, g1, gf0, gf1, gl⟩ := block2 (unhide HH2); clear hb2) | (go_at_call 13; (with_reducible refine Calls.mono (heapsFault_any _ ao no co ar nr cr us os rs ((unhide HO).below (unhide HX2)) ((unhide HR).below (unhide HX2))) ?_); rintro e w3 ⟨rfl, hb3⟩; rw [unhide HF]; have HX3 := hide (Below.next (unhide HX2) hb3 (Nat.le_refl _)); clear hb3))
    go_ret
    exact ⟨rfl, unhide HX3⟩
  · by_cases h2 : 3 < z
    · go_wp2_with (first | (go_at_call 9; (with_reducible refine Calls.mono (vastHeap_any _ ao no co ar nr cr us os rs ((unhide HO).below (unhide HX1)) ((unhide HR).below (unhide HX1)) hno) ?_); rintro e w2 ⟨rfl, hb2⟩; rw [unhide HV]; have HX2 := hide (Below.next (unhide HX1) hb2 (Nat.le_refl _)); have HH2 := hide (keep_below (unhide HH1) hb2); obtain ⟨g0, g1, gf0, gf1, gl⟩ := block2 (unhide HH2); clear hb2) | (go_at_call 13; (with_reducible refine Calls.mono (heapsFault_any _ ao no co ar nr cr us os rs ((unhide HO).below (unhide HX2)) ((unhide HR).below (unhide HX2))) ?_); rintro e w3 ⟨rfl, hb3⟩; rw [unhide HF]; have HX3 := hide (Below.next (unhide HX2) hb3 (Nat.le_refl _)); clear hb3))
      go_ret
      exact ⟨rfl, unhide HX3⟩
    · by_cases h3 : k < 0
      · go_wp2_with (first | (go_at_call 9; (with_reducible refine Calls.mono (vastHeap_any _ ao no co ar nr cr us os rs ((unhide HO).below (unhide HX1)) ((unhide HR).below (unhide HX1)) hno) ?_); rintro e w2 ⟨rfl, hb2⟩; rw [unhide HV]; have HX2 := hide (Below.next (unhide HX1) hb2 (Nat.le_refl _)); have HH2 := hide (keep_below (unhide HH1) hb2); obtain ⟨g0, g1, gf0, gf1, gl⟩ := block2 (unhide HH2); clear hb2) | (go_at_call 13; (with_reducible refine Calls.mono (heapsFault_any _ ao no co ar nr cr us os rs ((unhide HO).below (unhide HX2)) ((unhide HR).below (unhide HX2))) ?_); rintro e w3 ⟨rfl, hb3⟩; rw [unhide HF]; have HX3 := hide (Below.next (unhide HX2) hb3 (Nat.le_refl _)); clear hb3))
        go_ret
        exact ⟨rfl, unhide HX3⟩
      · have h4 : 1000 < k := by have := unhide HW; omega
        go_wp2_with (first | (go_at_call 9; (with_reducible refine Calls.mono (vastHeap_any _ ao no co ar nr cr us os rs ((unhide HO).below (unhide HX1)) ((unhide HR).below (unhide HX1)) hno) ?_); rintro e w2 ⟨rfl, hb2⟩; rw [unhide HV]; have HX2 := hide (Below.next (unhide HX1) hb2 (Nat.le_refl _)); have HH2 := hide (keep_below (unhide HH1) hb2); obtain ⟨g0, g1, gf0, gf1, gl⟩ := block2 (unhide HH2); clear hb2) | (go_at_call 13; (with_reducible refine Calls.mono (heapsFault_any _ ao no co ar nr cr us os rs ((unhide HO).below (unhide HX2)) ((unhide HR).below (unhide HX2))) ?_); rintro e w3 ⟨rfl, hb3⟩; rw [unhide HF]; have HX3 := hide (Below.next (unhide HX2) hb3 (Nat.le_refl _)); clear hb3))
        go_ret
        exact ⟨rfl, unhide HX3⟩
end Go.Proofs.Ytmkehjncnaokoaa
