/-
  sweep.Cycle, whatever the acts, in a good heap.
-/
import Derived.Test.YtmkehjncnaokoaaCn
namespace Go.Proofs.Ytmkehjncnaokoaa
open Go.RowKit

theorem CyL.read {lo : Nat} {w w' : World} {lab : Nat → Nat} {cb : Nat} {z : Int} {b wb cw n bo co : Nat} {ar : Option Addr} {nr cr : Nat} {vl : Value} {g : Gm} (h : CyL lo w lab cb z b wb cw n bo co ar nr cr vl g) (hs : w.heap.size ≤ w'.heap.size) (hk : ∀ k, lo ≤ k → k < w.heap.size → w'.heap[k]? = w.heap[k]?) : ∃ us, IsLL w' (.slice (some ⟨bo, 0, none⟩) n co) us g.os ∧ IsL KI w' (.slice ar nr cr) g.rs := by
  have hn := h.hn
  have hc : ∀ i : Nat, ∃ u : Sl, i < n → w'.cell? ⟨bo, i, none⟩ = some (sl u) ∧ IsL KI w' (sl u) (g.os.getD i []) := fun i => by
    by_cases e : i < n
    · obtain ⟨a, k, h1, h2, _⟩ := h.row i e
      exact ⟨(a, (g.os.getD i []).length, k), fun _ => ⟨cell_of h1 (hk bo h.low.2 h.olt), (h2.keep hs (fun k q => hk k (h2.lt k q).1 (h2.lt k q).2)).isl⟩⟩
    · exact ⟨(none, 0, 0), fun q => absurd q e⟩
  obtain ⟨cf, hcf⟩ := Classical.axiomOfChoice hc
  have hu : ∀ i, i < n → uAt ((List.range n).map cf) i = cf i := fun i hi => by
    unfold uAt
    rw [List.getD_eq_getElem?_getD, List.getElem?_map, List.getElem?_range hi]
    rfl
  refine ⟨(List.range n).map cf, ⟨?_, by simp [hn], fun i hi => ?_⟩, (h.reg.keep hs (fun k q => hk k (h.reg.lt k q).1 (h.reg.lt k q).2)).isl⟩
  · refine Lies.isl kl (fun j i u hj hu2 => ?_) (by simp) h.ole
    have hjn : j < n := by simpa using hj
    have hi0 : i = 0 := by have := (List.getElem?_eq_some_iff.1 hu2).1; simpa [KL] using this
    subst hi0
    have e1 := (hcf j hjn).1
    rw [← hu j hjn] at e1
    have e2 : u = sl (uAt ((List.range n).map cf) j) := by
      have : (KL.f (((List.range n).map cf).getD j KL.d))[0]? = some (sl (uAt ((List.range n).map cf) j)) := rfl
      rw [this] at hu2
      exact (Option.some.inj hu2).symm
    rw [e2, show 0 + j * KL.k + 0 = j by show 0 + j * 1 + 0 = _; omega]
    exact e1
  · rw [hu i (by omega)]
    exact (hcf i (by omega)).2
/-- What Cycle answers. -/
def CycR (w w' : World) (e : Ending) (z : Int) (g : Gm) (acts : List Ac) (_nr : Nat) : Prop :=
  (∃ i, i < acts.length ∧ PreOk z g acts i ∧ wrongG (stG z g acts i) (acts.getD i ac0) ≠ 0 ∧ e = .returned (.tuple #[.agg #[.slice none 0 0, .slice none 0 0], .slice none 0 0, .agg #[.int .i64 (wrongG (stG z g acts i) (acts.getD i ac0)), .int .i64 (i : Int)]]) ∧ Below w.heap.size w w') ∨
  (PreOk z g acts acts.length ∧ ∃ (bo n co : Nat) (ar : Option Addr) (nr' cr : Nat) (us : List Sl) (s' : Mk) (a : Option Addr) (c : Nat), e = .returned (.tuple #[.agg #[.slice (some ⟨bo, 0, none⟩) n co, .slice ar nr' cr], .slice a ((List.range n).filter s'.wh).length c, .agg #[.int .i64 0, .int .i64 0]]) ∧ EndR z (stG z g acts acts.length).os (stG z g acts acts.length).rs (stG z g acts acts.length).mm s' ∧ (stG z g acts acts.length).os.length = n ∧ (stG z g acts acts.length).rs.length = nr' ∧ IsLL w' (.slice (some ⟨bo, 0, none⟩) n co) us (stG z g acts acts.length).os ∧ IsL KI w' (.slice ar nr' cr) (stG z g acts acts.length).rs ∧ OwnO w.heap.size w' (.slice a ((List.range n).filter s'.wh).length c) (ixL ((List.range n).filter s'.wh)) ∧ Below w.heap.size w w')

set_option maxRecDepth 100000 in
set_option maxHeartbeats 4000000 in
theorem cycle_any (w : World) (ao : Option Addr) (no co : Nat) (ar : Option Addr) (nr cr : Nat) (us : List Sl) (os : List (List Int)) (rs : List Int) (hO : IsLL w (.slice ao no co) us os) (hR : IsL KI w (.slice ar nr cr) rs) (hf : heapF os rs = (0, 0)) (z : Int) (hz0 : 0 ≤ z) (hz3 : z ≤ 3) (aa : Option Addr) (na ca : Nat) (acts : List Ac) (hA : IsL KA w (.slice aa na ca) acts) (hna : na ≤ 5000) :
    Calls Try.prog 19 #[.agg #[.slice ao no co, .slice ar nr cr], .int .i64 z, .slice aa na ca] w fun e w' => CycR w w' e z ⟨os, rs, shadeL ⟨fun _ => true, []⟩ rs⟩ acts nr := by
  have hg : GoodH os rs := heapF_good (by rw [hf])
  have hol : os.length = no := by rw [← hO.len]; exact hO.row.len
  have HWC : Hid (∀ W, Below w.heap.size w W → Calls Try.prog 29 #[.agg #[.slice ao no co, .slice ar nr cr], .int .i64 z, .slice aa na ca] W fun e w' => e = .returned (.agg #[.int .i64 0, .int .i64 0]) ∧ Below W.heap.size W w') := fun W hW => wrongCycle_ok W ao no co ar nr cr us os rs (hO.below hW) (hR.below hW) hf z hz0 hz3 _ na ca hna
  have HNC : Hid (∀ W, Below w.heap.size w W → Calls Try.prog 30 #[.agg #[.slice ao no co, .slice ar nr cr], .int .i64 z] W fun e w' => ∃ cb, e = .returned (.pointer (some ⟨cb, 0, none⟩)) ∧ CyX W.heap.size w' cb z ⟨os, rs, shadeL ⟨fun _ => true, []⟩ rs⟩ ∧ Below W.heap.size W w') := fun W hW => (newCycle_cy W ao no co ar nr cr z us os rs (hO.below hW) (hR.below hW) hg).mono fun _ _ ⟨cb, _, _, _, _, _, _, _, h1, h2, h3⟩ => ⟨cb, h1, CyX.of h2, h3⟩
  have HG := hide hg; have HOL := hide hol
  have hal := hA.len
  have HAL := hide hal
  have HAO := hide (hA.opens ka hal)
  obtain ⟨W3, e3, hx, hh, hq, hp⟩ := three_new w (.cells #[.slice ao no co, .slice ar nr cr] 25) (.cells #[.slice none 0 0, .slice none 0 0] 25) (.cells #[.int .i64 0, .int .i64 0] 30)
  have HX := hide hx; have HH := hide hh; have HQ := hide hq; have HP := hide hp; have HE := hide e3
  clear hx hh hq hp e3 hO hR hf hg hol hA hal
  go_enter Try.func19, Try.ntmps19
  go_upto_region 1 with fail
  rw [unhide HE]
  clear HE
  obtain ⟨b0, b1, bf0, bf1, bl⟩ := block2 (unhide HH)
  go_upto_region 2 with (go_at_call 29; (with_reducible refine Calls.mono (unhide HWC _ (unhide HX)) ?_); rintro e w4 ⟨rfl, hb4⟩; have HX4 := hide (Below.next (unhide HX) hb4 (Nat.le_refl _)); have HH4 := hide (keep_below (unhide HH) hb4); have HQ4 := hide (keep_below (unhide HQ) hb4); have HP4 := hide (keep_below (unhide HP) hb4); clear hb4)
  have HX5 := hide ((unhide HX4).alloc (unhide HX4).size (.cells #[.int .i64 0, .int .i64 0] 30)); have HH5 := hide (keep_alloc (unhide HH4) (.cells #[.int .i64 0, .int .i64 0] 30)); have HQ5 := hide (keep_alloc (unhide HQ4) (.cells #[.int .i64 0, .int .i64 0] 30)); have HP5 := hide (keep_alloc (unhide HP4) (.cells #[.int .i64 0, .int .i64 0] 30)); have HF5 := hide (new_block w4 (.cells #[.int .i64 0, .int .i64 0] 30))
  obtain ⟨F, eF⟩ : ∃ X, w4.heap.size = X := ⟨_, rfl⟩
  obtain ⟨W5, e5⟩ : ∃ X, w4.alloc (.cells #[.int .i64 0, .int .i64 0] 30) = X := ⟨_, rfl⟩
  rw [e5] at HX5 HH5 HQ5 HP5; rw [eF, e5] at HF5; rw [eF, e5]
  clear eF e5 HX HH HQ HP HX4 HH4 HQ4 HP4 HWC b0 b1 bf0 bf1 bl
  obtain ⟨g0, g1, gf0, gf1, gl⟩ := block2 (unhide HF5)
  obtain ⟨b0, b1, bf0, bf1, bl⟩ := block2 (unhide HH5)
  go_upto_region 5 with (go_at_call 30; (with_reducible refine Calls.mono (unhide HNC _ (unhide HX5)) ?_); rintro e w6 ⟨cb, rfl, hc6, hb6⟩; have HC6 := hide hc6; have HX6 := hide (Below.next (unhide HX5) hb6 (Nat.le_refl _)); have HQ6 := hide (keep_below (unhide HQ5) hb6); have HP6 := hide (keep_below (unhide HP5) hb6); have hs6 := hb6.size; clear hc6 hb6)
  have hq5 := size_of (unhide HQ5); have hp5 := size_of (unhide HP5)
  have hk6 : LnOk no (shadeL ⟨fun _ => true, []⟩ rs) := LnOk.shade ⟨fun x hx => (by cases hx), by
    have h_ : cntW no ⟨fun _ => true, []⟩ ≤ no := by
      unfold cntW
      have := List.length_filter_le (fun _ => true) (List.range no)
      rwa [List.length_range] at this
    have := (unhide HG).no
    rw [unhide HOL] at this
    show _ + 0 ≤ 2000
    omega⟩ (by rw [← unhide HOL]; exact (unhide HG).ro)
  have HG0 : Hid (GoodG ⟨os, rs, shadeL ⟨fun _ => true, []⟩ rs⟩) := ⟨unhide HG, by have h_ := hk6; rwa [← unhide HOL] at h_⟩
  clear hk6 HNC HH5 HF5 g0 g1 gf0 gf1 gl b0 b1 bf0 bf1 bl
  go_wp2_with fail
  go_loopw [28] (fun s28 wr => ∃ (i : Nat), i ≤ na ∧ s28 = .int .i64 (i : Int) ∧ Hid (CyX W5.heap.size wr cb z (stG z ⟨os, rs, shadeL ⟨fun _ => true, []⟩ rs⟩ acts i)) ∧ Hid (PreOk z ⟨os, rs, shadeL ⟨fun _ => true, []⟩ rs⟩ acts i) ∧ Hid (Below w.heap.size w wr) ∧ Hid (wr.heap[w.heap.size + 1]? = some (.cells #[.slice none 0 0, .slice none 0 0] 25 (0, 0))) ∧ Hid (wr.heap[w.heap.size + 1 + 1]? = some (.cells #[.int .i64 0, .int .i64 0] 30 (0, 0)))) (fun s28 _ => na - (intOf s28).toNat)
  case atStart => exact ⟨0, Nat.zero_le _, rfl, HC6, hide (fun j hj => absurd hj (Nat.not_lt_zero _)), HX6, HQ6, HP6⟩
  case round =>
    obtain ⟨i, hi, rfl, HCi, HPRi, HXi, HQi, HPi⟩ := hrel
    clear HC6 HX6 HQ6 HP6
    obtain ⟨lab, b, wb, cw, n, bo, cO, aR, nR, cR, vl, hcy⟩ := unhide HCi
    have HCY := hide hcy
    have HGi := hide (good_st (unhide HG0) i (by rw [unhide HAL]; exact hi) (unhide HPRi))
    clear hcy HCi
    obtain ⟨gi, egi⟩ : ∃ X, stG z ⟨os, rs, shadeL ⟨fun _ => true, []⟩ rs⟩ acts i = X := ⟨_, rfl⟩
    have HEG := hide egi
    rw [egi] at HCY HGi
    clear egi
    by_cases hin : i < na
    · have i6 : (0 : Int) ≤ (i : Int) := by omega
      have i7 : (i : Int) < (na : Int) := by omega
      have hw1 : IntKind.i64.wrap ((i : Int) + 1) = (i : Int) + 1 := wrapi (by omega) (by omega)
      obtain ⟨ab, ao2, rfl, hab, hli⟩ := unhide HAO (by omega)
      obtain ⟨⟨xo, xa, xb, xc⟩, hx⟩ : ∃ x, acts.getD i ac0 = x := ⟨_, rfl⟩
      obtain ⟨a0, a1', a2, a3⟩ := (hli.below (unhide HXi) hab).acts (j := i) (by rw [unhide HAL]; exact hin) hx
      have HXA := hide hx
      clear hx
      clear hli
      go_upto_region 8 with fail
      have HB8 : Hid (Below wr.heap.size wr (wr.alloc (.cells #[.int .i64 xo, .int .i64 xa, .int .i64 xb, .int .i64 xc] 47))) := (Below.refl _ _).alloc (Nat.le_refl _) _
      have HA8 := hide (new_block wr (.cells #[.int .i64 xo, .int .i64 xa, .int .i64 xb, .int .i64 xc] 47))
      obtain ⟨AC, eA⟩ : ∃ X, wr.heap.size = X := ⟨_, rfl⟩
      obtain ⟨W8, e8⟩ : ∃ X, wr.alloc (.cells #[.int .i64 xo, .int .i64 xa, .int .i64 xb, .int .i64 xc] 47) = X := ⟨_, rfl⟩
      rw [e8] at HB8; rw [eA, e8] at HA8; rw [eA, e8]
      clear e8 a0 a1' a2 a3
      obtain ⟨⟨a0, a1', a2, a3⟩, ⟨af0, af1, af2, af3⟩, al⟩ := block4 (unhide HA8)
      obtain ⟨cc, ecc⟩ : ∃ c, wrongG gi ⟨xo, xa, xb, xc⟩ = c := ⟨_, rfl⟩
      have hwr := wrong_any W8 ((unhide HCY).keep (unhide HB8)) (unhide HGi) ⟨xo, xa, xb, xc⟩
      rw [ecc] at hwr
      have HWR := hide hwr; have HEC := hide ecc
      clear hwr ecc
      by_cases hcc : cc = 0
      · subst hcc
        go_upto_region 9 with (go_at_call 31; (with_reducible refine Calls.mono (unhide HWR) ?_); rintro e w9 ⟨rfl, hb9⟩; have HB9 := hide (Below.next (unhide HB8) hb9 (Nat.le_refl _)); have HA9 := hide (keep_below (unhide HA8) hb9); clear hb9)
        clear a0 a1' a2 a3 af0 af1 af2 af3 al HA8
        obtain ⟨⟨a0, a1', a2, a3⟩, ⟨af0, af1, af2, af3⟩, al⟩ := block4 (unhide HA9)
        have HDO := hide (do_all ((unhide HCY).keep (unhide HB9)) hz0 hz3 (unhide HGi) ⟨xo, xa, xb, xc⟩ (unhide HEC))
        go_wp2_with (go_at_call 32; (with_reducible refine Calls.mono (unhide HDO) ?_); rintro e w10 ⟨rfl, hc10, hb10⟩; have HC10 := hide hc10; have HX10 := hide ((unhide HXi).trans (((unhide HB9).mono (unhide HXi).size).trans (hb10.mono (unhide HX5).size))); have HQ10 := hide ((hb10.block (w.heap.size + 1) hq5).trans (keep_below (unhide HQi) (unhide HB9))); have HP10 := hide ((hb10.block (w.heap.size + 1 + 1) hp5).trans (keep_below (unhide HPi) (unhide HB9))); clear hc10 hb10)
        have hsu := stG_succ (z := z) (g := ⟨os, rs, shadeL ⟨fun _ => true, []⟩ rs⟩) (acts := acts) (i := i) (by rw [unhide HAL]; exact hin)
        rw [unhide HEG, unhide HXA] at hsu
        have HPR2 : Hid (PreOk z ⟨os, rs, shadeL ⟨fun _ => true, []⟩ rs⟩ acts (i + 1)) := hide (fun j hj => by
          by_cases e : j = i
          · rw [e, unhide HEG, unhide HXA]; exact unhide HEC
          · exact unhide HPRi j (by omega))
        have HC11 : Hid (CyX W5.heap.size w10 cb z (stG z ⟨os, rs, shadeL ⟨fun _ => true, []⟩ rs⟩ acts (i + 1))) := by rw [hsu]; exact unhide HC10
        clear hsu HC10
        go_roundw
        case rel => exact ⟨i + 1, by omega, by go_num, HC11, HPR2, HX10, HQ10, HP10⟩
        case measure => simp [intOf]; omega
      · have xz : (cc == 0) = false := by simpa using hcc
        have xz2 : (cc != 0) = true := by simpa using hcc
        obtain ⟨p0, p1, pf0, pf1, pl⟩ := block2 (unhide HPi)
        obtain ⟨r0, r1, rf0, rf1, rl⟩ := block2 (unhide HQi)
        have HCC := hide hcc
        clear hcc
        go_upto_region 9 with (go_at_call 31; (with_reducible refine Calls.mono (unhide HWR) ?_); rintro e w9 ⟨rfl, hb9⟩; have HB9 := hide (Below.next (unhide HB8) hb9 (Nat.le_refl _)); have HA9 := hide (keep_below (unhide HA8) hb9); clear hb9)
        clear p0 p1 pf0 pf1 pl r0 r1 rf0 rf1 rl a0 a1' a2 a3 af0 af1 af2 af3 al HA8
        have HP9 := hide (keep_below (unhide HPi) (unhide HB9)); have HQ9 := hide (keep_below (unhide HQi) (unhide HB9))
        have HX9 := hide (Below.next (unhide HXi) (unhide HB9) (Nat.le_refl _))
        obtain ⟨p0, p1, pf0, pf1, pl⟩ := block2 (unhide HP9)
        obtain ⟨r0, r1, rf0, rf1, rl⟩ := block2 (unhide HQ9)
        go_wp2_with fail
        have hne2 : w.heap.size + 1 ≠ w.heap.size + 1 + 1 := by omega
        have hh2 : (put2 (put2 w9 (w.heap.size + 1) (.slice none 0 0) (.slice none 0 0)) (w.heap.size + 1 + 1) (.int .i64 cc) (.int .i64 (i : Int))).heap[w.heap.size + 1]? = some (.cells #[.slice none 0 0, .slice none 0 0] 25 (0, 0)) := (put2_keep hne2).trans (put2_new (unhide HQ9))
        have hf2 : (put2 (put2 w9 (w.heap.size + 1) (.slice none 0 0) (.slice none 0 0)) (w.heap.size + 1 + 1) (.int .i64 cc) (.int .i64 (i : Int))).heap[w.heap.size + 1 + 1]? = some (.cells #[.int .i64 cc, .int .i64 (i : Int)] 30 (0, 0)) := put2_new ((put2_keep (Ne.symm hne2)).trans (unhide HP9))
        have hbx : Below w.heap.size w (put2 (put2 w9 (w.heap.size + 1) (.slice none 0 0) (.slice none 0 0)) (w.heap.size + 1 + 1) (.int .i64 cc) (.int .i64 (i : Int))) := put2_below (put2_below (unhide HX9) (by omega)) (by omega)
        obtain ⟨z0, z1, _, _, _⟩ := block2 hh2
        obtain ⟨y0, y1, _, _, _⟩ := block2 hf2
        unfold put2 at z0 z1 y0 y1 hbx
        refine bodyPost_ret (v := .tuple #[.agg #[.slice none 0 0, .slice none 0 0], .slice none 0 0, .agg #[.int .i64 cc, .int .i64 (i : Int)]]) (by simp [results, Try.results19, go_sem, z0, z1, y0, y1]) rfl (Or.inl ⟨i, by rw [unhide HAL]; exact hin, unhide HPRi, ?_, ?_, hbx⟩)
        · rw [unhide HEG, unhide HXA, unhide HEC]; exact unhide HCC
        · rw [unhide HEG, unhide HXA, unhide HEC]
    · obtain rfl : i = na := by omega
      have i7 : ¬ (i : Int) < (i : Int) := by omega
      have HEN := hide (end_gen (unhide HCY) (unhide HGi))
      go_upto_region 14 with (go_at_call 33; (with_reducible refine Calls.mono (unhide HEN) ?_); rintro e w10 ⟨rfl, s', lab', vl', he10, hc10, hb10⟩; have HE10 := hide he10; have HC10 := hide hc10; have HX10 := hide ((unhide HXi).trans (hb10.mono (unhide HX5).size)); have HQ10 := hide ((hb10.block (w.heap.size + 1) hq5).trans (unhide HQi)); have HP10 := hide ((hb10.block (w.heap.size + 1 + 1) hp5).trans (unhide HPi)); clear he10 hc10 hb10)
      have hc_ := unhide HC10
      have hne : w.heap.size + 1 ≠ w.heap.size + 1 + 1 ∧ w.heap.size + 1 ≠ cb ∧ w.heap.size + 1 ≠ b ∧ w.heap.size + 1 + 1 ≠ cb ∧ w.heap.size + 1 + 1 ≠ b := by
        refine ⟨by omega, fun q => ?_, fun q => ?_, fun q => ?_, fun q => ?_⟩
        · have h_ := unhide HQ10; rw [q, hc_.cyc] at h_; cases h_
        · have h_ := unhide HQ10; rw [q, hc_.mka.blk] at h_; cases h_
        · have h_ := unhide HP10; rw [q, hc_.cyc] at h_; cases h_
        · have h_ := unhide HP10; rw [q, hc_.mka.blk] at h_; cases h_
      have hno : n ≤ 500 := by rw [← (unhide HCY).hn]; exact (unhide HGi).gh.no
      have HNE := hide hne
      clear hc_
      refine cycle_14 w10 w.heap.size cb b (w.heap.size + 1) (w.heap.size + 1 + 1) z (some ⟨bo, 0, none⟩) n cO aR nR cR _ _ ((List.range n).filter s'.wh).length (ixL ((List.range n).filter s'.wh)) (unhide HC10).cyc (unhide HC10).mka.blk (unhide HQ10) (unhide HP10) hne ⟨by omega, by omega, (unhide HX10).size⟩ (fun W hW => whites_any W W5.heap.size b n (.slice (some ⟨bo, 0, none⟩) n cO) (.slice aR nR cR) wb vl' s' ((unhide HC10).mka.below hW) (by omega)) _ _ _ (by kernel_rfl) ?_
      intro s48 s49 s50 s51 s52 s53 s54 s55 s56 s57 s58 s59 s60 a12 c12 W12 hb12 hh12 hf12 ho12 hk12
      have HO12 := hide ho12; have HB12 := hide hb12
      have hsz12 : w10.heap.size ≤ W12.heap.size := by
        rcases Nat.lt_or_ge W12.heap.size w10.heap.size with q | q
        · exfalso
          have hn : W12.heap[W12.heap.size]? = none := by simp
          by_cases e1 : W12.heap.size = w.heap.size + 1
          · rw [← e1] at hh12; rw [hn] at hh12; cases hh12
          · by_cases e2 : W12.heap.size = w.heap.size + 1 + 1
            · rw [← e2] at hf12; rw [hn] at hf12; cases hf12
            · have h_ := hk12 W12.heap.size q e1 e2
              rw [hn, Array.getElem?_eq_getElem q] at h_
              cases h_
        · exact q
      obtain ⟨us', hll, hrr⟩ := (unhide HC10).read hsz12 (fun k h1 h2 => hk12 k h2 (by have := hs6; omega) (by omega))
      have HLL := hide hll; have HTT := hide hrr
      obtain ⟨b0, b1, bf0, bf1, bl⟩ := block2 hh12
      obtain ⟨g0, g1, gf0, gf1, gl⟩ := block2 hf12
      clear hb12 hh12 hf12 ho12 hk12 hll hrr
      go_wp2_with fail
      refine bodyPost_ret (v := .tuple #[.agg #[.slice (some ⟨bo, 0, none⟩) n cO, .slice aR nR cR], .slice a12 ((List.range n).filter s'.wh).length c12, .agg #[.int .i64 0, .int .i64 0]]) (by simp [results, Try.results19, go_sem, b0, b1, g0, g1]) rfl ?_
      refine Or.inr ⟨by rw [unhide HAL]; exact unhide HPRi, bo, n, cO, aR, nR, cR, us', s', a12, c12, rfl, ?_⟩
      rw [unhide HAL, unhide HEG]
      exact ⟨unhide HE10, (unhide HCY).hn, (unhide HCY).hr, unhide HLL, unhide HTT, (unhide HO12).low (unhide HX10).size, (unhide HX10).trans (unhide HB12)⟩
end Go.Proofs.Ytmkehjncnaokoaa
