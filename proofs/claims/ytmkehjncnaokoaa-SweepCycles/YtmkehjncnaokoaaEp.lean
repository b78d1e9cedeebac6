/-
  taskmillref.Cycled, whole.
-/
import Derived.Test.YtmkehjncnaokoaaEo
namespace Go.Proofs.Ytmkehjncnaokoaa
open Go.RowKit

/-- What Cycled answers. -/
def CycQ (w w' : World) (e : Ending) (z : Int) (g : Gm) (acts : List Ac) : Prop :=
  (∃ i, i < acts.length ∧ PreOk z g acts i ∧ wrongG (stG z g acts i) (acts.getD i ac0) ≠ 0 ∧ e = .returned (.tuple #[.agg #[.slice none 0 0, .slice none 0 0], .slice none 0 0, .agg #[.int .i64 (wrongG (stG z g acts i) (acts.getD i ac0)), .int .i64 (i : Int)]]) ∧ Below w.heap.size w w') ∨
  (PreOk z g acts acts.length ∧ ∃ (oa : Option Addr) (n co : Nat) (ar : Option Addr) (nr' cr : Nat) (s' : Mk) (a : Option Addr) (c : Nat), e = .returned (.tuple #[.agg #[.slice oa n co, .slice ar nr' cr], .slice a ((List.range n).filter s'.wh).length c, .agg #[.int .i64 0, .int .i64 0]]) ∧ EndR z (stG z g acts acts.length).os (stG z g acts acts.length).rs (stG z g acts acts.length).mm s' ∧ (stG z g acts acts.length).os.length = n ∧ (stG z g acts acts.length).rs.length = nr' ∧ (∀ w2 : World, w'.heap.size ≤ w2.heap.size → (∀ k, w.heap.size ≤ k → k < w'.heap.size → w2.heap[k]? = w'.heap[k]?) → ∃ us, IsLL w2 (.slice oa n co) us (stG z g acts acts.length).os ∧ IsL KI w2 (.slice ar nr' cr) (stG z g acts acts.length).rs) ∧ OwnO w.heap.size w' (.slice a ((List.range n).filter s'.wh).length c) (ixL ((List.range n).filter s'.wh)) ∧ Below w.heap.size w w')

set_option maxRecDepth 100000 in
set_option maxHeartbeats 8000000 in
theorem cycled_any (w : World) (ao : Option Addr) (no co : Nat) (ar : Option Addr) (nr cr : Nat) (us : List Sl) (os : List (List Int)) (rs : List Int) (hO : IsLL w (.slice ao no co) us os) (hR : IsL KI w (.slice ar nr cr) rs) (hg : GoodH os rs) (z : Int) (hz0 : 0 ≤ z) (hz3 : z ≤ 3) (aa : Option Addr) (na ca : Nat) (acts : List Ac) (hA : IsL KA w (.slice aa na ca) acts) (hna : na ≤ 5000) :
    Calls Try.prog 21 #[.agg #[.slice ao no co, .slice ar nr cr], .int .i64 z, .slice aa na ca] w fun e w' => CycQ w w' e z ⟨os, rs, shadeL ⟨fun _ => true, []⟩ rs⟩ acts := by
  have hol : os.length = no := by rw [← hO.len]; exact hO.row.len
  have hrn := hR.len
  have hno : no ≤ 500 := by rw [← hol]; exact hg.no
  have hnr : nr ≤ 16 := by rw [← hrn]; exact hg.nr
  obtain ⟨A, hAL, hmk⟩ := make_bools no (by omega)
  have HMK := hide hmk; have HAL2 := hide hAL
  have HG := hide hg; have HOL := hide hol; have HRN := hide hrn
  have hal := hA.len
  have HAL := hide hal
  have HAO := hide (hA.opens ka hal)
  obtain ⟨W3, e3, hx, hh, hq, hp⟩ := three_new w (.cells #[.slice ao no co, .slice ar nr cr] 25) (.cells #[.slice none 0 0, .slice none 0 0] 25) (.cells #[.int .i64 0, .int .i64 0] 30)
  have hp3 := size_of hp
  have HX := hide hx; have HH := hide hh; have HQ := hide hq; have HP := hide hp; have HE := hide e3
  have HO := hide hO; have HR := hide hR
  clear hx hh hq hp e3 hO hR hg hol hA hal hmk hAL hrn
  go_enter Try.func21, Try.ntmps21
  go_upto_region 1 with fail
  rw [unhide HE]
  clear HE
  refine cycled_1 W3 w.heap.size ao no co ar nr cr z (.slice aa na ca) rs (unhide HH) ((unhide HR).below (unhide HX)) hnr A (unhide HMK) _ _ _ (by kernel_rfl) ?_
  intro s13 s14 s15 s16 s17 s18 s19 s20 s21 s22 b wb a1 c1 W4 hb4 hb hwb hne hor hBB hWB hOR
  have HB4 : Hid (Below W3.heap.size W3 W4) := hb4
  have HP4 : Hid (∃ lab oa co', RfP W3.heap.size W4 lab b oa 0 co' a1 nr c1 wb no A os rs) := ⟨_, _, _, RfP.first (unhide HRN) hBB hWB hOR.o ⟨hb, hwb⟩ hne hor⟩
  clear hb4 hor hBB hWB hOR HMK
  go_wp2_with fail
  go_loopw [10] (fun s10 wr => ∃ i : Nat, i ≤ no ∧ s10 = .int .i64 (i : Int) ∧ Hid (∃ lab oa co', RfP W3.heap.size wr lab b oa i co' a1 nr c1 wb no A os rs) ∧ Hid (Below W3.heap.size W3 wr)) (fun s10 _ => no - (intOf s10).toNat)
  case atStart => exact ⟨0, Nat.zero_le _, rfl, HP4, HB4⟩
  case round =>
    obtain ⟨i, hi, rfl, HPi, HBi⟩ := hrel
    clear HP4 HB4
    have HXi := hide (Below.next (unhide HX) (unhide HBi) (Nat.le_refl _))
    have HHi := hide (keep_below (unhide HH) (unhide HBi))
    obtain ⟨b0, b1, bf0, bf1, bl⟩ := block2 (unhide HHi)
    by_cases hin : i < no
    · have i6 : (0 : Int) ≤ (i : Int) := by omega
      have i7 : (i : Int) < (no : Int) := by omega
      have hw1 : IntKind.i64.wrap ((i : Int) + 1) = (i : Int) + 1 := wrapi (by omega) (by omega)
      have hko : i < os.length := by rw [unhide HOL]; exact hin
      obtain ⟨ab, cb, hub, hrow⟩ := (unhide HO).at hko
      obtain ⟨ob, oo, rfl, hob, hli⟩ := (unhide HO).row.opens kl (unhide HO).row.len (by omega)
      have k0 := (hli.below (unhide HXi) hob).sls (j := i) (by rw [(unhide HO).row.len]; exact hin)
      rw [hub] at k0
      have hml : (os.getD i []).length ≤ 20 := (unhide HG).ns i hko
      have hrow2 := hrow.below (unhide HXi)
      obtain ⟨m, em⟩ : ∃ X, (os.getD i []).length = X := ⟨_, rfl⟩
      rw [em] at k0 hrow2 hml
      change wr.cell? ⟨ob, oo + i, none⟩ = some (.slice ab m cb) at k0
      have HK0 := hide k0; have HRW := hide hrow2; have HEM := hide em; have HOB := hide hob
      clear hub hrow hli em hko hob k0 hrow2
      obtain ⟨lab, oa, co', hpi⟩ := unhide HPi
      have HPI := hide hpi
      clear hpi HPi
      go_upto_region 5 with fail
      refine row_5 wr w.heap.size ob oo no co i b ab m cb (.slice ar nr cr) oa co' (.slice a1 nr c1) (.slice (some ⟨wb, 0, none⟩) no no) (.slice none 0 0) (rowsV wr oa i) (os.getD i []) W3.heap.size (unhide HHi) (unhide HK0) (unhide HRW) (unhide HEM) (by omega) hin (unhide HPI).blk (by
        rcases (unhide HPI).obj with q | ⟨bo, q1, q2, q3, q4, _⟩
        · exact Or.inl q
        · exact Or.inr ⟨bo, q1, q2, q3, q4⟩) (by unfold rowsV; simp) (unhide HPI).cells (unhide HPI).low.1 (fun g e => ((unhide HPI).olo e).2.2.2.1) (fun g e e2 => by have h1_ := ((unhide HPI).olo e).2.2.2.2; have h2_ := (unhide HPI).lbs.1; rw [← e2] at h1_; omega) (by omega) (Nat.lt_of_lt_of_le (unhide HOB) (unhide HX).size) (Nat.lt_of_lt_of_le (unhide HOB) (unhide HXi).size) (by omega) _ _ (by kernel_rfl) ?_
      intro s30 s31 s32 s33 s34 s35 s36 s37 s38 s39 s40 s41 s42 s43 s44 s45 s46 a5 c5 g4 c4 W5 hra
      have hmo := (unhide HPI).more (unhide HEM) hra
      have HP5 : Hid (∃ lab oa co', RfP W3.heap.size W5 lab b oa (i + 1) co' a1 nr c1 wb no A os rs) := by
        obtain ⟨lab', q⟩ := hmo.1
        exact ⟨lab', _, _, q⟩
      have HB5 := hide ((unhide HBi).trans hmo.2)
      clear hmo hra HPI HRW HK0 b0 b1 bf0 bf1 bl
      go_wp2_with fail
      go_roundw
      case rel => exact ⟨i + 1, by omega, by go_num, HP5, HB5⟩
      case measure => simp [intOf]; omega
    · obtain rfl : i = no := by omega
      have i7 : ¬ (i : Int) < (i : Int) := by omega
      obtain ⟨lab, oa, co', hpi⟩ := unhide HPi
      have hk0 : LnOk i ⟨fun _ => true, []⟩ := ⟨fun x hx => (by cases hx), by
        have h_ : cntW i ⟨fun _ => true, []⟩ ≤ i := by
          unfold cntW
          have := List.length_filter_le (fun _ => true) (List.range i)
          rwa [List.length_range] at this
        show _ + 0 ≤ 2000
        omega⟩
      have hn0 : NodG ⟨fun _ => true, []⟩ := ⟨List.nodup_nil, fun x hx => by cases hx⟩
      have hro : ∀ o ∈ rs, -1 ≤ o ∧ o < (i : Int) := by rw [← unhide HOL]; exact (unhide HG).ro
      have HRT := hide (roots_any (hpi.done (unhide HOL) (unhide HAL2)) hro hnr hn0 hk0)
      have hk6 : LnOk i (shadeL ⟨fun _ => true, []⟩ rs) := hk0.shade hro
      have HG0 : Hid (GoodG ⟨os, rs, shadeL ⟨fun _ => true, []⟩ rs⟩) := ⟨unhide HG, by have h_ := hk6; rwa [← unhide HOL] at h_⟩
      have HN0 : Hid (NodG (shadeL ⟨fun _ => true, []⟩ rs)) := hn0.shadeL rs
      clear hpi HPi hk0 hn0 hro hk6 HAL2
      go_upto_region 7 with (go_at_call 34; (with_reducible refine Calls.mono (unhide HRT) ?_); rintro e w5 ⟨rfl, h5, _, hb5⟩; have HR5 := hide h5.x; have HB5 := hide ((unhide HBi).trans hb5); clear h5 hb5)
      clear b0 b1 bf0 bf1 bl HRT HHi HXi HBi
      go_wp2_with fail
      go_loopw [11] (fun s11 wr => ∃ (j : Nat), j ≤ na ∧ s11 = .int .i64 (j : Int) ∧ Hid (RfX W3.heap.size wr b (stG z ⟨os, rs, shadeL ⟨fun _ => true, []⟩ rs⟩ acts j)) ∧ Hid (PreOk z ⟨os, rs, shadeL ⟨fun _ => true, []⟩ rs⟩ acts j) ∧ Hid (Below W3.heap.size W3 wr)) (fun s11 _ => na - (intOf s11).toNat)
      case atStart => exact ⟨0, Nat.zero_le _, rfl, HR5, hide (fun j hj => absurd hj (Nat.not_lt_zero _)), HB5⟩
      case round =>
        obtain ⟨j, hj, rfl, HRj, HPRj, HBj⟩ := hrel
        clear HR5 HB5
        have HXj := hide (Below.next (unhide HX) (unhide HBj) (Nat.le_refl _))
        have HGj := hide (good_st (unhide HG0) j (by rw [unhide HAL]; exact hj) (unhide HPRj))
        have HNj : Hid (NodG (stG z ⟨os, rs, shadeL ⟨fun _ => true, []⟩ rs⟩ acts j).mm) := nodG_st (g := ⟨os, rs, shadeL ⟨fun _ => true, []⟩ rs⟩) (unhide HN0) j (by rw [unhide HAL]; exact hj)
        obtain ⟨lab, oa, n, cO, aR, nR, cR, wB, cw, vl, hrf⟩ := unhide HRj
        obtain ⟨gj, egj⟩ : ∃ X, stG z ⟨os, rs, shadeL ⟨fun _ => true, []⟩ rs⟩ acts j = X := ⟨_, rfl⟩
        rw [egj] at hrf HGj HNj
        have HEG := hide egj; have HRF := hide hrf
        clear egj hrf HRj
        by_cases hjn : j < na
        · have i6 : (0 : Int) ≤ (j : Int) := by omega
          have i7 : (j : Int) < (na : Int) := by omega
          have hw1 : IntKind.i64.wrap ((j : Int) + 1) = (j : Int) + 1 := wrapi (by omega) (by omega)
          obtain ⟨ab, ao2, rfl, hab, hli⟩ := unhide HAO (by omega)
          obtain ⟨⟨xo, xa, xb, xc⟩, hx⟩ : ∃ x, acts.getD j ac0 = x := ⟨_, rfl⟩
          obtain ⟨a0, a1', a2, a3⟩ := (hli.below (unhide HXj) hab).acts (j := j) (by rw [unhide HAL]; exact hjn) hx
          have HXA := hide hx
          clear hx hli hab
          obtain ⟨cc, ecc⟩ : ∃ c, wrongG gj ⟨xo, xa, xb, xc⟩ = c := ⟨_, rfl⟩
          have hac := act_any (unhide HRF) (unhide HGj) (unhide HNj) ⟨xo, xa, xb, xc⟩ z hz0 hz3
          rw [ecc] at hac
          have HEC := hide ecc
          clear ecc
          by_cases hcc : cc = 0
          · subst hcc
            rw [if_pos rfl] at hac
            have HAC := hide hac
            clear hac
            go_upto_region 11 with (go_at_call 35; (with_reducible refine Calls.mono (unhide HAC) ?_); rintro e w9 ⟨rfl, hx9, hb9⟩; have HX9 := hide hx9; have HB9 := hide ((unhide HBj).trans hb9); clear hx9 hb9)
            clear a0 a1' a2 a3
            go_wp2_with fail
            have hsu := stG_succ (z := z) (g := ⟨os, rs, shadeL ⟨fun _ => true, []⟩ rs⟩) (acts := acts) (i := j) (by rw [unhide HAL]; exact hjn)
            rw [unhide HEG, unhide HXA] at hsu
            have HPR2 : Hid (PreOk z ⟨os, rs, shadeL ⟨fun _ => true, []⟩ rs⟩ acts (j + 1)) := hide (fun q hq => by
              by_cases e : q = j
              · rw [e, unhide HEG, unhide HXA]; exact unhide HEC
              · exact unhide HPRj q (by omega))
            have HX11 : Hid (RfX W3.heap.size w9 b (stG z ⟨os, rs, shadeL ⟨fun _ => true, []⟩ rs⟩ acts (j + 1))) := by rw [hsu]; exact unhide HX9
            clear hsu HX9 HAC
            go_roundw
            case rel => exact ⟨j + 1, by omega, by go_num, HX11, HPR2, HB9⟩
            case measure => simp [intOf]; omega
          · have xz2 : (cc != 0) = true := by simpa using hcc
            rw [if_neg hcc] at hac
            have HAC := hide hac
            clear hac
            have HCC := hide hcc
            clear hcc
            go_upto_region 12 with (go_at_call 35; (with_reducible refine Calls.mono (unhide HAC) ?_); rintro e w9 ⟨rfl, _, hb9⟩; have HB9 := hide ((unhide HBj).trans hb9); clear hb9)
            clear a0 a1' a2 a3
            have HX9 := hide (Below.next (unhide HX) (unhide HB9) (Nat.le_refl _))
            have HQ9 := hide (keep_below (unhide HQ) (unhide HB9)); have HP9 := hide (keep_below (unhide HP) (unhide HB9))
            obtain ⟨p0, p1, pf0, pf1, pl⟩ := block2 (unhide HP9)
            obtain ⟨r0, r1, rf0, rf1, rl⟩ := block2 (unhide HQ9)
            go_wp2_with (go_at_call 20; (with_reducible refine Calls.mono (F_any _ _ _) ?_); rintro e w10 ⟨rfl, hb10⟩; have HX10 := hide (Below.next (unhide HX9) hb10 (Nat.le_refl _)); have HQ10 := hide (keep_below (unhide HQ9) hb10); have HP10 := hide (keep_below (unhide HP9) hb10); clear hb10 p0 p1 pf0 pf1 pl r0 r1 rf0 rf1 rl; obtain ⟨p0, p1, pf0, pf1, pl⟩ := block2 (unhide HP10); obtain ⟨r0, r1, rf0, rf1, rl⟩ := block2 (unhide HQ10))
            have hne2 : w.heap.size + 1 ≠ w.heap.size + 1 + 1 := by omega
            have hh2 : (put2 (put2 w10 (w.heap.size + 1) (.slice none 0 0) (.slice none 0 0)) (w.heap.size + 1 + 1) (.int .i64 cc) (.int .i64 (j : Int))).heap[w.heap.size + 1]? = some (.cells #[.slice none 0 0, .slice none 0 0] 25 (0, 0)) := (put2_keep hne2).trans (put2_new (unhide HQ10))
            have hf2 : (put2 (put2 w10 (w.heap.size + 1) (.slice none 0 0) (.slice none 0 0)) (w.heap.size + 1 + 1) (.int .i64 cc) (.int .i64 (j : Int))).heap[w.heap.size + 1 + 1]? = some (.cells #[.int .i64 cc, .int .i64 (j : Int)] 30 (0, 0)) := put2_new ((put2_keep (Ne.symm hne2)).trans (unhide HP10))
            have hbx : Below w.heap.size w (put2 (put2 w10 (w.heap.size + 1) (.slice none 0 0) (.slice none 0 0)) (w.heap.size + 1 + 1) (.int .i64 cc) (.int .i64 (j : Int))) := put2_below (put2_below (unhide HX10) (by omega)) (by omega)
            obtain ⟨z0, z1, _, _, _⟩ := block2 hh2
            obtain ⟨y0, y1, _, _, _⟩ := block2 hf2
            unfold put2 at z0 z1 y0 y1 hbx
            refine bodyPost_ret (v := .tuple #[.agg #[.slice none 0 0, .slice none 0 0], .slice none 0 0, .agg #[.int .i64 cc, .int .i64 (j : Int)]]) (by simp [results, Try.results21, go_sem, z0, z1, y0, y1]) rfl (Or.inl ⟨j, by rw [unhide HAL]; exact hjn, unhide HPRj, ?_, ?_, hbx⟩)
            · rw [unhide HEG, unhide HXA, unhide HEC]; exact unhide HCC
            · rw [unhide HEG, unhide HXA, unhide HEC]
        · obtain rfl : j = na := by omega
          have i7 : ¬ (j : Int) < (j : Int) := by omega
          have HGR : Hid (GoodR gj.os n) := by rw [← (unhide HRF).hn]; exact (unhide HGj).gh.rows
          have HKj : Hid (LnOk n gj.mm) := by rw [← (unhide HRF).hn]; exact (unhide HGj).ln
          go_wp2_with fail
          go_loopw [] (fun wr => ∃ (lab' : Nat → Nat) (v : Value) (q : Mk), Hid (RfL W3.heap.size wr lab' b oa n cO aR nR cR wB cw v ⟨gj.os, gj.rs, q⟩) ∧ Hid (Stp gj.os gj.mm q) ∧ Hid (LnOk n q) ∧ Hid (NodG q) ∧ Hid (Below W3.heap.size W3 wr)) (fun wr => muN wB n wr)
          case atStart => exact ⟨lab, vl, gj.mm, HRF, hide Stp.refl, HKj, HNj, HBj⟩
          case round =>
            obtain ⟨lab', v, ⟨wh, ln⟩, HRq, HSq, HKq, HNq, HBq⟩ := hrel
            obtain ⟨⟨m0, m1, m2, m3⟩, ⟨mf0, mf1, mf2, mf3⟩, ml⟩ := block4 (unhide HRq).blk
            obtain ⟨a, c, ev⟩ := (unhide HRq).lin.form
            cases ln with
            | cons f r =>
              have e0 : v = .slice a (r.length + 1) c := by rw [ev, ixL_len]; rfl
              subst e0
              have p0 : (0 : Int) < ((r.length + 1 : Nat) : Int) := by omega
              have HMK := hide (step_any (unhide HRq) (unhide HGR) (unhide HNq) (unhide HKq))
              have HS2 : Hid (Stp gj.os gj.mm (markM gj.os ⟨wh, f :: r⟩)) := Stp.step (s' := ⟨wh, f :: r⟩) (unhide HSq) (fun q => by cases q)
              have HK2 := hide ((unhide HKq).markM (unhide HGR))
              have HN2 := hide ((unhide HNq).markM gj.os)
              have HLT := hide (cntK_mark (unhide HNq) gj.os (unhide HKq) (fun q => by cases q))
              have HMU := hide (unhide HRq).mu
              clear ev
              go_wp2_with (go_at_call 36; (with_reducible refine Calls.mono (unhide HMK) ?_); rintro e w5 ⟨rfl, ⟨lab5, v5, h5, _⟩, _, hb5⟩; have HR5 := hide h5; have HB5 := hide ((unhide HBq).trans hb5); clear h5 hb5)
              go_roundw
              case rel => exact ⟨lab5, v5, _, HR5, HS2, HK2, HN2, HB5⟩
              case measure => rw [(unhide HR5).mu, unhide HMU]; exact unhide HLT
            | nil =>
              have e0 : v = .slice a 0 c := ev
              subst e0
              have p0 : ¬ (0 : Int) < ((0 : Nat) : Int) := by omega
              clear ev
              by_cases z1 : z = 1
              · have z2 : (z == 1) = true := by simpa using z1
                have HZ1 := hide z1
                clear z1
                have HRT := hide (roots_any (unhide HRq) (by rw [← (unhide HRq).hn]; exact (unhide HGj).gh.ro) (by rw [← (unhide HRq).hr]; exact (unhide HGj).gh.nr) (unhide HNq) (unhide HKq))
                have HKs := hide ((unhide HKq).shade (objs := gj.rs) (by rw [← (unhide HRq).hn]; exact (unhide HGj).gh.ro))
                have HNs := hide ((unhide HNq).shadeL gj.rs)
                have HS1 : Hid (∃ s1, Stp gj.os gj.mm s1 ∧ s1.ln = [] ∧ shadeL s1 gj.rs = shadeL ⟨wh, []⟩ gj.rs) := ⟨_, unhide HSq, rfl, rfl⟩
                obtain ⟨sh, esh⟩ : ∃ X, shadeL ⟨wh, []⟩ gj.rs = X := ⟨_, rfl⟩
                have esh2 : shadeL (Gm.mm ⟨gj.os, gj.rs, ⟨wh, []⟩⟩) (Gm.rs ⟨gj.os, gj.rs, ⟨wh, []⟩⟩) = sh := esh
                rw [esh] at HS1 HKs HNs
                rw [esh2] at HRT
                clear esh esh2
                go_wp2_with (go_at_call 34; (with_reducible refine Calls.mono (unhide HRT) ?_); rintro e w5 ⟨rfl, ⟨lab5, v5, h5, _⟩, _, hb5⟩; have HR5 := hide h5; have HB5 := hide ((unhide HBq).trans hb5); clear h5 hb5)
                go_loopw [] (fun wr => ∃ (lab' : Nat → Nat) (v : Value) (q : Mk), Hid (RfL W3.heap.size wr lab' b oa n cO aR nR cR wB cw v ⟨gj.os, gj.rs, q⟩) ∧ Hid (Stp gj.os sh q) ∧ Hid (LnOk n q) ∧ Hid (NodG q) ∧ Hid (Below W3.heap.size W3 wr)) (fun wr => muN wB n wr)
                case atStart => exact ⟨lab5, v5, sh, HR5, hide Stp.refl, HKs, HNs, HB5⟩
                case round =>
                  obtain ⟨lab', v, ⟨wh, ln⟩, HRq, HSq, HKq, HNq, HBq⟩ := hrel
                  obtain ⟨⟨m0, m1, m2, m3⟩, ⟨mf0, mf1, mf2, mf3⟩, ml⟩ := block4 (unhide HRq).blk
                  obtain ⟨a, c, ev⟩ := (unhide HRq).lin.form
                  cases ln with
                  | cons f r =>
                    have e0 : v = .slice a (r.length + 1) c := by rw [ev, ixL_len]; rfl
                    subst e0
                    have p0 : (0 : Int) < ((r.length + 1 : Nat) : Int) := by omega
                    have HMK := hide (step_any (unhide HRq) (unhide HGR) (unhide HNq) (unhide HKq))
                    have HS2 : Hid (Stp gj.os sh (markM gj.os ⟨wh, f :: r⟩)) := Stp.step (s' := ⟨wh, f :: r⟩) (unhide HSq) (fun q => by cases q)
                    have HK2 := hide ((unhide HKq).markM (unhide HGR))
                    have HN2 := hide ((unhide HNq).markM gj.os)
                    have HLT := hide (cntK_mark (unhide HNq) gj.os (unhide HKq) (fun q => by cases q))
                    have HMU := hide (unhide HRq).mu
                    clear ev
                    go_wp2_with (go_at_call 36; (with_reducible refine Calls.mono (unhide HMK) ?_); rintro e w5 ⟨rfl, ⟨lab5, v5, h5, _⟩, _, hb5⟩; have HR5 := hide h5; have HB5 := hide ((unhide HBq).trans hb5); clear h5 hb5)
                    go_roundw
                    case rel => exact ⟨lab5, v5, _, HR5, HS2, HK2, HN2, HB5⟩
                    case measure => rw [(unhide HR5).mu, unhide HMU]; exact unhide HLT
                  | nil =>
                    have e0 : v = .slice a 0 c := ev
                    subst e0
                    have p0 : ¬ (0 : Int) < ((0 : Nat) : Int) := by omega
                    clear ev
                    have hrq := unhide HRq
                    have hno2 : n ≤ 500 := by rw [← hrq.hn]; exact (unhide HGj).gh.no
                    have hbk : ∀ x, blkB ⟨wh, []⟩ x = !wh x := fun x => by unfold blkB; simp
                    have hfe : ((List.range n).filter fun x => !blkB ⟨wh, []⟩ x) = (List.range n).filter wh := List.filter_congr (fun x _ => by rw [hbk, Bool.not_not])
                    have HQq := hide (keep_below (unhide HQ) (unhide HBq)); have HPq := hide (keep_below (unhide HP) (unhide HBq))
                    have HNO : Hid (∀ W, Below wr.heap.size wr W → Calls Try.prog 17 #[.slice (some ⟨wB, 0, none⟩) n cw] W fun e w' => ∃ a c, e = .returned (.slice a ((List.range n).filter wh).length c) ∧ OwnO W.heap.size w' (.slice a ((List.range n).filter wh).length c) (ixL ((List.range n).filter wh)) ∧ Below W.heap.size W w') := fun W hW => by
                      have h_ := not_cap W wB n cw (blkB ⟨wh, []⟩) ⟨fun j hj => (hrq.keep hW).bth j (Nat.lt_of_lt_of_le hj hrq.bwe), Nat.lt_of_lt_of_le hrq.bwl hW.size, (hrq.keep hW).bla⟩ (by omega)
                      rwa [hfe] at h_
                    clear hfe hbk
                    go_upto_region 19 with fail
                    clear m0 m1 m2 m3 mf0 mf1 mf2 mf3 ml
                    refine cycled_19 wr w.heap.size b (w.heap.size + 1) (w.heap.size + 1 + 1) wB cw oa n cO aR nR cR _ ((List.range n).filter wh).length (ixL ((List.range n).filter wh)) hrq.blk (unhide HQq) (unhide HPq) ⟨by omega, by have := hrq.low; omega, by have := hrq.low; omega⟩ ⟨by omega, by omega, Nat.le_trans (unhide HX).size (unhide HBq).size⟩ (unhide HNO) _ _ _ (by kernel_rfl) ?_
                    intro s88 s89 s90 s91 s92 s93 s94 s95 s96 s97 a12 c12 W12 hb12 hh12 hf12 ho12 hk12
                    have hsz12 : wr.heap.size ≤ W12.heap.size := by
                      have h1_ := size_of (unhide HQq); have h2_ := size_of (unhide HPq)
                      rcases Nat.lt_or_ge W12.heap.size wr.heap.size with q | q
                      · exfalso
                        have hn : W12.heap[W12.heap.size]? = none := by simp
                        by_cases e1 : W12.heap.size = w.heap.size + 1
                        · rw [← e1] at hh12; rw [hn] at hh12; cases hh12
                        · by_cases e2 : W12.heap.size = w.heap.size + 1 + 1
                          · rw [← e2] at hf12; rw [hn] at hf12; cases hf12
                          · have h_ := hk12 W12.heap.size q e1 e2
                            rw [hn, Array.getElem?_eq_getElem q] at h_
                            cases h_
                      · exact q
                    have hlo3 := hrq.low
                    have HRD : Hid (∀ w2 : World, W12.heap.size ≤ w2.heap.size → (∀ k, w.heap.size ≤ k → k < W12.heap.size → w2.heap[k]? = W12.heap[k]?) → ∃ us, IsLL w2 (.slice oa n cO) us gj.os ∧ IsL KI w2 (.slice aR nR cR) gj.rs) := fun w2 q1 q2 => hrq.read (Nat.le_trans hsz12 q1) (fun k k1 k2 => (q2 k (Nat.le_trans (unhide HX).size k1) (Nat.lt_of_lt_of_le k2 hsz12)).trans (hk12 k k2 (by omega) (by omega)))
                    have HO12 := hide ho12; have HB12 := hide hb12
                    have hnq := hrq.hn; have hrq2 := hrq.hr
                    have HNQ := hide hnq; have HRQ := hide hrq2
                    obtain ⟨b0, b1, bf0, bf1, bl⟩ := block2 hh12
                    obtain ⟨g0, g1, gf0, gf1, gl⟩ := block2 hf12
                    clear hb12 hh12 hf12 ho12 hk12 hrq hnq hrq2 hlo3 hsz12
                    go_wp2_with fail
                    refine bodyPost_ret (v := .tuple #[.agg #[.slice oa n cO, .slice aR nR cR], .slice a12 ((List.range n).filter wh).length c12, .agg #[.int .i64 0, .int .i64 0]]) (by simp [results, Try.results21, go_sem, b0, b1, g0, g1]) rfl ?_
                    refine Or.inr ⟨by rw [unhide HAL]; exact unhide HPRj, oa, n, cO, aR, nR, cR, ⟨wh, []⟩, a12, c12, rfl, ?_⟩
                    rw [unhide HAL, unhide HEG]
                    exact ⟨⟨rfl, Or.inl ⟨unhide HZ1, by obtain ⟨s1, x1, x2, x3⟩ := unhide HS1; exact ⟨s1, x1, x2, by rw [x3]; exact unhide HSq⟩⟩⟩, unhide HNQ, unhide HRQ, unhide HRD, (unhide HO12).low (Nat.le_trans (unhide HX).size (unhide HBq).size), (Below.next (unhide HX) (unhide HBq) (Nat.le_refl _)).trans (unhide HB12)⟩
              · have z2 : (z == 1) = false := by simpa using z1
                have HZ1 := hide z1
                clear z1
                have hrq := unhide HRq
                have hno2 : n ≤ 500 := by rw [← hrq.hn]; exact (unhide HGj).gh.no
                have hbk : ∀ x, blkB ⟨wh, []⟩ x = !wh x := fun x => by unfold blkB; simp
                have hfe : ((List.range n).filter fun x => !blkB ⟨wh, []⟩ x) = (List.range n).filter wh := List.filter_congr (fun x _ => by rw [hbk, Bool.not_not])
                have HQq := hide (keep_below (unhide HQ) (unhide HBq)); have HPq := hide (keep_below (unhide HP) (unhide HBq))
                have HNO : Hid (∀ W, Below wr.heap.size wr W → Calls Try.prog 17 #[.slice (some ⟨wB, 0, none⟩) n cw] W fun e w' => ∃ a c, e = .returned (.slice a ((List.range n).filter wh).length c) ∧ OwnO W.heap.size w' (.slice a ((List.range n).filter wh).length c) (ixL ((List.range n).filter wh)) ∧ Below W.heap.size W w') := fun W hW => by
                  have h_ := not_cap W wB n cw (blkB ⟨wh, []⟩) ⟨fun j hj => (hrq.keep hW).bth j (Nat.lt_of_lt_of_le hj hrq.bwe), Nat.lt_of_lt_of_le hrq.bwl hW.size, (hrq.keep hW).bla⟩ (by omega)
                  rwa [hfe] at h_
                clear hfe hbk
                go_upto_region 19 with fail
                clear m0 m1 m2 m3 mf0 mf1 mf2 mf3 ml
                refine cycled_19 wr w.heap.size b (w.heap.size + 1) (w.heap.size + 1 + 1) wB cw oa n cO aR nR cR _ ((List.range n).filter wh).length (ixL ((List.range n).filter wh)) hrq.blk (unhide HQq) (unhide HPq) ⟨by omega, by have := hrq.low; omega, by have := hrq.low; omega⟩ ⟨by omega, by omega, Nat.le_trans (unhide HX).size (unhide HBq).size⟩ (unhide HNO) _ _ _ (by kernel_rfl) ?_
                intro s88 s89 s90 s91 s92 s93 s94 s95 s96 s97 a12 c12 W12 hb12 hh12 hf12 ho12 hk12
                have hsz12 : wr.heap.size ≤ W12.heap.size := by
                  have h1_ := size_of (unhide HQq); have h2_ := size_of (unhide HPq)
                  rcases Nat.lt_or_ge W12.heap.size wr.heap.size with q | q
                  · exfalso
                    have hn : W12.heap[W12.heap.size]? = none := by simp
                    by_cases e1 : W12.heap.size = w.heap.size + 1
                    · rw [← e1] at hh12; rw [hn] at hh12; cases hh12
                    · by_cases e2 : W12.heap.size = w.heap.size + 1 + 1
                      · rw [← e2] at hf12; rw [hn] at hf12; cases hf12
                      · have h_ := hk12 W12.heap.size q e1 e2
                        rw [hn, Array.getElem?_eq_getElem q] at h_
                        cases h_
                  · exact q
                have hlo3 := hrq.low
                have HRD : Hid (∀ w2 : World, W12.heap.size ≤ w2.heap.size → (∀ k, w.heap.size ≤ k → k < W12.heap.size → w2.heap[k]? = W12.heap[k]?) → ∃ us, IsLL w2 (.slice oa n cO) us gj.os ∧ IsL KI w2 (.slice aR nR cR) gj.rs) := fun w2 q1 q2 => hrq.read (Nat.le_trans hsz12 q1) (fun k k1 k2 => (q2 k (Nat.le_trans (unhide HX).size k1) (Nat.lt_of_lt_of_le k2 hsz12)).trans (hk12 k k2 (by omega) (by omega)))
                have HO12 := hide ho12; have HB12 := hide hb12
                have hnq := hrq.hn; have hrq2 := hrq.hr
                have HNQ := hide hnq; have HRQ := hide hrq2
                obtain ⟨b0, b1, bf0, bf1, bl⟩ := block2 hh12
                obtain ⟨g0, g1, gf0, gf1, gl⟩ := block2 hf12
                clear hb12 hh12 hf12 ho12 hk12 hrq hnq hrq2 hlo3 hsz12
                go_wp2_with fail
                refine bodyPost_ret (v := .tuple #[.agg #[.slice oa n cO, .slice aR nR cR], .slice a12 ((List.range n).filter wh).length c12, .agg #[.int .i64 0, .int .i64 0]]) (by simp [results, Try.results21, go_sem, b0, b1, g0, g1]) rfl ?_
                refine Or.inr ⟨by rw [unhide HAL]; exact unhide HPRj, oa, n, cO, aR, nR, cR, ⟨wh, []⟩, a12, c12, rfl, ?_⟩
                rw [unhide HAL, unhide HEG]
                exact ⟨⟨rfl, Or.inr ⟨unhide HZ1, unhide HSq⟩⟩, unhide HNQ, unhide HRQ, unhide HRD, (unhide HO12).low (Nat.le_trans (unhide HX).size (unhide HBq).size), (Below.next (unhide HX) (unhide HBq) (Nat.le_refl _)).trans (unhide HB12)⟩
end Go.Proofs.Ytmkehjncnaokoaa
