/-
  cell.onward, by its contract.
-/
import Derived.Test.YtpgokeogijpmaabDoorTl
import Derived.Deep.DeepCutAuto
namespace Go.Proofs.YtpgokeogijpmaabDoor
open Go.RowKit
attribute [local go_sem ↓] Go.wp_at_zero Go.wp_at_succ

set_option maxRecDepth 100000 in
set_option maxHeartbeats 2000000 in
theorem onward_some (w : World) (fmt : Int → List Int) (Bm sb so sc tb tof tc m : Nat) (sps : List Spot) (tss : List (List Op4)) (VD VM V : Nat → Value)
    (hBm : w.heap[Bm]? = some (.map ents 5)) (hsb : sb < w.heap.size) (htb : tb < w.heap.size) (hm0 : 0 < m) (hm : m ≤ 32) (ht0 : 0 < tss.length) (ht : tss.length ≤ 4) (hsn : sps.length ≤ 1073741824)
    (hVD : ∀ j, j < sps.length → w.cell? ⟨sb, so + j * 2, none⟩ = some (VD j)) (hVM : ∀ j, j < sps.length → w.cell? ⟨sb, so + j * 2 + 1, none⟩ = some (VM j)) (hV : ∀ j, j < tss.length → w.cell? ⟨tb, tof + j, none⟩ = some (V j))
    (hsp : ∀ j, j < sps.length → IsInts w (VD j) (spotAt sps j).d ∧ IsInts w (VM j) (spotAt sps j).m ∧ SpotOk m tss (spotAt sps j)) (hops : ∀ j, j < tss.length → IsOps w (V j) (tss.getD j []))
    (hall : ∀ k, k < tss.length → ∀ i, i < (tss.getD k []).length → wAt m (tss.getD k []) i = 0) (hlen : ∀ k, k < tss.length → (tss.getD k []).length ≤ 5000)
    (hD : ∀ j, j < sps.length → ∀ k, k < tss.length → (spotAt sps j).d.getD k 0 ≠ ((tss.getD k []).length : Int) → ∀ z, z ∈ (stepSpot tss (spotAt sps j) k).d ∨ z ∈ (stepSpot tss (spotAt sps j) k).m → AppOk w fmt z) :
    Calls Tryd.prog 16 #[.map (some Bm), .slice (some ⟨sb, so, none⟩) sps.length sc, .slice (some ⟨tb, tof, none⟩) tss.length tc] w fun e w' => ∃ t, e = .returned t ∧ NextInv fmt w w' t (outerTo fmt tss sps sps.length) := by
  have hmm := @run_makeMap Tryd.prog
  have HBM := hide hBm; have HVD := hide hVD; have HVM := hide hVM; have HV := hide hV; have HSP := hide hsp; have HOPS := hide hops; have HALL := hide hall; have HLEN := hide hlen; have HD := hide hD
  clear hBm hVD hVM hV hsp hops hall hlen hD
  go_enter Tryd.func16, Tryd.ntmps16
  go_wp2
  go_loopw [8, 20] (fun t i wr => ∃ j : Nat, j ≤ sps.length ∧ i = .int .i64 j ∧ NextInv fmt w wr t (outerTo fmt tss sps j)) (fun _ i _ => sps.length - (intOf i).toNat)
  case atStart => exact ⟨0, Nat.zero_le _, rfl, NextInv.start fmt w⟩
  case round =>
    obtain ⟨j, hj, rfl, hinv⟩ := hrel
    by_cases hlt : j < sps.length
    · have hBw := hinv.1
      have hsz := hinv.2.1
      have c0 := (hBw.cell (p := ⟨sb, so + j * 2, none⟩) hsb).trans (unhide HVD j hlt)
      have c1 := (hBw.cell (p := ⟨sb, so + j * 2 + 1, none⟩) hsb).trans (unhide HVM j hlt)
      obtain ⟨hd1, hm1, hok⟩ := unhide HSP j hlt
      have HD1 := hide (unhide HD j hlt)
      obtain ⟨s, hs⟩ : ∃ s, spotAt sps j = s := ⟨_, rfl⟩
      have HS := hide hs
      rw [hs] at hd1 hm1 hok HD1
      clear hs
      obtain ⟨bd, od, cd, evd, hbd, hcd⟩ := hd1.at (by rw [hok.1]; exact ht0)
      obtain ⟨bm, om, cm, evm, hbm, hcm⟩ := hm1.at (by rw [hok.2.1]; exact hm0)
      rw [evd] at c0 hd1
      rw [evm] at c1 hm1
      rw [hok.1] at c0 hd1
      rw [hok.2.1] at c1 hm1
      clear evd evm
      have HCD := hide hcd; have HCM := hide hcm; have HINV := hide hinv; have HIN := hide (And.intro hd1 hm1); have HOK := hide hok
      clear hcd hcm hinv hd1 hm1 hok hBw
      go_wp2
      obtain ⟨w1, hw1⟩ : ∃ x, wr.alloc (.cells #[.slice (some ⟨bd, od, none⟩) tss.length cd, .slice (some ⟨bm, om, none⟩) m cm] 45) = x := ⟨_, rfl⟩
      have HW1 := hide (spot_boxed (unhide HINV) hw1)
      rw [hw1]
      clear hw1
      generalize wr.heap.size = Sb at *
      go_loopw [8, 26] (fun t i wq => ∃ k : Nat, k ≤ tss.length ∧ i = .int .i64 k ∧ NextInv fmt w wq t (innerTo fmt tss s (outerTo fmt tss sps j) k) ∧ wq.cell? ⟨Sb, 0, none⟩ = some (.slice (some ⟨bd, od, none⟩) tss.length cd) ∧ wq.cell? ⟨Sb, 1, none⟩ = some (.slice (some ⟨bm, om, none⟩) m cm) ∧ t.ownBlock ≠ some Sb) (fun _ i _ => tss.length - (intOf i).toNat)
      case atStart => exact ⟨0, Nat.zero_le _, rfl, unhide HW1⟩
      case round =>
        obtain ⟨k, hk, rfl, hinv2, e0, e1, hne⟩ := hrel
        by_cases hkt : k < tss.length
        · have hBw := hinv2.1
          have f0 := (hBw.cell (p := ⟨tb, tof + k, none⟩) htb).trans (unhide HV k hkt)
          have f1 := (hBw.cell (p := ⟨bd, od + k, none⟩) hbd).trans (unhide HCD k (by rw [(unhide HOK).1]; exact hkt))
          obtain ⟨hlo, hhi⟩ := (unhide HOK).2.2 k hkt
          obtain ⟨q, hq⟩ := Int.eq_ofNat_of_zero_le hlo
          rw [hq] at f1 hhi
          have HQ := hide hq
          have hlenk := unhide HLEN k hkt
          have hopk := unhide HOPS k hkt
          have i0 : (0 : Int) ≤ (k : Int) := by omega
          have i1 : (k : Int) < (tss.length : Int) := by omega
          have HINV2 := hide hinv2; have HNE := hide hne
          clear hq hinv2 hne hlo
          obtain ⟨L, hL⟩ : ∃ L, (tss.getD k []).length = L := ⟨_, rfl⟩
          have HL := hide hL
          by_cases hqL : q = L
          · obtain ⟨aV, cV, eV⟩ := Rd.form hopk
            rw [hL] at hhi hlenk eV
            rw [eV] at f0
            subst hqL
            clear hL eV hopk hBw
            go_wp2
            go_roundw
            case rel =>
              refine ⟨k + 1, by omega, by go_num, ?_, e0, e1, unhide HNE⟩
              rw [innerTo, if_pos (by rw [unhide HQ, unhide HL])]
              exact unhide HINV2
            case measure => simp [intOf]; omega
          · obtain ⟨ob, oo, oc, eV, hob, hK, hP, hA, hB⟩ := hopk.at (by omega)
            rw [hL] at hhi hlenk eV
            rw [eV] at f0
            have HK := hide (hK q (by omega)); have HP := hide (hP q (by omega)); have HA := hide (hA q (by omega)); have HB := hide (hB q (by omega))
            clear hL eV hopk hBw hK hP hA hB
            have hqn : ((q : Int) == (L : Int)) = false := by simp; omega
            have hSw : Sb < wr.heap.size := World.block_lt_of_cell? wr _ e0
            have HBW2 := hide (unhide HINV2).1
            have hdl := (unhide HOK).1
            have hml := (unhide HOK).2.1
            have HF1 := hide (fun W (hW : Below wr.heap.size wr W) => fresh_at s.d tss.length hdl (Rd.below (unhide HIN).1 ((unhide HBW2).trans (hW.mono (unhide HBW2).size))) (by omega) (by omega))
            have HF2 := hide (fun W (hW : Below wr.heap.size wr W) => fresh_at s.m m hml (Rd.below (unhide HIN).2 ((unhide HBW2).trans (hW.mono (unhide HBW2).size))) (by omega) (by omega))
            clear hdl hml
            have HE0 := hide e0; have HE1 := hide e1
            go_wp2
            go_cut [13] (fun v13 wA => Laid wr s.d s.m tss.length m v13 wA)
            case first =>
              go_region_held3 (fun w' => w'.cell? ⟨Sb, 0, none⟩ = some (.slice (some ⟨bd, od, none⟩) tss.length cd) ∧ w'.cell? ⟨Sb, 1, none⟩ = some (.slice (some ⟨bm, om, none⟩) m cm) ∧ Below wr.heap.size wr w')
                ((go_split_ands; refine S_of ?_ hSw (unhide HE0) (unhide HE1); first | assumption | exact Below.drew (Below.refl _ _) | exact Below.alloc (by go_split_ands; assumption) (Below.size (B := wr.heap.size) (by go_split_ands; assumption)) _ | exact Below.setCell (Below.setCell (by go_split_ands; assumption) (by first | exact Nat.le_refl _ | (simp; omega) | omega) _) (by first | exact Nat.le_refl _ | (simp; omega) | omega) _))
                (first
                  | (go_at_call_of 12 (Value.slice (some (Addr.mk bd od none)) tss.length cd); refine (unhide HF1 _ (by go_split_ands; assumption)).mono ?_; rintro e w2 ⟨gd, capd, rfl, hmd, hgd, hb2⟩; obtain ⟨hc2, hf2, hz2⟩ := bcell hb2; have hB2 : Below wr.heap.size wr w2 := Below.trans (by go_split_ands; assumption) (hb2.mono (Below.size (B := wr.heap.size) (by go_split_ands; assumption))); have hy2 := hB2.size; have hlt2 : wr.heap.size < w2.heap.size := Nat.lt_of_le_of_lt (Nat.le_trans (Below.size (B := wr.heap.size) (by go_split_ands; assumption)) hgd) hmd.lt)
                  | (go_at_call_of 12 (Value.slice (some (Addr.mk bm om none)) m cm); refine (unhide HF2 _ (by go_split_ands; assumption)).mono ?_; rintro e w3 ⟨gm, capm, rfl, hmm3, hgm, hb3⟩; obtain ⟨hc3, hf3, hz3⟩ := bcell hb3; have hB3 : Below wr.heap.size wr w3 := Below.trans (by go_split_ands; assumption) (hb3.mono (Below.size (B := wr.heap.size) (by go_split_ands; assumption))); have hy3 := hB3.size))
              all_goals go_wp2_with fail
              all_goals go_meet
              all_goals
                case rel => first | exact wayC hgd hmd hb3 hgm hmm3 hB3 | exact wayB hgd hmd hb3 hgm hmm3 hB3 | exact wayA hb2 hgd hmd hb3 hgm hmm3 hB3
            case rest =>
              obtain ⟨gn, gd, gm, capd, capm, hv13, hL⟩ := hcut
              subst hv13
              obtain ⟨n0, n1⟩ := LaidAt.cells hL
              have hqs := unhide HQ
              have dc := (hL.2.2.1.cell (q := k) (by rw [(unhide HOK).1]; exact hkt)).1
              rw [hqs, Nat.zero_add] at dc
              have hBwc : Below w.heap.size w wc := (unhide HBW2).trans (hL.1.mono (unhide HBW2).size)
              have hobw : ob < wc.heap.size := Nat.lt_of_lt_of_le hob hBwc.size
              have x0 := (hBwc.cell (p := ⟨ob, oo + q * 4, none⟩) hob).trans (unhide HK)
              have x1 := (hBwc.cell (p := ⟨ob, oo + q * 4 + 1, none⟩) hob).trans (unhide HP)
              have x2 := (hBwc.cell (p := ⟨ob, oo + q * 4 + 2, none⟩) hob).trans (unhide HA)
              have x3 := (hBwc.cell (p := ⟨ob, oo + q * 4 + 3, none⟩) hob).trans (unhide HB)
              obtain ⟨o4, ho4⟩ : ∃ o, opAtD (tss.getD k []) q = o := ⟨_, rfl⟩
              have hw4 : wrongOf m o4.k o4.p o4.a o4.b = 0 := by
                have := unhide HALL k hkt q (by have := unhide HL; omega)
                unfold wAt at this
                rw [ho4] at this
                exact this
              obtain ⟨hk5, hp0, hpm⟩ := wrong_none hw4
              obtain ⟨p, hp⟩ := Int.eq_ofNat_of_zero_le hp0
              have hKx := unhide HK; have hPx := unhide HP; have hAx := unhide HA; have hBx := unhide HB
              rw [ho4] at hKx hPx hAx hBx x0 x1 x2 x3
              have hdl := (unhide HOK).1
              have hml := (unhide HOK).2.1
              have HDO := hide (do_spot (k := k) (unhide HBM) hL (unhide HBW2) hob (by omega) hqs hml hk5 hp (by omega) hKx hPx hAx hBx)
              have HO4 := hide ho4
              have HLA : Hid (LaidAt wr wc gn gd gm tss.length m capd capm s.d s.m) := hL
              rw [hp] at x1 hpm
              have j0 : (0 : Int) ≤ (q : Int) := by omega
              have j1 : (q : Int) < (L : Int) := by omega
              clear ho4 hp hL hBwc hqs hp0 hKx hPx hAx hBx hw4
              go_wp2_with fail
              go_region_held3 (fun w' => w'.cell? ⟨gn, 0, none⟩ = some (.slice (some ⟨gd, 0, none⟩) tss.length capd) ∧ w'.cell? ⟨gn, 1, none⟩ = some (.slice (some ⟨gm, 0, none⟩) m capm) ∧ w'.cell? ⟨gd, k, none⟩ = some (.int .i64 q) ∧ w'.cell? ⟨ob, oo + q * 4, none⟩ = some (.int .i64 o4.k) ∧ w'.cell? ⟨ob, oo + q * 4 + 1, none⟩ = some (.int .i64 p) ∧ w'.cell? ⟨ob, oo + q * 4 + 2, none⟩ = some (.int .i64 o4.a) ∧ w'.cell? ⟨ob, oo + q * 4 + 3, none⟩ = some (.int .i64 o4.b))
                (first | go_keep | assumption)
                (first | (go_at_call 13; refine (unhide HDO).mono ?_; rintro e w5 ⟨rfl, hL5, hS, hfz⟩; have HL5 := hide hL5; clear hL5))
              obtain ⟨s0, s1, s2, _, _, _, _⟩ := hS
              clear n0 n1 dc x0 x1 x2 x3 HDO HLA
              have HKEY := hide (key_spot (k := k) (fmt := fmt) (y := (q : Int) + 1) (unhide HL5) (unhide HBW2) (by omega) hdl ((stepMem_length _ _).trans hml) ht hm
                (fun z hz => unhide HD1 k hkt (by rw [unhide HQ, unhide HL]; omega) z (Or.inl (by unfold stepSpot; rw [unhide HQ]; exact hz)))
                (fun z hz => unhide HD1 k hkt (by rw [unhide HQ, unhide HL]; omega) z (Or.inr (by unfold stepSpot opOf; rw [unhide HQ, Int.toNat_natCast, unhide HO4]; exact hz))))
              have hne1 : ¬ gn = gd := (unhide HL5).2.2.2.2.2.2.2.2.1
              have hne2 : ¬ gd = gn := fun e => hne1 e.symm
              go_wp2_with (go_at_call 25; refine (unhide HKEY).mono ?_; rintro e w7 ⟨rfl, hL7⟩; have HL7 := hide hL7; clear hL7 s0 s1 s2 hfz)
              have hst : stepSpot tss s k = ⟨s.d.set k ((q : Int) + 1), stepMem s.m o4⟩ := by unfold stepSpot opOf; rw [unhide HQ, Int.toNat_natCast, unhide HO4]
              have hnl : (innerTo fmt tss s (outerTo fmt tss sps j) (k + 1)) = addSpot fmt (innerTo fmt tss s (outerTo fmt tss sps j) k) ⟨s.d.set k ((q : Int) + 1), stepMem s.m o4⟩ := by
                rw [innerTo, if_neg (by rw [unhide HQ, unhide HL]; omega), hst]
              have HNL := hide hnl
              have hln := innerTo_length fmt tss s (outerTo fmt tss sps j) k
              have hlo := outerTo_length fmt tss sps j
              have hjt : j * tss.length ≤ 1073741824 * 4 := Nat.mul_le_mul (by omega) ht
              clear hst hnl
              generalize innerTo fmt tss s (outerTo fmt tss sps j) k = nx at *
              obtain ⟨s', hs'⟩ : ∃ x, (⟨s.d.set k ((q : Int) + 1), stepMem s.m o4⟩ : Spot) = x := ⟨_, rfl⟩
              by_cases hseen : seenIn fmt nx s' = true
              · have hlk := look_old w7 w.heap.size _ _ ((unhide HINV2).keep (unhide HL7).1).2.2.1 (skey fmt s') (seenIn_iff.1 hseen)
                have HADD : Hid (addSpot fmt nx s' = nx) := by unfold addSpot Hid; rw [if_pos hseen]
                have HSS := hide hs'
                rw [hs'] at HNL ⊢
                clear hs' hseen
                simp only [hlk, Result.andThen]
                go_wp2
                go_roundw
                case rel =>
                  have hB8 : Below wr.heap.size wr (w7.alloc (.cells #[] 56)) := (unhide HL7).1.alloc (unhide HL7).1.size _
                  refine ⟨k + 1, by omega, by go_num, ?_, (hB8.cell (p := ⟨Sb, 0, none⟩) hSw).trans (unhide HE0), (hB8.cell (p := ⟨Sb, 1, none⟩) hSw).trans (unhide HE1), unhide HNE⟩
                  rw [unhide HNL, unhide HADD]
                  exact (unhide HINV2).keep hB8
                case measure => simp [intOf]; omega
              · have hns : ¬ skey fmt s' ∈ nx.map (skey fmt) := fun h => hseen (seenIn_iff.2 h)
                have hlk := look_new w7 w.heap.size _ _ ((unhide HINV2).keep (unhide HL7).1).2.2.1 (skey fmt s') hns
                have HADD : Hid (addSpot fmt nx s' = nx ++ [s']) := by unfold addSpot Hid; rw [if_neg hseen]
                obtain ⟨w8, hupd, m0, m1, hs8, VD', VM', hown8, hfin⟩ := put_step (unhide HINV2) (unhide HL7) (by rw [hs']; exact hns)
                rw [hs'] at HNL hupd hfin ⊢
                have HFIN := hide hfin; have HOWN8 := hide hown8
                obtain ⟨i6, hi6, hy0, hy1, hy2⟩ := info_parts Tryd.info45
                clear hs' hseen hns hfin hown8
                simp only [hlk, Result.andThen]
                go_wp2_with (at_builtin; refine Go.wpList_append_own_at _ rfl _ _ 46 rfl (w.heap.size + 1) 45 i6 (.agg #[.slice none 0 0, .slice none 0 0]) 2 48 Tryd.underlying46 hi6 hy0 hy1 hy2 rfl (by decide) _ _ _ rfl ((unhide HOWN8).alloc _) ⟨w8.heap.size, 0, none⟩ 1 1 [.slice (some ⟨gd, 0, none⟩) tss.length capd, .slice (some ⟨gm, 0, none⟩) m capm] rfl rfl (cell_two_new _ _ _ _) (by intro u hu; simp at hu; rcases hu with rfl | rfl <;> rfl) (by unfold maxLen; omega) (by omega) (by simp; omega) ?_; intro t9 w9 hown9 hgr9 _ hloc9; have HO9 := hide hown9; have HG9 := hide hgr9; have HLO9 := hide hloc9; clear hown9 hgr9 hloc9)
                go_roundw
                case rel =>
                  have hF := unhide HFIN _ t9 w9 (unhide HO9) (unhide HG9) (unhide HLO9)
                  obtain ⟨hFb, hFo⟩ := hF.2 Sb hSw (by omega) (unhide HNE)
                  refine ⟨k + 1, by omega, by go_num, ?_, (World.cell?_of_block (a := ⟨Sb, 0, none⟩) hFb).trans (unhide HE0), (World.cell?_of_block (a := ⟨Sb, 1, none⟩) hFb).trans (unhide HE1), hFo⟩
                  rw [unhide HNL, unhide HADD]
                  exact hF.1
                case measure => simp [intOf]; omega
        · have HINV2 := hide hinv2
          clear hinv2 hne
          go_wp2
          go_roundw
          case rel =>
            refine ⟨j + 1, by omega, by go_num, ?_⟩
            obtain rfl : k = tss.length := by omega
            rw [outerTo, unhide HS]
            exact unhide HINV2
          case measure => simp [intOf]; omega
    · obtain rfl : j = sps.length := by omega
      have HINV := hide hinv
      clear hinv
      go_wp2
      go_ret
      exact ⟨_, rfl, unhide HINV⟩
end Go.Proofs.YtpgokeogijpmaabDoor
