/-
  taskmilllaw.SyncCounts.
-/
import Derived.Test.YtpogcfdmkeebmaaCs
import Derived.Test.YtpogcfdmkeebmaaBe
namespace Go.Proofs.Ytpogcfdmkeebmaa
open Go.RowKit

set_option maxRecDepth 100000 in
set_option maxHeartbeats 8000000 in
theorem counts_walk (w : World) (x : Int) (v : Value) (zs : List Int) (h : IsL KI w v zs) (hm : zs.length * 8 ≤ 140737488355328) : Calls Try.prog 7 #[.int .i64 x, v] w fun e w' => e = .returned (.bool true) ∧ Below w.heap.size w w' := by
  have hnot : ∀ (x : Bool) (w : World), (Op.unary .not (.bool x)).run Try.prog w = .ok (.bool (!x)) w := fun _ _ => rfl
  obtain ⟨a0, c0, rfl⟩ := h.form
  have HL := hide h
  obtain ⟨n, en⟩ : ∃ n, zs.length = n := ⟨_, rfl⟩
  rw [en] at HL hm ⊢
  have HN := hide en
  clear h en
  by_cases hx0 : x < 0
  · go_enter Try.func7, Try.ntmps7
    go_wp2_with (go_at_call 9; refine (begun_any _).mono ?_; rintro e w1 ⟨rfl, hb1⟩; have HX := hide hb1; clear hb1)
    go_ret
    exact ⟨rfl, unhide HX⟩
  by_cases hx1 : 1000 < x
  · go_enter Try.func7, Try.ntmps7
    go_wp2_with (go_at_call 9; refine (begun_any _).mono ?_; rintro e w1 ⟨rfl, hb1⟩; have HX := hide hb1; clear hb1)
    go_ret
    exact ⟨rfl, unhide HX⟩
  by_cases hn1 : 200 < n
  · have hn2 : (200 : Int) < (n : Int) := by omega
    go_enter Try.func7, Try.ntmps7
    go_wp2_with (go_at_call 9; refine (begun_any _).mono ?_; rintro e w1 ⟨rfl, hb1⟩; have HX := hide hb1; clear hb1)
    go_ret
    exact ⟨rfl, unhide HX⟩
  have hn2 : ¬ (200 : Int) < (n : Int) := by omega
  have hwn : IntKind.i64.wrap ((n : Int) + 1) = (n : Int) + 1 := wrapi (by omega) (by omega)
  go_enter Try.func7, Try.ntmps7
  go_upto_region 5 with (go_at_call 9; refine (begun_any _).mono ?_; rintro e w1 ⟨rfl, hb1⟩; have HX := hide hb1; clear hb1)
  go_upto_region 6 with fail
  have htw : w.heap.size ≤ w1.heap.size := (unhide HX).size
  have HX_1 := hide ((unhide HX).alloc (Nat.le_trans (show w.heap.size ≤ w.heap.size from Nat.le_refl _) (unhide HX).size) (.cells #[.int .i64 x, .slice none 0 0] 51))
  have Kp_1 := hide (new_block w1 (.cells #[.int .i64 x, .slice none 0 0] 51))
  obtain ⟨T, eT⟩ : ∃ X, w1.heap.size = X := ⟨_, rfl⟩
  obtain ⟨W2, eW2⟩ : ∃ X, w1.alloc (.cells #[.int .i64 x, .slice none 0 0] 51) = X := ⟨_, rfl⟩
  rw [eT, eW2] at Kp_1; rw [eW2] at HX_1; rw [eT] at htw; rw [eT, eW2]
  clear eT eW2 HX
  have HTW := hide htw
  clear htw
  obtain ⟨W3, hmk, hmo, hmb⟩ := make_row W2 (n + 1) (by omega)
  have hmk2 : (Instr.makeSlice 22 (.int .i64 ((n : Int) + 1)) (.int .i64 ((n : Int) + 1))).run Try.prog W2 = .ok (.slice (some ⟨W2.heap.size, 0, none⟩) (n + 1) (n + 1)) W3 := by simpa using hmk
  have hTG : T < W2.heap.size := size_of (unhide Kp_1)
  clear hmk
  go_upto_region 8 with fail
  clear hmk2
  (have HX_2 := hide (Below.next (unhide HX_1) hmb (by first | exact Nat.le_refl _ | (have := unhide HBA; omega))); have Kp_2 := hide (keep_below (unhide Kp_1) hmb); clear HX_1 Kp_1)
  obtain ⟨G, eG⟩ : ∃ X, W2.heap.size = X := ⟨_, rfl⟩
  rw [eG] at hmo hTG ⊢
  have HOW := hide hmo
  clear hmb hmo eG
  have HCM := hide (CM.begin (n := n) (free := x) (by omega) (by omega) (by omega))
  have HBA : Hid (w.heap.size ≤ T) := unhide HTW
  go_wp2_with fail
  go_loopw [6, 7, 8, 10] (fun g r l i W => ∃ (j : Nat) (got rel last f : Int) (ln : List Po) (ws : List Int) (a : Option Addr) (c : Nat), j ≤ n ∧ g = .int .i64 got ∧ r = .int .i64 rel ∧ l = .int .i64 last ∧ i = .int .i64 j ∧ Hid (CM n j x got rel last f ln [] ws) ∧ Hid (W.heap[T]? = some (.cells #[.int .i64 f, .slice a ln.length c] 51)) ∧ Hid (New KP (G + 1) W (.slice a ln.length c) ln) ∧ Hid (Own KI G W (.slice (some ⟨G, 0, none⟩) (n + 1) (n + 1)) ws) ∧ Hid (Below w.heap.size w W)) (fun _ _ _ i _ => n - (intOf i).toNat)
  case atStart => exact ⟨0, 0, 0, 0, x, [], List.replicate (n + 1) 0, none, 0, Nat.zero_le _, rfl, rfl, rfl, rfl, HCM, Kp_2, new_nil _ _, HOW, HX_2⟩
  case round =>
    obtain ⟨j, got, rel, last, f, ln, ws, a, c, hj, rfl, rfl, rfl, rfl, HC, HPj, HWj, HOj, HXj⟩ := hrel
    clear HCM Kp_2 HOW HX_2
    by_cases hlt : j < n
    · obtain ⟨b0, o0, rfl, hb0, l0⟩ := (unhide HL).opens ki (unhide HN) (by omega)
      have k0 := (l0.below (unhide HXj) hb0).ints (j := j) (by rw [unhide HN]; exact hlt)
      obtain ⟨m, em⟩ : ∃ m, zs.getD j 0 = m := ⟨_, rfl⟩
      rw [em] at k0
      have i0 : (0 : Int) ≤ (j : Int) := by omega
      have i1 : (j : Int) < (n : Int) := by omega
      clear em l0
      by_cases hm1 : 1000 < m
      · go_wp2_with fail
        go_ret
        exact ⟨rfl, unhide HXj⟩
      by_cases hm2 : m < -1000
      · go_wp2_with fail
        go_ret
        exact ⟨rfl, unhide HXj⟩
      obtain ⟨bf0, bf1, bg1, br1⟩ := (unhide HC).bound
      have bg0 := (unhide HC).got0
      have br0 := (unhide HC).rel0.1
      have bl0 := (unhide HC).last0
      have hwj : IntKind.i64.wrap ((j : Int) + 1) = (j : Int) + 1 := wrapi (by omega) (by omega)
      have hGw : G < wr.heap.size := by
        have := ((unhide HOj).lt G rfl).2
        exact this
      go_upto_if 56 with fail
      clear k0
      go_cut [7, 12] (fun rl wh W => ∃ (rel2 f2 : Int) (l2 : List Po) (whl ws2 : List Int) (a2 : Option Addr) (c2 : Nat) (a5 : Option Addr) (c5 : Nat), rl = .int .i64 rel2 ∧ wh = .slice a5 whl.length c5 ∧ Hid (CM n (j + 1) x got rel2 last f2 l2 whl ws2) ∧ Hid (W.heap[T]? = some (.cells #[.int .i64 f2, .slice a2 l2.length c2] 51)) ∧ Hid (New KP (G + 1) W (.slice a2 l2.length c2) l2) ∧ Hid (IsL KI W (.slice a5 whl.length c5) whl) ∧ Hid (Own KI G W (.slice (some ⟨G, 0, none⟩) (n + 1) (n + 1)) ws2) ∧ Hid (Below w.heap.size w W))
      case first =>
        by_cases hpos : 0 < m
        · obtain ⟨hf, hgt, hgf⟩ := (unhide HC).acq hlt (m := m) (by omega) (by omega)
          have HAC : Hid (∀ W v', IsG KP W v' f ln → Calls Try.prog 24 #[v', .int .i64 ((j : Int) + 1), .int .i64 m, .bool false] W fun e w' => ∃ a' c', e = .returned (.tuple #[.agg #[.int .i64 (acqR f ln ((j : Int) + 1) m false).1.1, .slice a' (acqR f ln ((j : Int) + 1) m false).1.2.length c'], .bool (acqR f ln ((j : Int) + 1) m false).2, .agg #[.int .i64 0, .int .i64 0]]) ∧ New KP W.heap.size w' (.slice a' (acqR f ln ((j : Int) + 1) m false).1.2.length c') (acqR f ln ((j : Int) + 1) m false).1.2 ∧ Below W.heap.size W w') := fun W v' hv => (acquire_ok W v' f ln _ m false hv hf).mono fun e w' ⟨v1, h1, h2, h3⟩ => by
            obtain ⟨a', c', rfl, h4⟩ := h2.form
            exact ⟨a', c', h1, h4, h3⟩
          obtain ⟨⟨⟨f2, l2⟩, gi⟩, eR⟩ : ∃ R, acqR f ln ((j : Int) + 1) m false = R := ⟨_, rfl⟩
          rw [eR] at HAC hgt hgf
          simp only at HAC hgt hgf
          have HGT := hide hgt; have HGF := hide hgf
          have hwl : ws.length = n + 1 := (unhide HC).len
          have HWL := hide hwl
          have hjc := own_inti (unhide HOj) (j := j + 1) (by omega)
          obtain ⟨j0, jf0⟩ := hjc
          have i2 : (0 : Int) ≤ (j : Int) + 1 := by omega
          have i3 : (j : Int) + 1 < ((n + 1 : Nat) : Int) := by omega
          have i4 : (j : Int) + 1 < (n : Int) + 1 := by omega
          have i5 : ((j : Int) + 1).toNat = j + 1 := by omega
          clear hf hgt hgf eR hwl
          go_upto_region 17 with fail
          clear j0 jf0
          have HX_s := hide (below_set (i := j + 1) (unhide HXj) (show w.heap.size ≤ G by have := unhide HBA; omega) (.int .i64 m))
          have HP_s := hide (keep_set (g := G) (o := j + 1) (v := .int .i64 m) (unhide HPj) (by omega))
          have HW_s := hide ((unhide HWj).keep kp (fun k hk _ => Below.heap_setCell wr ⟨G, j + 1, none⟩ (.int .i64 m) k (by intro e; simp at e; omega)))
          have HO_s := hide (own_seti (unhide HOj) (unhide HWL) (j + 1) m)
          obtain ⟨Ws, eWs⟩ : ∃ X, wr.setCell ⟨G, j + 1, none⟩ (.int .i64 m) = X := ⟨_, rfl⟩
          rw [eWs] at HX_s HP_s HW_s HO_s ⊢
          clear eWs
          obtain ⟨p0, p1, pf0, pf1, pl⟩ := block2 (unhide HP_s)
          have HTB : Hid (G < Ws.heap.size) := (by have := ((unhide HO_s).lt G rfl).2; exact this)
          go_upto_region 18 with (go_at_call 24; refine (unhide HAC _ _ ⟨_, rfl, (unhide HW_s).1⟩).mono ?_; rintro e w2 ⟨a2, c2, rfl, hn2', hb2⟩; have HN2 := hide (hn2'.base (Nat.succ_le_of_lt (unhide HTB))); have HX_1 := hide (Below.next (unhide HX_s) hb2 (by first | exact Nat.le_refl _ | (have := unhide HBA; omega))); have Kp_1 := hide (keep_below (unhide HP_s) hb2); have Ow_1 := hide ((unhide HO_s).below hb2); clear HX_s HP_s HO_s; clear hb2 hn2' HW_s p0 p1 pf0 pf1 pl)
          obtain ⟨W4, eW4, hBW4, k0_2, k1_2⟩ := two_new w2 (.cells #[.int .i64 f2, .slice a2 l2.length c2] 51) (.cells #[.int .i64 0, .int .i64 0] 29)
          rw [eW4]
          clear eW4
          have hlp_m : T < w2.heap.size := size_of (unhide Kp_1)
          (have HX_2 := hide (Below.next (unhide HX_1) hBW4 (by first | exact Nat.le_refl _ | (have := unhide HBA; omega))); have Kp_2 := hide (keep_below (unhide Kp_1) hBW4); have Ow_2 := hide ((unhide Ow_1).below hBW4); have FN_2 := hide ((unhide HN2).below hBW4); clear HX_1 Kp_1 Ow_1 HN2)
          obtain ⟨M, eM⟩ : ∃ X, w2.heap.size = X := ⟨_, rfl⟩
          rw [eM] at k0_2 k1_2 hlp_m ⊢
          have Km_2 := hide k0_2
          have Kf_2 := hide k1_2
          clear eM hBW4 k0_2 k1_2
          cases gi with
          | true =>
            have HCM2 := hide (unhide HGT rfl)
            obtain ⟨f0, f1, ff0, ff1, fl⟩ := block2 (unhide Kf_2)
            go_upto_region 22 with fail
            clear f0 f1 ff0 ff1 fl
            have HI1 : Hid (IsL KI (W4.alloc (.cells #[.int .i64 ((j : Int) + 1)] 3)) (.slice (some ⟨W4.heap.size, 0, none⟩) 1 1) [(j : Int) + 1]) := isl_one ki W4 ((j : Int) + 1)
            have hb5 : Below W4.heap.size W4 (W4.alloc (.cells #[.int .i64 ((j : Int) + 1)] 3)) := (Below.refl _ _).alloc (Nat.le_refl _) _
            obtain ⟨W5, eW5⟩ : ∃ X, W4.alloc (.cells #[.int .i64 ((j : Int) + 1)] 3) = X := ⟨_, rfl⟩
            obtain ⟨A5, eA5⟩ : ∃ X, W4.heap.size = X := ⟨_, rfl⟩
            have hlp_A5 : T < W4.heap.size := size_of (unhide Kp_2)
            have hlm_A5 : M < W4.heap.size := size_of (unhide Km_2)
            have hlf_A5 : M + 1 < W4.heap.size := size_of (unhide Kf_2)
            rw [eW5] at HI1 hb5 ⊢
            (have HX_t3 := hide (Below.next (unhide HX_2) hb5 (by first | exact Nat.le_refl _ | (have := unhide HBA; omega))); have Kp_t3 := hide (keep_below (unhide Kp_2) hb5); have Km_t3 := hide (keep_below (unhide Km_2) hb5); have Kf_t3 := hide (keep_below (unhide Kf_2) hb5); have Ow_t3 := hide ((unhide Ow_2).below hb5); have FN_t3 := hide ((unhide FN_2).below hb5); clear HX_2 Kp_2 Km_2 Kf_2 Ow_2 FN_2)
            rw [eA5] at HI1 hlp_A5 hlm_A5 hlf_A5 ⊢
            clear eA5 eW5 hb5
            obtain ⟨p0, p1, pf0, pf1, pl⟩ := block2 (unhide Kp_t3)
            obtain ⟨m0, m1, mf0, mf1, ml⟩ := block2 (unhide Km_t3)
            go_wp2_with fail
            clear p0 p1 pf0 pf1 pl m0 m1 mf0 mf1 ml
            have HI2 : Hid (IsL KI (put2 W5 T (.int .i64 f2) (.slice a2 l2.length c2)) (.slice (some ⟨A5, 0, none⟩) 1 1) [(j : Int) + 1]) := (unhide HI1).keep ki (fun k hk => put2_keep (by cases hk; show A5 ≠ T; omega))
            have NN_t4 := hide ((unhide FN_t3).keep kp (fun k hk _ => put2_keep (y0 := .int .i64 f2) (y1 := .slice a2 l2.length c2) (show k ≠ T by omega)))
            clear FN_t3
            have HX_t4 := hide (put2_below (y0 := .int .i64 f2) (y1 := .slice a2 l2.length c2) (unhide HX_t3) (show w.heap.size ≤ T by first | omega | (have := unhide HBA; omega)))
            have Kp_t4 := hide (put2_new (y0 := .int .i64 f2) (y1 := .slice a2 l2.length c2) (unhide Kp_t3))
            have Km_t4 := hide ((put2_keep (y0 := .int .i64 f2) (y1 := .slice a2 l2.length c2) (show M ≠ T by omega)).trans (unhide Km_t3))
            have Kf_t4 := hide ((put2_keep (y0 := .int .i64 f2) (y1 := .slice a2 l2.length c2) (show M + 1 ≠ T by omega)).trans (unhide Kf_t3))
            have Ow_t4 := hide ((unhide Ow_t3).keep (fun k hk => put2_keep (y0 := .int .i64 f2) (y1 := .slice a2 l2.length c2) (Own.ne (unhide Ow_t3) (unhide Kp_t3) (by decide) k hk)))
            obtain ⟨W6, eW6⟩ : ∃ X, put2 W5 (T) (.int .i64 f2) (.slice a2 l2.length c2) = X := ⟨_, rfl⟩
            rw [eW6] at HX_t4 Kp_t4 Km_t4 Kf_t4 Ow_t4 NN_t4 HI2
            have eW62 : ((W5).setCell ⟨T, 0, none⟩ (.int .i64 f2)).setCell ⟨T, 1, none⟩ (.slice a2 l2.length c2) = W6 := eW6
            rw [eW62]
            clear eW6 eW62 HX_t3 Kp_t3 Km_t3 Kf_t3 Ow_t3
            go_meet
            case rel =>
              exact ⟨rel, f2, l2, [(j : Int) + 1], ws.set (j + 1) m, a2, c2, some ⟨A5, 0, none⟩, 1, rfl, rfl, HCM2, Kp_t4, NN_t4, HI2, Ow_t4, HX_t4⟩
          | false =>
            have HCM2 := hide (unhide HGF rfl)
            obtain ⟨p0, p1, pf0, pf1, pl⟩ := block2 (unhide Kp_2)
            obtain ⟨m0, m1, mf0, mf1, ml⟩ := block2 (unhide Km_2)
            obtain ⟨f0, f1, ff0, ff1, fl⟩ := block2 (unhide Kf_2)
            go_wp2_with fail
            clear p0 p1 pf0 pf1 pl m0 m1 mf0 mf1 ml f0 f1 ff0 ff1 fl
            have NN_u3 := hide ((unhide FN_2).keep kp (fun k hk _ => put2_keep (y0 := .int .i64 f2) (y1 := .slice a2 l2.length c2) (show k ≠ T by omega)))
            clear FN_2
            have HX_u3 := hide (put2_below (y0 := .int .i64 f2) (y1 := .slice a2 l2.length c2) (unhide HX_2) (show w.heap.size ≤ T by first | omega | (have := unhide HBA; omega)))
            have Kp_u3 := hide (put2_new (y0 := .int .i64 f2) (y1 := .slice a2 l2.length c2) (unhide Kp_2))
            have Km_u3 := hide ((put2_keep (y0 := .int .i64 f2) (y1 := .slice a2 l2.length c2) (show M ≠ T by omega)).trans (unhide Km_2))
            have Kf_u3 := hide ((put2_keep (y0 := .int .i64 f2) (y1 := .slice a2 l2.length c2) (show M + 1 ≠ T by omega)).trans (unhide Kf_2))
            have Ow_u3 := hide ((unhide Ow_2).keep (fun k hk => put2_keep (y0 := .int .i64 f2) (y1 := .slice a2 l2.length c2) (Own.ne (unhide Ow_2) (unhide Kp_2) (by decide) k hk)))
            obtain ⟨W6, eW6⟩ : ∃ X, put2 W4 (T) (.int .i64 f2) (.slice a2 l2.length c2) = X := ⟨_, rfl⟩
            rw [eW6] at HX_u3 Kp_u3 Km_u3 Kf_u3 Ow_u3 NN_u3
            have eW62 : ((W4).setCell ⟨T, 0, none⟩ (.int .i64 f2)).setCell ⟨T, 1, none⟩ (.slice a2 l2.length c2) = W6 := eW6
            rw [eW62]
            clear eW6 eW62 HX_2 Kp_2 Km_2 Kf_2 Ow_2
            go_meet
            case rel =>
              exact ⟨rel, f2, l2, [], ws.set (j + 1) m, a2, c2, none, 0, rfl, rfl, HCM2, Kp_u3, NN_u3, isl_nil _, Ow_u3, HX_u3⟩
        · obtain ⟨hf, hcm⟩ := (unhide HC).rel hlt (x := -m) (by omega) (by omega)
          have HRL : Hid (∀ W v', IsG KP W v' f ln → Calls Try.prog 25 #[v', .int .i64 (-m)] W fun e w' => ∃ a' c' a5 c5, e = .returned (.tuple #[.agg #[.int .i64 (giveR (f + -m) ln).1.1, .slice a' (giveR (f + -m) ln).1.2.length c'], .slice a5 (giveR (f + -m) ln).2.length c5, .agg #[.int .i64 0, .int .i64 0]]) ∧ New KP W.heap.size w' (.slice a' (giveR (f + -m) ln).1.2.length c') (giveR (f + -m) ln).1.2 ∧ New KI W.heap.size w' (.slice a5 (giveR (f + -m) ln).2.length c5) (giveR (f + -m) ln).2 ∧ Below W.heap.size W w') := fun W v' hv => (release_ok W v' f ln (-m) hv hf).mono fun e w' ⟨v1, v2, h1, h2, h3, h4⟩ => by
            obtain ⟨a', c', rfl, h5⟩ := h2.form
            obtain ⟨a5, c5, rfl⟩ := h3.1.form
            exact ⟨a', c', a5, c5, h1, h5, h3, h4⟩
          obtain ⟨⟨⟨f2, l2⟩, whl⟩, eR⟩ : ∃ R, giveR (f + -m) ln = R := ⟨_, rfl⟩
          rw [eR] at HRL hcm
          simp only at HRL hcm
          have HCM2 := hide hcm
          have hwm : IntKind.i64.wrap (-m) = -m := wrapi (by omega) (by omega)
          have hwr : IntKind.i64.wrap (rel - m) = rel - m := wrapi (by omega) (by omega)
          have HRE : Hid (rel + -m = rel - m) := by show rel + -m = rel - m; omega
          clear hf hcm eR
          obtain ⟨p0, p1, pf0, pf1, pl⟩ := block2 (unhide HPj)
          have HTB : Hid (G < wr.heap.size) := hGw
          go_upto_region 24 with (go_at_call 25; refine (unhide HRL _ _ ⟨_, rfl, (unhide HWj).1⟩).mono ?_; rintro e w2 ⟨a2, c2, a5, c5, rfl, hn2', hi5, hb2⟩; have HN2 := hide (hn2'.base (Nat.succ_le_of_lt (unhide HTB))); have HI5 := hide (hi5.base (Nat.succ_le_of_lt (unhide HTB))); have HX_v1 := hide (Below.next (unhide HXj) hb2 (by first | exact Nat.le_refl _ | (have := unhide HBA; omega))); have Kp_v1 := hide (keep_below (unhide HPj) hb2); have Ow_v1 := hide ((unhide HOj).below hb2); clear HXj HPj HOj; clear hb2 hn2' hi5 HWj p0 p1 pf0 pf1 pl)
          obtain ⟨W4, eW4, hBW4, k0_v2, k1_v2⟩ := two_new w2 (.cells #[.int .i64 f2, .slice a2 l2.length c2] 51) (.cells #[.int .i64 0, .int .i64 0] 29)
          rw [eW4]
          clear eW4
          have hlp_m : T < w2.heap.size := size_of (unhide Kp_v1)
          (have HX_v2 := hide (Below.next (unhide HX_v1) hBW4 (by first | exact Nat.le_refl _ | (have := unhide HBA; omega))); have Kp_v2 := hide (keep_below (unhide Kp_v1) hBW4); have Ow_v2 := hide ((unhide Ow_v1).below hBW4); have FN_v2 := hide ((unhide HN2).below hBW4); have FI_v2 := hide ((unhide HI5).below hBW4); clear HX_v1 Kp_v1 Ow_v1 HN2 HI5)
          obtain ⟨M, eM⟩ : ∃ X, w2.heap.size = X := ⟨_, rfl⟩
          rw [eM] at k0_v2 k1_v2 hlp_m ⊢
          have Km_v2 := hide k0_v2
          have Kf_v2 := hide k1_v2
          clear eM hBW4 k0_v2 k1_v2
          obtain ⟨p0, p1, pf0, pf1, pl⟩ := block2 (unhide Kp_v2)
          obtain ⟨m0, m1, mf0, mf1, ml⟩ := block2 (unhide Km_v2)
          obtain ⟨f0, f1, ff0, ff1, fl⟩ := block2 (unhide Kf_v2)
          go_wp2_with fail
          clear p0 p1 pf0 pf1 pl m0 m1 mf0 mf1 ml f0 f1 ff0 ff1 fl
          have NN_v3 := hide ((unhide FN_v2).keep kp (fun k hk _ => put2_keep (y0 := .int .i64 f2) (y1 := .slice a2 l2.length c2) (show k ≠ T by omega)))
          clear FN_v2
          have NI_v3 := hide ((unhide FI_v2).keep ki (fun k hk _ => put2_keep (y0 := .int .i64 f2) (y1 := .slice a2 l2.length c2) (show k ≠ T by omega)))
          clear FI_v2
          have HX_v3 := hide (put2_below (y0 := .int .i64 f2) (y1 := .slice a2 l2.length c2) (unhide HX_v2) (show w.heap.size ≤ T by first | omega | (have := unhide HBA; omega)))
          have Kp_v3 := hide (put2_new (y0 := .int .i64 f2) (y1 := .slice a2 l2.length c2) (unhide Kp_v2))
          have Km_v3 := hide ((put2_keep (y0 := .int .i64 f2) (y1 := .slice a2 l2.length c2) (show M ≠ T by omega)).trans (unhide Km_v2))
          have Kf_v3 := hide ((put2_keep (y0 := .int .i64 f2) (y1 := .slice a2 l2.length c2) (show M + 1 ≠ T by omega)).trans (unhide Kf_v2))
          have Ow_v3 := hide ((unhide Ow_v2).keep (fun k hk => put2_keep (y0 := .int .i64 f2) (y1 := .slice a2 l2.length c2) (Own.ne (unhide Ow_v2) (unhide Kp_v2) (by decide) k hk)))
          obtain ⟨W6, eW6⟩ : ∃ X, put2 W4 (T) (.int .i64 f2) (.slice a2 l2.length c2) = X := ⟨_, rfl⟩
          rw [eW6] at HX_v3 Kp_v3 Km_v3 Kf_v3 Ow_v3 NN_v3 NI_v3
          have eW62 : ((W4).setCell ⟨T, 0, none⟩ (.int .i64 f2)).setCell ⟨T, 1, none⟩ (.slice a2 l2.length c2) = W6 := eW6
          rw [eW62]
          clear eW6 eW62 HX_v2 Kp_v2 Km_v2 Kf_v2 Ow_v2
          try rw [hwr]
          go_meet
          case rel =>
            exact ⟨rel - m, f2, l2, whl, ws, a2, c2, a5, c5, rfl, rfl, (by rw [← unhide HRE]; exact HCM2), Kp_v3, NN_v3, hide (unhide NI_v3).1, Ow_v3, HX_v3⟩
      case rest =>
        obtain ⟨rel2, f2, l2, whl, ws2, a2, c2, a5, c5, rfl, rfl, HC2, HP2, HW2, HI2, HO2, HX2⟩ := hcut
        obtain ⟨K, eK⟩ : ∃ K, whl.length = K := ⟨_, rfl⟩
        rw [eK] at HI2 ⊢
        have HK := hide eK
        have hK1 : K ≤ 1000 := by rw [← eK]; exact (unhide HC2).many
        clear eK HC HPj HWj HOj HXj hm1 hm2 bf0 bf1 bg1 br1 bg0 br0 bl0 hGw
        have HC3 : Hid (CM n (j + 1) x got rel2 last f2 l2 (whl.drop 0) ws2) := HC2
        go_wp2_with fail
        go_loopw [6, 8, 19] (fun g l k W => ∃ (q : Nat) (got2 last2 : Int), q ≤ K ∧ g = .int .i64 got2 ∧ l = .int .i64 last2 ∧ k = .int .i64 q ∧ Hid (CM n (j + 1) x got2 rel2 last2 f2 l2 (whl.drop q) ws2) ∧ W = wc) (fun _ _ k _ => K - (intOf k).toNat)
        case atStart => exact ⟨0, got, last, Nat.zero_le _, rfl, rfl, rfl, HC3, rfl⟩
        case round =>
          obtain ⟨q, got2, last2, hq, rfl, rfl, rfl, HCq, rfl⟩ := hrel
          clear HC2 HC3
          by_cases hqk : q < K
          · obtain ⟨b5, o5, rfl, hb5, l5⟩ := (unhide HI2).opens ki (unhide HK) (by omega)
            have k5 := l5.ints (j := q) (by rw [unhide HK]; exact hqk)
            have hqk2 : q < whl.length := by rw [unhide HK]; exact hqk
            have hcq := unhide HCq
            rw [drop_get (0 : Int) hqk2] at hcq
            obtain ⟨tt, ett⟩ : ∃ t, whl.getD q 0 = t := ⟨_, rfl⟩
            rw [ett] at hcq k5
            obtain ⟨s1, s2, s3, s4, s5⟩ := hcq.step
            have hl20 := hcq.last0.1
            have hg20 := hcq.got0
            have hgb := hcq.bound.2.2.1
            obtain ⟨tn, rfl⟩ : ∃ tn : Nat, tt = (tn : Int) := ⟨tt.toNat, by omega⟩
            have hwl : ws2.length = n + 1 := hcq.len
            obtain ⟨kw, -⟩ := own_inti (unhide HO2) (j := tn) (by omega)
            have ew : ws2.getD tn 0 = wantOf ws2 (tn : Int) := by unfold wantOf; rw [Int.toNat_natCast]
            rw [ew] at kw
            have HS5 := hide s5
            obtain ⟨wv, ewv⟩ : ∃ z, wantOf ws2 (tn : Int) = z := ⟨_, rfl⟩
            rw [ewv] at kw s3 s4 HS5
            have u1 : ¬ (tn : Int) ≤ last2 := by omega
            have u2 : ¬ (n : Int) < (tn : Int) := by omega
            have u3 : (0 : Int) ≤ (q : Int) := by omega
            have u4 : (q : Int) < (K : Int) := by omega
            have u5 : (0 : Int) ≤ (tn : Int) := by omega
            have u6 : (tn : Int) < ((n + 1 : Nat) : Int) := by omega
            have u7 : (tn : Int) < (n : Int) + 1 := by omega
            have u8 : IntKind.i64.wrap (got2 + wv) = got2 + wv := wrapi (by omega) (by omega)
            clear hcq ett hqk2 s5 ew ewv hwl l5 HCq
            go_wp2_with fail
            go_roundw
            case rel => exact ⟨q + 1, got2 + wv, (tn : Int), by omega, by first | rfl | rw [u8], rfl, by go_num, HS5, by first | rfl | trivial⟩
            case measure => simp [intOf]; omega
          · have hqe : q = K := by omega
            subst hqe
            have hqk2 : ¬ (q : Int) < (q : Int) := by omega
            have hcq := unhide HCq
            rw [List.drop_eq_nil_of_le (by rw [unhide HK]; exact Nat.le_refl _)] at hcq
            have hsum := hcq.sum
            simp only [List.map_nil, List.sum_nil, Int.add_zero] at hsum
            obtain ⟨e1, e2, e3, e4⟩ := hcq.bound
            have e5 := hcq.got0
            have e6 := hcq.rel0.1
            have e7 := hcq.good.no
            have y1 : ((f2 + got2) != (x + rel2)) = false := by simpa using hsum
            have y2 : decide (f2 < 0) = false := decide_eq_false (by omega)
            have y3 : IntKind.i64.wrap (f2 + got2) = f2 + got2 := wrapi (by omega) (by omega)
            have y4 : IntKind.i64.wrap (x + rel2) = x + rel2 := wrapi (by omega) (by omega)
            have y5 : ¬ f2 < 0 := by omega
            have HCE := hide hcq
            clear hcq hsum HCq
            have HNI := hide (unhide HW2).1
            cases l2 with
            | nil =>
              simp only [List.length_nil] at HP2 HW2
              obtain ⟨p0, p1, pf0, pf1, pl⟩ := block2 (unhide HP2)
              go_wp2_with fail
              go_quiet (fail)
              go_wp2_with fail
              have hbq : Below wr.heap.size wr (wr.drewN nq) := below_drewN (Below.refl _ _) _
              go_roundw
              case rel => exact ⟨j + 1, got2, rel2, last2, f2, [], ws2, a2, c2, by omega, rfl, rfl, rfl, by go_num, HCE, keep_below (unhide HP2) hbq, (unhide HW2).below hbq, (unhide HO2).below hbq, Below.next (unhide HX2) hbq (Nat.le_refl _)⟩
              case measure => simp [intOf]; omega
            | cons z l3 =>
              obtain ⟨zt, zc, zu⟩ := z
              obtain ⟨b6, off6, rfl, hb6, hl6⟩ := (unhide HNI).opens kp rfl (by simp)
              obtain ⟨q0, q1, q2⟩ := post_first hl6 (by simp) rfl
              have y6 : decide (zu ≤ f2) = false := e7
              have y7 : ¬ zu ≤ f2 := of_decide_eq_false y6
              obtain ⟨N3, eN3⟩ : ∃ N, ((zt, zc, zu) :: l3).length = N := ⟨_, rfl⟩
              have y8 : 0 < N3 := by rw [← eN3]; simp
              have y9 : (0 : Int) < (N3 : Int) := by omega
              have HN3 := hide eN3
              rw [eN3] at HP2
              obtain ⟨p0, p1, pf0, pf1, pl⟩ := block2 (unhide HP2)
              clear hl6 e7 eN3
              go_wp2_with fail
              go_quiet (fail)
              go_wp2_with fail
              have hbq : Below wr.heap.size wr (wr.drewN nq) := below_drewN (Below.refl _ _) _
              go_roundw
              case rel => exact ⟨j + 1, got2, rel2, last2, f2, ((zt, zc, zu) :: l3), ws2, some ⟨b6, off6, none⟩, c2, by omega, rfl, rfl, rfl, by go_num, HCE, (by rw [unhide HN3]; exact keep_below (unhide HP2) hbq), (unhide HW2).below hbq, (unhide HO2).below hbq, Below.next (unhide HX2) hbq (Nat.le_refl _)⟩
              case measure => simp [intOf]; omega
    · go_wp2_with fail
      go_ret
      exact ⟨rfl, unhide HXj⟩
end Go.Proofs.Ytpogcfdmkeebmaa
