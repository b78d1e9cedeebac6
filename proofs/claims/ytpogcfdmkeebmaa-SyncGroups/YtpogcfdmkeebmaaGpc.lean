/-
  taskmilllaw.SyncGroups: a number too great.
-/
import Derived.Test.YtpogcfdmkeebmaaGpa
namespace Go.Proofs.Ytpogcfdmkeebmaa
open Go.RowKit

set_option maxRecDepth 100000 in
set_option maxHeartbeats 4000000 in
theorem group_high (w : World) (v : Value) (c : Int) (xs : List Int) (y x : Int) (h : IsG KI w v c xs) (hm : xs.length * 8 ≤ 140737488355328) (hl : ¬ ((700 < xs.length ∧ xs.length < 4999) ∨ 6000 < xs.length)) (hg : (groupF c xs).1 = 0) (h1 : ¬ y < -1000000000) (h2 : 1000000000 < y) :
    Calls Try.prog 3 #[v, .int .i64 y, .int .i64 x] w fun e w' => e = .returned (.bool true) ∧ Below w.heap.size w w' := by
  have hnot : ∀ (x : Bool) (w : World), (Op.unary .not (.bool x)).run Try.prog w = .ok (.bool (!x)) w := fun _ _ => rfl
  have hn6 : xs.length ≤ 6000 := by omega
  obtain ⟨a0, c0, rfl, hL⟩ := h.form
  have HOW0 : Hid (∀ W, Below w.heap.size w W → Calls Try.prog 11 #[.slice a0 xs.length c0] W fun e w' => ∃ a' c', e = .returned (.slice a' xs.length c') ∧ Own KI W.heap.size w' (.slice a' xs.length c') xs ∧ Below W.heap.size W w') := fun W hW => own_any W _ xs (hL.below hW) hm
  have HGF0 : Hid (∀ W, Below w.heap.size w W → Calls Try.prog 14 #[.agg #[.int .i64 c, .slice a0 xs.length c0]] W fun e w' => e = .returned (faultV (groupF c xs)) ∧ Below W.heap.size W w') := fun W hW => groupFault_any W _ c xs (h.below hW) (by unfold maxLen; omega)
  have HCF0 : Hid (∀ W, Below w.heap.size w W → Calls Try.prog 18 #[.agg #[.int .i64 (groupF c xs).1, .int .i64 (groupF c xs).2], .slice a0 xs.length c0, .int .i64 x] W fun e w' => e = .returned (faultV (if (groupF c xs).1 ≠ 0 then groupF c xs else comesF xs x)) ∧ Below W.heap.size W w') := fun W hW => comeFault_any W (groupF c xs) _ xs x (hL.below hW) (by unfold maxLen; omega)
  have HL0 := hide hL
  obtain ⟨hz, -, -, hcb0, hcb1, -⟩ := groupF_good hg
  obtain ⟨BC, BL, BI, A0, A1, hcA, hAW, hAK⟩ := await_all c xs x hg hn6
  rw [hz] at HGF0 HCF0
  rw [if_neg (by simp), hcA] at HCF0
  have HAW0 := hide hAW
  have HAWK := hide hAK
  obtain ⟨BN, eBN⟩ : ∃ N, BL.length = N := ⟨_, rfl⟩
  rw [eBN] at HAW0
  have HBN := hide eBN
  clear hcA hAW hAK eBN
  have haf : addF c xs y = (3, -1) := by unfold addF; rw [if_neg (by rw [hz]; simp), if_pos (Or.inr h2)]
  have hbf : (addF c xs y).1 ≠ 0 := by rw [haf]; decide
  have HAD1 : Hid (∀ W v', IsG KI W v' c xs → Calls Try.prog 12 #[v', .int .i64 y] W fun e w' => ∃ a1 d1 a2 d2, e = .returned (.tuple #[.agg #[.int .i64 0, .slice a1 0 d1], .slice a2 0 d2, .bool false, faultV (addF c xs y)]) ∧ IsL KI w' (.slice a1 0 d1) [] ∧ IsL KI w' (.slice a2 0 d2) [] ∧ Below W.heap.size W w') := fun W v' hv => (add_fault W v' c xs y hv (by unfold maxLen; omega) hbf).mono fun e w' ⟨h1, h2⟩ => ⟨none, 0, none, 0, h1, isl_nil _, isl_nil _, h2⟩
  rw [haf] at HAD1
  have HAD0 : Hid (∀ W v', IsG KI W v' c xs → Calls Try.prog 12 #[v', .int .i64 y] W fun e w' => ∃ a1 d1 a2 d2, e = .returned (.tuple #[.agg #[.int .i64 0, .slice a1 0 d1], .slice a2 0 d2, .bool false, .agg #[.int .i64 3, .int .i64 (-1)]]) ∧ IsL KI w' (.slice a1 0 d1) [] ∧ IsL KI w' (.slice a2 0 d2) [] ∧ Below W.heap.size W w') := unhide HAD1
  clear haf hbf HAD1 hz hg
  obtain ⟨n, en⟩ : ∃ n, xs.length = n := ⟨_, rfl⟩
  rw [en] at hl hn6 HOW0 HGF0 HCF0 HL0 ⊢
  have hl2 : ¬ ((700 < (n : Int) ∧ (n : Int) < 4999) ∨ 6000 < (n : Int)) := by omega
  have HLG : Hid (∀ W, Calls Try.prog 10 #[.int .i64 (n : Int)] W fun e w' => e = .returned (.bool false) ∧ w' = W) := fun W => long_no W _ hl2
  have HEN := hide en
  clear h hl hl2 hL en hm
  obtain ⟨W0, e0, hB, k0⟩ : ∃ W, w.alloc (.cells #[.int .i64 c, .slice a0 n c0] 24) = W ∧ Below w.heap.size w W ∧ W.heap[w.heap.size]? = some (.cells #[.int .i64 c, .slice a0 n c0] 24) := ⟨_, rfl, (Below.refl _ _).alloc (Nat.le_refl _) _, new_block _ _⟩
  have HX := hide hB; have HP := hide k0; have HE := hide e0
  clear hB k0 e0
  go_enter Try.func3, Try.ntmps3
  go_upto_region 1 with fail
  rw [unhide HE]
  clear HE
  obtain ⟨p0, p1, pf0, pf1, pl⟩ := block2 (unhide HP)
  go_upto_region 5 with (first | (go_at_call 9; refine (begun_any _).mono ?_; rintro e w1 ⟨rfl, hb1⟩; have HX_1 := hide (Below.next (unhide HX) hb1 (by first | exact Nat.le_refl _ | (have := unhide HBA; omega))); have Kp_1 := hide (keep_below (unhide HP) hb1); clear HX HP; clear hb1 p0 p1 pf0 pf1 pl; obtain ⟨p0, p1, pf0, pf1, pl⟩ := block2 (unhide Kp_1)) | (go_at_call 10; refine (unhide HLG _).mono ?_; rintro e w1 ⟨rfl, rfl⟩))
  clear p0 p1 pf0 pf1 pl
  have HOW : Hid (∀ W, Below w1.heap.size w1 W → Calls Try.prog 11 #[.slice a0 n c0] W fun e w' => ∃ a' c', e = .returned (.slice a' n c') ∧ Own KI W.heap.size w' (.slice a' n c') xs ∧ Below W.heap.size W w') := fun W hW => unhide HOW0 W (Below.next (unhide HX_1) hW (Nat.le_refl _))
  go_cut [7] (fun s W => ∃ (Y : Nat) (a5 : Option Addr) (c5 : Nat), s = .pointer (some ⟨Y, 0, none⟩) ∧ Hid (W.heap[Y]? = some (.cells #[.int .i64 c, .slice a5 n c5] 24)) ∧ Hid (Own KI w1.heap.size W (.slice a5 n c5) xs) ∧ Hid (w1.heap.size ≤ Y) ∧ Hid (Below w1.heap.size w1 W))
  case first =>
    have HSS : Hid (∀ W, Below w1.heap.size w1 W → W.cell? ⟨w.heap.size, 0, none⟩ = some (.int .i64 c) ∧ W.cell? ⟨w.heap.size, 1, none⟩ = some (.slice a0 n c0) ∧ Below w1.heap.size w1 W) := fun W hW => by
      obtain ⟨k0, k1, -, -, -⟩ := block2 (keep_below (unhide Kp_1) hW)
      exact ⟨k0, k1, hW⟩
    obtain ⟨k0, k1, -⟩ := unhide HSS _ (Below.refl _ _)
    go_wp2_with fail
    go_region_held3 (fun W => W.cell? ⟨w.heap.size, 0, none⟩ = some (.int .i64 c) ∧ W.cell? ⟨w.heap.size, 1, none⟩ = some (.slice a0 n c0) ∧ Below w1.heap.size w1 W)
      (first | with_reducible exact unhide HSS _ (Below.refl _ _).drew | with_reducible exact unhide HSS _ ((Below.refl w1.heap.size w1).alloc (Nat.le_refl _) _).drew | with_reducible exact unhide HSS _ (unhide HX3) | with_reducible exact unhide HSS _ ((unhide HX3).alloc (unhide HX3).size _) | exact unhide HSS _ (put2_below (unhide HX3) (Nat.le_refl _)))
      (first | (go_at_call 11; refine (unhide HOW _ (by go_split_ands; assumption)).mono ?_; rintro e w3 ⟨a3, c3, rfl, ho3, hb3⟩; have HX3 : Hid (Below w1.heap.size w1 w3) := Below.next (by go_split_ands; assumption) hb3 (Nat.le_refl _); have HO3 := hide (ho3.base (show w1.heap.size ≤ _ from (show Below w1.heap.size w1 _ by go_split_ands; assumption).size)); (try (have HZ3 : Hid (w3.heap[w1.heap.size]? = some (.cells #[.int .i64 0, .slice none 0 0] 24)) := (keep_below (w := (w1.alloc (.cells #[.int .i64 0, .slice none 0 0] 24)).drew) (new_block w1 (.cells #[.int .i64 0, .slice none 0 0] 24)) hb3); have hz := block2 (unhide HZ3); have z0 := hz.1; have z1 := hz.2.1; have zf0 := hz.2.2.1; have zf1 := hz.2.2.2.1; have zl := hz.2.2.2.2)); clear ho3 hb3))
    all_goals
      go_wp2_with fail
      go_meet
      case rel =>
        first
          | exact ⟨_, a3, c3, rfl, put2_new (unhide HZ3), put2_own (unhide HO3) (unhide HZ3) (by decide), Nat.le_refl _, put2_below (unhide HX3) (Nat.le_refl _)⟩
          | exact ⟨_, a3, c3, rfl, new_block _ _, (unhide HO3).below ((Below.refl _ _).alloc (Nat.le_refl _) _), (unhide HX3).size, (unhide HX3).alloc (unhide HX3).size _⟩
  case rest =>
    obtain ⟨Y, a5, c5, rfl, HY_, HOY_, HBY_, HXY_⟩ := hcut
    have hlp_Y : w.heap.size < Y := Nat.lt_of_lt_of_le (size_of (unhide Kp_1)) (unhide HBY_)
    (have HX_2 := hide (Below.next (unhide HX_1) (unhide HXY_) (by first | exact Nat.le_refl _ | (have := unhide HBA; omega))); have Kp_2 := hide (keep_below (unhide Kp_1) (unhide HXY_)); clear HX_1 Kp_1)
    obtain ⟨x0, x1, xf0, xf1, xl⟩ := block2 (unhide HY_)
    go_upto_region 7 with (go_at_call 12; refine (unhide HAD0 _ _ ⟨_, rfl, (unhide HOY_).isl⟩).mono ?_; rintro e w5 ⟨b1, d1, b2, d2, rfl, hi1, hi2, hb5⟩; have HI1 := hide hi1; have HI2 := hide hi2; have HC5 : Hid (Below w5.heap.size w5 w5) := Below.refl _ _; have HX_3 := hide (Below.next (unhide HX_2) hb5 (by first | exact Nat.le_refl _ | (have := unhide HBA; omega))); have Kp_3 := hide (keep_below (unhide Kp_2) hb5); have Kx_3 := hide (keep_below (unhide HY_) hb5); have Ox_3 := hide ((unhide HOY_).below hb5); clear HX_2 Kp_2 HY_ HOY_; clear hb5 hi1 hi2 x0 x1 xf0 xf1 xl)
    obtain ⟨W6, eW6, hBW6, k0_4, k1_4⟩ := two_new w5 (.cells #[.int .i64 0, .slice b1 0 d1] 24) (.cells #[.int .i64 3, .int .i64 (-1)] 29)
    rw [eW6]
    clear eW6
    have hlp_m : w.heap.size < w5.heap.size := size_of (unhide Kp_3)
    have hlx_m : Y < w5.heap.size := size_of (unhide Kx_3)
    (have HX_4 := hide (Below.next (unhide HX_3) hBW6 (by first | exact Nat.le_refl _ | (have := unhide HBA; omega))); have Kp_4 := hide (keep_below (unhide Kp_3) hBW6); have Kx_4 := hide (keep_below (unhide Kx_3) hBW6); have Ox_4 := hide ((unhide Ox_3).below hBW6); have CJ_4 := hide (Below.next (unhide HC5) hBW6 (Nat.le_refl _)); clear HX_3 Kp_3 Kx_3 Ox_3 HC5)
    obtain ⟨M, eM⟩ : ∃ X, w5.heap.size = X := ⟨_, rfl⟩
    rw [eM] at k0_4 k1_4 hlp_m hlx_m ⊢
    have Km_4 := hide k0_4
    have Kf_4 := hide k1_4
    clear eM hBW6 k0_4 k1_4
    obtain ⟨x0, x1, xf0, xf1, xl⟩ := block2 (unhide Kx_4)
    go_upto_region 8 with (go_at_call 13; refine (unhide HAW0 _ _ ⟨_, rfl, (unhide Ox_4).isl⟩).mono ?_; rintro e w7 ⟨b3, d3, rfl, hi3, hb7⟩; have HI3 := hide hi3; have HC7 : Hid (Below w7.heap.size w7 w7) := Below.refl _ _; have HX_5 := hide (Below.next (unhide HX_4) hb7 (by first | exact Nat.le_refl _ | (have := unhide HBA; omega))); have Kp_5 := hide (keep_below (unhide Kp_4) hb7); have Kx_5 := hide (keep_below (unhide Kx_4) hb7); have Km_5 := hide (keep_below (unhide Km_4) hb7); have Kf_5 := hide (keep_below (unhide Kf_4) hb7); have Ox_5 := hide ((unhide Ox_4).below hb7); have CJ_5 := hide (Below.next (unhide CJ_4) hb7 (Nat.le_refl _)); clear HX_4 Kp_4 Kx_4 Km_4 Kf_4 Ox_4 CJ_4; clear hb7 hi3 x0 x1 xf0 xf1 xl)
    obtain ⟨W8, eW8, hBW8, k0_6, k1_6⟩ := two_new w7 (.cells #[.int .i64 BC, .slice b3 BN d3] 24) (.cells #[.int .i64 A0, .int .i64 A1] 29)
    rw [eW8]
    clear eW8
    have hlp_q : w.heap.size < w7.heap.size := size_of (unhide Kp_5)
    have hlx_q : Y < w7.heap.size := size_of (unhide Kx_5)
    have hlm_q : M < w7.heap.size := size_of (unhide Km_5)
    have hlf_q : M + 1 < w7.heap.size := size_of (unhide Kf_5)
    (have HX_6 := hide (Below.next (unhide HX_5) hBW8 (by first | exact Nat.le_refl _ | (have := unhide HBA; omega))); have Kp_6 := hide (keep_below (unhide Kp_5) hBW8); have Kx_6 := hide (keep_below (unhide Kx_5) hBW8); have Km_6 := hide (keep_below (unhide Km_5) hBW8); have Kf_6 := hide (keep_below (unhide Kf_5) hBW8); have Ox_6 := hide ((unhide Ox_5).below hBW8); have CJ_6 := hide (Below.next (unhide CJ_5) hBW8 (Nat.le_refl _)); have CK_6 := hide (Below.next (unhide HC7) hBW8 (Nat.le_refl _)); clear HX_5 Kp_5 Kx_5 Km_5 Kf_5 Ox_5 CJ_5 HC7)
    obtain ⟨M2, eM2⟩ : ∃ X, w7.heap.size = X := ⟨_, rfl⟩
    rw [eM2] at k0_6 k1_6 hlp_q hlx_q hlm_q hlf_q ⊢
    have Kq_6 := hide k0_6
    have Kg_6 := hide k1_6
    clear eM2 hBW8 k0_6 k1_6
    obtain ⟨p0, p1, pf0, pf1, pl⟩ := block2 (unhide Kp_6)
    go_upto_region 9 with (go_at_call 14; refine (unhide HGF0 _ (unhide HX_6)).mono ?_; rintro e w9 ⟨he, hb9⟩; obtain rfl : e = .returned (.agg #[.int .i64 0, .int .i64 0]) := he; have HX_7 := hide (Below.next (unhide HX_6) hb9 (by first | exact Nat.le_refl _ | (have := unhide HBA; omega))); have Kp_7 := hide (keep_below (unhide Kp_6) hb9); have Kx_7 := hide (keep_below (unhide Kx_6) hb9); have Km_7 := hide (keep_below (unhide Km_6) hb9); have Kf_7 := hide (keep_below (unhide Kf_6) hb9); have Kq_7 := hide (keep_below (unhide Kq_6) hb9); have Kg_7 := hide (keep_below (unhide Kg_6) hb9); have Ox_7 := hide ((unhide Ox_6).below hb9); have CJ_7 := hide (Below.next (unhide CJ_6) hb9 (Nat.le_refl _)); have CK_7 := hide (Below.next (unhide CK_6) hb9 (Nat.le_refl _)); clear HX_6 Kp_6 Kx_6 Km_6 Kf_6 Kq_6 Kg_6 Ox_6 CJ_6 CK_6; clear hb9 p0 p1 pf0 pf1 pl)
    have hch : w5.heap.size ≤ w9.heap.size := (unhide CJ_7).size
    have hch7 : w7.heap.size ≤ w9.heap.size := (unhide CK_7).size
    have HX_8 := hide ((unhide HX_7).alloc (Nat.le_trans (show w.heap.size ≤ w.heap.size from Nat.le_refl _) (unhide HX_7).size) (.cells #[.int .i64 0, .int .i64 0] 29))
    have Kp_8 := hide (keep_alloc (unhide Kp_7) (.cells #[.int .i64 0, .int .i64 0] 29))
    have Kx_8 := hide (keep_alloc (unhide Kx_7) (.cells #[.int .i64 0, .int .i64 0] 29))
    have Km_8 := hide (keep_alloc (unhide Km_7) (.cells #[.int .i64 0, .int .i64 0] 29))
    have Kf_8 := hide (keep_alloc (unhide Kf_7) (.cells #[.int .i64 0, .int .i64 0] 29))
    have Kq_8 := hide (keep_alloc (unhide Kq_7) (.cells #[.int .i64 0, .int .i64 0] 29))
    have Kg_8 := hide (keep_alloc (unhide Kg_7) (.cells #[.int .i64 0, .int .i64 0] 29))
    have Ox_8 := hide ((unhide Ox_7).below ((Below.refl _ _).alloc (Nat.le_refl _) (.cells #[.int .i64 0, .int .i64 0] 29)))
    have CJ_8 := hide ((unhide CJ_7).alloc (unhide CJ_7).size (.cells #[.int .i64 0, .int .i64 0] 29))
    have CK_8 := hide ((unhide CK_7).alloc (unhide CK_7).size (.cells #[.int .i64 0, .int .i64 0] 29))
    have Ku_8 := hide (new_block w9 (.cells #[.int .i64 0, .int .i64 0] 29))
    have hlp_u : w.heap.size < w9.heap.size := size_of (unhide Kp_7)
    have hlx_u : Y < w9.heap.size := size_of (unhide Kx_7)
    have hlm_u : M < w9.heap.size := size_of (unhide Km_7)
    have hlf_u : M + 1 < w9.heap.size := size_of (unhide Kf_7)
    have hlq_u : M2 < w9.heap.size := size_of (unhide Kq_7)
    have hlg_u : M2 + 1 < w9.heap.size := size_of (unhide Kg_7)
    obtain ⟨U, eU⟩ : ∃ X, w9.heap.size = X := ⟨_, rfl⟩
    obtain ⟨W10, eW10⟩ : ∃ X, w9.alloc (.cells #[.int .i64 0, .int .i64 0] 29) = X := ⟨_, rfl⟩
    rw [eU, eW10] at Ku_8; rw [eW10] at HX_8 Kp_8 Kx_8 Km_8 Kf_8 Kq_8 Kg_8 Ox_8 CJ_8 CK_8; rw [eU] at hlp_u hlx_u hlm_u hlf_u hlq_u hlg_u hch hch7; rw [eU, eW10]
    clear eU eW10 HX_7 Kp_7 Kx_7 Km_7 Kf_7 Kq_7 Kg_7 Ox_7 CJ_7 CK_7
    obtain ⟨p0, p1, pf0, pf1, pl⟩ := block2 (unhide Kp_8)
    obtain ⟨x0, x1, xf0, xf1, xl⟩ := block2 (unhide Kx_8)
    obtain ⟨u0, u1, uf0, uf1, ul⟩ := block2 (unhide Ku_8)
    go_upto_region 12 with (go_at_call 15; refine (sameGroup_any _ _ _ c xs ⟨_, rfl, (unhide Ox_8).isl⟩ ⟨_, rfl, (unhide HL0).below (unhide HX_8)⟩ (by rw [unhide HEN]; unfold maxLen; omega)).mono ?_; rintro e w11 ⟨rfl, hb11⟩; have HX_9 := hide (Below.next (unhide HX_8) hb11 (by first | exact Nat.le_refl _ | (have := unhide HBA; omega))); have Kp_9 := hide (keep_below (unhide Kp_8) hb11); have Kx_9 := hide (keep_below (unhide Kx_8) hb11); have Km_9 := hide (keep_below (unhide Km_8) hb11); have Kf_9 := hide (keep_below (unhide Kf_8) hb11); have Kq_9 := hide (keep_below (unhide Kq_8) hb11); have Kg_9 := hide (keep_below (unhide Kg_8) hb11); have Ku_9 := hide (keep_below (unhide Ku_8) hb11); have Ox_9 := hide ((unhide Ox_8).below hb11); have CJ_9 := hide (Below.next (unhide CJ_8) hb11 (Nat.le_refl _)); have CK_9 := hide (Below.next (unhide CK_8) hb11 (Nat.le_refl _)); clear HX_8 Kp_8 Kx_8 Km_8 Kf_8 Kq_8 Kg_8 Ku_8 Ox_8 CJ_8 CK_8; clear hb11 p0 p1 pf0 pf1 pl x0 x1 xf0 xf1 xl u0 u1 uf0 uf1 ul; obtain ⟨u0, u1, uf0, uf1, ul⟩ := block2 (unhide Ku_9))
    clear u0 u1 uf0 uf1 ul
    have hch2 : w5.heap.size ≤ w11.heap.size := (unhide CJ_9).size
    have hch27 : w7.heap.size ≤ w11.heap.size := (unhide CK_9).size
    have HX_10 := hide ((unhide HX_9).alloc (Nat.le_trans (show w.heap.size ≤ w.heap.size from Nat.le_refl _) (unhide HX_9).size) (.cells #[.int .i64 0, .int .i64 0] 29))
    have Kp_10 := hide (keep_alloc (unhide Kp_9) (.cells #[.int .i64 0, .int .i64 0] 29))
    have Kx_10 := hide (keep_alloc (unhide Kx_9) (.cells #[.int .i64 0, .int .i64 0] 29))
    have Km_10 := hide (keep_alloc (unhide Km_9) (.cells #[.int .i64 0, .int .i64 0] 29))
    have Kf_10 := hide (keep_alloc (unhide Kf_9) (.cells #[.int .i64 0, .int .i64 0] 29))
    have Kq_10 := hide (keep_alloc (unhide Kq_9) (.cells #[.int .i64 0, .int .i64 0] 29))
    have Kg_10 := hide (keep_alloc (unhide Kg_9) (.cells #[.int .i64 0, .int .i64 0] 29))
    have Ku_10 := hide (keep_alloc (unhide Ku_9) (.cells #[.int .i64 0, .int .i64 0] 29))
    have Ox_10 := hide ((unhide Ox_9).below ((Below.refl _ _).alloc (Nat.le_refl _) (.cells #[.int .i64 0, .int .i64 0] 29)))
    have CJ_10 := hide ((unhide CJ_9).alloc (unhide CJ_9).size (.cells #[.int .i64 0, .int .i64 0] 29))
    have CK_10 := hide ((unhide CK_9).alloc (unhide CK_9).size (.cells #[.int .i64 0, .int .i64 0] 29))
    have Kv_10 := hide (new_block w11 (.cells #[.int .i64 0, .int .i64 0] 29))
    have hlp_v : w.heap.size < w11.heap.size := size_of (unhide Kp_9)
    have hlx_v : Y < w11.heap.size := size_of (unhide Kx_9)
    have hlm_v : M < w11.heap.size := size_of (unhide Km_9)
    have hlf_v : M + 1 < w11.heap.size := size_of (unhide Kf_9)
    have hlq_v : M2 < w11.heap.size := size_of (unhide Kq_9)
    have hlg_v : M2 + 1 < w11.heap.size := size_of (unhide Kg_9)
    have hlu_v : U < w11.heap.size := size_of (unhide Ku_9)
    obtain ⟨V, eV⟩ : ∃ X, w11.heap.size = X := ⟨_, rfl⟩
    obtain ⟨W12, eW12⟩ : ∃ X, w11.alloc (.cells #[.int .i64 0, .int .i64 0] 29) = X := ⟨_, rfl⟩
    rw [eV, eW12] at Kv_10; rw [eW12] at HX_10 Kp_10 Kx_10 Km_10 Kf_10 Kq_10 Kg_10 Ku_10 Ox_10 CJ_10 CK_10; rw [eV] at hlp_v hlx_v hlm_v hlf_v hlq_v hlg_v hlu_v hch2 hch27; rw [eV, eW12]
    clear eV eW12 HX_9 Kp_9 Kx_9 Km_9 Kf_9 Kq_9 Kg_9 Ku_9 Ox_9 CJ_9 CK_9
    obtain ⟨p0, p1, pf0, pf1, pl⟩ := block2 (unhide Kp_10)
    obtain ⟨v0, v1, vf0, vf1, vl⟩ := block2 (unhide Kv_10)
    go_upto_region 14 with (go_at_call 16; refine (refF_any _ _ _).mono ?_; rintro e w13 ⟨rfl, hb13⟩; have HX_11 := hide (Below.next (unhide HX_10) hb13 (by first | exact Nat.le_refl _ | (have := unhide HBA; omega))); have Kp_11 := hide (keep_below (unhide Kp_10) hb13); have Kx_11 := hide (keep_below (unhide Kx_10) hb13); have Km_11 := hide (keep_below (unhide Km_10) hb13); have Kf_11 := hide (keep_below (unhide Kf_10) hb13); have Kq_11 := hide (keep_below (unhide Kq_10) hb13); have Kg_11 := hide (keep_below (unhide Kg_10) hb13); have Ku_11 := hide (keep_below (unhide Ku_10) hb13); have Kv_11 := hide (keep_below (unhide Kv_10) hb13); have Ox_11 := hide ((unhide Ox_10).below hb13); have CJ_11 := hide (Below.next (unhide CJ_10) hb13 (Nat.le_refl _)); have CK_11 := hide (Below.next (unhide CK_10) hb13 (Nat.le_refl _)); clear HX_10 Kp_10 Kx_10 Km_10 Kf_10 Kq_10 Kg_10 Ku_10 Kv_10 Ox_10 CJ_10 CK_10; clear hb13 p0 p1 pf0 pf1 pl v0 v1 vf0 vf1 vl; obtain ⟨p0, p1, pf0, pf1, pl⟩ := block2 (unhide Kp_11); obtain ⟨v0, v1, vf0, vf1, vl⟩ := block2 (unhide Kv_11))
    clear p0 p1 pf0 pf1 pl v0 v1 vf0 vf1 vl
    have HX_12 := hide (put2_below (y0 := .int .i64 3) (y1 := .int .i64 (-1)) (unhide HX_11) (show w.heap.size ≤ V by first | omega | (have := unhide HBA; omega)))
    have Kp_12 := hide ((put2_keep (y0 := .int .i64 3) (y1 := .int .i64 (-1)) (show w.heap.size ≠ V by omega)).trans (unhide Kp_11))
    have Kx_12 := hide ((put2_keep (y0 := .int .i64 3) (y1 := .int .i64 (-1)) (show Y ≠ V by omega)).trans (unhide Kx_11))
    have Km_12 := hide ((put2_keep (y0 := .int .i64 3) (y1 := .int .i64 (-1)) (show M ≠ V by omega)).trans (unhide Km_11))
    have Kf_12 := hide ((put2_keep (y0 := .int .i64 3) (y1 := .int .i64 (-1)) (show M + 1 ≠ V by omega)).trans (unhide Kf_11))
    have Kq_12 := hide ((put2_keep (y0 := .int .i64 3) (y1 := .int .i64 (-1)) (show M2 ≠ V by omega)).trans (unhide Kq_11))
    have Kg_12 := hide ((put2_keep (y0 := .int .i64 3) (y1 := .int .i64 (-1)) (show M2 + 1 ≠ V by omega)).trans (unhide Kg_11))
    have Ku_12 := hide ((put2_keep (y0 := .int .i64 3) (y1 := .int .i64 (-1)) (show U ≠ V by omega)).trans (unhide Ku_11))
    have Kv_12 := hide (put2_new (y0 := .int .i64 3) (y1 := .int .i64 (-1)) (unhide Kv_11))
    have Ox_12 := hide ((unhide Ox_11).keep (fun k hk => put2_keep (y0 := .int .i64 3) (y1 := .int .i64 (-1)) (Own.ne (unhide Ox_11) (unhide Kv_11) (by decide) k hk)))
    have CJ_12 := hide (put2_below (y0 := .int .i64 3) (y1 := .int .i64 (-1)) (unhide CJ_11) (by omega))
    have CK_12 := hide (put2_below (y0 := .int .i64 3) (y1 := .int .i64 (-1)) (unhide CK_11) (by omega))
    obtain ⟨W14, eW14⟩ : ∃ X, put2 w13 (V) (.int .i64 3) (.int .i64 (-1)) = X := ⟨_, rfl⟩
    rw [eW14] at HX_12 Kp_12 Kx_12 Km_12 Kf_12 Kq_12 Kg_12 Ku_12 Kv_12 Ox_12 CJ_12 CK_12
    have eW142 : ((w13).setCell ⟨V, 0, none⟩ (.int .i64 3)).setCell ⟨V, 1, none⟩ (.int .i64 (-1)) = W14 := eW14
    rw [eW142]
    clear eW14 eW142 HX_11 Kp_11 Kx_11 Km_11 Kf_11 Kq_11 Kg_11 Ku_11 Kv_11 Ox_11 CJ_11 CK_11
    obtain ⟨p0, p1, pf0, pf1, pl⟩ := block2 (unhide Kp_12)
    obtain ⟨v0, v1, vf0, vf1, vl⟩ := block2 (unhide Kv_12)
    obtain ⟨f0, f1, ff0, ff1, fl⟩ := block2 (unhide Kf_12)
    obtain ⟨m0, m1, mf0, mf1, ml⟩ := block2 (unhide Km_12)
    go_upto_region 29 with (go_at_call 15; refine (sameGroup_any _ _ _ 0 [] ⟨_, rfl, ((unhide HI1).below (unhide CJ_12))⟩ (zero_g _ 0) (by simp [maxLen])).mono ?_; rintro e w15 ⟨rfl, hb15⟩; have HX_13 := hide (Below.next (unhide HX_12) hb15 (by first | exact Nat.le_refl _ | (have := unhide HBA; omega))); have Kp_13 := hide (keep_below (unhide Kp_12) hb15); have Kx_13 := hide (keep_below (unhide Kx_12) hb15); have Km_13 := hide (keep_below (unhide Km_12) hb15); have Kf_13 := hide (keep_below (unhide Kf_12) hb15); have Kq_13 := hide (keep_below (unhide Kq_12) hb15); have Kg_13 := hide (keep_below (unhide Kg_12) hb15); have Ku_13 := hide (keep_below (unhide Ku_12) hb15); have Kv_13 := hide (keep_below (unhide Kv_12) hb15); have Ox_13 := hide ((unhide Ox_12).below hb15); have CJ_13 := hide (Below.next (unhide CJ_12) hb15 (Nat.le_refl _)); have CK_13 := hide (Below.next (unhide CK_12) hb15 (Nat.le_refl _)); clear HX_12 Kp_12 Kx_12 Km_12 Kf_12 Kq_12 Kg_12 Ku_12 Kv_12 Ox_12 CJ_12 CK_12; clear hb15 p0 p1 pf0 pf1 pl v0 v1 vf0 vf1 vl f0 f1 ff0 ff1 fl m0 m1 mf0 mf1 ml; obtain ⟨p0, p1, pf0, pf1, pl⟩ := block2 (unhide Kp_13))
    clear p0 p1 pf0 pf1 pl
    obtain ⟨p0, p1, pf0, pf1, pl⟩ := block2 (unhide Kp_13)
    obtain ⟨u0, u1, uf0, uf1, ul⟩ := block2 (unhide Ku_13)
    go_upto_region 30 with (go_at_call 18; refine (unhide HCF0 _ (unhide HX_13)).mono ?_; rintro e w17 ⟨he, hb17⟩; obtain rfl : e = .returned (.agg #[.int .i64 A0, .int .i64 A1]) := he; have HX_14 := hide (Below.next (unhide HX_13) hb17 (by first | exact Nat.le_refl _ | (have := unhide HBA; omega))); have Kp_14 := hide (keep_below (unhide Kp_13) hb17); have Kx_14 := hide (keep_below (unhide Kx_13) hb17); have Km_14 := hide (keep_below (unhide Km_13) hb17); have Kf_14 := hide (keep_below (unhide Kf_13) hb17); have Kq_14 := hide (keep_below (unhide Kq_13) hb17); have Kg_14 := hide (keep_below (unhide Kg_13) hb17); have Ku_14 := hide (keep_below (unhide Ku_13) hb17); have Kv_14 := hide (keep_below (unhide Kv_13) hb17); have Ox_14 := hide ((unhide Ox_13).below hb17); have CJ_14 := hide (Below.next (unhide CJ_13) hb17 (Nat.le_refl _)); have CK_14 := hide (Below.next (unhide CK_13) hb17 (Nat.le_refl _)); clear HX_13 Kp_13 Kx_13 Km_13 Kf_13 Kq_13 Kg_13 Ku_13 Kv_13 Ox_13 CJ_13 CK_13; clear hb17 p0 p1 pf0 pf1 pl u0 u1 uf0 uf1 ul; obtain ⟨v0, v1, vf0, vf1, vl⟩ := block2 (unhide Kv_14))
    clear v0 v1 vf0 vf1 vl
    have HX_15 := hide (put2_below (y0 := .int .i64 A0) (y1 := .int .i64 A1) (unhide HX_14) (show w.heap.size ≤ V by first | omega | (have := unhide HBA; omega)))
    have Kp_15 := hide ((put2_keep (y0 := .int .i64 A0) (y1 := .int .i64 A1) (show w.heap.size ≠ V by omega)).trans (unhide Kp_14))
    have Kx_15 := hide ((put2_keep (y0 := .int .i64 A0) (y1 := .int .i64 A1) (show Y ≠ V by omega)).trans (unhide Kx_14))
    have Km_15 := hide ((put2_keep (y0 := .int .i64 A0) (y1 := .int .i64 A1) (show M ≠ V by omega)).trans (unhide Km_14))
    have Kf_15 := hide ((put2_keep (y0 := .int .i64 A0) (y1 := .int .i64 A1) (show M + 1 ≠ V by omega)).trans (unhide Kf_14))
    have Kq_15 := hide ((put2_keep (y0 := .int .i64 A0) (y1 := .int .i64 A1) (show M2 ≠ V by omega)).trans (unhide Kq_14))
    have Kg_15 := hide ((put2_keep (y0 := .int .i64 A0) (y1 := .int .i64 A1) (show M2 + 1 ≠ V by omega)).trans (unhide Kg_14))
    have Ku_15 := hide ((put2_keep (y0 := .int .i64 A0) (y1 := .int .i64 A1) (show U ≠ V by omega)).trans (unhide Ku_14))
    have Kv_15 := hide (put2_new (y0 := .int .i64 A0) (y1 := .int .i64 A1) (unhide Kv_14))
    have Ox_15 := hide ((unhide Ox_14).keep (fun k hk => put2_keep (y0 := .int .i64 A0) (y1 := .int .i64 A1) (Own.ne (unhide Ox_14) (unhide Kv_14) (by decide) k hk)))
    have CJ_15 := hide (put2_below (y0 := .int .i64 A0) (y1 := .int .i64 A1) (unhide CJ_14) (by omega))
    have CK_15 := hide (put2_below (y0 := .int .i64 A0) (y1 := .int .i64 A1) (unhide CK_14) (by omega))
    obtain ⟨W18, eW18⟩ : ∃ X, put2 w17 (V) (.int .i64 A0) (.int .i64 A1) = X := ⟨_, rfl⟩
    rw [eW18] at HX_15 Kp_15 Kx_15 Km_15 Kf_15 Kq_15 Kg_15 Ku_15 Kv_15 Ox_15 CJ_15 CK_15
    have eW182 : ((w17).setCell ⟨V, 0, none⟩ (.int .i64 A0)).setCell ⟨V, 1, none⟩ (.int .i64 A1) = W18 := eW18
    rw [eW182]
    clear eW18 eW182 HX_14 Kp_14 Kx_14 Km_14 Kf_14 Kq_14 Kg_14 Ku_14 Kv_14 Ox_14 CJ_14 CK_14
    rcases unhide HAWK with ⟨hA, hBC, hBL, hBI⟩ | ⟨hA, hA1, hc0, hBC, hBL, hBI⟩ | ⟨hA, hA1, hc0, hBC, hBL, hBI⟩
    · subst hBC hBI
      rw [hBL] at HI3
      have eN0 : BN = 0 := by rw [← unhide HBN, hBL]; rfl
      subst eN0
      have y0 : (A0 != 0) = true := by simpa using hA
      have y1 : (A0 == A0) = true := by simp
      have y2 : (A1 == A1) = true := by simp
      clear hA hBL HAWK HBN
      obtain ⟨p0, p1, pf0, pf1, pl⟩ := block2 (unhide Kp_15)
      obtain ⟨v0, v1, vf0, vf1, vl⟩ := block2 (unhide Kv_15)
      obtain ⟨g0, g1, gf0, gf1, gl⟩ := block2 (unhide Kg_15)
      obtain ⟨q0, q1, qf0, qf1, ql⟩ := block2 (unhide Kq_15)
      go_wp2_with (go_at_call 15; refine (sameGroup_any _ _ _ 0 [] ⟨_, rfl, ((unhide HI3).below (unhide CK_15))⟩ (zero_g _ 0) (by simp [maxLen])).mono ?_; rintro e w19 ⟨rfl, hb19⟩; have HX19 := hide (Below.next (unhide HX_15) hb19 (Nat.le_refl _)); clear hb19)
      go_ret
      exact ⟨rfl, unhide HX19⟩
    · subst hBI hA hA1
      rw [hBC] at Kq_15
      clear hBC
      rw [hBL] at HI3
      have eN0 : n = BN := by rw [← unhide HBN, hBL]; exact (unhide HEN).symm
      subst eN0
      have y0 : (c == 0) = true := by simpa using hc0
      clear hc0 hBL HAWK HBN
      obtain ⟨p0, p1, pf0, pf1, pl⟩ := block2 (unhide Kp_15)
      obtain ⟨v0, v1, vf0, vf1, vl⟩ := block2 (unhide Kv_15)
      obtain ⟨g0, g1, gf0, gf1, gl⟩ := block2 (unhide Kg_15)
      obtain ⟨q0, q1, qf0, qf1, ql⟩ := block2 (unhide Kq_15)
      go_wp2_with (go_at_call 15; refine (sameGroup_any _ _ _ c xs ⟨_, rfl, ((unhide HI3).below (unhide CK_15))⟩ ⟨_, rfl, (unhide HL0).below (unhide HX_15)⟩ (by rw [unhide HEN]; unfold maxLen; omega)).mono ?_; rintro e w19 ⟨rfl, hb19⟩; have HX19 := hide (Below.next (unhide HX_15) hb19 (Nat.le_refl _)); clear hb19)
      go_ret
      exact ⟨rfl, unhide HX19⟩
    · subst hBI hA hA1
      rw [hBC] at Kq_15
      rw [hBL] at HI3
      have eN0 : BN = n + 1 := by rw [← unhide HBN, hBL]; simp [unhide HEN]
      subst eN0
      have y0 : (c == 0) = false := by simpa using hc0
      clear hc0 hBL hBC HAWK HBN
      obtain ⟨p0, p1, pf0, pf1, pl⟩ := block2 (unhide Kp_15)
      obtain ⟨v0, v1, vf0, vf1, vl⟩ := block2 (unhide Kv_15)
      obtain ⟨g0, g1, gf0, gf1, gl⟩ := block2 (unhide Kg_15)
      go_upto_region 36 with fail
      clear p0 p1 pf0 pf1 pl v0 v1 vf0 vf1 vl g0 g1 gf0 gf1 gl
      have HIB := hide ((unhide HI3).below (unhide CK_15))
      have HSS : Hid (∀ W, Below W18.heap.size W18 W → (W.cell? ⟨w.heap.size, 0, none⟩ = some (.int .i64 c) ∧ W.cell? ⟨w.heap.size, 1, none⟩ = some (.slice a0 n c0)) ∧ (W.cell? ⟨M2, 0, none⟩ = some (.int .i64 c) ∧ W.cell? ⟨M2, 1, none⟩ = some (.slice b3 (n + 1) d3)) ∧ Below W18.heap.size W18 W) := fun W hW => by
        obtain ⟨k0, k1, -⟩ := block2 (keep_below (unhide Kp_15) hW)
        obtain ⟨m0, m1, -⟩ := block2 (keep_below (unhide Kq_15) hW)
        exact ⟨⟨k0, k1⟩, ⟨m0, m1⟩, hW⟩
      have HOW9 : Hid (∀ W, Below W18.heap.size W18 W → Calls Try.prog 11 #[.slice a0 n c0] W fun e w' => ∃ a' c', e = .returned (.slice a' n c') ∧ Own KI W.heap.size w' (.slice a' n c') xs ∧ Below W.heap.size W w') := fun W hW => unhide HOW0 W (Below.next (unhide HX_15) hW (Nat.le_refl _))
      have HSO9 : Hid (∀ W a' c', Below W18.heap.size W18 W → IsL KI W (.slice a' (n + 1) c') (xs ++ [x]) → Calls Try.prog 15 #[.agg #[.int .i64 c, .slice b3 (n + 1) d3], .agg #[.int .i64 c, .slice a' (n + 1) c']] W fun e w' => e = .returned (.bool true) ∧ Below W.heap.size W w') := fun W a' c' hW hi => sameGroup_any W _ _ c (xs ++ [x]) ⟨_, rfl, (unhide HIB).below hW⟩ ⟨_, rfl, hi⟩ (by simp [unhide HEN, maxLen]; omega)
      obtain ⟨⟨k0, k1⟩, ⟨m0, m1⟩, -⟩ := unhide HSS _ (Below.refl _ _)
      go_wp2_with fail
      go_region_held3 (fun W => (W.cell? ⟨w.heap.size, 0, none⟩ = some (.int .i64 c) ∧ W.cell? ⟨w.heap.size, 1, none⟩ = some (.slice a0 n c0)) ∧ (W.cell? ⟨M2, 0, none⟩ = some (.int .i64 c) ∧ W.cell? ⟨M2, 1, none⟩ = some (.slice b3 (n + 1) d3)) ∧ Below W18.heap.size W18 W)
        (first | with_reducible exact unhide HSS _ (Below.refl _ _).drew | with_reducible exact unhide HSS _ ((Below.refl W18.heap.size W18).alloc (Nat.le_refl _) _).drew | with_reducible exact unhide HSS _ (unhide HX20) | with_reducible exact unhide HSS _ ((unhide HX20).alloc (unhide HX20).size _) | with_reducible exact unhide HSS _ (unhide HX21) | with_reducible exact unhide HSS _ (unhide HX22))
        (first
          | (go_at_call 11; refine (unhide HOW9 _ (by go_split_ands; assumption)).mono ?_; rintro e w20 ⟨b4, d4, rfl, ho20, hb20⟩; have HX20 : Hid (Below W18.heap.size W18 w20) := Below.next (by go_split_ands; assumption) hb20 (Nat.le_refl _); have HO20 := hide (ho20.base (show W18.heap.size ≤ _ from (show Below W18.heap.size W18 _ by go_split_ands; assumption).size)); have HB20 := hide hb20; clear ho20 hb20)
          | (refine step_append ki (by rfl) (.tmp 185) (.tmp 187) rfl W18.heap.size (.slice b4 n d4) xs rfl (by first | exact unhide HO20 | exact (unhide HO20).below ((Below.refl _ _).alloc (Nat.le_refl _) _)) _ [x] rfl (by first | exact isl_one ki w20 x | exact ((isl_one ki W18 x).below (Below.refl _ _).drew).below (unhide HB20)) (n + 1) (by simp [unhide HEN]) (by simp [KI]; omega) (by first | exact (unhide HX20).size | exact ((unhide HX20).alloc (unhide HX20).size _).size) ?_; intro b5 d5 w21 ho21 hg21; have HO21 := hide ho21; have HX21 : Hid (Below W18.heap.size W18 w21) := (by first | exact (unhide HX20).grown hg21 (unhide HX20).size (fun k hk => ((unhide HO20).lt k hk).1) | exact ((unhide HX20).alloc (unhide HX20).size _).grown hg21 ((unhide HX20).alloc (unhide HX20).size _).size (fun k hk => ((unhide HO20).lt k hk).1)); clear ho21 hg21)
          | (go_at_call 15; refine (unhide HSO9 _ _ _ (unhide HX21) (unhide HO21).isl).mono ?_; rintro e w22 ⟨rfl, hb22⟩; have HX22 : Hid (Below W18.heap.size W18 w22) := Below.next (unhide HX21) hb22 (Nat.le_refl _); clear hb22))
      all_goals
        go_wp2_with fail
        go_ret
        exact ⟨rfl, Below.next (unhide HX_15) (unhide HX22) (Nat.le_refl _)⟩
end Go.Proofs.Ytpogcfdmkeebmaa
