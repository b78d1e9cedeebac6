/-
  taskmilllaw.SyncSemas: one who is given.
-/
import Derived.Test.YtpogcfdmkeebmaaSma
namespace Go.Proofs.Ytpogcfdmkeebmaa
open Go.RowKit

set_option maxRecDepth 100000 in
set_option maxHeartbeats 4000000 in
theorem sema_got (w : World) (v : Value) (f : Int) (xs : List Po) (x u : Int) (try_ : Bool) (h : IsG KP w v f xs) (hm : xs.length * 24 ≤ 140737488355328) (hl : ¬ ((700 < xs.length ∧ xs.length < 4999) ∨ 6000 < xs.length)) (hg : (semaF f xs).1 = 0) (h1 : ¬ x < 1) (h2 : ¬ u < 1) (h3 : ¬ 1000000000 < u) (h4 : xs.any (isOfP x) = false) (h5 : xs.length ≠ 5000) (h6 : lets f (xs ++ [(x, false, u)]) = true) :
    Calls Try.prog 5 #[v, .int .i64 x, .int .i64 u, .bool try_] w fun e w' => e = .returned (.bool true) ∧ Below w.heap.size w w' := by
  have hnot : ∀ (x : Bool) (w : World), (Op.unary .not (.bool x)).run Try.prog w = .ok (.bool (!x)) w := fun _ _ => rfl
  have hn6 : xs.length ≤ 6000 := by omega
  obtain ⟨a0, c0, rfl, hL⟩ := h.form
  have HOW0 : Hid (∀ W, Below w.heap.size w W → Calls Try.prog 23 #[.slice a0 xs.length c0] W fun e w' => ∃ a' c', e = .returned (.slice a' xs.length c') ∧ Own KP W.heap.size w' (.slice a' xs.length c') xs ∧ Below W.heap.size W w') := fun W hW => ownPosts_any W _ xs (hL.below hW) (by omega)
  have HSF0 : Hid (∀ W, Below w.heap.size w W → Calls Try.prog 26 #[.agg #[.int .i64 f, .slice a0 xs.length c0]] W fun e w' => e = .returned (faultV (semaF f xs)) ∧ Below W.heap.size W w') := fun W hW => semaFault_any W _ f xs (h.below hW) (by unfold maxLen; omega)
  have HIN0 : Hid (∀ W, Below w.heap.size w W → Calls Try.prog 28 #[.slice a0 xs.length c0, .int .i64 x] W fun e w' => ∃ j : Int, e = .returned (.int .i64 j) ∧ (0 ≤ j ↔ xs.any (isOfP x) = true) ∧ w' = W) := fun W hW => inLine_any W _ xs x (hL.below hW) (by unfold maxLen; omega)
  have HL0 := hide hL
  obtain ⟨hz, -, hf0, hf1, -, -⟩ := semaF_good hg
  obtain ⟨BC, BL, LL, B0, B1, hRL, hBK⟩ := release_all f xs u hg hn6
  rw [hz] at HSF0
  have HRL0 := hide hRL
  have HBK := hide hBK
  have HGV0 : Hid (0 ≤ u → u ≤ 1000000000 → ∀ W, Below w.heap.size w W → Calls Try.prog 29 #[.agg #[.int .i64 (f + u), .slice a0 xs.length c0]] W fun e w' => ∃ a4 d4 a5 d5, e = .returned (.tuple #[.agg #[.int .i64 (giveR (f + u) xs).1.1, .slice a4 (giveR (f + u) xs).1.2.length d4], .slice a5 (giveR (f + u) xs).2.length d5]) ∧ IsL KP w' (.slice a4 (giveR (f + u) xs).1.2.length d4) (giveR (f + u) xs).1.2 ∧ IsL KI w' (.slice a5 (giveR (f + u) xs).2.length d5) (giveR (f + u) xs).2 ∧ Below W.heap.size W w') := fun hu0 hu1 W hW => (refGiven_any W _ _ (f + u) xs ⟨_, rfl, at_own (hL.below hW)⟩ (by omega) (by omega) (fun y hy => by have := ((goodS_of hg).each y hy).2.2.1; omega) (by omega)).mono fun e w' ⟨v1, v2, q1, q2, q3, q4⟩ => by
    obtain ⟨a4, d4, rfl, q5⟩ := q2.form
    obtain ⟨a5, d5, rfl⟩ := q3.form
    exact ⟨a4, d4, a5, d5, q1, q5.1, q3.isl, q4⟩
  have HGN : Hid ((giveR (f + u) xs).1.2.length ≤ 6000 ∧ (giveR (f + u) xs).2.length ≤ 6000) := ⟨Nat.le_trans (giveR_len _ _) hn6, Nat.le_trans (giveR_most _ _) hn6⟩
  obtain ⟨BN, eBN⟩ : ∃ N, BL.length = N := ⟨_, rfl⟩
  obtain ⟨LN, eLN⟩ : ∃ N, LL.length = N := ⟨_, rfl⟩
  rw [eBN, eLN] at HRL0
  have HBN := hide eBN; have HLN := hide eLN
  obtain ⟨⟨⟨GC, GL⟩, GW⟩, eG⟩ : ∃ G, giveR (f + u) xs = G := ⟨_, rfl⟩
  rw [eG] at HBK HGV0 HGN
  simp only at HBK HGV0 HGN
  clear hRL hBK eBN eLN eG
  have hf : (acqF f xs x u).1 = 0 := by unfold acqF; rw [if_neg (by rw [hz]; simp), if_neg (fun h => h.elim h1 (fun h => h.elim h2 h3)), if_neg (by rw [h4]; simp), if_neg h5]
  have hx0 : xs = [] := lets_snoc (goodS_of hg).no h6
  have eA : acqR f xs x u try_ = ((f - u, []), true) := by unfold acqR; rw [if_pos h6]
  have eK : giveR f (xs ++ [(x, false, u)]) = ((f - u, []), [x]) := by subst hx0; exact giveR_go h6
  have huf : u ≤ f := by subst hx0; simpa [lets] using h6
  clear hx0 h6
  have HAQ0 : Hid (∀ W v', IsG KP W v' f xs → Calls Try.prog 24 #[v', .int .i64 x, .int .i64 u, .bool try_] W fun e w' => ∃ a1 d1, e = .returned (.tuple #[.agg #[.int .i64 (f - u), .slice a1 ([]).length d1], .bool true, .agg #[.int .i64 0, .int .i64 0]]) ∧ IsL KP w' (.slice a1 ([]).length d1) ([]) ∧ Below W.heap.size W w') := fun W v' hv => (acquire_ok W v' f xs x u _ hv hf).mono fun e w' ⟨v1, q1, q2, q3⟩ => by
    rw [eA] at q1 q2
    obtain ⟨a1, d1, rfl, q4⟩ := q2.form
    exact ⟨a1, d1, q1, q4.1, q3⟩
  have HGA0 : Hid (∀ W a c, IsL KP W (.slice a (xs.length + 1) c) (xs ++ [(x, false, u)]) → Calls Try.prog 29 #[.agg #[.int .i64 f, .slice a (xs.length + 1) c]] W fun e w' => ∃ a7 c7 a8 c8, e = .returned (.tuple #[.agg #[.int .i64 (f - u), .slice a7 ([]).length c7], .slice a8 ([x]).length c8]) ∧ At KP (Value.slice a (xs.length + 1) c).ownBlock w' (.slice a7 ([]).length c7) ([]) ∧ Own KI W.heap.size w' (.slice a8 ([x]).length c8) ([x]) ∧ Below W.heap.size W w') := fun W a c hW => (refGiven_any W _ _ f (xs ++ [(x, false, u)]) ⟨_, rfl, at_own hW⟩ (by omega) (by omega) (fun y hy => by
      rcases List.mem_append.1 hy with hy | hy
      · have := ((goodS_of hg).each y hy).2.2.1; omega
      · simp at hy; subst hy; simp only; omega) (by simp; omega)).mono fun e w' ⟨v1, v2, q1, q2, q3, q4⟩ => by
    rw [eK] at q2 q3
    obtain ⟨a7, c7, rfl, q5⟩ := q2.form
    obtain ⟨a8, c8, rfl⟩ := q3.form
    exact ⟨a7, c7, a8, c8, q1, q5, q3, q4⟩
  have HANY := hide h4
  have h5n : ((xs.length : Int) == 5000) = false := beq_false_of_ne (by omega)
  have HKH : Hid (([x] : List Int).contains x = true) := hide (by simp)
  have HQL : Hid (([x] : List Int).length ≤ 10) := hide (by simp)
  have HAN : Hid (([] : List Po).length ≤ 6001) := hide (by first | omega | (simp; omega) | simp)
  simp only [List.length_cons, List.length_nil, Nat.zero_add] at HAQ0 HGA0
  clear hf eA eK h4 h5 hz hg
  obtain ⟨n, en⟩ : ∃ n, xs.length = n := ⟨_, rfl⟩
  rw [en] at hl hn6 HOW0 HSF0 HIN0 HL0 HGV0 h5n HGA0 ⊢
  have hl2 : ¬ ((700 < (n : Int) ∧ (n : Int) < 4999) ∨ 6000 < (n : Int)) := by omega
  have HLG : Hid (∀ W, Calls Try.prog 10 #[.int .i64 (n : Int)] W fun e w' => e = .returned (.bool false) ∧ w' = W) := fun W => long_no W _ hl2
  have HEN := hide en
  clear h hl hl2 hL en hm
  obtain ⟨W0, e0, hB, k0⟩ : ∃ W, w.alloc (.cells #[.int .i64 f, .slice a0 n c0] 51) = W ∧ Below w.heap.size w W ∧ W.heap[w.heap.size]? = some (.cells #[.int .i64 f, .slice a0 n c0] 51) := ⟨_, rfl, (Below.refl _ _).alloc (Nat.le_refl _) _, new_block _ _⟩
  have HX := hide hB; have HP := hide k0; have HE := hide e0
  clear hB k0 e0
  go_enter Try.func5, Try.ntmps5
  go_upto_region 1 with fail
  rw [unhide HE]
  clear HE
  obtain ⟨p0, p1, pf0, pf1, pl⟩ := block2 (unhide HP)
  go_upto_region 5 with (first | (go_at_call 9; refine (begun_any _).mono ?_; rintro e w1 ⟨rfl, hb1⟩; have HX_1 := hide (Below.next (unhide HX) hb1 (by first | exact Nat.le_refl _ | (have := unhide HBA; omega))); have Kp_1 := hide (keep_below (unhide HP) hb1); clear HX HP; clear hb1 p0 p1 pf0 pf1 pl; obtain ⟨p0, p1, pf0, pf1, pl⟩ := block2 (unhide Kp_1)) | (go_at_call 10; refine (unhide HLG _).mono ?_; rintro e w1 ⟨rfl, rfl⟩))
  clear p0 p1 pf0 pf1 pl
  have HOW : Hid (∀ W, Below w1.heap.size w1 W → Calls Try.prog 23 #[.slice a0 n c0] W fun e w' => ∃ a' c', e = .returned (.slice a' n c') ∧ Own KP W.heap.size w' (.slice a' n c') xs ∧ Below W.heap.size W w') := fun W hW => unhide HOW0 W (Below.next (unhide HX_1) hW (Nat.le_refl _))
  go_cut [9] (fun s W => ∃ (Y : Nat) (a5 : Option Addr) (c5 : Nat), s = .pointer (some ⟨Y, 0, none⟩) ∧ Hid (W.heap[Y]? = some (.cells #[.int .i64 f, .slice a5 n c5] 51)) ∧ Hid (Own KP w1.heap.size W (.slice a5 n c5) xs) ∧ Hid (w1.heap.size ≤ Y) ∧ Hid (Below w1.heap.size w1 W))
  case first =>
    have HSS : Hid (∀ W, Below w1.heap.size w1 W → W.cell? ⟨w.heap.size, 0, none⟩ = some (.int .i64 f) ∧ W.cell? ⟨w.heap.size, 1, none⟩ = some (.slice a0 n c0) ∧ Below w1.heap.size w1 W) := fun W hW => by
      obtain ⟨k0, k1, -, -, -⟩ := block2 (keep_below (unhide Kp_1) hW)
      exact ⟨k0, k1, hW⟩
    obtain ⟨k0, k1, -⟩ := unhide HSS _ (Below.refl _ _)
    go_wp2_with fail
    go_region_held3 (fun W => W.cell? ⟨w.heap.size, 0, none⟩ = some (.int .i64 f) ∧ W.cell? ⟨w.heap.size, 1, none⟩ = some (.slice a0 n c0) ∧ Below w1.heap.size w1 W)
      (first | with_reducible exact unhide HSS _ (Below.refl _ _).drew | with_reducible exact unhide HSS _ ((Below.refl w1.heap.size w1).alloc (Nat.le_refl _) _).drew | with_reducible exact unhide HSS _ (unhide HX3) | with_reducible exact unhide HSS _ ((unhide HX3).alloc (unhide HX3).size _) | exact unhide HSS _ (put2_below (unhide HX3) (Nat.le_refl _)))
      (first | (go_at_call 23; refine (unhide HOW _ (by go_split_ands; assumption)).mono ?_; rintro e w3 ⟨a3, c3, rfl, ho3, hb3⟩; have HX3 : Hid (Below w1.heap.size w1 w3) := Below.next (by go_split_ands; assumption) hb3 (Nat.le_refl _); have HO3 := hide (ho3.base (show w1.heap.size ≤ _ from (show Below w1.heap.size w1 _ by go_split_ands; assumption).size)); (try (have HZ3 : Hid (w3.heap[w1.heap.size]? = some (.cells #[.int .i64 0, .slice none 0 0] 51)) := (keep_below (w := (w1.alloc (.cells #[.int .i64 0, .slice none 0 0] 51)).drew) (new_block w1 (.cells #[.int .i64 0, .slice none 0 0] 51)) hb3); have hz := block2 (unhide HZ3); have z0 := hz.1; have z1 := hz.2.1; have zf0 := hz.2.2.1; have zf1 := hz.2.2.2.1; have zl := hz.2.2.2.2)); clear ho3 hb3))
    all_goals
      go_wp2_with fail
      go_meet
      case rel =>
        first
          | exact ⟨_, a3, c3, rfl, put2_new (unhide HZ3), put2_own (unhide HO3) (unhide HZ3) (by decide), Nat.le_refl _, put2_below (unhide HX3) (Nat.le_refl _)⟩
          | exact ⟨_, a3, c3, rfl, new_block _ _, (unhide HO3).below ((Below.refl _ _).alloc (Nat.le_refl _) _), (unhide HX3).size, (unhide HX3).alloc (unhide HX3).size _⟩
  case rest =>
    obtain ⟨Y, a5, c5, rfl, HY_, HOY_, HBY_, HXY_⟩ := hcut
    have hlp_Y : w.heap.size < Y := Nat.lt_of_lt_of_le (size_of (unhide Kp_1)) (unhide HBY_)
    (have HX_2 := hide (Below.next (unhide HX_1) (unhide HXY_) (by first | exact Nat.le_refl _ | (have := unhide HBA; omega))); have Kp_2 := hide (keep_below (unhide Kp_1) (unhide HXY_)); clear HX_1 Kp_1)
    obtain ⟨x0, x1, xf0, xf1, xl⟩ := block2 (unhide HY_)
    go_upto_region 7 with (go_at_call 24; refine (unhide HAQ0 _ _ ⟨_, rfl, (unhide HOY_).isl⟩).mono ?_; rintro e w5 ⟨b1, d1, rfl, hi1, hb5⟩; have HI1 := hide hi1; have HC5 : Hid (Below w5.heap.size w5 w5) := Below.refl _ _; have HX_3 := hide (Below.next (unhide HX_2) hb5 (by first | exact Nat.le_refl _ | (have := unhide HBA; omega))); have Kp_3 := hide (keep_below (unhide Kp_2) hb5); have Kx_3 := hide (keep_below (unhide HY_) hb5); have Ox_3 := hide ((unhide HOY_).below hb5); clear HX_2 Kp_2 HY_ HOY_; clear hb5 hi1 x0 x1 xf0 xf1 xl)
    obtain ⟨W6, eW6, hBW6, k0_4, k1_4⟩ := two_new w5 (.cells #[.int .i64 (f - u), .slice b1 0 d1] 51) (.cells #[.int .i64 0, .int .i64 0] 29)
    rw [eW6]
    clear eW6
    have hlp_m : w.heap.size < w5.heap.size := size_of (unhide Kp_3)
    have hlx_m : Y < w5.heap.size := size_of (unhide Kx_3)
    (have HX_4 := hide (Below.next (unhide HX_3) hBW6 (by first | exact Nat.le_refl _ | (have := unhide HBA; omega))); have Kp_4 := hide (keep_below (unhide Kp_3) hBW6); have Kx_4 := hide (keep_below (unhide Kx_3) hBW6); have Ox_4 := hide ((unhide Ox_3).below hBW6); have CJ_4 := hide (Below.next (unhide HC5) hBW6 (Nat.le_refl _)); clear HX_3 Kp_3 Kx_3 Ox_3 HC5)
    obtain ⟨M, eM⟩ : ∃ X, w5.heap.size = X := ⟨_, rfl⟩
    rw [eM] at k0_4 k1_4 hlp_m hlx_m ⊢
    have Km_4 := hide k0_4
    have Kf_4 := hide k1_4
    clear eM hBW6 k0_4 k1_4
    obtain ⟨x0, x1, xf0, xf1, xl⟩ := block2 (unhide Kx_4)
    go_upto_region 8 with (go_at_call 25; refine (unhide HRL0 _ _ ⟨_, rfl, (unhide Ox_4).isl⟩).mono ?_; rintro e w7 ⟨b2, d2, b3, d3, rfl, hi2, hi3, hb7⟩; have HI2 := hide hi2; have HI3 := hide hi3; have HC7 : Hid (Below w7.heap.size w7 w7) := Below.refl _ _; have HX_5 := hide (Below.next (unhide HX_4) hb7 (by first | exact Nat.le_refl _ | (have := unhide HBA; omega))); have Kp_5 := hide (keep_below (unhide Kp_4) hb7); have Kx_5 := hide (keep_below (unhide Kx_4) hb7); have Km_5 := hide (keep_below (unhide Km_4) hb7); have Kf_5 := hide (keep_below (unhide Kf_4) hb7); have Ox_5 := hide ((unhide Ox_4).below hb7); have CJ_5 := hide (Below.next (unhide CJ_4) hb7 (Nat.le_refl _)); clear HX_4 Kp_4 Kx_4 Km_4 Kf_4 Ox_4 CJ_4; clear hb7 hi2 hi3 x0 x1 xf0 xf1 xl)
    obtain ⟨W8, eW8, hBW8, k0_6, k1_6⟩ := two_new w7 (.cells #[.int .i64 BC, .slice b2 BN d2] 51) (.cells #[.int .i64 B0, .int .i64 B1] 29)
    rw [eW8]
    clear eW8
    have hlp_q : w.heap.size < w7.heap.size := size_of (unhide Kp_5)
    have hlx_q : Y < w7.heap.size := size_of (unhide Kx_5)
    have hlm_q : M < w7.heap.size := size_of (unhide Km_5)
    have hlf_q : M + 1 < w7.heap.size := size_of (unhide Kf_5)
    (have HX_6 := hide (Below.next (unhide HX_5) hBW8 (by first | exact Nat.le_refl _ | (have := unhide HBA; omega))); have Kp_6 := hide (keep_below (unhide Kp_5) hBW8); have Kx_6 := hide (keep_below (unhide Kx_5) hBW8); have Km_6 := hide (keep_below (unhide Km_5) hBW8); have Kf_6 := hide (keep_below (unhide Kf_5) hBW8); have Ox_6 := hide ((unhide Ox_5).below hBW8); have CJ_6 := hide (Below.next (unhide CJ_5) hBW8 (Nat.le_refl _)); have CK_6 := hide (Below.next (unhide HC7) hBW8 (Nat.le_refl _)); clear HX_5 Kp_5 Kx_5 Km_5 Kf_5 Ox_5 CJ_5 HC7)
    obtain ⟨M2, eM2⟩ : ∃ X, w7.heap.size = X := ⟨_, rfl⟩
    rw [eM2] at k0_6 k1_6 hlp_q hlx_q hlm_q hlf_q ⊢
    have Kq_6 := hide k0_6
    have Kg_6 := hide k1_6
    clear eM2 hBW8 k0_6 k1_6
    obtain ⟨p0, p1, pf0, pf1, pl⟩ := block2 (unhide Kp_6)
    go_upto_region 9 with (go_at_call 26; refine (unhide HSF0 _ (unhide HX_6)).mono ?_; rintro e w9 ⟨he, hb9⟩; obtain rfl : e = .returned (.agg #[.int .i64 0, .int .i64 0]) := he; have HX_7 := hide (Below.next (unhide HX_6) hb9 (by first | exact Nat.le_refl _ | (have := unhide HBA; omega))); have Kp_7 := hide (keep_below (unhide Kp_6) hb9); have Kx_7 := hide (keep_below (unhide Kx_6) hb9); have Km_7 := hide (keep_below (unhide Km_6) hb9); have Kf_7 := hide (keep_below (unhide Kf_6) hb9); have Kq_7 := hide (keep_below (unhide Kq_6) hb9); have Kg_7 := hide (keep_below (unhide Kg_6) hb9); have Ox_7 := hide ((unhide Ox_6).below hb9); have CJ_7 := hide (Below.next (unhide CJ_6) hb9 (Nat.le_refl _)); have CK_7 := hide (Below.next (unhide CK_6) hb9 (Nat.le_refl _)); clear HX_6 Kp_6 Kx_6 Km_6 Kf_6 Kq_6 Kg_6 Ox_6 CJ_6 CK_6; clear hb9 p0 p1 pf0 pf1 pl)
    have hch : w5.heap.size ≤ w9.heap.size := (unhide CJ_7).size
    have hch7 : w7.heap.size ≤ w9.heap.size := (unhide CK_7).size
    have HX_8 := hide ((unhide HX_7).alloc (Nat.le_trans (show w.heap.size ≤ w.heap.size from Nat.le_refl _) (unhide HX_7).size) (.cells #[.int .i64 0, .int .i64 0] 29))
    have Kp_8 := hide (keep_alloc (unhide Kp_7) (.cells #[.int .i64 0, .int .i64 0] 29))
    have Kx_8 := hide (keep_alloc (unhide Kx_7) (.cells #[.int .i64 0, .int .i64 0] 29))
    have Km_8 := hide (keep_alloc (unhide Km_7) (.cells #[.int .i64 0, .int .i64 0] 29))
    have Kf_8 := hide (keep_alloc (unhide Kf_7) (.cells #[.int .i64 0, .int .i64 0] 29))
    have Kq_8 := hide (keep_alloc (unhide Kq_7) (.cells #[.int .i64 0, .int .i64 0] 29))
    have Kg_8 := hide (keep_alloc (unhide Kg_7) (.cells #[.int .i64 0, .int .i64 0] 29))
    have Ox_8 := hide ((unhide Ox_7).below ((Below.refl _ _).alloc (Nat.le_refl _) (.cells #[.int .i64 0, .int .i64 0] 29)))
    have CJ_8 := hide ((unhide CJ_7).alloc (unhide CJ_7).size (.cells #[.int .i64 0, .int .i64 0] 29))
    have CK_8 := hide ((unhide CK_7).alloc (unhide CK_7).size (.cells #[.int .i64 0, .int .i64 0] 29))
    have Ku_8 := hide (new_block w9 (.cells #[.int .i64 0, .int .i64 0] 29))
    have hlp_u : w.heap.size < w9.heap.size := size_of (unhide Kp_7)
    have hlx_u : Y < w9.heap.size := size_of (unhide Kx_7)
    have hlm_u : M < w9.heap.size := size_of (unhide Km_7)
    have hlf_u : M + 1 < w9.heap.size := size_of (unhide Kf_7)
    have hlq_u : M2 < w9.heap.size := size_of (unhide Kq_7)
    have hlg_u : M2 + 1 < w9.heap.size := size_of (unhide Kg_7)
    obtain ⟨U, eU⟩ : ∃ X, w9.heap.size = X := ⟨_, rfl⟩
    obtain ⟨W10, eW10⟩ : ∃ X, w9.alloc (.cells #[.int .i64 0, .int .i64 0] 29) = X := ⟨_, rfl⟩
    rw [eU, eW10] at Ku_8; rw [eW10] at HX_8 Kp_8 Kx_8 Km_8 Kf_8 Kq_8 Kg_8 Ox_8 CJ_8 CK_8; rw [eU] at hlp_u hlx_u hlm_u hlf_u hlq_u hlg_u hch hch7; rw [eU, eW10]
    clear eU eW10 HX_7 Kp_7 Kx_7 Km_7 Kf_7 Kq_7 Kg_7 Ox_7 CJ_7 CK_7
    obtain ⟨p0, p1, pf0, pf1, pl⟩ := block2 (unhide Kp_8)
    obtain ⟨x0, x1, xf0, xf1, xl⟩ := block2 (unhide Kx_8)
    obtain ⟨u0, u1, uf0, uf1, ul⟩ := block2 (unhide Ku_8)
    go_upto_region 12 with (go_at_call 27; refine (sameSema_any _ _ _ f xs ⟨_, rfl, (unhide Ox_8).isl⟩ ⟨_, rfl, (unhide HL0).below (unhide HX_8)⟩ (by rw [unhide HEN]; unfold maxLen; omega)).mono ?_; rintro e w11 ⟨rfl, hb11⟩; have HX_9 := hide (Below.next (unhide HX_8) hb11 (by first | exact Nat.le_refl _ | (have := unhide HBA; omega))); have Kp_9 := hide (keep_below (unhide Kp_8) hb11); have Kx_9 := hide (keep_below (unhide Kx_8) hb11); have Km_9 := hide (keep_below (unhide Km_8) hb11); have Kf_9 := hide (keep_below (unhide Kf_8) hb11); have Kq_9 := hide (keep_below (unhide Kq_8) hb11); have Kg_9 := hide (keep_below (unhide Kg_8) hb11); have Ku_9 := hide (keep_below (unhide Ku_8) hb11); have Ox_9 := hide ((unhide Ox_8).below hb11); have CJ_9 := hide (Below.next (unhide CJ_8) hb11 (Nat.le_refl _)); have CK_9 := hide (Below.next (unhide CK_8) hb11 (Nat.le_refl _)); clear HX_8 Kp_8 Kx_8 Km_8 Kf_8 Kq_8 Kg_8 Ku_8 Ox_8 CJ_8 CK_8; clear hb11 p0 p1 pf0 pf1 pl x0 x1 xf0 xf1 xl u0 u1 uf0 uf1 ul; obtain ⟨u0, u1, uf0, uf1, ul⟩ := block2 (unhide Ku_9))
    clear u0 u1 uf0 uf1 ul
    have hch2 : w5.heap.size ≤ w11.heap.size := (unhide CJ_9).size
    have hch27 : w7.heap.size ≤ w11.heap.size := (unhide CK_9).size
    have HX_10 := hide ((unhide HX_9).alloc (Nat.le_trans (show w.heap.size ≤ w.heap.size from Nat.le_refl _) (unhide HX_9).size) (.cells #[.int .i64 0, .int .i64 0] 29))
    have Kp_10 := hide (keep_alloc (unhide Kp_9) (.cells #[.int .i64 0, .int .i64 0] 29))
    have Kx_10 := hide (keep_alloc (unhide Kx_9) (.cells #[.int .i64 0, .int .i64 0] 29))
    have Km_10 := hide (keep_alloc (unhide Km_9) (.cells #[.int .i64 0, .int .i64 0] 29))
    have Kf_10 := hide (keep_alloc (unhide Kf_9) (.cells #[.int .i64 0, .int .i64 0] 29))
    have Kq_10 := hide (keep_alloc (unhide Kq_9) (.cells #[.int .i64 0, .int .i64 0] 29))
    have Kg_10 := hide (keep_alloc (unhide Kg_9) (.cells #[.int .i64 0, .int .i64 0] 29))
    have Ku_10 := hide (keep_alloc (unhide Ku_9) (.cells #[.int .i64 0, .int .i64 0] 29))
    have Ox_10 := hide ((unhide Ox_9).below ((Below.refl _ _).alloc (Nat.le_refl _) (.cells #[.int .i64 0, .int .i64 0] 29)))
    have CJ_10 := hide ((unhide CJ_9).alloc (unhide CJ_9).size (.cells #[.int .i64 0, .int .i64 0] 29))
    have CK_10 := hide ((unhide CK_9).alloc (unhide CK_9).size (.cells #[.int .i64 0, .int .i64 0] 29))
    have Kv_10 := hide (new_block w11 (.cells #[.int .i64 0, .int .i64 0] 29))
    have hlp_v : w.heap.size < w11.heap.size := size_of (unhide Kp_9)
    have hlx_v : Y < w11.heap.size := size_of (unhide Kx_9)
    have hlm_v : M < w11.heap.size := size_of (unhide Km_9)
    have hlf_v : M + 1 < w11.heap.size := size_of (unhide Kf_9)
    have hlq_v : M2 < w11.heap.size := size_of (unhide Kq_9)
    have hlg_v : M2 + 1 < w11.heap.size := size_of (unhide Kg_9)
    have hlu_v : U < w11.heap.size := size_of (unhide Ku_9)
    obtain ⟨V, eV⟩ : ∃ X, w11.heap.size = X := ⟨_, rfl⟩
    obtain ⟨W12, eW12⟩ : ∃ X, w11.alloc (.cells #[.int .i64 0, .int .i64 0] 29) = X := ⟨_, rfl⟩
    rw [eV, eW12] at Kv_10; rw [eW12] at HX_10 Kp_10 Kx_10 Km_10 Kf_10 Kq_10 Kg_10 Ku_10 Ox_10 CJ_10 CK_10; rw [eV] at hlp_v hlx_v hlm_v hlf_v hlq_v hlg_v hlu_v hch2 hch27; rw [eV, eW12]
    clear eV eW12 HX_9 Kp_9 Kx_9 Km_9 Kf_9 Kq_9 Kg_9 Ku_9 Ox_9 CJ_9 CK_9
    obtain ⟨p0, p1, pf0, pf1, pl⟩ := block2 (unhide Kp_10)
    obtain ⟨v0, v1, vf0, vf1, vl⟩ := block2 (unhide Kv_10)
    go_upto_region 18 with (go_at_call 28; refine (unhide HIN0 _ (unhide HX_10)).mono ?_; rintro e W12 ⟨jj, rfl, hjj, rfl⟩; have hj0 : ¬ 0 ≤ jj := (fun h => absurd (hjj.1 h) (by rw [unhide HANY]; decide)); clear hjj)
    clear p0 p1 pf0 pf1 pl v0 v1 vf0 vf1 vl
    obtain ⟨p0, p1, pf0, pf1, pl⟩ := block2 (unhide Kp_10)
    obtain ⟨v0, v1, vf0, vf1, vl⟩ := block2 (unhide Kv_10)
    obtain ⟨f0, f1, ff0, ff1, fl⟩ := block2 (unhide Kf_10)
    obtain ⟨m0, m1, mf0, mf1, ml⟩ := block2 (unhide Km_10)
    go_upto_region 23 with fail
    clear p0 p1 pf0 pf1 pl v0 v1 vf0 vf1 vl f0 f1 ff0 ff1 fl m0 m1 mf0 mf1 ml
    have HSS : Hid (∀ W, Below W12.heap.size W12 W → W.cell? ⟨w.heap.size, 0, none⟩ = some (.int .i64 f) ∧ W.cell? ⟨w.heap.size, 1, none⟩ = some (.slice a0 n c0) ∧ Below W12.heap.size W12 W) := fun W hW => by
      obtain ⟨q0, q1, -, -, -⟩ := block2 (keep_below (unhide Kp_10) hW)
      exact ⟨q0, q1, hW⟩
    have HOW9 : Hid (∀ W, Below W12.heap.size W12 W → Calls Try.prog 23 #[.slice a0 n c0] W fun e w' => ∃ a' c', e = .returned (.slice a' n c') ∧ Own KP W.heap.size w' (.slice a' n c') xs ∧ Below W.heap.size W w') := fun W hW => unhide HOW0 W (Below.next (unhide HX_10) hW (Nat.le_refl _))
    go_cut [18, 19] (fun s18 s19 W => ∃ (Y : Nat) (a7 : Option Addr) (c7 : Nat) (a8 : Option Addr) (c8 : Nat), s18 = .pointer (some ⟨Y, 0, none⟩) ∧ s19 = .slice a8 1 c8 ∧ Hid (W.heap[Y]? = some (.cells #[.int .i64 (f - u), .slice a7 0 c7] 51)) ∧ Hid (IsL KP W (.slice a7 0 c7) []) ∧ Hid (IsL KI W (.slice a8 1 c8) [x]) ∧ Hid (W12.heap.size ≤ Y) ∧ Hid (Below W12.heap.size W12 W))
    case first =>
      obtain ⟨k0, k1, -⟩ := unhide HSS _ (Below.refl _ _)
      go_wp2_with fail
      go_region_held3 (fun W => W.cell? ⟨w.heap.size, 0, none⟩ = some (.int .i64 f) ∧ W.cell? ⟨w.heap.size, 1, none⟩ = some (.slice a0 n c0) ∧ Below W12.heap.size W12 W)
        (first | with_reducible exact unhide HSS _ (Below.refl _ _).drew | with_reducible exact unhide HSS _ ((Below.refl W12.heap.size W12).alloc (Nat.le_refl _) _).drew | with_reducible exact unhide HSS _ (((Below.refl W12.heap.size W12).alloc (Nat.le_refl _) _).alloc (by simp) _).drew | with_reducible exact unhide HSS _ (unhide HX3) | with_reducible exact unhide HSS _ ((unhide HX3).alloc (unhide HX3).size _) | with_reducible exact unhide HSS _ (((unhide HX3).alloc (unhide HX3).size _).alloc ((unhide HX3).alloc (unhide HX3).size _).size _) | with_reducible exact unhide HSS _ (unhide HX4) | with_reducible exact unhide HSS _ ((unhide HX4).alloc (unhide HX4).size _) | with_reducible exact unhide HSS _ (unhide HX5) | with_reducible exact unhide HSS _ ((unhide HX5).alloc (unhide HX5).size _) | (exact unhide HSS _ (put2_below (by first | exact unhide HX5 | exact (unhide HX5).alloc (unhide HX5).size _) (by first | exact Nat.le_refl _ | exact Nat.le_succ _ | exact (unhide HX3).size | exact Nat.le_succ_of_le (unhide HX3).size | exact (unhide HX4).size | exact (unhide HX5).size))))
        (first
          | (go_at_call 23; refine (unhide HOW9 _ (by go_split_ands; assumption)).mono ?_; rintro e w13 ⟨a3, c3, rfl, ho3, hb3⟩; have HX3 : Hid (Below W12.heap.size W12 w13) := Below.next (by go_split_ands; assumption) hb3 (Nat.le_refl _); have HO3 := hide (ho3.base (show W12.heap.size ≤ _ from (show Below W12.heap.size W12 _ by go_split_ands; assumption).size)); have HB3 := hide hb3; (try (have HZ3 : Hid (w13.heap[W12.heap.size]? = some (.cells #[.int .i64 0, .slice none 0 0] 51)) := (keep_below (w := (W12.alloc (.cells #[.int .i64 0, .slice none 0 0] 51)).drew) (new_block W12 (.cells #[.int .i64 0, .slice none 0 0] 51)) hb3))); (try (have HZ3 : Hid (w13.heap[W12.heap.size]? = some (.cells #[.int .i64 0, .slice none 0 0] 51)) := (keep_below (w := ((W12.alloc (.cells #[.int .i64 0, .slice none 0 0] 51)).alloc (.cells #[.int .i64 x, .bool false, .int .i64 u] 63)).drew) (keep_alloc (new_block W12 (.cells #[.int .i64 0, .slice none 0 0] 51)) (.cells #[.int .i64 x, .bool false, .int .i64 u] 63)) hb3))); (try (have HZ3 : Hid (w13.heap[W12.heap.size + 1]? = some (.cells #[.int .i64 0, .slice none 0 0] 51)) := (keep_below (w := ((W12.alloc (.cells #[.int .i64 x, .bool false, .int .i64 u] 63)).alloc (.cells #[.int .i64 0, .slice none 0 0] 51)).drew) (new_block2 W12 (.cells #[.int .i64 x, .bool false, .int .i64 u] 63) (.cells #[.int .i64 0, .slice none 0 0] 51)) hb3))); clear ho3 hb3)
          | (refine step_append kp (by rfl) (.tmp 112) (.tmp 116) rfl W12.heap.size (.slice a3 n c3) xs rfl (by first | exact unhide HO3 | exact (unhide HO3).below ((Below.refl _ _).alloc (Nat.le_refl _) _) | exact ((unhide HO3).below ((Below.refl _ _).alloc (Nat.le_refl _) _)).below ((Below.refl _ _).alloc (Nat.le_refl _) _)) _ [(x, false, u)] rfl (by first | exact isl_one kp w13 (x, false, u) | exact (isl_one kp w13 (x, false, u)).below ((Below.refl _ _).alloc (Nat.le_refl _) _) | exact isl_one2 kp w13 _ (x, false, u) | exact ((isl_one kp W12 (x, false, u)).below (Below.refl _ _).drew).below (unhide HB3) | exact (((isl_one kp W12 (x, false, u)).below (Below.refl _ _).drew).below (unhide HB3)).below ((Below.refl _ _).alloc (Nat.le_refl _) _) | exact (((isl_one kp W12 (x, false, u)).below ((Below.refl _ _).alloc (Nat.le_refl _) _)).below (Below.refl _ _).drew).below (unhide HB3) | exact ((isl_one2 kp W12 _ (x, false, u)).below (Below.refl _ _).drew).below (unhide HB3)) (n + 1) (by simp [unhide HEN]) (by simp [KP]; omega) (by first | exact (unhide HX3).size | exact ((unhide HX3).alloc (unhide HX3).size _).size | exact (((unhide HX3).alloc (unhide HX3).size _).alloc ((unhide HX3).alloc (unhide HX3).size _).size _).size) ?_; intro a4 c4 w14 ho4 hg4; have HI4 := hide ho4.isl; have HO4 := hide ho4; have HX4 : Hid (Below W12.heap.size W12 w14) := (by first | exact (unhide HX3).grown hg4 (unhide HX3).size (fun k hk => ((unhide HO3).lt k hk).1) | exact ((unhide HX3).alloc (unhide HX3).size _).grown hg4 ((unhide HX3).alloc (unhide HX3).size _).size (fun k hk => ((unhide HO3).lt k hk).1) | exact (((unhide HX3).alloc (unhide HX3).size _).alloc ((unhide HX3).alloc (unhide HX3).size _).size _).grown hg4 (((unhide HX3).alloc (unhide HX3).size _).alloc ((unhide HX3).alloc (unhide HX3).size _).size _).size (fun k hk => ((unhide HO3).lt k hk).1)); (try (have HZ4 : Hid (w14.heap[W12.heap.size]? = some (.cells #[.int .i64 0, .slice none 0 0] 51)) := (keep_grown (unhide HZ3) hg4 (fun j hj => Own.ne (unhide HO3) (unhide HZ3) (by decide) j hj)))); (try (have HZ4 : Hid (w14.heap[W12.heap.size]? = some (.cells #[.int .i64 0, .slice none 0 0] 51)) := (keep_grown (keep_alloc (unhide HZ3) (.cells #[.int .i64 x, .bool false, .int .i64 u] 63)) hg4 (fun j hj => Own.ne ((unhide HO3).below ((Below.refl _ _).alloc (Nat.le_refl _) _)) (keep_alloc (unhide HZ3) (.cells #[.int .i64 x, .bool false, .int .i64 u] 63)) (by decide) j hj)))); (try (have HZ4 : Hid (w14.heap[W12.heap.size + 1]? = some (.cells #[.int .i64 0, .slice none 0 0] 51)) := (keep_grown (unhide HZ3) hg4 (fun j hj => Own.ne (unhide HO3) (unhide HZ3) (by decide) j hj)))); (try (have HZ4 : Hid (w14.heap[W12.heap.size + 1]? = some (.cells #[.int .i64 0, .slice none 0 0] 51)) := (keep_grown (keep_alloc (unhide HZ3) (.cells #[.int .i64 x, .bool false, .int .i64 u] 63)) hg4 (fun j hj => Own.ne ((unhide HO3).below ((Below.refl _ _).alloc (Nat.le_refl _) _)) (keep_alloc (unhide HZ3) (.cells #[.int .i64 x, .bool false, .int .i64 u] 63)) (by decide) j hj)))); (try (have HZ4 : Hid (w14.heap[w13.heap.size]? = some (.cells #[.int .i64 0, .slice none 0 0] 51)) := (keep_grown (new_block w13 (.cells #[.int .i64 0, .slice none 0 0] 51)) hg4 (fun j hj => Own.ne ((unhide HO3).below ((Below.refl _ _).alloc (Nat.le_refl _) _)) (new_block w13 (.cells #[.int .i64 0, .slice none 0 0] 51)) (by decide) j hj)))); (try (have HZ4 : Hid (w14.heap[w13.heap.size]? = some (.cells #[.int .i64 0, .slice none 0 0] 51)) := (keep_grown (keep_alloc (new_block w13 (.cells #[.int .i64 0, .slice none 0 0] 51)) (.cells #[.int .i64 x, .bool false, .int .i64 u] 63)) hg4 (fun j hj => Own.ne (((unhide HO3).below ((Below.refl _ _).alloc (Nat.le_refl _) _)).below ((Below.refl _ _).alloc (Nat.le_refl _) _)) (keep_alloc (new_block w13 (.cells #[.int .i64 0, .slice none 0 0] 51)) (.cells #[.int .i64 x, .bool false, .int .i64 u] 63)) (by decide) j hj)))); (try (have HZ4 : Hid (w14.heap[w13.heap.size + 1]? = some (.cells #[.int .i64 0, .slice none 0 0] 51)) := (keep_grown (new_block2 w13 (.cells #[.int .i64 x, .bool false, .int .i64 u] 63) (.cells #[.int .i64 0, .slice none 0 0] 51)) hg4 (fun j hj => Own.ne (((unhide HO3).below ((Below.refl _ _).alloc (Nat.le_refl _) _)).below ((Below.refl _ _).alloc (Nat.le_refl _) _)) (new_block2 w13 (.cells #[.int .i64 x, .bool false, .int .i64 u] 63) (.cells #[.int .i64 0, .slice none 0 0] 51)) (by decide) j hj)))); clear ho4 hg4)
          | (go_at_call 29; first | (refine (unhide HGA0 _ _ _ (unhide HI4)).mono ?_; rintro e w15 ⟨a7, c7, a8, c8, rfl, hq5, hw5, hb5⟩; have HQ5 := hide hq5; have HW5 := hide hw5; have HX5 : Hid (Below W12.heap.size W12 w15) := Below.next (unhide HX4) hb5 (Nat.le_refl _); (try (have HZ5 : Hid (w15.heap[W12.heap.size]? = some (.cells #[.int .i64 0, .slice none 0 0] 51)) := (keep_below (unhide HZ4) hb5); have HNX : Hid (∀ k, (Value.slice a4 (n + 1) c4).ownBlock = some k → k ≠ W12.heap.size) := (fun k hk => Own.ne (unhide HO4) (unhide HZ4) (by decide) k hk); have HGE : Hid (W12.heap.size ≤ W12.heap.size) := (Nat.le_refl _); have HPK : Hid (∃ Wz, ((w15).setCell ⟨W12.heap.size, 0, none⟩ (.int .i64 (f - u))).setCell ⟨W12.heap.size, 1, none⟩ (.slice a7 0 c7) = Wz ∧ Wz.heap[W12.heap.size]? = some (.cells #[.int .i64 (f - u), .slice a7 0 c7] 51) ∧ IsL KP Wz (.slice a7 0 c7) [] ∧ IsL KI Wz (.slice a8 1 c8) [x] ∧ W12.heap.size ≤ W12.heap.size ∧ Below W12.heap.size W12 Wz) := ⟨_, rfl, put2_new (y0 := .int .i64 (f - u)) (y1 := .slice a7 0 c7) (unhide HZ5), (unhide HQ5).1.keep kp (fun k hk => put2_keep (y0 := .int .i64 (f - u)) (y1 := .slice a7 0 c7) (unhide HNX k ((unhide HQ5).2 k hk))), ((unhide HW5).keep (fun k hk => put2_keep (y0 := .int .i64 (f - u)) (y1 := .slice a7 0 c7) (Own.ne (unhide HW5) (unhide HZ5) (by decide) k hk))).isl, unhide HGE, put2_below (y0 := .int .i64 (f - u)) (y1 := .slice a7 0 c7) (unhide HX5) (unhide HGE)⟩)); (try (have HZ5 : Hid (w15.heap[W12.heap.size + 1]? = some (.cells #[.int .i64 0, .slice none 0 0] 51)) := (keep_below (unhide HZ4) hb5); have HNX : Hid (∀ k, (Value.slice a4 (n + 1) c4).ownBlock = some k → k ≠ W12.heap.size + 1) := (fun k hk => Own.ne (unhide HO4) (unhide HZ4) (by decide) k hk); have HGE : Hid (W12.heap.size ≤ W12.heap.size + 1) := (Nat.le_succ _); have HPK : Hid (∃ Wz, ((w15).setCell ⟨W12.heap.size + 1, 0, none⟩ (.int .i64 (f - u))).setCell ⟨W12.heap.size + 1, 1, none⟩ (.slice a7 0 c7) = Wz ∧ Wz.heap[W12.heap.size + 1]? = some (.cells #[.int .i64 (f - u), .slice a7 0 c7] 51) ∧ IsL KP Wz (.slice a7 0 c7) [] ∧ IsL KI Wz (.slice a8 1 c8) [x] ∧ W12.heap.size ≤ W12.heap.size + 1 ∧ Below W12.heap.size W12 Wz) := ⟨_, rfl, put2_new (y0 := .int .i64 (f - u)) (y1 := .slice a7 0 c7) (unhide HZ5), (unhide HQ5).1.keep kp (fun k hk => put2_keep (y0 := .int .i64 (f - u)) (y1 := .slice a7 0 c7) (unhide HNX k ((unhide HQ5).2 k hk))), ((unhide HW5).keep (fun k hk => put2_keep (y0 := .int .i64 (f - u)) (y1 := .slice a7 0 c7) (Own.ne (unhide HW5) (unhide HZ5) (by decide) k hk))).isl, unhide HGE, put2_below (y0 := .int .i64 (f - u)) (y1 := .slice a7 0 c7) (unhide HX5) (unhide HGE)⟩)); (try (have HZ5 : Hid (w15.heap[w13.heap.size]? = some (.cells #[.int .i64 0, .slice none 0 0] 51)) := (keep_below (unhide HZ4) hb5); have HNX : Hid (∀ k, (Value.slice a4 (n + 1) c4).ownBlock = some k → k ≠ w13.heap.size) := (fun k hk => Own.ne (unhide HO4) (unhide HZ4) (by decide) k hk); have HGE : Hid (W12.heap.size ≤ w13.heap.size) := ((unhide HX3).size); have HPK : Hid (∃ Wz, ((w15).setCell ⟨w13.heap.size, 0, none⟩ (.int .i64 (f - u))).setCell ⟨w13.heap.size, 1, none⟩ (.slice a7 0 c7) = Wz ∧ Wz.heap[w13.heap.size]? = some (.cells #[.int .i64 (f - u), .slice a7 0 c7] 51) ∧ IsL KP Wz (.slice a7 0 c7) [] ∧ IsL KI Wz (.slice a8 1 c8) [x] ∧ W12.heap.size ≤ w13.heap.size ∧ Below W12.heap.size W12 Wz) := ⟨_, rfl, put2_new (y0 := .int .i64 (f - u)) (y1 := .slice a7 0 c7) (unhide HZ5), (unhide HQ5).1.keep kp (fun k hk => put2_keep (y0 := .int .i64 (f - u)) (y1 := .slice a7 0 c7) (unhide HNX k ((unhide HQ5).2 k hk))), ((unhide HW5).keep (fun k hk => put2_keep (y0 := .int .i64 (f - u)) (y1 := .slice a7 0 c7) (Own.ne (unhide HW5) (unhide HZ5) (by decide) k hk))).isl, unhide HGE, put2_below (y0 := .int .i64 (f - u)) (y1 := .slice a7 0 c7) (unhide HX5) (unhide HGE)⟩)); (try (have HZ5 : Hid (w15.heap[w13.heap.size + 1]? = some (.cells #[.int .i64 0, .slice none 0 0] 51)) := (keep_below (unhide HZ4) hb5); have HNX : Hid (∀ k, (Value.slice a4 (n + 1) c4).ownBlock = some k → k ≠ w13.heap.size + 1) := (fun k hk => Own.ne (unhide HO4) (unhide HZ4) (by decide) k hk); have HGE : Hid (W12.heap.size ≤ w13.heap.size + 1) := (Nat.le_succ_of_le (unhide HX3).size); have HPK : Hid (∃ Wz, ((w15).setCell ⟨w13.heap.size + 1, 0, none⟩ (.int .i64 (f - u))).setCell ⟨w13.heap.size + 1, 1, none⟩ (.slice a7 0 c7) = Wz ∧ Wz.heap[w13.heap.size + 1]? = some (.cells #[.int .i64 (f - u), .slice a7 0 c7] 51) ∧ IsL KP Wz (.slice a7 0 c7) [] ∧ IsL KI Wz (.slice a8 1 c8) [x] ∧ W12.heap.size ≤ w13.heap.size + 1 ∧ Below W12.heap.size W12 Wz) := ⟨_, rfl, put2_new (y0 := .int .i64 (f - u)) (y1 := .slice a7 0 c7) (unhide HZ5), (unhide HQ5).1.keep kp (fun k hk => put2_keep (y0 := .int .i64 (f - u)) (y1 := .slice a7 0 c7) (unhide HNX k ((unhide HQ5).2 k hk))), ((unhide HW5).keep (fun k hk => put2_keep (y0 := .int .i64 (f - u)) (y1 := .slice a7 0 c7) (Own.ne (unhide HW5) (unhide HZ5) (by decide) k hk))).isl, unhide HGE, put2_below (y0 := .int .i64 (f - u)) (y1 := .slice a7 0 c7) (unhide HX5) (unhide HGE)⟩)); (try (have HZ5 : Hid (w15.heap[w14.heap.size]? = some (.cells #[.int .i64 0, .slice none 0 0] 51)) := (keep_below (new_block w14 (.cells #[.int .i64 0, .slice none 0 0] 51)) hb5); have HNX : Hid (∀ k, (Value.slice a4 (n + 1) c4).ownBlock = some k → k ≠ w14.heap.size) := (fun k hk => Nat.ne_of_lt ((unhide HO4).lt k hk).2); have HGE : Hid (W12.heap.size ≤ w14.heap.size) := ((unhide HX4).size); have HPK : Hid (∃ Wz, ((w15).setCell ⟨w14.heap.size, 0, none⟩ (.int .i64 (f - u))).setCell ⟨w14.heap.size, 1, none⟩ (.slice a7 0 c7) = Wz ∧ Wz.heap[w14.heap.size]? = some (.cells #[.int .i64 (f - u), .slice a7 0 c7] 51) ∧ IsL KP Wz (.slice a7 0 c7) [] ∧ IsL KI Wz (.slice a8 1 c8) [x] ∧ W12.heap.size ≤ w14.heap.size ∧ Below W12.heap.size W12 Wz) := ⟨_, rfl, put2_new (y0 := .int .i64 (f - u)) (y1 := .slice a7 0 c7) (unhide HZ5), (unhide HQ5).1.keep kp (fun k hk => put2_keep (y0 := .int .i64 (f - u)) (y1 := .slice a7 0 c7) (unhide HNX k ((unhide HQ5).2 k hk))), ((unhide HW5).keep (fun k hk => put2_keep (y0 := .int .i64 (f - u)) (y1 := .slice a7 0 c7) (Own.ne (unhide HW5) (unhide HZ5) (by decide) k hk))).isl, unhide HGE, put2_below (y0 := .int .i64 (f - u)) (y1 := .slice a7 0 c7) (unhide HX5) (unhide HGE)⟩)); obtain ⟨u0, u1, uf0, uf1, ul⟩ := block2 (new_block w15 (.cells #[.int .i64 0, .slice none 0 0] 51)); (try (have hy9 := block2 (unhide HZ5); obtain ⟨y0, y1, yf0, yf1, yl⟩ := hy9)); have HPL : Hid (∃ Wz, w15.alloc (.cells #[.int .i64 (f - u), .slice a7 0 c7] 51) = Wz ∧ Wz.heap[w15.heap.size]? = some (.cells #[.int .i64 (f - u), .slice a7 0 c7] 51) ∧ IsL KP Wz (.slice a7 0 c7) [] ∧ IsL KI Wz (.slice a8 1 c8) [x] ∧ W12.heap.size ≤ w15.heap.size ∧ Below W12.heap.size W12 Wz) := ⟨_, rfl, new_block w15 (.cells #[.int .i64 (f - u), .slice a7 0 c7] 51), (unhide HQ5).1.below ((Below.refl _ _).alloc (Nat.le_refl _) _), (unhide HW5).isl.below ((Below.refl _ _).alloc (Nat.le_refl _) _), (unhide HX5).size, (unhide HX5).alloc (unhide HX5).size _⟩; clear hq5 hw5 hb5) | (refine (unhide HGA0 _ _ _ ((unhide HI4).below ((Below.refl _ _).alloc (Nat.le_refl _) _))).mono ?_; rintro e w15 ⟨a7, c7, a8, c8, rfl, hq5, hw5, hb5⟩; have HQ5 := hide hq5; have HW5 := hide hw5; have HX5 : Hid (Below W12.heap.size W12 w15) := Below.next ((unhide HX4).alloc (unhide HX4).size _) hb5 (Nat.le_refl _); (try (have HZ5 : Hid (w15.heap[W12.heap.size]? = some (.cells #[.int .i64 0, .slice none 0 0] 51)) := (keep_below (unhide HZ4) hb5); have HNX : Hid (∀ k, (Value.slice a4 (n + 1) c4).ownBlock = some k → k ≠ W12.heap.size) := (fun k hk => Own.ne (unhide HO4) (unhide HZ4) (by decide) k hk); have HGE : Hid (W12.heap.size ≤ W12.heap.size) := (Nat.le_refl _); have HPK : Hid (∃ Wz, ((w15).setCell ⟨W12.heap.size, 0, none⟩ (.int .i64 (f - u))).setCell ⟨W12.heap.size, 1, none⟩ (.slice a7 0 c7) = Wz ∧ Wz.heap[W12.heap.size]? = some (.cells #[.int .i64 (f - u), .slice a7 0 c7] 51) ∧ IsL KP Wz (.slice a7 0 c7) [] ∧ IsL KI Wz (.slice a8 1 c8) [x] ∧ W12.heap.size ≤ W12.heap.size ∧ Below W12.heap.size W12 Wz) := ⟨_, rfl, put2_new (y0 := .int .i64 (f - u)) (y1 := .slice a7 0 c7) (unhide HZ5), (unhide HQ5).1.keep kp (fun k hk => put2_keep (y0 := .int .i64 (f - u)) (y1 := .slice a7 0 c7) (unhide HNX k ((unhide HQ5).2 k hk))), ((unhide HW5).keep (fun k hk => put2_keep (y0 := .int .i64 (f - u)) (y1 := .slice a7 0 c7) (Own.ne (unhide HW5) (unhide HZ5) (by decide) k hk))).isl, unhide HGE, put2_below (y0 := .int .i64 (f - u)) (y1 := .slice a7 0 c7) (unhide HX5) (unhide HGE)⟩)); (try (have HZ5 : Hid (w15.heap[W12.heap.size + 1]? = some (.cells #[.int .i64 0, .slice none 0 0] 51)) := (keep_below (unhide HZ4) hb5); have HNX : Hid (∀ k, (Value.slice a4 (n + 1) c4).ownBlock = some k → k ≠ W12.heap.size + 1) := (fun k hk => Own.ne (unhide HO4) (unhide HZ4) (by decide) k hk); have HGE : Hid (W12.heap.size ≤ W12.heap.size + 1) := (Nat.le_succ _); have HPK : Hid (∃ Wz, ((w15).setCell ⟨W12.heap.size + 1, 0, none⟩ (.int .i64 (f - u))).setCell ⟨W12.heap.size + 1, 1, none⟩ (.slice a7 0 c7) = Wz ∧ Wz.heap[W12.heap.size + 1]? = some (.cells #[.int .i64 (f - u), .slice a7 0 c7] 51) ∧ IsL KP Wz (.slice a7 0 c7) [] ∧ IsL KI Wz (.slice a8 1 c8) [x] ∧ W12.heap.size ≤ W12.heap.size + 1 ∧ Below W12.heap.size W12 Wz) := ⟨_, rfl, put2_new (y0 := .int .i64 (f - u)) (y1 := .slice a7 0 c7) (unhide HZ5), (unhide HQ5).1.keep kp (fun k hk => put2_keep (y0 := .int .i64 (f - u)) (y1 := .slice a7 0 c7) (unhide HNX k ((unhide HQ5).2 k hk))), ((unhide HW5).keep (fun k hk => put2_keep (y0 := .int .i64 (f - u)) (y1 := .slice a7 0 c7) (Own.ne (unhide HW5) (unhide HZ5) (by decide) k hk))).isl, unhide HGE, put2_below (y0 := .int .i64 (f - u)) (y1 := .slice a7 0 c7) (unhide HX5) (unhide HGE)⟩)); (try (have HZ5 : Hid (w15.heap[w13.heap.size]? = some (.cells #[.int .i64 0, .slice none 0 0] 51)) := (keep_below (unhide HZ4) hb5); have HNX : Hid (∀ k, (Value.slice a4 (n + 1) c4).ownBlock = some k → k ≠ w13.heap.size) := (fun k hk => Own.ne (unhide HO4) (unhide HZ4) (by decide) k hk); have HGE : Hid (W12.heap.size ≤ w13.heap.size) := ((unhide HX3).size); have HPK : Hid (∃ Wz, ((w15).setCell ⟨w13.heap.size, 0, none⟩ (.int .i64 (f - u))).setCell ⟨w13.heap.size, 1, none⟩ (.slice a7 0 c7) = Wz ∧ Wz.heap[w13.heap.size]? = some (.cells #[.int .i64 (f - u), .slice a7 0 c7] 51) ∧ IsL KP Wz (.slice a7 0 c7) [] ∧ IsL KI Wz (.slice a8 1 c8) [x] ∧ W12.heap.size ≤ w13.heap.size ∧ Below W12.heap.size W12 Wz) := ⟨_, rfl, put2_new (y0 := .int .i64 (f - u)) (y1 := .slice a7 0 c7) (unhide HZ5), (unhide HQ5).1.keep kp (fun k hk => put2_keep (y0 := .int .i64 (f - u)) (y1 := .slice a7 0 c7) (unhide HNX k ((unhide HQ5).2 k hk))), ((unhide HW5).keep (fun k hk => put2_keep (y0 := .int .i64 (f - u)) (y1 := .slice a7 0 c7) (Own.ne (unhide HW5) (unhide HZ5) (by decide) k hk))).isl, unhide HGE, put2_below (y0 := .int .i64 (f - u)) (y1 := .slice a7 0 c7) (unhide HX5) (unhide HGE)⟩)); (try (have HZ5 : Hid (w15.heap[w13.heap.size + 1]? = some (.cells #[.int .i64 0, .slice none 0 0] 51)) := (keep_below (unhide HZ4) hb5); have HNX : Hid (∀ k, (Value.slice a4 (n + 1) c4).ownBlock = some k → k ≠ w13.heap.size + 1) := (fun k hk => Own.ne (unhide HO4) (unhide HZ4) (by decide) k hk); have HGE : Hid (W12.heap.size ≤ w13.heap.size + 1) := (Nat.le_succ_of_le (unhide HX3).size); have HPK : Hid (∃ Wz, ((w15).setCell ⟨w13.heap.size + 1, 0, none⟩ (.int .i64 (f - u))).setCell ⟨w13.heap.size + 1, 1, none⟩ (.slice a7 0 c7) = Wz ∧ Wz.heap[w13.heap.size + 1]? = some (.cells #[.int .i64 (f - u), .slice a7 0 c7] 51) ∧ IsL KP Wz (.slice a7 0 c7) [] ∧ IsL KI Wz (.slice a8 1 c8) [x] ∧ W12.heap.size ≤ w13.heap.size + 1 ∧ Below W12.heap.size W12 Wz) := ⟨_, rfl, put2_new (y0 := .int .i64 (f - u)) (y1 := .slice a7 0 c7) (unhide HZ5), (unhide HQ5).1.keep kp (fun k hk => put2_keep (y0 := .int .i64 (f - u)) (y1 := .slice a7 0 c7) (unhide HNX k ((unhide HQ5).2 k hk))), ((unhide HW5).keep (fun k hk => put2_keep (y0 := .int .i64 (f - u)) (y1 := .slice a7 0 c7) (Own.ne (unhide HW5) (unhide HZ5) (by decide) k hk))).isl, unhide HGE, put2_below (y0 := .int .i64 (f - u)) (y1 := .slice a7 0 c7) (unhide HX5) (unhide HGE)⟩)); (try (have HZ5 : Hid (w15.heap[w14.heap.size]? = some (.cells #[.int .i64 0, .slice none 0 0] 51)) := (keep_below (new_block w14 (.cells #[.int .i64 0, .slice none 0 0] 51)) hb5); have HNX : Hid (∀ k, (Value.slice a4 (n + 1) c4).ownBlock = some k → k ≠ w14.heap.size) := (fun k hk => Nat.ne_of_lt ((unhide HO4).lt k hk).2); have HGE : Hid (W12.heap.size ≤ w14.heap.size) := ((unhide HX4).size); have HPK : Hid (∃ Wz, ((w15).setCell ⟨w14.heap.size, 0, none⟩ (.int .i64 (f - u))).setCell ⟨w14.heap.size, 1, none⟩ (.slice a7 0 c7) = Wz ∧ Wz.heap[w14.heap.size]? = some (.cells #[.int .i64 (f - u), .slice a7 0 c7] 51) ∧ IsL KP Wz (.slice a7 0 c7) [] ∧ IsL KI Wz (.slice a8 1 c8) [x] ∧ W12.heap.size ≤ w14.heap.size ∧ Below W12.heap.size W12 Wz) := ⟨_, rfl, put2_new (y0 := .int .i64 (f - u)) (y1 := .slice a7 0 c7) (unhide HZ5), (unhide HQ5).1.keep kp (fun k hk => put2_keep (y0 := .int .i64 (f - u)) (y1 := .slice a7 0 c7) (unhide HNX k ((unhide HQ5).2 k hk))), ((unhide HW5).keep (fun k hk => put2_keep (y0 := .int .i64 (f - u)) (y1 := .slice a7 0 c7) (Own.ne (unhide HW5) (unhide HZ5) (by decide) k hk))).isl, unhide HGE, put2_below (y0 := .int .i64 (f - u)) (y1 := .slice a7 0 c7) (unhide HX5) (unhide HGE)⟩)); obtain ⟨u0, u1, uf0, uf1, ul⟩ := block2 (new_block w15 (.cells #[.int .i64 0, .slice none 0 0] 51)); (try (have hy9 := block2 (unhide HZ5); obtain ⟨y0, y1, yf0, yf1, yl⟩ := hy9)); have HPL : Hid (∃ Wz, w15.alloc (.cells #[.int .i64 (f - u), .slice a7 0 c7] 51) = Wz ∧ Wz.heap[w15.heap.size]? = some (.cells #[.int .i64 (f - u), .slice a7 0 c7] 51) ∧ IsL KP Wz (.slice a7 0 c7) [] ∧ IsL KI Wz (.slice a8 1 c8) [x] ∧ W12.heap.size ≤ w15.heap.size ∧ Below W12.heap.size W12 Wz) := ⟨_, rfl, new_block w15 (.cells #[.int .i64 (f - u), .slice a7 0 c7] 51), (unhide HQ5).1.below ((Below.refl _ _).alloc (Nat.le_refl _) _), (unhide HW5).isl.below ((Below.refl _ _).alloc (Nat.le_refl _) _), (unhide HX5).size, (unhide HX5).alloc (unhide HX5).size _⟩; clear hq5 hw5 hb5)))
      all_goals
        go_wp2_with fail
        go_meet
        case rel =>
          first
            | (have hpk := unhide HPK; obtain ⟨Wz, eWz, h1, h2, h3, h4, h5⟩ := hpk; rw [eWz]; exact ⟨_, a7, c7, a8, c8, rfl, rfl, h1, h2, h3, h4, h5⟩)
            | (have hpk := unhide HPL; obtain ⟨Wz, eWz, h1, h2, h3, h4, h5⟩ := hpk; rw [eWz]; exact ⟨_, a7, c7, a8, c8, rfl, rfl, h1, h2, h3, h4, h5⟩)
    case rest =>
      obtain ⟨Y7, a7, c7, a8, c8, rfl, rfl, HT, HQ5, HW5, HXX, HX5⟩ := hcut
      clear HSS HOW9 HGA0
      have hlp_Y7 : w.heap.size < Y7 := Nat.lt_of_lt_of_le (size_of (unhide Kp_10)) (unhide HXX)
      have hlx_Y7 : Y < Y7 := Nat.lt_of_lt_of_le (size_of (unhide Kx_10)) (unhide HXX)
      have hlm_Y7 : M < Y7 := Nat.lt_of_lt_of_le (size_of (unhide Km_10)) (unhide HXX)
      have hlf_Y7 : M + 1 < Y7 := Nat.lt_of_lt_of_le (size_of (unhide Kf_10)) (unhide HXX)
      have hlq_Y7 : M2 < Y7 := Nat.lt_of_lt_of_le (size_of (unhide Kq_10)) (unhide HXX)
      have hlg_Y7 : M2 + 1 < Y7 := Nat.lt_of_lt_of_le (size_of (unhide Kg_10)) (unhide HXX)
      have hlu_Y7 : U < Y7 := Nat.lt_of_lt_of_le (size_of (unhide Ku_10)) (unhide HXX)
      have hlv_Y7 : V < Y7 := Nat.lt_of_lt_of_le (size_of (unhide Kv_10)) (unhide HXX)
      have hlcJ : w5.heap.size ≤ Y7 := Nat.le_trans (unhide CJ_10).size (unhide HXX)
      have hlcK : w7.heap.size ≤ Y7 := Nat.le_trans (unhide CK_10).size (unhide HXX)
      (have HX_11 := hide (Below.next (unhide HX_10) (unhide HX5) (by first | exact Nat.le_refl _ | (have := unhide HBA; omega))); have Kp_11 := hide (keep_below (unhide Kp_10) (unhide HX5)); have Kx_11 := hide (keep_below (unhide Kx_10) (unhide HX5)); have Km_11 := hide (keep_below (unhide Km_10) (unhide HX5)); have Kf_11 := hide (keep_below (unhide Kf_10) (unhide HX5)); have Kq_11 := hide (keep_below (unhide Kq_10) (unhide HX5)); have Kg_11 := hide (keep_below (unhide Kg_10) (unhide HX5)); have Ku_11 := hide (keep_below (unhide Ku_10) (unhide HX5)); have Kv_11 := hide (keep_below (unhide Kv_10) (unhide HX5)); have Ox_11 := hide ((unhide Ox_10).below (unhide HX5)); have CJ_11 := hide (Below.next (unhide CJ_10) (unhide HX5) (Nat.le_refl _)); have CK_11 := hide (Below.next (unhide CK_10) (unhide HX5) (Nat.le_refl _)); clear HX_10 Kp_10 Kx_10 Km_10 Kf_10 Kq_10 Kg_10 Ku_10 Kv_10 Ox_10 CJ_10 CK_10)
      have HHA9 := hide (has_same wc _ [x] x (unhide HW5) (by have := unhide HQL; unfold maxLen; omega))
      rw [unhide HKH] at HHA9
      go_upto_region 26 with (go_at_call 30; refine (unhide HHA9).mono ?_; rintro e wc ⟨rfl, rfl⟩)
      clear HHA9
      clear HW5
      obtain ⟨m0, m1, mf0, mf1, ml⟩ := block2 (unhide Km_11)
      obtain ⟨t0, t1, tf0, tf1, tl⟩ := block2 (unhide HT)
      obtain ⟨p0, p1, pf0, pf1, pl⟩ := block2 (unhide Kp_11)
      go_upto_region 30 with (go_at_call 27; refine (sameSema_any _ _ _ (f - u) ([]) ⟨_, rfl, (unhide HI1).below (unhide CJ_11)⟩ ⟨_, rfl, unhide HQ5⟩ (by have := unhide HAN; unfold maxLen; omega)).mono ?_; rintro e w15 ⟨rfl, hb15⟩; have HX_12 := hide (Below.next (unhide HX_11) hb15 (by first | exact Nat.le_refl _ | (have := unhide HBA; omega))); have Kp_12 := hide (keep_below (unhide Kp_11) hb15); have Kx_12 := hide (keep_below (unhide Kx_11) hb15); have Km_12 := hide (keep_below (unhide Km_11) hb15); have Kf_12 := hide (keep_below (unhide Kf_11) hb15); have Kq_12 := hide (keep_below (unhide Kq_11) hb15); have Kg_12 := hide (keep_below (unhide Kg_11) hb15); have Ku_12 := hide (keep_below (unhide Ku_11) hb15); have Kv_12 := hide (keep_below (unhide Kv_11) hb15); have Kt_12 := hide (keep_below (unhide HT) hb15); have Ox_12 := hide ((unhide Ox_11).below hb15); have FQ_12 := hide ((unhide HQ5).below hb15); have CJ_12 := hide (Below.next (unhide CJ_11) hb15 (Nat.le_refl _)); have CK_12 := hide (Below.next (unhide CK_11) hb15 (Nat.le_refl _)); clear HX_11 Kp_11 Kx_11 Km_11 Kf_11 Kq_11 Kg_11 Ku_11 Kv_11 HT Ox_11 HQ5 CJ_11 CK_11; clear hb15 m0 m1 mf0 mf1 ml t0 t1 tf0 tf1 tl p0 p1 pf0 pf1 pl; obtain ⟨p0, p1, pf0, pf1, pl⟩ := block2 (unhide Kp_12))
      clear p0 p1 pf0 pf1 pl HI1
      clear FQ_12
      rcases unhide HBK with ⟨g1, hBC, hBL, hLL, hB0, hB1⟩ | ⟨g1, g2, hBC, hBL, hLL, hB0, hB1⟩ | ⟨g1, g2, g3, hBC, hBL, hLL, hB0, hB1⟩ | ⟨g1, g2, g3, hBC, hBL, hLL, hB0, hB1⟩
      · exfalso; omega
      · exfalso; omega
      · rw [hBL] at HI2
        rw [hLL] at HI3
        have eBN0 : BN = 0 := by rw [← unhide HBN, hBL]; rfl
        have eLN0 : LN = 0 := by rw [← unhide HLN, hLL]; rfl
        subst hBC hB0 hB1 eBN0 eLN0
        clear hBL hLL HBK HBN HLN HGV0 HGN
        have hwu : IntKind.i64.wrap (f + u) = f + u := wrapi (by omega) (by omega)
        obtain ⟨p0, p1, pf0, pf1, pl⟩ := block2 (unhide Kp_12)
        obtain ⟨u0, u1, uf0, uf1, ul⟩ := block2 (unhide Ku_12)
        go_upto_region 34 with (go_at_call 16; refine (refF_any _ _ _).mono ?_; rintro e w33 ⟨rfl, hb33⟩; have HX_zc13 := hide (Below.next (unhide HX_12) hb33 (by first | exact Nat.le_refl _ | (have := unhide HBA; omega))); have Kp_zc13 := hide (keep_below (unhide Kp_12) hb33); have Kx_zc13 := hide (keep_below (unhide Kx_12) hb33); have Km_zc13 := hide (keep_below (unhide Km_12) hb33); have Kf_zc13 := hide (keep_below (unhide Kf_12) hb33); have Kq_zc13 := hide (keep_below (unhide Kq_12) hb33); have Kg_zc13 := hide (keep_below (unhide Kg_12) hb33); have Ku_zc13 := hide (keep_below (unhide Ku_12) hb33); have Kv_zc13 := hide (keep_below (unhide Kv_12) hb33); have Kt_zc13 := hide (keep_below (unhide Kt_12) hb33); have Ox_zc13 := hide ((unhide Ox_12).below hb33); have CJ_zc13 := hide (Below.next (unhide CJ_12) hb33 (Nat.le_refl _)); have CK_zc13 := hide (Below.next (unhide CK_12) hb33 (Nat.le_refl _)); clear HX_12 Kp_12 Kx_12 Km_12 Kf_12 Kq_12 Kg_12 Ku_12 Kv_12 Kt_12 Ox_12 CJ_12 CK_12; clear hb33 p0 p1 pf0 pf1 pl u0 u1 uf0 uf1 ul; obtain ⟨p0, p1, pf0, pf1, pl⟩ := block2 (unhide Kp_zc13); obtain ⟨u0, u1, uf0, uf1, ul⟩ := block2 (unhide Ku_zc13))
        clear p0 p1 pf0 pf1 pl u0 u1 uf0 uf1 ul
        have HX_zc14 := hide (put2_below (y0 := .int .i64 9) (y1 := .int .i64 0) (unhide HX_zc13) (show w.heap.size ≤ U by first | omega | (have := unhide HBA; omega)))
        have Kp_zc14 := hide ((put2_keep (y0 := .int .i64 9) (y1 := .int .i64 0) (show w.heap.size ≠ U by omega)).trans (unhide Kp_zc13))
        have Kx_zc14 := hide ((put2_keep (y0 := .int .i64 9) (y1 := .int .i64 0) (show Y ≠ U by omega)).trans (unhide Kx_zc13))
        have Km_zc14 := hide ((put2_keep (y0 := .int .i64 9) (y1 := .int .i64 0) (show M ≠ U by omega)).trans (unhide Km_zc13))
        have Kf_zc14 := hide ((put2_keep (y0 := .int .i64 9) (y1 := .int .i64 0) (show M + 1 ≠ U by omega)).trans (unhide Kf_zc13))
        have Kq_zc14 := hide ((put2_keep (y0 := .int .i64 9) (y1 := .int .i64 0) (show M2 ≠ U by omega)).trans (unhide Kq_zc13))
        have Kg_zc14 := hide ((put2_keep (y0 := .int .i64 9) (y1 := .int .i64 0) (show M2 + 1 ≠ U by omega)).trans (unhide Kg_zc13))
        have Ku_zc14 := hide (put2_new (y0 := .int .i64 9) (y1 := .int .i64 0) (unhide Ku_zc13))
        have Kv_zc14 := hide ((put2_keep (y0 := .int .i64 9) (y1 := .int .i64 0) (show V ≠ U by omega)).trans (unhide Kv_zc13))
        have Kt_zc14 := hide ((put2_keep (y0 := .int .i64 9) (y1 := .int .i64 0) (show Y7 ≠ U by omega)).trans (unhide Kt_zc13))
        have Ox_zc14 := hide ((unhide Ox_zc13).keep (fun k hk => put2_keep (y0 := .int .i64 9) (y1 := .int .i64 0) (Own.ne (unhide Ox_zc13) (unhide Ku_zc13) (by decide) k hk)))
        have CJ_zc14 := hide (put2_below (y0 := .int .i64 9) (y1 := .int .i64 0) (unhide CJ_zc13) (show _ ≤ U by omega))
        have CK_zc14 := hide (put2_below (y0 := .int .i64 9) (y1 := .int .i64 0) (unhide CK_zc13) (show _ ≤ U by omega))
        obtain ⟨W34, eW34⟩ : ∃ X, put2 w33 (U) (.int .i64 9) (.int .i64 0) = X := ⟨_, rfl⟩
        rw [eW34] at HX_zc14 Kp_zc14 Kx_zc14 Km_zc14 Kf_zc14 Kq_zc14 Kg_zc14 Ku_zc14 Kv_zc14 Kt_zc14 Ox_zc14 CJ_zc14 CK_zc14
        have eW342 : ((w33).setCell ⟨U, 0, none⟩ (.int .i64 9)).setCell ⟨U, 1, none⟩ (.int .i64 0) = W34 := eW34
        rw [eW342]
        clear eW34 eW342 HX_zc13 Kp_zc13 Kx_zc13 Km_zc13 Kf_zc13 Kq_zc13 Kg_zc13 Ku_zc13 Kv_zc13 Kt_zc13 Ox_zc13 CJ_zc13 CK_zc13
        obtain ⟨p0, p1, pf0, pf1, pl⟩ := block2 (unhide Kp_zc14)
        obtain ⟨u0, u1, uf0, uf1, ul⟩ := block2 (unhide Ku_zc14)
        obtain ⟨g0, g1, gf0, gf1, gl⟩ := block2 (unhide Kg_zc14)
        obtain ⟨q0, q1, qf0, qf1, ql⟩ := block2 (unhide Kq_zc14)
        go_wp2_with (go_at_call 27; refine (sameSema_any _ _ _ 0 [] ⟨_, rfl, (unhide HI2).below (unhide CK_zc14)⟩ (zero_g _ 0) (by simp [maxLen])).mono ?_; rintro e w35 ⟨rfl, hb35⟩; have HX35 := hide (Below.next (unhide HX_zc14) hb35 (Nat.le_refl _)); clear hb35)
        go_ret
        exact ⟨rfl, unhide HX35⟩
      · rw [hBL] at HI2
        rw [hLL] at HI3
        have eBN0 : BN = GL.length := by rw [← unhide HBN, hBL]
        have eLN0 : LN = GW.length := by rw [← unhide HLN, hLL]
        have HGV1 := hide (unhide HGV0 (by omega) (by omega))
        have hwu : IntKind.i64.wrap (f + u) = f + u := wrapi (by omega) (by omega)
        rw [hBC] at Kq_12
        subst hB0 hB1 eBN0 eLN0
        clear hBC hBL hLL HBK HBN HLN HGV0
        obtain ⟨p0, p1, pf0, pf1, pl⟩ := block2 (unhide Kp_12)
        obtain ⟨u0, u1, uf0, uf1, ul⟩ := block2 (unhide Ku_12)
        obtain ⟨g0, g1, gf0, gf1, gl⟩ := block2 (unhide Kg_12)
        go_upto_region 39 with (go_at_call 29; refine (unhide HGV1 _ (unhide HX_12)).mono ?_; rintro e w36 ⟨b4, d4, b5, d5, rfl, hi4, hi5, hb36⟩; have HI4 := hide hi4; have HI5 := hide hi5; have HX_zd13 := hide (Below.next (unhide HX_12) hb36 (by first | exact Nat.le_refl _ | (have := unhide HBA; omega))); have Kp_zd13 := hide (keep_below (unhide Kp_12) hb36); have Kx_zd13 := hide (keep_below (unhide Kx_12) hb36); have Km_zd13 := hide (keep_below (unhide Km_12) hb36); have Kf_zd13 := hide (keep_below (unhide Kf_12) hb36); have Kq_zd13 := hide (keep_below (unhide Kq_12) hb36); have Kg_zd13 := hide (keep_below (unhide Kg_12) hb36); have Ku_zd13 := hide (keep_below (unhide Ku_12) hb36); have Kv_zd13 := hide (keep_below (unhide Kv_12) hb36); have Kt_zd13 := hide (keep_below (unhide Kt_12) hb36); have Ox_zd13 := hide ((unhide Ox_12).below hb36); have CJ_zd13 := hide (Below.next (unhide CJ_12) hb36 (Nat.le_refl _)); have CK_zd13 := hide (Below.next (unhide CK_12) hb36 (Nat.le_refl _)); clear HX_12 Kp_12 Kx_12 Km_12 Kf_12 Kq_12 Kg_12 Ku_12 Kv_12 Kt_12 Ox_12 CJ_12 CK_12; clear hb36 hi4 hi5 p0 p1 pf0 pf1 pl u0 u1 uf0 uf1 ul g0 g1 gf0 gf1 gl)
        have hch3 : w7.heap.size ≤ w36.heap.size := (unhide CK_zd13).size
        have HC36 : Hid (Below w36.heap.size w36 w36) := Below.refl _ _
        have HX_zd14 := hide ((unhide HX_zd13).alloc (Nat.le_trans (show w.heap.size ≤ w.heap.size from Nat.le_refl _) (unhide HX_zd13).size) (.cells #[.int .i64 GC, .slice b4 GL.length d4] 51))
        have Kp_zd14 := hide (keep_alloc (unhide Kp_zd13) (.cells #[.int .i64 GC, .slice b4 GL.length d4] 51))
        have Kx_zd14 := hide (keep_alloc (unhide Kx_zd13) (.cells #[.int .i64 GC, .slice b4 GL.length d4] 51))
        have Km_zd14 := hide (keep_alloc (unhide Km_zd13) (.cells #[.int .i64 GC, .slice b4 GL.length d4] 51))
        have Kf_zd14 := hide (keep_alloc (unhide Kf_zd13) (.cells #[.int .i64 GC, .slice b4 GL.length d4] 51))
        have Kq_zd14 := hide (keep_alloc (unhide Kq_zd13) (.cells #[.int .i64 GC, .slice b4 GL.length d4] 51))
        have Kg_zd14 := hide (keep_alloc (unhide Kg_zd13) (.cells #[.int .i64 GC, .slice b4 GL.length d4] 51))
        have Ku_zd14 := hide (keep_alloc (unhide Ku_zd13) (.cells #[.int .i64 GC, .slice b4 GL.length d4] 51))
        have Kv_zd14 := hide (keep_alloc (unhide Kv_zd13) (.cells #[.int .i64 GC, .slice b4 GL.length d4] 51))
        have Kt_zd14 := hide (keep_alloc (unhide Kt_zd13) (.cells #[.int .i64 GC, .slice b4 GL.length d4] 51))
        have Ox_zd14 := hide ((unhide Ox_zd13).below ((Below.refl _ _).alloc (Nat.le_refl _) (.cells #[.int .i64 GC, .slice b4 GL.length d4] 51)))
        have CJ_zd14 := hide ((unhide CJ_zd13).alloc (unhide CJ_zd13).size (.cells #[.int .i64 GC, .slice b4 GL.length d4] 51))
        have CK_zd14 := hide ((unhide CK_zd13).alloc (unhide CK_zd13).size (.cells #[.int .i64 GC, .slice b4 GL.length d4] 51))
        have CL_zd14 := hide ((unhide HC36).alloc (unhide HC36).size (.cells #[.int .i64 GC, .slice b4 GL.length d4] 51))
        have Ky_zd14 := hide (new_block w36 (.cells #[.int .i64 GC, .slice b4 GL.length d4] 51))
        have hlp_y : w.heap.size < w36.heap.size := size_of (unhide Kp_zd13)
        have hlx_y : Y < w36.heap.size := size_of (unhide Kx_zd13)
        have hlm_y : M < w36.heap.size := size_of (unhide Km_zd13)
        have hlf_y : M + 1 < w36.heap.size := size_of (unhide Kf_zd13)
        have hlq_y : M2 < w36.heap.size := size_of (unhide Kq_zd13)
        have hlg_y : M2 + 1 < w36.heap.size := size_of (unhide Kg_zd13)
        have hlu_y : U < w36.heap.size := size_of (unhide Ku_zd13)
        have hlv_y : V < w36.heap.size := size_of (unhide Kv_zd13)
        have hlt_y : Y7 < w36.heap.size := size_of (unhide Kt_zd13)
        obtain ⟨Y9, eY9⟩ : ∃ X, w36.heap.size = X := ⟨_, rfl⟩
        obtain ⟨W37, eW37⟩ : ∃ X, w36.alloc (.cells #[.int .i64 GC, .slice b4 GL.length d4] 51) = X := ⟨_, rfl⟩
        rw [eY9, eW37] at Ky_zd14; rw [eW37] at HX_zd14 Kp_zd14 Kx_zd14 Km_zd14 Kf_zd14 Kq_zd14 Kg_zd14 Ku_zd14 Kv_zd14 Kt_zd14 Ox_zd14 CJ_zd14 CK_zd14 CL_zd14; rw [eY9] at hlp_y hlx_y hlm_y hlf_y hlq_y hlg_y hlu_y hlv_y hlt_y hch3; rw [eY9, eW37]
        clear eY9 eW37 HX_zd13 Kp_zd13 Kx_zd13 Km_zd13 Kf_zd13 Kq_zd13 Kg_zd13 Ku_zd13 Kv_zd13 Kt_zd13 Ox_zd13 CJ_zd13 CK_zd13 HC36
        obtain ⟨q0, q1, qf0, qf1, ql⟩ := block2 (unhide Kq_zd14)
        obtain ⟨y0, y1, yf0, yf1, yl⟩ := block2 (unhide Ky_zd14)
        go_wp2_with (first | (go_at_call 27; refine (sameSema_any _ _ _ GC GL ⟨_, rfl, (unhide HI2).below (unhide CK_zd14)⟩ ⟨_, rfl, (unhide HI4).below (unhide CL_zd14)⟩ (by have := (unhide HGN).1; unfold maxLen; omega)).mono ?_; rintro e w38 ⟨rfl, hb38⟩; have HX_zd15 := hide (Below.next (unhide HX_zd14) hb38 (by first | exact Nat.le_refl _ | (have := unhide HBA; omega))); have Kp_zd15 := hide (keep_below (unhide Kp_zd14) hb38); have Kx_zd15 := hide (keep_below (unhide Kx_zd14) hb38); have Km_zd15 := hide (keep_below (unhide Km_zd14) hb38); have Kf_zd15 := hide (keep_below (unhide Kf_zd14) hb38); have Kq_zd15 := hide (keep_below (unhide Kq_zd14) hb38); have Kg_zd15 := hide (keep_below (unhide Kg_zd14) hb38); have Ku_zd15 := hide (keep_below (unhide Ku_zd14) hb38); have Kv_zd15 := hide (keep_below (unhide Kv_zd14) hb38); have Kt_zd15 := hide (keep_below (unhide Kt_zd14) hb38); have Ky_zd15 := hide (keep_below (unhide Ky_zd14) hb38); have Ox_zd15 := hide ((unhide Ox_zd14).below hb38); have CJ_zd15 := hide (Below.next (unhide CJ_zd14) hb38 (Nat.le_refl _)); have CK_zd15 := hide (Below.next (unhide CK_zd14) hb38 (Nat.le_refl _)); have CL_zd15 := hide (Below.next (unhide CL_zd14) hb38 (Nat.le_refl _)); clear HX_zd14 Kp_zd14 Kx_zd14 Km_zd14 Kf_zd14 Kq_zd14 Kg_zd14 Ku_zd14 Kv_zd14 Kt_zd14 Ky_zd14 Ox_zd14 CJ_zd14 CK_zd14 CL_zd14; clear hb38 q0 q1 qf0 qf1 ql y0 y1 yf0 yf1 yl) | (go_at_call 17; refine (ints_same _ _ _ GW ((unhide HI3).below (unhide CK_zd15)) ((unhide HI5).below (unhide CL_zd15)) (by have := (unhide HGN).2; unfold maxLen; omega)).mono ?_; rintro e w39 ⟨rfl, hb39⟩; have HX_zd16 := hide (Below.next (unhide HX_zd15) hb39 (by first | exact Nat.le_refl _ | (have := unhide HBA; omega))); have Kp_zd16 := hide (keep_below (unhide Kp_zd15) hb39); have Kx_zd16 := hide (keep_below (unhide Kx_zd15) hb39); have Km_zd16 := hide (keep_below (unhide Km_zd15) hb39); have Kf_zd16 := hide (keep_below (unhide Kf_zd15) hb39); have Kq_zd16 := hide (keep_below (unhide Kq_zd15) hb39); have Kg_zd16 := hide (keep_below (unhide Kg_zd15) hb39); have Ku_zd16 := hide (keep_below (unhide Ku_zd15) hb39); have Kv_zd16 := hide (keep_below (unhide Kv_zd15) hb39); have Kt_zd16 := hide (keep_below (unhide Kt_zd15) hb39); have Ky_zd16 := hide (keep_below (unhide Ky_zd15) hb39); have Ox_zd16 := hide ((unhide Ox_zd15).below hb39); have CJ_zd16 := hide (Below.next (unhide CJ_zd15) hb39 (Nat.le_refl _)); have CK_zd16 := hide (Below.next (unhide CK_zd15) hb39 (Nat.le_refl _)); have CL_zd16 := hide (Below.next (unhide CL_zd15) hb39 (Nat.le_refl _)); clear HX_zd15 Kp_zd15 Kx_zd15 Km_zd15 Kf_zd15 Kq_zd15 Kg_zd15 Ku_zd15 Kv_zd15 Kt_zd15 Ky_zd15 Ox_zd15 CJ_zd15 CK_zd15 CL_zd15; clear hb39))
        go_ret
        exact ⟨rfl, unhide HX_zd16⟩
end Go.Proofs.Ytpogcfdmkeebmaa
