/-
  taskmilllaw.SyncGates.
-/
import Derived.Test.YtpogcfdmkeebmaaLo
import Derived.Test.YtpogcfdmkeebmaaTb
import Derived.Test.YtpogcfdmkeebmaaBe
import Derived.Test.YtpogcfdmkeebmaaSa
namespace Go.Proofs.Ytpogcfdmkeebmaa
open Go.RowKit

set_option maxRecDepth 100000 in
set_option maxHeartbeats 2000000 in
theorem gates_long (w : World) (v : Value) (c : Int) (xs : List Int) (x : Int) (h : IsG KI w v c xs) (hm : xs.length * 8 ≤ 140737488355328) (hl : (700 < xs.length ∧ xs.length < 4999) ∨ 6000 < xs.length) :
    Calls Try.prog 6 #[v, .int .i64 x] w fun e w' => e = .returned (.bool true) ∧ Below w.heap.size w w' := by
  have hnot : ∀ (x : Bool) (w : World), (Op.unary .not (.bool x)).run Try.prog w = .ok (.bool (!x)) w := fun _ _ => rfl
  obtain ⟨a0, c0, rfl, -⟩ := h.form
  generalize xs.length = n at *
  have hl2 : (700 < (n : Int) ∧ (n : Int) < 4999) ∨ 6000 < (n : Int) := by omega
  have HLG : Hid (∀ W, Calls Try.prog 10 #[.int .i64 (n : Int)] W fun e w' => e = .returned (.bool true) ∧ w' = W) := fun W => long_yes W _ hl2
  clear h hl hl2
  obtain ⟨W0, e0, hB, k0⟩ : ∃ W, w.alloc (.cells #[.int .i64 c, .slice a0 n c0] 67) = W ∧ Below w.heap.size w W ∧ W.heap[w.heap.size]? = some (.cells #[.int .i64 c, .slice a0 n c0] 67) := ⟨_, rfl, (Below.refl _ _).alloc (Nat.le_refl _) _, new_block _ _⟩
  have HX := hide hB; have HP := hide k0; have HE := hide e0
  clear hB k0 e0
  go_enter Try.func6, Try.ntmps6
  go_upto_region 1 with fail
  rw [unhide HE]
  clear HE
  obtain ⟨p0, p1, pf0, pf1, pl⟩ := block2 (unhide HP)
  go_wp2_with (first | (go_at_call 9; refine (begun_any _).mono ?_; rintro e w1 ⟨rfl, hb1⟩; have HX_1 := hide (Below.next (unhide HX) hb1 (by first | exact Nat.le_refl _ | (have := unhide HBA; omega))); have Kp_1 := hide (keep_below (unhide HP) hb1); clear HX HP; clear hb1 p0 p1 pf0 pf1 pl; obtain ⟨p0, p1, pf0, pf1, pl⟩ := block2 (unhide Kp_1)) | (go_at_call 10; refine (unhide HLG _).mono ?_; rintro e w1 ⟨rfl, rfl⟩))
  go_ret
  exact ⟨rfl, unhide HX_1⟩

set_option maxRecDepth 100000 in
set_option maxHeartbeats 4000000 in
theorem gates_fault (w : World) (v : Value) (c : Int) (xs : List Int) (x : Int) (h : IsG KI w v c xs) (hm : xs.length * 8 ≤ 140737488355328) (hl : ¬ ((700 < xs.length ∧ xs.length < 4999) ∨ 6000 < xs.length)) (hf : (arrF c xs x).1 ≠ 0) :
    Calls Try.prog 6 #[v, .int .i64 x] w fun e w' => e = .returned (.bool true) ∧ Below w.heap.size w w' := by
  have hnot : ∀ (x : Bool) (w : World), (Op.unary .not (.bool x)).run Try.prog w = .ok (.bool (!x)) w := fun _ _ => rfl
  have HAR0 : Hid (∀ W v', IsG KI W v' c xs → Calls Try.prog 31 #[v', .int .i64 x] W fun e w' => e = .returned (.tuple #[.agg #[.int .i64 0, .slice none 0 0], .slice none 0 0, faultV (arrF c xs x)]) ∧ Below W.heap.size W w') := fun W v' hv => arrive_fault W v' c xs x hv (by unfold maxLen; omega) hf
  obtain ⟨a0, c0, rfl, hL⟩ := h.form
  have HOW0 : Hid (∀ W, Below w.heap.size w W → Calls Try.prog 11 #[.slice a0 xs.length c0] W fun e w' => ∃ a' c', e = .returned (.slice a' xs.length c') ∧ Own KI W.heap.size w' (.slice a' xs.length c') xs ∧ Below W.heap.size W w') := fun W hW => own_any W _ xs (hL.below hW) hm
  have hn6 : xs.length ≤ 6000 := by omega
  have HGF0 : Hid (∀ W, Below w.heap.size w W → Calls Try.prog 32 #[.agg #[.int .i64 c, .slice a0 xs.length c0]] W fun e w' => e = .returned (faultV (gateF c xs)) ∧ Below W.heap.size W w') := fun W hW => gateFault_any W _ c xs (h.below hW) (by unfold maxLen; omega)
  obtain ⟨G, eG⟩ : ∃ G, gateF c xs = G := ⟨_, rfl⟩
  obtain ⟨R, eR⟩ : ∃ R, arrF c xs x = R := ⟨_, rfl⟩
  have HCF0 : Hid (∀ W, Below w.heap.size w W → Calls Try.prog 18 #[.agg #[.int .i64 G.1, .int .i64 G.2], .slice a0 xs.length c0, .int .i64 x] W fun e w' => e = .returned (faultV R) ∧ Below W.heap.size W w') := fun W hW => by
    have := comeFault_any W G _ xs x (hL.below hW) (by unfold maxLen; omega)
    rw [← eR]
    unfold arrF
    rw [eG]
    exact this
  have HL0 := hide hL
  rw [eG] at HGF0
  rw [eR] at HAR0 hf
  obtain ⟨R0, R1⟩ := R
  obtain ⟨G0, G1⟩ := G
  obtain ⟨n, en⟩ : ∃ n, xs.length = n := ⟨_, rfl⟩
  rw [en] at hl hn6 HOW0 HGF0 HCF0 HL0 ⊢
  have hl2 : ¬ ((700 < (n : Int) ∧ (n : Int) < 4999) ∨ 6000 < (n : Int)) := by omega
  have HLG : Hid (∀ W, Calls Try.prog 10 #[.int .i64 (n : Int)] W fun e w' => e = .returned (.bool false) ∧ w' = W) := fun W => long_no W _ hl2
  have x0 : (R0 != 0) = true := by simpa using hf
  have x1 : (R0 == R0) = true := by simp
  have x2 : (R1 == R1) = true := by simp
  have HEN := hide en
  clear h hl hl2 hL eG eR hf en hm
  obtain ⟨W0, e0, hB, k0⟩ : ∃ W, w.alloc (.cells #[.int .i64 c, .slice a0 n c0] 67) = W ∧ Below w.heap.size w W ∧ W.heap[w.heap.size]? = some (.cells #[.int .i64 c, .slice a0 n c0] 67) := ⟨_, rfl, (Below.refl _ _).alloc (Nat.le_refl _) _, new_block _ _⟩
  have HX := hide hB; have HP := hide k0; have HE := hide e0
  clear hB k0 e0
  go_enter Try.func6, Try.ntmps6
  go_upto_region 1 with fail
  rw [unhide HE]
  clear HE
  obtain ⟨p0, p1, pf0, pf1, pl⟩ := block2 (unhide HP)
  go_upto_region 5 with (first | (go_at_call 9; refine (begun_any _).mono ?_; rintro e w1 ⟨rfl, hb1⟩; have HX_1 := hide (Below.next (unhide HX) hb1 (by first | exact Nat.le_refl _ | (have := unhide HBA; omega))); have Kp_1 := hide (keep_below (unhide HP) hb1); clear HX HP; clear hb1 p0 p1 pf0 pf1 pl; obtain ⟨p0, p1, pf0, pf1, pl⟩ := block2 (unhide Kp_1)) | (go_at_call 10; refine (unhide HLG _).mono ?_; rintro e w1 ⟨rfl, rfl⟩))
  clear p0 p1 pf0 pf1 pl
  have HOW : Hid (∀ W, Below w1.heap.size w1 W → Calls Try.prog 11 #[.slice a0 n c0] W fun e w' => ∃ a' c', e = .returned (.slice a' n c') ∧ Own KI W.heap.size w' (.slice a' n c') xs ∧ Below W.heap.size W w') := fun W hW => unhide HOW0 W (Below.next (unhide HX_1) hW (Nat.le_refl _))
  go_cut [5] (fun s W => ∃ (Y : Nat) (a5 : Option Addr) (c5 : Nat), s = .pointer (some ⟨Y, 0, none⟩) ∧ Hid (W.heap[Y]? = some (.cells #[.int .i64 c, .slice a5 n c5] 67)) ∧ Hid (Own KI w1.heap.size W (.slice a5 n c5) xs) ∧ Hid (w1.heap.size ≤ Y) ∧ Hid (Below w1.heap.size w1 W))
  case first =>
    have HSS : Hid (∀ W, Below w1.heap.size w1 W → W.cell? ⟨w.heap.size, 0, none⟩ = some (.int .i64 c) ∧ W.cell? ⟨w.heap.size, 1, none⟩ = some (.slice a0 n c0) ∧ Below w1.heap.size w1 W) := fun W hW => by
      obtain ⟨k0, k1, -, -, -⟩ := block2 (keep_below (unhide Kp_1) hW)
      exact ⟨k0, k1, hW⟩
    obtain ⟨k0, k1, -⟩ := unhide HSS _ (Below.refl _ _)
    go_wp2_with fail
    go_region_held3 (fun W => W.cell? ⟨w.heap.size, 0, none⟩ = some (.int .i64 c) ∧ W.cell? ⟨w.heap.size, 1, none⟩ = some (.slice a0 n c0) ∧ Below w1.heap.size w1 W)
      (first | with_reducible exact unhide HSS _ (Below.refl _ _).drew | with_reducible exact unhide HSS _ ((Below.refl w1.heap.size w1).alloc (Nat.le_refl _) _).drew | with_reducible exact unhide HSS _ (unhide HX3) | with_reducible exact unhide HSS _ ((unhide HX3).alloc (unhide HX3).size _) | exact unhide HSS _ (put2_below (unhide HX3) (Nat.le_refl _)))
      (first | (go_at_call 11; refine (unhide HOW _ (by go_split_ands; assumption)).mono ?_; rintro e w3 ⟨a3, c3, rfl, ho3, hb3⟩; have HX3 : Hid (Below w1.heap.size w1 w3) := Below.next (by go_split_ands; assumption) hb3 (Nat.le_refl _); have HO3 := hide (ho3.base (show w1.heap.size ≤ _ from (show Below w1.heap.size w1 _ by go_split_ands; assumption).size)); (try (have HZ3 : Hid (w3.heap[w1.heap.size]? = some (.cells #[.int .i64 0, .slice none 0 0] 67)) := (keep_below (w := (w1.alloc (.cells #[.int .i64 0, .slice none 0 0] 67)).drew) (new_block w1 (.cells #[.int .i64 0, .slice none 0 0] 67)) hb3); have hz := block2 (unhide HZ3); have z0 := hz.1; have z1 := hz.2.1; have zf0 := hz.2.2.1; have zf1 := hz.2.2.2.1; have zl := hz.2.2.2.2)); clear ho3 hb3))
    all_goals
      go_wp2_with fail
      go_meet
      case rel =>
        first
          | exact ⟨_, a3, c3, rfl, put2_new (unhide HZ3), put2_own (unhide HO3) (unhide HZ3) (by decide), Nat.le_refl _, put2_below (unhide HX3) (Nat.le_refl _)⟩
          | exact ⟨_, a3, c3, rfl, new_block _ _, (unhide HO3).below ((Below.refl _ _).alloc (Nat.le_refl _) _), (unhide HX3).size, (unhide HX3).alloc (unhide HX3).size _⟩
  case rest =>
    obtain ⟨Y, a5, c5, rfl, HY_, HOY_, HBY_, HXY_⟩ := hcut
    have hlp_Y : w.heap.size < Y := Nat.lt_of_lt_of_le (size_of (unhide Kp_1)) (unhide HBY_)
    (have HX_2 := hide (Below.next (unhide HX_1) (unhide HXY_) (by first | exact Nat.le_refl _ | (have := unhide HBA; omega))); have Kp_2 := hide (keep_below (unhide Kp_1) (unhide HXY_)); clear HX_1 Kp_1)
    obtain ⟨x0, x1, xf0, xf1, xl⟩ := block2 (unhide HY_)
    go_upto_region 7 with (go_at_call 31; refine (unhide HAR0 _ _ ⟨_, rfl, (unhide HOY_).isl⟩).mono ?_; rintro e w5 ⟨he, hb5⟩; obtain rfl : e = .returned (.tuple #[.agg #[.int .i64 0, .slice none 0 0], .slice none 0 0, .agg #[.int .i64 R0, .int .i64 R1]]) := he; have HX_3 := hide (Below.next (unhide HX_2) hb5 (by first | exact Nat.le_refl _ | (have := unhide HBA; omega))); have Kp_3 := hide (keep_below (unhide Kp_2) hb5); have Kx_3 := hide (keep_below (unhide HY_) hb5); have Ox_3 := hide ((unhide HOY_).below hb5); clear HX_2 Kp_2 HY_ HOY_; clear hb5 x0 x1 xf0 xf1 xl)
    obtain ⟨W6, eW6, hBW6, k0_4, k1_4⟩ := two_new w5 (.cells #[.int .i64 0, .slice none 0 0] 67) (.cells #[.int .i64 R0, .int .i64 R1] 29)
    rw [eW6]
    clear eW6
    have hlp_m : w.heap.size < w5.heap.size := size_of (unhide Kp_3)
    have hlx_m : Y < w5.heap.size := size_of (unhide Kx_3)
    (have HX_4 := hide (Below.next (unhide HX_3) hBW6 (by first | exact Nat.le_refl _ | (have := unhide HBA; omega))); have Kp_4 := hide (keep_below (unhide Kp_3) hBW6); have Kx_4 := hide (keep_below (unhide Kx_3) hBW6); have Ox_4 := hide ((unhide Ox_3).below hBW6); clear HX_3 Kp_3 Kx_3 Ox_3)
    obtain ⟨M, eM⟩ : ∃ X, w5.heap.size = X := ⟨_, rfl⟩
    rw [eM] at k0_4 k1_4 hlp_m hlx_m ⊢
    have Km_4 := hide k0_4
    have Kf_4 := hide k1_4
    clear eM hBW6 k0_4 k1_4
    have HGF : Hid (∀ W, Below W6.heap.size W6 W → Calls Try.prog 32 #[.agg #[.int .i64 c, .slice a0 n c0]] W fun e w' => e = .returned (faultV (G0, G1)) ∧ Below W.heap.size W w') := fun W hW => unhide HGF0 W (Below.next (unhide HX_4) hW (Nat.le_refl _))
    have HCF : Hid (∀ W, Below W6.heap.size W6 W → Calls Try.prog 18 #[.agg #[.int .i64 G0, .int .i64 G1], .slice a0 n c0, .int .i64 x] W fun e w' => e = .returned (faultV (R0, R1)) ∧ Below W.heap.size W w') := fun W hW => unhide HCF0 W (Below.next (unhide HX_4) hW (Nat.le_refl _))
    go_cut [9] (fun s W => ∃ (Y2 : Nat), s = .pointer (some ⟨Y2, 0, none⟩) ∧ Hid (W.heap[Y2]? = some (.cells #[.int .i64 R0, .int .i64 R1] 29)) ∧ Hid (W6.heap.size ≤ Y2) ∧ Hid (Below W6.heap.size W6 W))
    case first =>
      have HSS : Hid (∀ W, Below W6.heap.size W6 W → W.cell? ⟨w.heap.size, 0, none⟩ = some (.int .i64 c) ∧ W.cell? ⟨w.heap.size, 1, none⟩ = some (.slice a0 n c0) ∧ Below W6.heap.size W6 W) := fun W hW => by
        obtain ⟨k0, k1, -, -, -⟩ := block2 (keep_below (unhide Kp_4) hW)
        exact ⟨k0, k1, hW⟩
      obtain ⟨k0, k1, -⟩ := unhide HSS _ (Below.refl _ _)
      go_wp2_with fail
      go_region_held3 (fun W => W.cell? ⟨w.heap.size, 0, none⟩ = some (.int .i64 c) ∧ W.cell? ⟨w.heap.size, 1, none⟩ = some (.slice a0 n c0) ∧ Below W6.heap.size W6 W)
        (first | with_reducible exact unhide HSS _ (Below.refl _ _).drew | with_reducible exact unhide HSS _ ((Below.refl W6.heap.size W6).alloc (Nat.le_refl _) _).drew | with_reducible exact unhide HSS _ (unhide HX3) | with_reducible exact unhide HSS _ ((unhide HX3).alloc (unhide HX3).size _) | with_reducible exact unhide HSS _ (unhide HX4) | with_reducible exact unhide HSS _ ((unhide HX4).alloc (unhide HX4).size _) | exact unhide HSS _ (put2_below (unhide HX4) (by first | exact Nat.le_refl _ | exact (unhide HX3).size)))
        (first
          | (go_at_call 32; refine (unhide HGF _ (by go_split_ands; assumption)).mono ?_; rintro e w3 ⟨he, hb3⟩; obtain rfl : e = .returned (.agg #[.int .i64 G0, .int .i64 G1]) := he; have HX3 : Hid (Below W6.heap.size W6 w3) := Below.next (by go_split_ands; assumption) hb3 (Nat.le_refl _); (try (have HZ3 : Hid (w3.heap[W6.heap.size]? = some (.cells #[.int .i64 0, .int .i64 0] 29)) := (keep_below (w := (W6.alloc (.cells #[.int .i64 0, .int .i64 0] 29)).drew) (new_block W6 (.cells #[.int .i64 0, .int .i64 0] 29)) hb3))); clear hb3)
          | (go_at_call 18; refine (unhide HCF _ (by go_split_ands; assumption)).mono ?_; rintro e w4 ⟨he, hb4⟩; obtain rfl : e = .returned (.agg #[.int .i64 R0, .int .i64 R1]) := he; have HX4 : Hid (Below W6.heap.size W6 w4) := Below.next (by go_split_ands; assumption) hb4 (Nat.le_refl _); (try (have HZ4 : Hid (w4.heap[W6.heap.size]? = some (.cells #[.int .i64 0, .int .i64 0] 29)) := (keep_below (unhide HZ3) hb4); have hz := block2 (unhide HZ4); have z0 := hz.1; have z1 := hz.2.1; have zf0 := hz.2.2.1; have zf1 := hz.2.2.2.1; have zl := hz.2.2.2.2)); (try (have HZ5 : Hid (w4.heap[w3.heap.size]? = some (.cells #[.int .i64 0, .int .i64 0] 29)) := (keep_below (w := w3.alloc (.cells #[.int .i64 0, .int .i64 0] 29)) (new_block w3 (.cells #[.int .i64 0, .int .i64 0] 29)) hb4); have hz := block2 (unhide HZ5); have z0 := hz.1; have z1 := hz.2.1; have zf0 := hz.2.2.1; have zf1 := hz.2.2.2.1; have zl := hz.2.2.2.2)); clear hb4))
      all_goals
        go_wp2_with fail
        go_meet
        case rel =>
          first
            | exact ⟨_, rfl, put2_new (unhide HZ4), Nat.le_refl _, put2_below (unhide HX4) (Nat.le_refl _)⟩
            | exact ⟨_, rfl, put2_new (unhide HZ5), (unhide HX3).size, put2_below (unhide HX4) (unhide HX3).size⟩
            | exact ⟨_, rfl, new_block _ _, (unhide HX4).size, (unhide HX4).alloc (unhide HX4).size _⟩
    case rest =>
      obtain ⟨Y2, rfl, HY2_, HBY2_, HXY2_⟩ := hcut
      have hlp_Y2 : w.heap.size < Y2 := Nat.lt_of_lt_of_le (size_of (unhide Kp_4)) (unhide HBY2_)
      have hlx_Y2 : Y < Y2 := Nat.lt_of_lt_of_le (size_of (unhide Kx_4)) (unhide HBY2_)
      have hlm_Y2 : M < Y2 := Nat.lt_of_lt_of_le (size_of (unhide Km_4)) (unhide HBY2_)
      have hlf_Y2 : M + 1 < Y2 := Nat.lt_of_lt_of_le (size_of (unhide Kf_4)) (unhide HBY2_)
      (have HX_5 := hide (Below.next (unhide HX_4) (unhide HXY2_) (by first | exact Nat.le_refl _ | (have := unhide HBA; omega))); have Kp_5 := hide (keep_below (unhide Kp_4) (unhide HXY2_)); have Kx_5 := hide (keep_below (unhide Kx_4) (unhide HXY2_)); have Km_5 := hide (keep_below (unhide Km_4) (unhide HXY2_)); have Kf_5 := hide (keep_below (unhide Kf_4) (unhide HXY2_)); have Ox_5 := hide ((unhide Ox_4).below (unhide HXY2_)); clear HX_4 Kp_4 Kx_4 Km_4 Kf_4 Ox_4)
      obtain ⟨p0, p1, pf0, pf1, pl⟩ := block2 (unhide Kp_5)
      obtain ⟨x0, x1, xf0, xf1, xl⟩ := block2 (unhide Kx_5)
      obtain ⟨m0, m1, mf0, mf1, ml⟩ := block2 (unhide Km_5)
      obtain ⟨f0, f1, ff0, ff1, fl⟩ := block2 (unhide Kf_5)
      obtain ⟨v0, v1, vf0, vf1, vl⟩ := block2 (unhide HY2_)
      go_upto_region 10 with (go_at_call 33; refine (sameGate_any _ _ _ c xs ⟨_, rfl, (unhide Ox_5).isl⟩ ⟨_, rfl, (unhide HL0).below (unhide HX_5)⟩ (by rw [unhide HEN]; unfold maxLen; omega)).mono ?_; rintro e w8 ⟨rfl, hb8⟩; have HX_6 := hide (Below.next (unhide HX_5) hb8 (by first | exact Nat.le_refl _ | (have := unhide HBA; omega))); have Kp_6 := hide (keep_below (unhide Kp_5) hb8); have Kx_6 := hide (keep_below (unhide Kx_5) hb8); have Km_6 := hide (keep_below (unhide Km_5) hb8); have Kf_6 := hide (keep_below (unhide Kf_5) hb8); have Kv_6 := hide (keep_below (unhide HY2_) hb8); have Ox_6 := hide ((unhide Ox_5).below hb8); clear HX_5 Kp_5 Kx_5 Km_5 Kf_5 HY2_ Ox_5; clear hb8 p0 p1 pf0 pf1 pl x0 x1 xf0 xf1 xl m0 m1 mf0 mf1 ml f0 f1 ff0 ff1 fl v0 v1 vf0 vf1 vl; obtain ⟨p0, p1, pf0, pf1, pl⟩ := block2 (unhide Kp_6); obtain ⟨x0, x1, xf0, xf1, xl⟩ := block2 (unhide Kx_6); obtain ⟨m0, m1, mf0, mf1, ml⟩ := block2 (unhide Km_6); obtain ⟨f0, f1, ff0, ff1, fl⟩ := block2 (unhide Kf_6); obtain ⟨v0, v1, vf0, vf1, vl⟩ := block2 (unhide Kv_6))
      go_wp2_with (go_at_call 33; refine (sameGate_any _ _ _ 0 [] (zero_g _ 0) (zero_g _ 0) (by simp [maxLen])).mono ?_; rintro e w9 ⟨rfl, hb9⟩; have HX9 := hide (Below.next (unhide HX_6) hb9 (Nat.le_refl _)); clear hb9)
      go_ret
      exact ⟨rfl, unhide HX9⟩

set_option maxRecDepth 100000 in
set_option maxHeartbeats 4000000 in
theorem gates_goes (w : World) (v : Value) (c : Int) (xs : List Int) (x : Int) (h : IsG KI w v c xs) (hm : xs.length * 8 ≤ 140737488355328) (hl : ¬ ((700 < xs.length ∧ xs.length < 4999) ∨ 6000 < xs.length)) (hf : (arrF c xs x).1 = 0) (hq : (xs.length : Int) + 1 = c) :
    Calls Try.prog 6 #[v, .int .i64 x] w fun e w' => e = .returned (.bool true) ∧ Below w.heap.size w w' := by
  have hnot : ∀ (x : Bool) (w : World), (Op.unary .not (.bool x)).run Try.prog w = .ok (.bool (!x)) w := fun _ _ => rfl
  have hR := arrF_good hf
  have HAR0 : Hid (∀ W v', IsG KI W v' c xs → Calls Try.prog 31 #[v', .int .i64 x] W fun e w' => ∃ a1 d1 a2 d2, e = .returned (.tuple #[.agg #[.int .i64 (arrR c xs x).1.1, .slice a1 (arrR c xs x).1.2.length d1], .slice a2 (arrR c xs x).2.length d2, .agg #[.int .i64 0, .int .i64 0]]) ∧ IsL KI w' (.slice a1 (arrR c xs x).1.2.length d1) (arrR c xs x).1.2 ∧ IsL KI w' (.slice a2 (arrR c xs x).2.length d2) (arrR c xs x).2 ∧ Below W.heap.size W w') := fun W v' hv => (arrive_ok W v' c xs x hv hf).mono fun e w' ⟨v1, v2, h1, h2, h3, h4⟩ => by
    obtain ⟨a1, d1, rfl, h5⟩ := h2.form
    obtain ⟨a2, d2, rfl⟩ := h3.1.form
    exact ⟨a1, d1, a2, d2, h1, h5.1, h3.1, h4⟩
  obtain ⟨a0, c0, rfl, hL⟩ := h.form
  have HOW0 : Hid (∀ W, Below w.heap.size w W → Calls Try.prog 11 #[.slice a0 xs.length c0] W fun e w' => ∃ a' c', e = .returned (.slice a' xs.length c') ∧ Own KI W.heap.size w' (.slice a' xs.length c') xs ∧ Below W.heap.size W w') := fun W hW => own_any W _ xs (hL.below hW) hm
  have hn6 : xs.length ≤ 6000 := by omega
  have HGF0 : Hid (∀ W, Below w.heap.size w W → Calls Try.prog 32 #[.agg #[.int .i64 c, .slice a0 xs.length c0]] W fun e w' => e = .returned (faultV (gateF c xs)) ∧ Below W.heap.size W w') := fun W hW => gateFault_any W _ c xs (h.below hW) (by unfold maxLen; omega)
  obtain ⟨G, eG⟩ : ∃ G, gateF c xs = G := ⟨_, rfl⟩
  obtain ⟨R, eR⟩ : ∃ R, arrF c xs x = R := ⟨_, rfl⟩
  have HCF0 : Hid (∀ W, Below w.heap.size w W → Calls Try.prog 18 #[.agg #[.int .i64 G.1, .int .i64 G.2], .slice a0 xs.length c0, .int .i64 x] W fun e w' => e = .returned (faultV R) ∧ Below W.heap.size W w') := fun W hW => by
    have := comeFault_any W G _ xs x (hL.below hW) (by unfold maxLen; omega)
    rw [← eR]
    unfold arrF
    rw [eG]
    exact this
  have HL0 := hide hL
  have eA : arrR c xs x = ((c, []), xs ++ [x]) := by unfold arrR; rw [if_pos hq]
  rw [hR.2.2] at eR
  subst eR
  rw [eG] at HGF0
  obtain ⟨G0, G1⟩ := G
  obtain ⟨n, en⟩ : ∃ n, xs.length = n := ⟨_, rfl⟩
  have en1 : (xs ++ [x]).length = n + 1 := by simp [en]
  rw [eA] at HAR0
  simp only [en1, List.length_nil] at HAR0
  rw [en] at hl hn6 HOW0 HGF0 HCF0 HL0 hq ⊢
  have hl2 : ¬ ((700 < (n : Int) ∧ (n : Int) < 4999) ∨ 6000 < (n : Int)) := by omega
  have HLG : Hid (∀ W, Calls Try.prog 10 #[.int .i64 (n : Int)] W fun e w' => e = .returned (.bool false) ∧ w' = W) := fun W => long_no W _ hl2
  have xq : ((((n + 1 : Nat) : Int)) == c) = true := by simpa using hq
  have HEN := hide en
  clear h hl hl2 hL eG hf en hm eA en1 hR hq
  obtain ⟨W0, e0, hB, k0⟩ : ∃ W, w.alloc (.cells #[.int .i64 c, .slice a0 n c0] 67) = W ∧ Below w.heap.size w W ∧ W.heap[w.heap.size]? = some (.cells #[.int .i64 c, .slice a0 n c0] 67) := ⟨_, rfl, (Below.refl _ _).alloc (Nat.le_refl _) _, new_block _ _⟩
  have HX := hide hB; have HP := hide k0; have HE := hide e0
  clear hB k0 e0
  go_enter Try.func6, Try.ntmps6
  go_upto_region 1 with fail
  rw [unhide HE]
  clear HE
  obtain ⟨p0, p1, pf0, pf1, pl⟩ := block2 (unhide HP)
  go_upto_region 5 with (first | (go_at_call 9; refine (begun_any _).mono ?_; rintro e w1 ⟨rfl, hb1⟩; have HX_1 := hide (Below.next (unhide HX) hb1 (by first | exact Nat.le_refl _ | (have := unhide HBA; omega))); have Kp_1 := hide (keep_below (unhide HP) hb1); clear HX HP; clear hb1 p0 p1 pf0 pf1 pl; obtain ⟨p0, p1, pf0, pf1, pl⟩ := block2 (unhide Kp_1)) | (go_at_call 10; refine (unhide HLG _).mono ?_; rintro e w1 ⟨rfl, rfl⟩))
  clear p0 p1 pf0 pf1 pl
  have HOW : Hid (∀ W, Below w1.heap.size w1 W → Calls Try.prog 11 #[.slice a0 n c0] W fun e w' => ∃ a' c', e = .returned (.slice a' n c') ∧ Own KI W.heap.size w' (.slice a' n c') xs ∧ Below W.heap.size W w') := fun W hW => unhide HOW0 W (Below.next (unhide HX_1) hW (Nat.le_refl _))
  go_cut [5] (fun s W => ∃ (Y : Nat) (a5 : Option Addr) (c5 : Nat), s = .pointer (some ⟨Y, 0, none⟩) ∧ Hid (W.heap[Y]? = some (.cells #[.int .i64 c, .slice a5 n c5] 67)) ∧ Hid (Own KI w1.heap.size W (.slice a5 n c5) xs) ∧ Hid (w1.heap.size ≤ Y) ∧ Hid (Below w1.heap.size w1 W))
  case first =>
    have HSS : Hid (∀ W, Below w1.heap.size w1 W → W.cell? ⟨w.heap.size, 0, none⟩ = some (.int .i64 c) ∧ W.cell? ⟨w.heap.size, 1, none⟩ = some (.slice a0 n c0) ∧ Below w1.heap.size w1 W) := fun W hW => by
      obtain ⟨k0, k1, -, -, -⟩ := block2 (keep_below (unhide Kp_1) hW)
      exact ⟨k0, k1, hW⟩
    obtain ⟨k0, k1, -⟩ := unhide HSS _ (Below.refl _ _)
    go_wp2_with fail
    go_region_held3 (fun W => W.cell? ⟨w.heap.size, 0, none⟩ = some (.int .i64 c) ∧ W.cell? ⟨w.heap.size, 1, none⟩ = some (.slice a0 n c0) ∧ Below w1.heap.size w1 W)
      (first | with_reducible exact unhide HSS _ (Below.refl _ _).drew | with_reducible exact unhide HSS _ ((Below.refl w1.heap.size w1).alloc (Nat.le_refl _) _).drew | with_reducible exact unhide HSS _ (unhide HX3) | with_reducible exact unhide HSS _ ((unhide HX3).alloc (unhide HX3).size _) | exact unhide HSS _ (put2_below (unhide HX3) (Nat.le_refl _)))
      (first | (go_at_call 11; refine (unhide HOW _ (by go_split_ands; assumption)).mono ?_; rintro e w3 ⟨a3, c3, rfl, ho3, hb3⟩; have HX3 : Hid (Below w1.heap.size w1 w3) := Below.next (by go_split_ands; assumption) hb3 (Nat.le_refl _); have HO3 := hide (ho3.base (show w1.heap.size ≤ _ from (show Below w1.heap.size w1 _ by go_split_ands; assumption).size)); (try (have HZ3 : Hid (w3.heap[w1.heap.size]? = some (.cells #[.int .i64 0, .slice none 0 0] 67)) := (keep_below (w := (w1.alloc (.cells #[.int .i64 0, .slice none 0 0] 67)).drew) (new_block w1 (.cells #[.int .i64 0, .slice none 0 0] 67)) hb3); have hz := block2 (unhide HZ3); have z0 := hz.1; have z1 := hz.2.1; have zf0 := hz.2.2.1; have zf1 := hz.2.2.2.1; have zl := hz.2.2.2.2)); clear ho3 hb3))
    all_goals
      go_wp2_with fail
      go_meet
      case rel =>
        first
          | exact ⟨_, a3, c3, rfl, put2_new (unhide HZ3), put2_own (unhide HO3) (unhide HZ3) (by decide), Nat.le_refl _, put2_below (unhide HX3) (Nat.le_refl _)⟩
          | exact ⟨_, a3, c3, rfl, new_block _ _, (unhide HO3).below ((Below.refl _ _).alloc (Nat.le_refl _) _), (unhide HX3).size, (unhide HX3).alloc (unhide HX3).size _⟩
  case rest =>
    obtain ⟨Y, a5, c5, rfl, HY_, HOY_, HBY_, HXY_⟩ := hcut
    have hlp_Y : w.heap.size < Y := Nat.lt_of_lt_of_le (size_of (unhide Kp_1)) (unhide HBY_)
    (have HX_2 := hide (Below.next (unhide HX_1) (unhide HXY_) (by first | exact Nat.le_refl _ | (have := unhide HBA; omega))); have Kp_2 := hide (keep_below (unhide Kp_1) (unhide HXY_)); clear HX_1 Kp_1)
    obtain ⟨x0, x1, xf0, xf1, xl⟩ := block2 (unhide HY_)
    go_upto_region 7 with (go_at_call 31; refine (unhide HAR0 _ _ ⟨_, rfl, (unhide HOY_).isl⟩).mono ?_; rintro e w5 ⟨b1, d1, b2, d2, rfl, hi1, hi2, hb5⟩; have HI1 := hide hi1; have HI2 := hide hi2; have HX_3 := hide (Below.next (unhide HX_2) hb5 (by first | exact Nat.le_refl _ | (have := unhide HBA; omega))); have Kp_3 := hide (keep_below (unhide Kp_2) hb5); have Kx_3 := hide (keep_below (unhide HY_) hb5); have Ox_3 := hide ((unhide HOY_).below hb5); clear HX_2 Kp_2 HY_ HOY_; clear hb5 hi1 hi2 x0 x1 xf0 xf1 xl)
    obtain ⟨W6, eW6, hBW6, k0_4, k1_4⟩ := two_new w5 (.cells #[.int .i64 c, .slice b1 0 d1] 67) (.cells #[.int .i64 0, .int .i64 0] 29)
    rw [eW6]
    clear eW6
    have hlp_m : w.heap.size < w5.heap.size := size_of (unhide Kp_3)
    have hlx_m : Y < w5.heap.size := size_of (unhide Kx_3)
    (have HX_4 := hide (Below.next (unhide HX_3) hBW6 (by first | exact Nat.le_refl _ | (have := unhide HBA; omega))); have Kp_4 := hide (keep_below (unhide Kp_3) hBW6); have Kx_4 := hide (keep_below (unhide Kx_3) hBW6); have Ox_4 := hide ((unhide Ox_3).below hBW6); have FI_4 := hide ((unhide HI1).below hBW6); have FJ_4 := hide ((unhide HI2).below hBW6); clear HX_3 Kp_3 Kx_3 Ox_3 HI1 HI2)
    obtain ⟨M, eM⟩ : ∃ X, w5.heap.size = X := ⟨_, rfl⟩
    rw [eM] at k0_4 k1_4 hlp_m hlx_m ⊢
    have Km_4 := hide k0_4
    have Kf_4 := hide k1_4
    clear eM hBW6 k0_4 k1_4
    have HGF : Hid (∀ W, Below W6.heap.size W6 W → Calls Try.prog 32 #[.agg #[.int .i64 c, .slice a0 n c0]] W fun e w' => e = .returned (faultV (G0, G1)) ∧ Below W.heap.size W w') := fun W hW => unhide HGF0 W (Below.next (unhide HX_4) hW (Nat.le_refl _))
    have HCF : Hid (∀ W, Below W6.heap.size W6 W → Calls Try.prog 18 #[.agg #[.int .i64 G0, .int .i64 G1], .slice a0 n c0, .int .i64 x] W fun e w' => e = .returned (faultV (0, 0)) ∧ Below W.heap.size W w') := fun W hW => unhide HCF0 W (Below.next (unhide HX_4) hW (Nat.le_refl _))
    go_cut [9] (fun s W => ∃ (Y2 : Nat), s = .pointer (some ⟨Y2, 0, none⟩) ∧ Hid (W.heap[Y2]? = some (.cells #[.int .i64 0, .int .i64 0] 29)) ∧ Hid (W6.heap.size ≤ Y2) ∧ Hid (Below W6.heap.size W6 W))
    case first =>
      have HSS : Hid (∀ W, Below W6.heap.size W6 W → W.cell? ⟨w.heap.size, 0, none⟩ = some (.int .i64 c) ∧ W.cell? ⟨w.heap.size, 1, none⟩ = some (.slice a0 n c0) ∧ Below W6.heap.size W6 W) := fun W hW => by
        obtain ⟨k0, k1, -, -, -⟩ := block2 (keep_below (unhide Kp_4) hW)
        exact ⟨k0, k1, hW⟩
      obtain ⟨k0, k1, -⟩ := unhide HSS _ (Below.refl _ _)
      go_wp2_with fail
      go_region_held3 (fun W => W.cell? ⟨w.heap.size, 0, none⟩ = some (.int .i64 c) ∧ W.cell? ⟨w.heap.size, 1, none⟩ = some (.slice a0 n c0) ∧ Below W6.heap.size W6 W)
        (first | with_reducible exact unhide HSS _ (Below.refl _ _).drew | with_reducible exact unhide HSS _ ((Below.refl W6.heap.size W6).alloc (Nat.le_refl _) _).drew | with_reducible exact unhide HSS _ (unhide HX3) | with_reducible exact unhide HSS _ ((unhide HX3).alloc (unhide HX3).size _) | with_reducible exact unhide HSS _ (unhide HX4) | with_reducible exact unhide HSS _ ((unhide HX4).alloc (unhide HX4).size _) | exact unhide HSS _ (put2_below (unhide HX4) (by first | exact Nat.le_refl _ | exact (unhide HX3).size)))
        (first
          | (go_at_call 32; refine (unhide HGF _ (by go_split_ands; assumption)).mono ?_; rintro e w3 ⟨he, hb3⟩; obtain rfl : e = .returned (.agg #[.int .i64 G0, .int .i64 G1]) := he; have HX3 : Hid (Below W6.heap.size W6 w3) := Below.next (by go_split_ands; assumption) hb3 (Nat.le_refl _); (try (have HZ3 : Hid (w3.heap[W6.heap.size]? = some (.cells #[.int .i64 0, .int .i64 0] 29)) := (keep_below (w := (W6.alloc (.cells #[.int .i64 0, .int .i64 0] 29)).drew) (new_block W6 (.cells #[.int .i64 0, .int .i64 0] 29)) hb3))); clear hb3)
          | (go_at_call 18; refine (unhide HCF _ (by go_split_ands; assumption)).mono ?_; rintro e w4 ⟨he, hb4⟩; obtain rfl : e = .returned (.agg #[.int .i64 0, .int .i64 0]) := he; have HX4 : Hid (Below W6.heap.size W6 w4) := Below.next (by go_split_ands; assumption) hb4 (Nat.le_refl _); (try (have HZ4 : Hid (w4.heap[W6.heap.size]? = some (.cells #[.int .i64 0, .int .i64 0] 29)) := (keep_below (unhide HZ3) hb4); have hz := block2 (unhide HZ4); have z0 := hz.1; have z1 := hz.2.1; have zf0 := hz.2.2.1; have zf1 := hz.2.2.2.1; have zl := hz.2.2.2.2)); (try (have HZ5 : Hid (w4.heap[w3.heap.size]? = some (.cells #[.int .i64 0, .int .i64 0] 29)) := (keep_below (w := w3.alloc (.cells #[.int .i64 0, .int .i64 0] 29)) (new_block w3 (.cells #[.int .i64 0, .int .i64 0] 29)) hb4); have hz := block2 (unhide HZ5); have z0 := hz.1; have z1 := hz.2.1; have zf0 := hz.2.2.1; have zf1 := hz.2.2.2.1; have zl := hz.2.2.2.2)); clear hb4))
      all_goals
        go_wp2_with fail
        go_meet
        case rel =>
          first
            | exact ⟨_, rfl, put2_new (unhide HZ4), Nat.le_refl _, put2_below (unhide HX4) (Nat.le_refl _)⟩
            | exact ⟨_, rfl, put2_new (unhide HZ5), (unhide HX3).size, put2_below (unhide HX4) (unhide HX3).size⟩
            | exact ⟨_, rfl, new_block _ _, (unhide HX4).size, (unhide HX4).alloc (unhide HX4).size _⟩
    case rest =>
      obtain ⟨Y2, rfl, HY2_, HBY2_, HXY2_⟩ := hcut
      have hlp_Y2 : w.heap.size < Y2 := Nat.lt_of_lt_of_le (size_of (unhide Kp_4)) (unhide HBY2_)
      have hlx_Y2 : Y < Y2 := Nat.lt_of_lt_of_le (size_of (unhide Kx_4)) (unhide HBY2_)
      have hlm_Y2 : M < Y2 := Nat.lt_of_lt_of_le (size_of (unhide Km_4)) (unhide HBY2_)
      have hlf_Y2 : M + 1 < Y2 := Nat.lt_of_lt_of_le (size_of (unhide Kf_4)) (unhide HBY2_)
      (have HX_5 := hide (Below.next (unhide HX_4) (unhide HXY2_) (by first | exact Nat.le_refl _ | (have := unhide HBA; omega))); have Kp_5 := hide (keep_below (unhide Kp_4) (unhide HXY2_)); have Kx_5 := hide (keep_below (unhide Kx_4) (unhide HXY2_)); have Km_5 := hide (keep_below (unhide Km_4) (unhide HXY2_)); have Kf_5 := hide (keep_below (unhide Kf_4) (unhide HXY2_)); have Ox_5 := hide ((unhide Ox_4).below (unhide HXY2_)); have FI_5 := hide ((unhide FI_4).below (unhide HXY2_)); have FJ_5 := hide ((unhide FJ_4).below (unhide HXY2_)); clear HX_4 Kp_4 Kx_4 Km_4 Kf_4 Ox_4 FI_4 FJ_4)
      obtain ⟨p0, p1, pf0, pf1, pl⟩ := block2 (unhide Kp_5)
      obtain ⟨x0, x1, xf0, xf1, xl⟩ := block2 (unhide Kx_5)
      obtain ⟨m0, m1, mf0, mf1, ml⟩ := block2 (unhide Km_5)
      obtain ⟨f0, f1, ff0, ff1, fl⟩ := block2 (unhide Kf_5)
      obtain ⟨v0, v1, vf0, vf1, vl⟩ := block2 (unhide HY2_)
      go_upto_region 12 with (go_at_call 33; refine (sameGate_any _ _ _ c xs ⟨_, rfl, (unhide Ox_5).isl⟩ ⟨_, rfl, (unhide HL0).below (unhide HX_5)⟩ (by rw [unhide HEN]; unfold maxLen; omega)).mono ?_; rintro e w8 ⟨rfl, hb8⟩; have HX_6 := hide (Below.next (unhide HX_5) hb8 (by first | exact Nat.le_refl _ | (have := unhide HBA; omega))); have Kp_6 := hide (keep_below (unhide Kp_5) hb8); have Kx_6 := hide (keep_below (unhide Kx_5) hb8); have Km_6 := hide (keep_below (unhide Km_5) hb8); have Kf_6 := hide (keep_below (unhide Kf_5) hb8); have Kv_6 := hide (keep_below (unhide HY2_) hb8); have Ox_6 := hide ((unhide Ox_5).below hb8); have FI_6 := hide ((unhide FI_5).below hb8); have FJ_6 := hide ((unhide FJ_5).below hb8); clear HX_5 Kp_5 Kx_5 Km_5 Kf_5 HY2_ Ox_5 FI_5 FJ_5; clear hb8 p0 p1 pf0 pf1 pl x0 x1 xf0 xf1 xl m0 m1 mf0 mf1 ml f0 f1 ff0 ff1 fl v0 v1 vf0 vf1 vl; obtain ⟨p0, p1, pf0, pf1, pl⟩ := block2 (unhide Kp_6); obtain ⟨x0, x1, xf0, xf1, xl⟩ := block2 (unhide Kx_6); obtain ⟨m0, m1, mf0, mf1, ml⟩ := block2 (unhide Km_6); obtain ⟨f0, f1, ff0, ff1, fl⟩ := block2 (unhide Kf_6); obtain ⟨v0, v1, vf0, vf1, vl⟩ := block2 (unhide Kv_6))
      have HOW9 := hide (unhide HOW0 w8 (unhide HX_6))
      go_upto_region 13 with (first | (go_at_call 11; refine (unhide HOW9).mono ?_; rintro e w9 ⟨b3, d3, rfl, ho9, hb9⟩; have HO9 := hide ho9; have HB9w := hide hb9; have HI9 := hide (isl_one ki w9 x); have HO10 := hide ((unhide HO9).below ((Below.refl _ _).alloc (Nat.le_refl _) (.cells #[.int .i64 x] 3))); clear hb9 ho9 HOW9) | (at_builtin; refine wpList_append ki rfl (.tmp 58) (.tmp 60) rfl w8.heap.size _ xs rfl (unhide HO10) _ [x] rfl (unhide HI9) (n + 1) (by simp [unhide HEN]) (by simp [KI]; omega) ((unhide HB9w).alloc (unhide HB9w).size (.cells #[.int .i64 x] 3)).size ?_; intro b4 d4 w10 ho10 hg10; have HO11 := hide ho10; have hb10 : Below w8.heap.size w8 w10 := ((unhide HB9w).alloc (unhide HB9w).size (.cells #[.int .i64 x] 3)).grown hg10 ((unhide HB9w).alloc (unhide HB9w).size (.cells #[.int .i64 x] 3)).size (fun k hk => ((unhide HO10).lt k hk).1); have HX_7 := hide (Below.next (unhide HX_6) hb10 (by first | exact Nat.le_refl _ | (have := unhide HBA; omega))); have Kp_7 := hide (keep_below (unhide Kp_6) hb10); have Kx_7 := hide (keep_below (unhide Kx_6) hb10); have Km_7 := hide (keep_below (unhide Km_6) hb10); have Kf_7 := hide (keep_below (unhide Kf_6) hb10); have Kv_7 := hide (keep_below (unhide Kv_6) hb10); have Ox_7 := hide ((unhide Ox_6).below hb10); have FI_7 := hide ((unhide FI_6).below hb10); have FJ_7 := hide ((unhide FJ_6).below hb10); clear HX_6 Kp_6 Kx_6 Km_6 Kf_6 Kv_6 Ox_6 FI_6 FJ_6; clear ho10 hg10 hb10 HI9 HO10 HO9 HB9w p0 p1 pf0 pf1 pl x0 x1 xf0 xf1 xl m0 m1 mf0 mf1 ml f0 f1 ff0 ff1 fl v0 v1 vf0 vf1 vl; obtain ⟨p0, p1, pf0, pf1, pl⟩ := block2 (unhide Kp_7); obtain ⟨x0, x1, xf0, xf1, xl⟩ := block2 (unhide Kx_7); obtain ⟨m0, m1, mf0, mf1, ml⟩ := block2 (unhide Km_7); obtain ⟨f0, f1, ff0, ff1, fl⟩ := block2 (unhide Kf_7); obtain ⟨v0, v1, vf0, vf1, vl⟩ := block2 (unhide Kv_7)))
      go_wp2_with (first | (go_at_call 33; refine (sameGate_any _ _ _ c [] ⟨_, rfl, unhide FI_7⟩ (zero_g _ c) (by simp [maxLen])).mono ?_; rintro e w11 ⟨rfl, hb11⟩; have HX_8 := hide (Below.next (unhide HX_7) hb11 (by first | exact Nat.le_refl _ | (have := unhide HBA; omega))); have Kp_8 := hide (keep_below (unhide Kp_7) hb11); have Kx_8 := hide (keep_below (unhide Kx_7) hb11); have Km_8 := hide (keep_below (unhide Km_7) hb11); have Kf_8 := hide (keep_below (unhide Kf_7) hb11); have Kv_8 := hide (keep_below (unhide Kv_7) hb11); have Ox_8 := hide ((unhide Ox_7).below hb11); have Oy_8 := hide ((unhide HO11).below hb11); have FI_8 := hide ((unhide FI_7).below hb11); have FJ_8 := hide ((unhide FJ_7).below hb11); clear HX_7 Kp_7 Kx_7 Km_7 Kf_7 Kv_7 Ox_7 HO11 FI_7 FJ_7; clear hb11 p0 p1 pf0 pf1 pl x0 x1 xf0 xf1 xl m0 m1 mf0 mf1 ml f0 f1 ff0 ff1 fl v0 v1 vf0 vf1 vl) | (go_at_call 17; refine (ints_same _ _ _ (xs ++ [x]) (unhide FJ_8) (unhide Oy_8).isl (by simp [unhide HEN, maxLen]; omega)).mono ?_; rintro e w12 ⟨rfl, hb12⟩; have HX_9 := hide (Below.next (unhide HX_8) hb12 (by first | exact Nat.le_refl _ | (have := unhide HBA; omega))); have Kp_9 := hide (keep_below (unhide Kp_8) hb12); have Kx_9 := hide (keep_below (unhide Kx_8) hb12); have Km_9 := hide (keep_below (unhide Km_8) hb12); have Kf_9 := hide (keep_below (unhide Kf_8) hb12); have Kv_9 := hide (keep_below (unhide Kv_8) hb12); have Ox_9 := hide ((unhide Ox_8).below hb12); have Oy_9 := hide ((unhide Oy_8).below hb12); have FI_9 := hide ((unhide FI_8).below hb12); have FJ_9 := hide ((unhide FJ_8).below hb12); clear HX_8 Kp_8 Kx_8 Km_8 Kf_8 Kv_8 Ox_8 Oy_8 FI_8 FJ_8; clear hb12))
      go_ret
      exact ⟨rfl, unhide HX_9⟩

set_option maxRecDepth 100000 in
set_option maxHeartbeats 4000000 in
theorem gates_stays (w : World) (v : Value) (c : Int) (xs : List Int) (x : Int) (h : IsG KI w v c xs) (hm : xs.length * 8 ≤ 140737488355328) (hl : ¬ ((700 < xs.length ∧ xs.length < 4999) ∨ 6000 < xs.length)) (hf : (arrF c xs x).1 = 0) (hq : ¬ (xs.length : Int) + 1 = c) :
    Calls Try.prog 6 #[v, .int .i64 x] w fun e w' => e = .returned (.bool true) ∧ Below w.heap.size w w' := by
  have hnot : ∀ (x : Bool) (w : World), (Op.unary .not (.bool x)).run Try.prog w = .ok (.bool (!x)) w := fun _ _ => rfl
  have hR := arrF_good hf
  have HAR0 : Hid (∀ W v', IsG KI W v' c xs → Calls Try.prog 31 #[v', .int .i64 x] W fun e w' => ∃ a1 d1 a2 d2, e = .returned (.tuple #[.agg #[.int .i64 (arrR c xs x).1.1, .slice a1 (arrR c xs x).1.2.length d1], .slice a2 (arrR c xs x).2.length d2, .agg #[.int .i64 0, .int .i64 0]]) ∧ IsL KI w' (.slice a1 (arrR c xs x).1.2.length d1) (arrR c xs x).1.2 ∧ IsL KI w' (.slice a2 (arrR c xs x).2.length d2) (arrR c xs x).2 ∧ Below W.heap.size W w') := fun W v' hv => (arrive_ok W v' c xs x hv hf).mono fun e w' ⟨v1, v2, h1, h2, h3, h4⟩ => by
    obtain ⟨a1, d1, rfl, h5⟩ := h2.form
    obtain ⟨a2, d2, rfl⟩ := h3.1.form
    exact ⟨a1, d1, a2, d2, h1, h5.1, h3.1, h4⟩
  obtain ⟨a0, c0, rfl, hL⟩ := h.form
  have HOW0 : Hid (∀ W, Below w.heap.size w W → Calls Try.prog 11 #[.slice a0 xs.length c0] W fun e w' => ∃ a' c', e = .returned (.slice a' xs.length c') ∧ Own KI W.heap.size w' (.slice a' xs.length c') xs ∧ Below W.heap.size W w') := fun W hW => own_any W _ xs (hL.below hW) hm
  have hn6 : xs.length ≤ 6000 := by omega
  have HGF0 : Hid (∀ W, Below w.heap.size w W → Calls Try.prog 32 #[.agg #[.int .i64 c, .slice a0 xs.length c0]] W fun e w' => e = .returned (faultV (gateF c xs)) ∧ Below W.heap.size W w') := fun W hW => gateFault_any W _ c xs (h.below hW) (by unfold maxLen; omega)
  obtain ⟨G, eG⟩ : ∃ G, gateF c xs = G := ⟨_, rfl⟩
  obtain ⟨R, eR⟩ : ∃ R, arrF c xs x = R := ⟨_, rfl⟩
  have HCF0 : Hid (∀ W, Below w.heap.size w W → Calls Try.prog 18 #[.agg #[.int .i64 G.1, .int .i64 G.2], .slice a0 xs.length c0, .int .i64 x] W fun e w' => e = .returned (faultV R) ∧ Below W.heap.size W w') := fun W hW => by
    have := comeFault_any W G _ xs x (hL.below hW) (by unfold maxLen; omega)
    rw [← eR]
    unfold arrF
    rw [eG]
    exact this
  have HL0 := hide hL
  have eA : arrR c xs x = ((c, xs ++ [x]), []) := by unfold arrR; rw [if_neg hq]
  rw [hR.2.2] at eR
  subst eR
  rw [eG] at HGF0
  obtain ⟨G0, G1⟩ := G
  obtain ⟨n, en⟩ : ∃ n, xs.length = n := ⟨_, rfl⟩
  have en1 : (xs ++ [x]).length = n + 1 := by simp [en]
  rw [eA] at HAR0
  simp only [en1, List.length_nil] at HAR0
  rw [en] at hl hn6 HOW0 HGF0 HCF0 HL0 hq ⊢
  have hl2 : ¬ ((700 < (n : Int) ∧ (n : Int) < 4999) ∨ 6000 < (n : Int)) := by omega
  have HLG : Hid (∀ W, Calls Try.prog 10 #[.int .i64 (n : Int)] W fun e w' => e = .returned (.bool false) ∧ w' = W) := fun W => long_no W _ hl2
  have xq : ((((n + 1 : Nat) : Int)) == c) = false := by simpa using hq
  have HEN := hide en
  clear h hl hl2 hL eG hf en hm eA en1 hR hq
  obtain ⟨W0, e0, hB, k0⟩ : ∃ W, w.alloc (.cells #[.int .i64 c, .slice a0 n c0] 67) = W ∧ Below w.heap.size w W ∧ W.heap[w.heap.size]? = some (.cells #[.int .i64 c, .slice a0 n c0] 67) := ⟨_, rfl, (Below.refl _ _).alloc (Nat.le_refl _) _, new_block _ _⟩
  have HX := hide hB; have HP := hide k0; have HE := hide e0
  clear hB k0 e0
  go_enter Try.func6, Try.ntmps6
  go_upto_region 1 with fail
  rw [unhide HE]
  clear HE
  obtain ⟨p0, p1, pf0, pf1, pl⟩ := block2 (unhide HP)
  go_upto_region 5 with (first | (go_at_call 9; refine (begun_any _).mono ?_; rintro e w1 ⟨rfl, hb1⟩; have HX_1 := hide (Below.next (unhide HX) hb1 (by first | exact Nat.le_refl _ | (have := unhide HBA; omega))); have Kp_1 := hide (keep_below (unhide HP) hb1); clear HX HP; clear hb1 p0 p1 pf0 pf1 pl; obtain ⟨p0, p1, pf0, pf1, pl⟩ := block2 (unhide Kp_1)) | (go_at_call 10; refine (unhide HLG _).mono ?_; rintro e w1 ⟨rfl, rfl⟩))
  clear p0 p1 pf0 pf1 pl
  have HOW : Hid (∀ W, Below w1.heap.size w1 W → Calls Try.prog 11 #[.slice a0 n c0] W fun e w' => ∃ a' c', e = .returned (.slice a' n c') ∧ Own KI W.heap.size w' (.slice a' n c') xs ∧ Below W.heap.size W w') := fun W hW => unhide HOW0 W (Below.next (unhide HX_1) hW (Nat.le_refl _))
  go_cut [5] (fun s W => ∃ (Y : Nat) (a5 : Option Addr) (c5 : Nat), s = .pointer (some ⟨Y, 0, none⟩) ∧ Hid (W.heap[Y]? = some (.cells #[.int .i64 c, .slice a5 n c5] 67)) ∧ Hid (Own KI w1.heap.size W (.slice a5 n c5) xs) ∧ Hid (w1.heap.size ≤ Y) ∧ Hid (Below w1.heap.size w1 W))
  case first =>
    have HSS : Hid (∀ W, Below w1.heap.size w1 W → W.cell? ⟨w.heap.size, 0, none⟩ = some (.int .i64 c) ∧ W.cell? ⟨w.heap.size, 1, none⟩ = some (.slice a0 n c0) ∧ Below w1.heap.size w1 W) := fun W hW => by
      obtain ⟨k0, k1, -, -, -⟩ := block2 (keep_below (unhide Kp_1) hW)
      exact ⟨k0, k1, hW⟩
    obtain ⟨k0, k1, -⟩ := unhide HSS _ (Below.refl _ _)
    go_wp2_with fail
    go_region_held3 (fun W => W.cell? ⟨w.heap.size, 0, none⟩ = some (.int .i64 c) ∧ W.cell? ⟨w.heap.size, 1, none⟩ = some (.slice a0 n c0) ∧ Below w1.heap.size w1 W)
      (first | with_reducible exact unhide HSS _ (Below.refl _ _).drew | with_reducible exact unhide HSS _ ((Below.refl w1.heap.size w1).alloc (Nat.le_refl _) _).drew | with_reducible exact unhide HSS _ (unhide HX3) | with_reducible exact unhide HSS _ ((unhide HX3).alloc (unhide HX3).size _) | exact unhide HSS _ (put2_below (unhide HX3) (Nat.le_refl _)))
      (first | (go_at_call 11; refine (unhide HOW _ (by go_split_ands; assumption)).mono ?_; rintro e w3 ⟨a3, c3, rfl, ho3, hb3⟩; have HX3 : Hid (Below w1.heap.size w1 w3) := Below.next (by go_split_ands; assumption) hb3 (Nat.le_refl _); have HO3 := hide (ho3.base (show w1.heap.size ≤ _ from (show Below w1.heap.size w1 _ by go_split_ands; assumption).size)); (try (have HZ3 : Hid (w3.heap[w1.heap.size]? = some (.cells #[.int .i64 0, .slice none 0 0] 67)) := (keep_below (w := (w1.alloc (.cells #[.int .i64 0, .slice none 0 0] 67)).drew) (new_block w1 (.cells #[.int .i64 0, .slice none 0 0] 67)) hb3); have hz := block2 (unhide HZ3); have z0 := hz.1; have z1 := hz.2.1; have zf0 := hz.2.2.1; have zf1 := hz.2.2.2.1; have zl := hz.2.2.2.2)); clear ho3 hb3))
    all_goals
      go_wp2_with fail
      go_meet
      case rel =>
        first
          | exact ⟨_, a3, c3, rfl, put2_new (unhide HZ3), put2_own (unhide HO3) (unhide HZ3) (by decide), Nat.le_refl _, put2_below (unhide HX3) (Nat.le_refl _)⟩
          | exact ⟨_, a3, c3, rfl, new_block _ _, (unhide HO3).below ((Below.refl _ _).alloc (Nat.le_refl _) _), (unhide HX3).size, (unhide HX3).alloc (unhide HX3).size _⟩
  case rest =>
    obtain ⟨Y, a5, c5, rfl, HY_, HOY_, HBY_, HXY_⟩ := hcut
    have hlp_Y : w.heap.size < Y := Nat.lt_of_lt_of_le (size_of (unhide Kp_1)) (unhide HBY_)
    (have HX_2 := hide (Below.next (unhide HX_1) (unhide HXY_) (by first | exact Nat.le_refl _ | (have := unhide HBA; omega))); have Kp_2 := hide (keep_below (unhide Kp_1) (unhide HXY_)); clear HX_1 Kp_1)
    obtain ⟨x0, x1, xf0, xf1, xl⟩ := block2 (unhide HY_)
    go_upto_region 7 with (go_at_call 31; refine (unhide HAR0 _ _ ⟨_, rfl, (unhide HOY_).isl⟩).mono ?_; rintro e w5 ⟨b1, d1, b2, d2, rfl, hi1, hi2, hb5⟩; have HI1 := hide hi1; have HI2 := hide hi2; have HX_3 := hide (Below.next (unhide HX_2) hb5 (by first | exact Nat.le_refl _ | (have := unhide HBA; omega))); have Kp_3 := hide (keep_below (unhide Kp_2) hb5); have Kx_3 := hide (keep_below (unhide HY_) hb5); have Ox_3 := hide ((unhide HOY_).below hb5); clear HX_2 Kp_2 HY_ HOY_; clear hb5 hi1 hi2 x0 x1 xf0 xf1 xl)
    obtain ⟨W6, eW6, hBW6, k0_4, k1_4⟩ := two_new w5 (.cells #[.int .i64 c, .slice b1 (n + 1) d1] 67) (.cells #[.int .i64 0, .int .i64 0] 29)
    rw [eW6]
    clear eW6
    have hlp_m : w.heap.size < w5.heap.size := size_of (unhide Kp_3)
    have hlx_m : Y < w5.heap.size := size_of (unhide Kx_3)
    (have HX_4 := hide (Below.next (unhide HX_3) hBW6 (by first | exact Nat.le_refl _ | (have := unhide HBA; omega))); have Kp_4 := hide (keep_below (unhide Kp_3) hBW6); have Kx_4 := hide (keep_below (unhide Kx_3) hBW6); have Ox_4 := hide ((unhide Ox_3).below hBW6); have FI_4 := hide ((unhide HI1).below hBW6); have FJ_4 := hide ((unhide HI2).below hBW6); clear HX_3 Kp_3 Kx_3 Ox_3 HI1 HI2)
    obtain ⟨M, eM⟩ : ∃ X, w5.heap.size = X := ⟨_, rfl⟩
    rw [eM] at k0_4 k1_4 hlp_m hlx_m ⊢
    have Km_4 := hide k0_4
    have Kf_4 := hide k1_4
    clear eM hBW6 k0_4 k1_4
    have HGF : Hid (∀ W, Below W6.heap.size W6 W → Calls Try.prog 32 #[.agg #[.int .i64 c, .slice a0 n c0]] W fun e w' => e = .returned (faultV (G0, G1)) ∧ Below W.heap.size W w') := fun W hW => unhide HGF0 W (Below.next (unhide HX_4) hW (Nat.le_refl _))
    have HCF : Hid (∀ W, Below W6.heap.size W6 W → Calls Try.prog 18 #[.agg #[.int .i64 G0, .int .i64 G1], .slice a0 n c0, .int .i64 x] W fun e w' => e = .returned (faultV (0, 0)) ∧ Below W.heap.size W w') := fun W hW => unhide HCF0 W (Below.next (unhide HX_4) hW (Nat.le_refl _))
    go_cut [9] (fun s W => ∃ (Y2 : Nat), s = .pointer (some ⟨Y2, 0, none⟩) ∧ Hid (W.heap[Y2]? = some (.cells #[.int .i64 0, .int .i64 0] 29)) ∧ Hid (W6.heap.size ≤ Y2) ∧ Hid (Below W6.heap.size W6 W))
    case first =>
      have HSS : Hid (∀ W, Below W6.heap.size W6 W → W.cell? ⟨w.heap.size, 0, none⟩ = some (.int .i64 c) ∧ W.cell? ⟨w.heap.size, 1, none⟩ = some (.slice a0 n c0) ∧ Below W6.heap.size W6 W) := fun W hW => by
        obtain ⟨k0, k1, -, -, -⟩ := block2 (keep_below (unhide Kp_4) hW)
        exact ⟨k0, k1, hW⟩
      obtain ⟨k0, k1, -⟩ := unhide HSS _ (Below.refl _ _)
      go_wp2_with fail
      go_region_held3 (fun W => W.cell? ⟨w.heap.size, 0, none⟩ = some (.int .i64 c) ∧ W.cell? ⟨w.heap.size, 1, none⟩ = some (.slice a0 n c0) ∧ Below W6.heap.size W6 W)
        (first | with_reducible exact unhide HSS _ (Below.refl _ _).drew | with_reducible exact unhide HSS _ ((Below.refl W6.heap.size W6).alloc (Nat.le_refl _) _).drew | with_reducible exact unhide HSS _ (unhide HX3) | with_reducible exact unhide HSS _ ((unhide HX3).alloc (unhide HX3).size _) | with_reducible exact unhide HSS _ (unhide HX4) | with_reducible exact unhide HSS _ ((unhide HX4).alloc (unhide HX4).size _) | exact unhide HSS _ (put2_below (unhide HX4) (by first | exact Nat.le_refl _ | exact (unhide HX3).size)))
        (first
          | (go_at_call 32; refine (unhide HGF _ (by go_split_ands; assumption)).mono ?_; rintro e w3 ⟨he, hb3⟩; obtain rfl : e = .returned (.agg #[.int .i64 G0, .int .i64 G1]) := he; have HX3 : Hid (Below W6.heap.size W6 w3) := Below.next (by go_split_ands; assumption) hb3 (Nat.le_refl _); (try (have HZ3 : Hid (w3.heap[W6.heap.size]? = some (.cells #[.int .i64 0, .int .i64 0] 29)) := (keep_below (w := (W6.alloc (.cells #[.int .i64 0, .int .i64 0] 29)).drew) (new_block W6 (.cells #[.int .i64 0, .int .i64 0] 29)) hb3))); clear hb3)
          | (go_at_call 18; refine (unhide HCF _ (by go_split_ands; assumption)).mono ?_; rintro e w4 ⟨he, hb4⟩; obtain rfl : e = .returned (.agg #[.int .i64 0, .int .i64 0]) := he; have HX4 : Hid (Below W6.heap.size W6 w4) := Below.next (by go_split_ands; assumption) hb4 (Nat.le_refl _); (try (have HZ4 : Hid (w4.heap[W6.heap.size]? = some (.cells #[.int .i64 0, .int .i64 0] 29)) := (keep_below (unhide HZ3) hb4); have hz := block2 (unhide HZ4); have z0 := hz.1; have z1 := hz.2.1; have zf0 := hz.2.2.1; have zf1 := hz.2.2.2.1; have zl := hz.2.2.2.2)); (try (have HZ5 : Hid (w4.heap[w3.heap.size]? = some (.cells #[.int .i64 0, .int .i64 0] 29)) := (keep_below (w := w3.alloc (.cells #[.int .i64 0, .int .i64 0] 29)) (new_block w3 (.cells #[.int .i64 0, .int .i64 0] 29)) hb4); have hz := block2 (unhide HZ5); have z0 := hz.1; have z1 := hz.2.1; have zf0 := hz.2.2.1; have zf1 := hz.2.2.2.1; have zl := hz.2.2.2.2)); clear hb4))
      all_goals
        go_wp2_with fail
        go_meet
        case rel =>
          first
            | exact ⟨_, rfl, put2_new (unhide HZ4), Nat.le_refl _, put2_below (unhide HX4) (Nat.le_refl _)⟩
            | exact ⟨_, rfl, put2_new (unhide HZ5), (unhide HX3).size, put2_below (unhide HX4) (unhide HX3).size⟩
            | exact ⟨_, rfl, new_block _ _, (unhide HX4).size, (unhide HX4).alloc (unhide HX4).size _⟩
    case rest =>
      obtain ⟨Y2, rfl, HY2_, HBY2_, HXY2_⟩ := hcut
      have hlp_Y2 : w.heap.size < Y2 := Nat.lt_of_lt_of_le (size_of (unhide Kp_4)) (unhide HBY2_)
      have hlx_Y2 : Y < Y2 := Nat.lt_of_lt_of_le (size_of (unhide Kx_4)) (unhide HBY2_)
      have hlm_Y2 : M < Y2 := Nat.lt_of_lt_of_le (size_of (unhide Km_4)) (unhide HBY2_)
      have hlf_Y2 : M + 1 < Y2 := Nat.lt_of_lt_of_le (size_of (unhide Kf_4)) (unhide HBY2_)
      (have HX_5 := hide (Below.next (unhide HX_4) (unhide HXY2_) (by first | exact Nat.le_refl _ | (have := unhide HBA; omega))); have Kp_5 := hide (keep_below (unhide Kp_4) (unhide HXY2_)); have Kx_5 := hide (keep_below (unhide Kx_4) (unhide HXY2_)); have Km_5 := hide (keep_below (unhide Km_4) (unhide HXY2_)); have Kf_5 := hide (keep_below (unhide Kf_4) (unhide HXY2_)); have Ox_5 := hide ((unhide Ox_4).below (unhide HXY2_)); have FI_5 := hide ((unhide FI_4).below (unhide HXY2_)); have FJ_5 := hide ((unhide FJ_4).below (unhide HXY2_)); clear HX_4 Kp_4 Kx_4 Km_4 Kf_4 Ox_4 FI_4 FJ_4)
      obtain ⟨p0, p1, pf0, pf1, pl⟩ := block2 (unhide Kp_5)
      obtain ⟨x0, x1, xf0, xf1, xl⟩ := block2 (unhide Kx_5)
      obtain ⟨m0, m1, mf0, mf1, ml⟩ := block2 (unhide Km_5)
      obtain ⟨f0, f1, ff0, ff1, fl⟩ := block2 (unhide Kf_5)
      obtain ⟨v0, v1, vf0, vf1, vl⟩ := block2 (unhide HY2_)
      go_upto_region 12 with (go_at_call 33; refine (sameGate_any _ _ _ c xs ⟨_, rfl, (unhide Ox_5).isl⟩ ⟨_, rfl, (unhide HL0).below (unhide HX_5)⟩ (by rw [unhide HEN]; unfold maxLen; omega)).mono ?_; rintro e w8 ⟨rfl, hb8⟩; have HX_6 := hide (Below.next (unhide HX_5) hb8 (by first | exact Nat.le_refl _ | (have := unhide HBA; omega))); have Kp_6 := hide (keep_below (unhide Kp_5) hb8); have Kx_6 := hide (keep_below (unhide Kx_5) hb8); have Km_6 := hide (keep_below (unhide Km_5) hb8); have Kf_6 := hide (keep_below (unhide Kf_5) hb8); have Kv_6 := hide (keep_below (unhide HY2_) hb8); have Ox_6 := hide ((unhide Ox_5).below hb8); have FI_6 := hide ((unhide FI_5).below hb8); have FJ_6 := hide ((unhide FJ_5).below hb8); clear HX_5 Kp_5 Kx_5 Km_5 Kf_5 HY2_ Ox_5 FI_5 FJ_5; clear hb8 p0 p1 pf0 pf1 pl x0 x1 xf0 xf1 xl m0 m1 mf0 mf1 ml f0 f1 ff0 ff1 fl v0 v1 vf0 vf1 vl; obtain ⟨p0, p1, pf0, pf1, pl⟩ := block2 (unhide Kp_6); obtain ⟨x0, x1, xf0, xf1, xl⟩ := block2 (unhide Kx_6); obtain ⟨m0, m1, mf0, mf1, ml⟩ := block2 (unhide Km_6); obtain ⟨f0, f1, ff0, ff1, fl⟩ := block2 (unhide Kf_6); obtain ⟨v0, v1, vf0, vf1, vl⟩ := block2 (unhide Kv_6))
      have HOW9 := hide (unhide HOW0 w8 (unhide HX_6))
      go_upto_region 13 with (first | (go_at_call 11; refine (unhide HOW9).mono ?_; rintro e w9 ⟨b3, d3, rfl, ho9, hb9⟩; have HO9 := hide ho9; have HB9w := hide hb9; have HI9 := hide (isl_one ki w9 x); have HO10 := hide ((unhide HO9).below ((Below.refl _ _).alloc (Nat.le_refl _) (.cells #[.int .i64 x] 3))); clear hb9 ho9 HOW9) | (at_builtin; refine wpList_append ki rfl (.tmp 58) (.tmp 60) rfl w8.heap.size _ xs rfl (unhide HO10) _ [x] rfl (unhide HI9) (n + 1) (by simp [unhide HEN]) (by simp [KI]; omega) ((unhide HB9w).alloc (unhide HB9w).size (.cells #[.int .i64 x] 3)).size ?_; intro b4 d4 w10 ho10 hg10; have HO11 := hide ho10; have hb10 : Below w8.heap.size w8 w10 := ((unhide HB9w).alloc (unhide HB9w).size (.cells #[.int .i64 x] 3)).grown hg10 ((unhide HB9w).alloc (unhide HB9w).size (.cells #[.int .i64 x] 3)).size (fun k hk => ((unhide HO10).lt k hk).1); have HX_7 := hide (Below.next (unhide HX_6) hb10 (by first | exact Nat.le_refl _ | (have := unhide HBA; omega))); have Kp_7 := hide (keep_below (unhide Kp_6) hb10); have Kx_7 := hide (keep_below (unhide Kx_6) hb10); have Km_7 := hide (keep_below (unhide Km_6) hb10); have Kf_7 := hide (keep_below (unhide Kf_6) hb10); have Kv_7 := hide (keep_below (unhide Kv_6) hb10); have Ox_7 := hide ((unhide Ox_6).below hb10); have FI_7 := hide ((unhide FI_6).below hb10); have FJ_7 := hide ((unhide FJ_6).below hb10); clear HX_6 Kp_6 Kx_6 Km_6 Kf_6 Kv_6 Ox_6 FI_6 FJ_6; clear ho10 hg10 hb10 HI9 HO10 HO9 HB9w p0 p1 pf0 pf1 pl x0 x1 xf0 xf1 xl m0 m1 mf0 mf1 ml f0 f1 ff0 ff1 fl v0 v1 vf0 vf1 vl; obtain ⟨p0, p1, pf0, pf1, pl⟩ := block2 (unhide Kp_7); obtain ⟨x0, x1, xf0, xf1, xl⟩ := block2 (unhide Kx_7); obtain ⟨m0, m1, mf0, mf1, ml⟩ := block2 (unhide Km_7); obtain ⟨f0, f1, ff0, ff1, fl⟩ := block2 (unhide Kf_7); obtain ⟨v0, v1, vf0, vf1, vl⟩ := block2 (unhide Kv_7)))
      go_wp2_with (go_at_call 33; refine (sameGate_any _ _ _ c (xs ++ [x]) ⟨_, rfl, unhide FI_7⟩ ⟨_, rfl, (unhide HO11).isl⟩ (by simp [unhide HEN, maxLen]; omega)).mono ?_; rintro e w11 ⟨rfl, hb11⟩; have HX_8 := hide (Below.next (unhide HX_7) hb11 (by first | exact Nat.le_refl _ | (have := unhide HBA; omega))); have Kp_8 := hide (keep_below (unhide Kp_7) hb11); have Kx_8 := hide (keep_below (unhide Kx_7) hb11); have Km_8 := hide (keep_below (unhide Km_7) hb11); have Kf_8 := hide (keep_below (unhide Kf_7) hb11); have Kv_8 := hide (keep_below (unhide Kv_7) hb11); have Ox_8 := hide ((unhide Ox_7).below hb11); have Oy_8 := hide ((unhide HO11).below hb11); have FI_8 := hide ((unhide FI_7).below hb11); have FJ_8 := hide ((unhide FJ_7).below hb11); clear HX_7 Kp_7 Kx_7 Km_7 Kf_7 Kv_7 Ox_7 HO11 FI_7 FJ_7; clear hb11 p0 p1 pf0 pf1 pl x0 x1 xf0 xf1 xl m0 m1 mf0 mf1 ml f0 f1 ff0 ff1 fl v0 v1 vf0 vf1 vl)
      go_ret
      exact ⟨rfl, unhide HX_8⟩

theorem gates_walk (w : World) (v : Value) (c : Int) (xs : List Int) (x : Int) (h : IsG KI w v c xs) (hm : xs.length * 8 ≤ 140737488355328) : Calls Try.prog 6 #[v, .int .i64 x] w fun e w' => e = .returned (.bool true) ∧ Below w.heap.size w w' := by
  by_cases hl : (700 < xs.length ∧ xs.length < 4999) ∨ 6000 < xs.length
  · exact gates_long w v c xs x h hm hl
  by_cases hf : (arrF c xs x).1 = 0
  · by_cases hq : (xs.length : Int) + 1 = c
    · exact gates_goes w v c xs x h hm hl hf hq
    · exact gates_stays w v c xs x h hm hl hf hq
  · exact gates_fault w v c xs x h hm hl hf
end Go.Proofs.Ytpogcfdmkeebmaa
