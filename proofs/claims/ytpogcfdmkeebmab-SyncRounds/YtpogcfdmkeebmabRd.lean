/-
  taskmilllaw.SyncRounds.
-/
import Derived.Test.YtpogcfdmkeebmabR
import Derived.Test.YtpogcfdmkeebmabBe
namespace Go.Proofs.Ytpogcfdmkeebmab
open Go.RowKit

theorem mod_step {m j : Nat} (hm : 1 ≤ m) (hj : 1 ≤ j) : (j % m = 0 ∧ (j - 1) % m + 1 = m) ∨ (j % m ≠ 0 ∧ (j - 1) % m + 1 = j % m) := by
  obtain ⟨k, rfl⟩ : ∃ k, j = k + 1 := ⟨j - 1, by omega⟩
  rw [Nat.add_sub_cancel]
  have h1 := Nat.mod_lt k (show 0 < m by omega)
  have h2 := Nat.div_add_mod k m
  by_cases h : k % m + 1 = m
  · refine Or.inl ⟨?_, h⟩
    have e : k + 1 = m * (k / m + 1) := by rw [Nat.mul_add]; omega
    rw [e]
    exact Nat.mul_mod_right _ _
  · have e : (k + 1) % m = k % m + 1 := by
      have e2 : k + 1 = m * (k / m) + (k % m + 1) := by omega
      rw [e2, Nat.mul_add_mod]
      have e3 : (m * (k / m) + (k % m + 1) - 1) = k := by omega
      rw [Nat.mod_eq_of_lt (by omega)]
    exact Or.inr ⟨by omega, e.symm⟩
/-- Who has come to the gate ahead of the task j. -/
def gl (m j : Nat) : List Int := upTo (j - (j - 1) % m) j
theorem gl_arr {m j : Nat} (hm : 1 ≤ m) (hm2 : m ≤ 100) (hj : 1 ≤ j) (hj2 : j ≤ 1000) : (arrF (m : Int) (gl m j) (j : Int)).1 = 0 := by
  have h1 := Nat.mod_lt (j - 1) (show 0 < m by omega)
  have h3 := Nat.mod_le (j - 1) m
  have hl : (gl m j).length = (j - 1) % m := by unfold gl; rw [upTo_length]; omega
  have hg : (gateF (m : Int) (gl m j)).1 = 0 := by
    unfold gateF
    have h2 : lineF (gl m j) = (0, 0) := upTo_line (by omega) (by omega)
    rw [h2, if_neg (by simp), if_neg (by omega), if_neg (by rw [hl]; omega)]
  unfold arrF
  rw [if_neg (by rw [hg]; simp)]
  exact upTo_comes (by omega) (by omega) (by omega)
theorem gl_go {m j : Nat} (hm : 1 ≤ m) (hj : 1 ≤ j) (h : j % m = 0) : arrR (m : Int) (gl m j) (j : Int) = (((m : Int), gl m (j + 1)), upTo (j + 1 - m) (j + 1)) ∧ gl m (j + 1) = [] ∧ m ≤ j := by
  have h3 := Nat.mod_le (j - 1) m
  have hs : (j - 1) % m + 1 = m := by
    rcases mod_step hm hj with h1 | h1
    · exact h1.2
    · exact absurd h h1.1
  have hl : (gl m j).length = (j - 1) % m := by unfold gl; rw [upTo_length]; omega
  have e : gl m (j + 1) = [] := by unfold gl; rw [Nat.add_sub_cancel, h]; exact upTo_nil (by omega)
  refine ⟨?_, e, by omega⟩
  unfold arrR
  rw [if_pos (by rw [hl]; omega), e]
  congr 1
  unfold gl
  rw [← upTo_snoc (by omega)]
  congr 1
  omega
theorem gl_stay {m j : Nat} (hm : 1 ≤ m) (hj : 1 ≤ j) (h : j % m ≠ 0) : arrR (m : Int) (gl m j) (j : Int) = (((m : Int), gl m (j + 1)), []) ∧ (gl m (j + 1)).length = j % m := by
  have h3 := Nat.mod_le (j - 1) m
  have h4 := Nat.mod_le j m
  have h5 := Nat.mod_lt j (show 0 < m by omega)
  have hs : (j - 1) % m + 1 = j % m := by
    rcases mod_step hm hj with h1 | h1
    · exact absurd h1.1 h
    · exact h1.2
  have hl : (gl m j).length = (j - 1) % m := by unfold gl; rw [upTo_length]; omega
  refine ⟨?_, by unfold gl; rw [upTo_length, Nat.add_sub_cancel]; omega⟩
  unfold arrR
  rw [if_neg (by rw [hl]; omega)]
  congr 2
  unfold gl
  rw [← upTo_snoc (by omega), Nat.add_sub_cancel]
  congr 1
  omega

set_option maxRecDepth 100000 in
set_option maxHeartbeats 4000000 in
theorem rounds_walk (w : World) (x y : Int) : Calls Try.prog 4 #[.int .i64 x, .int .i64 y] w fun e w' => e = .returned (.bool true) ∧ Below w.heap.size w w' := by
  have hnot : ∀ (x : Bool) (w : World), (Op.unary .not (.bool x)).run Try.prog w = .ok (.bool (!x)) w := fun _ _ => rfl
  by_cases hx0 : x < 1
  · go_enter Try.func4, Try.ntmps4
    go_wp2_with (go_at_call 6; refine (begun_any _).mono ?_; rintro e w1 ⟨rfl, hb1⟩; have HX := hide hb1; clear hb1)
    go_ret
    exact ⟨rfl, unhide HX⟩
  by_cases hx1 : 20 < x
  · go_enter Try.func4, Try.ntmps4
    go_wp2_with (go_at_call 6; refine (begun_any _).mono ?_; rintro e w1 ⟨rfl, hb1⟩; have HX := hide hb1; clear hb1)
    go_ret
    exact ⟨rfl, unhide HX⟩
  by_cases hy0 : y < 0
  · go_enter Try.func4, Try.ntmps4
    go_wp2_with (go_at_call 6; refine (begun_any _).mono ?_; rintro e w1 ⟨rfl, hb1⟩; have HX := hide hb1; clear hb1)
    go_ret
    exact ⟨rfl, unhide HX⟩
  by_cases hy1 : 100 < y
  · go_enter Try.func4, Try.ntmps4
    go_wp2_with (go_at_call 6; refine (begun_any _).mono ?_; rintro e w1 ⟨rfl, hb1⟩; have HX := hide hb1; clear hb1)
    go_ret
    exact ⟨rfl, unhide HX⟩
  obtain ⟨m, rfl⟩ : ∃ m : Nat, x = (m : Int) := ⟨x.toNat, by omega⟩
  obtain ⟨n, rfl⟩ : ∃ n : Nat, y = (n : Int) := ⟨y.toNat, by omega⟩
  have hm1 : 1 ≤ m := by omega
  have hm2 : m ≤ 20 := by omega
  have hn2 : n ≤ 100 := by omega
  clear hx0 hx1 hy0 hy1
  go_enter Try.func4, Try.ntmps4
  have hc1 : ¬ (m : Int) < 1 := by omega
  have hc2 : ¬ (20 : Int) < (m : Int) := by omega
  have hc3 : ¬ (n : Int) < 0 := by omega
  have hc4 : ¬ (100 : Int) < (n : Int) := by omega
  go_upto_region 5 with (go_at_call 6; refine (begun_any _).mono ?_; rintro e w1 ⟨rfl, hb1⟩; have HX := hide hb1; clear hb1)
  go_upto_region 6 with fail
  have htw : w.heap.size ≤ w1.heap.size := (unhide HX).size
  have HX_1 := hide ((unhide HX).alloc (Nat.le_trans (show w.heap.size ≤ w.heap.size from Nat.le_refl _) (unhide HX).size) (.cells #[.int .i64 (m : Int), .slice none 0 0] 35))
  have Kp_1 := hide (new_block w1 (.cells #[.int .i64 (m : Int), .slice none 0 0] 35))
  obtain ⟨T, eT⟩ : ∃ X, w1.heap.size = X := ⟨_, rfl⟩
  obtain ⟨W2, eW2⟩ : ∃ X, w1.alloc (.cells #[.int .i64 (m : Int), .slice none 0 0] 35) = X := ⟨_, rfl⟩
  rw [eT, eW2] at Kp_1; rw [eW2] at HX_1; rw [eT] at htw; rw [eT, eW2]
  clear eT eW2 HX
  have HTW := hide htw
  clear htw
  have e1 : gl m 1 = [] := by unfold gl; exact upTo_nil (by simp)
  have HE1 := hide e1
  clear e1
  go_wp2_with fail
  go_loopw [6] (fun i W => ∃ j : Nat, 1 ≤ j ∧ j ≤ n + 1 ∧ i = .int .i64 j ∧ ∃ (a : Option Addr) (c : Nat), Hid (W.heap[T]? = some (.cells #[.int .i64 (m : Int), .slice a (gl m j).length c] 35)) ∧ Hid (New KI (T + 1) W (.slice a (gl m j).length c) (gl m j)) ∧ Hid (Below w.heap.size w W)) (fun i _ => n + 1 - (intOf i).toNat)
  case atStart => exact ⟨1, Nat.le_refl _, by omega, rfl, none, 0, by rw [unhide HE1]; exact Kp_1, by rw [unhide HE1]; exact new_nil _ _, HX_1⟩
  case round =>
    obtain ⟨j, hj1, hj2, rfl, a, c, HPj, HWj, HXj⟩ := hrel
    clear Kp_1 HX_1 HE1
    by_cases hlt : j ≤ n
    · have hlt2 : (j : Int) ≤ (n : Int) := by omega
      have hf := gl_arr hm1 (show m ≤ 100 by omega) hj1 (show j ≤ 1000 by omega)
      have hmz : ((m : Int) == 0) = false := by simp; omega
      have hmz2 : (m : Int) ≠ 0 := by omega
      have hmz3 : (0 : Int) < (m : Int) := by omega
      have hj0 : (0 : Int) ≤ (j : Int) := by omega
      have hmod : (j : Int) % (m : Int) = ((j % m : Nat) : Int) := by omega
      by_cases hr : j % m = 0
      · obtain ⟨he, he2, hmj⟩ := gl_go hm1 hj1 hr
        have hr2 : (j : Int) % (m : Int) = 0 := by rw [hmod, hr]; rfl
        have HEN : Hid (∀ W v, IsG KI W v (m : Int) (gl m j) → Calls Try.prog 10 #[v, .int .i64 j] W fun e w' => ∃ a' c' a5 c5, e = .returned (.tuple #[.agg #[.int .i64 (m : Int), .slice a' 0 c'], .slice a5 m c5, .agg #[.int .i64 0, .int .i64 0]]) ∧ New KI W.heap.size w' (.slice a' 0 c') [] ∧ IsL KI w' (.slice a5 m c5) (upTo (j + 1 - m) (j + 1)) ∧ Below W.heap.size W w') := fun W v hv => (arrive_ok W v _ _ j hv hf).mono fun e w' ⟨v1, v2, h1, h2, h3, h4⟩ => by
          rw [he] at h2 h3
          simp only [he2] at h2
          obtain ⟨a', c', rfl, h5⟩ := h2.form
          obtain ⟨a5, c5, rfl⟩ := h3.1.form
          have el : (upTo (j + 1 - m) (j + 1)).length = m := by rw [upTo_length]; omega
          have h3' := h3.1
          simp only [el] at h1 h3'
          exact ⟨a', c', a5, c5, h1, h5, h3', h4⟩
        have HE2 := hide he2
        clear hf he he2 hmod hr
        generalize gl m j = P at *
        obtain ⟨p0, p1, pf0, pf1, pl⟩ := block2 (unhide HPj)
        have HTB : Hid (T < wr.heap.size) := pl
        go_upto_region 10 with (go_at_call 10; refine (unhide HEN _ _ ⟨_, rfl, (unhide HWj).1⟩).mono ?_; rintro e w2 ⟨a2, c2, a5, c5, rfl, hn2', hi5, hb2⟩; have HI5 := hide hi5; have HN2 := hide (hn2'.base (Nat.succ_le_of_lt (unhide HTB))); have HX_x1 := hide (Below.next (unhide HXj) hb2 (by first | exact Nat.le_refl _ | (have := unhide HBA; omega))); have Kp_x1 := hide (keep_below (unhide HPj) hb2); clear HXj HPj; clear hb2 hn2' HWj p0 p1 pf0 pf1 pl hi5)
        obtain ⟨W3, eW3, hBW3, k0_x2, k1_x2⟩ := two_new w2 (.cells #[.int .i64 (m : Int), .slice a2 0 c2] 35) (.cells #[.int .i64 0, .int .i64 0] 27)
        rw [eW3]
        clear eW3
        have hlp_m : T < w2.heap.size := size_of (unhide Kp_x1)
        (have HX_x2 := hide (Below.next (unhide HX_x1) hBW3 (by first | exact Nat.le_refl _ | (have := unhide HBA; omega))); have Kp_x2 := hide (keep_below (unhide Kp_x1) hBW3); have FN_x2 := hide ((unhide HN2).below hBW3); have FI_x2 := hide ((unhide HI5).below hBW3); clear HX_x1 Kp_x1 HN2 HI5)
        obtain ⟨M, eM⟩ : ∃ X, w2.heap.size = X := ⟨_, rfl⟩
        rw [eM] at k0_x2 k1_x2 hlp_m ⊢
        have Km_x2 := hide k0_x2
        have Kf_x2 := hide k1_x2
        clear eM hBW3 k0_x2 k1_x2
        obtain ⟨m0, m1, mf0, mf1, ml⟩ := block2 (unhide Km_x2)
        obtain ⟨f0, f1, ff0, ff1, fl⟩ := block2 (unhide Kf_x2)
        have xm : ((m : Int) != (m : Int)) = false := by simp
        go_upto_region 17 with fail
        clear m0 m1 mf0 mf1 ml f0 f1 ff0 ff1 fl
        have HOP := hide ((unhide FI_x2).opens ki (by rw [upTo_length]; omega))
        go_wp2_with fail
        go_loopw [10] (fun i W => ∃ k : Nat, k ≤ m ∧ i = .int .i64 k ∧ W = W3) (fun i _ => m - (intOf i).toNat)
        case atStart => exact ⟨0, Nat.zero_le _, rfl, rfl⟩
        case round =>
          obtain ⟨k, hk, rfl, rfl⟩ := hrel
          by_cases hkm : k < m
          · obtain ⟨b0, o0, rfl, hb0, l0⟩ := unhide HOP (by omega)
            have k0 := l0.ints (j := k) (by rw [upTo_length]; omega)
            rw [upTo_get (by omega)] at k0
            have ek : ((j + 1 - m + k : Nat) : Int) = (j : Int) - (m : Int) + 1 + (k : Int) := by omega
            rw [ek] at k0
            have xk : (((j : Int) - (m : Int) + 1 + (k : Int)) != ((j : Int) - (m : Int) + 1 + (k : Int))) = false := by simp
            have hkm2 : (k : Int) < (m : Int) := by omega
            have i0 : (0 : Int) ≤ (k : Int) := by omega
            have hw1 : IntKind.i64.wrap ((j : Int) - (m : Int)) = (j : Int) - (m : Int) := wrapi (by omega) (by omega)
            have hw2 : IntKind.i64.wrap ((j : Int) - (m : Int) + 1) = (j : Int) - (m : Int) + 1 := wrapi (by omega) (by omega)
            have hw3 : IntKind.i64.wrap ((j : Int) - (m : Int) + 1 + (k : Int)) = (j : Int) - (m : Int) + 1 + (k : Int) := wrapi (by omega) (by omega)
            clear ek l0
            go_wp2_with fail
            go_roundw
            case rel => exact ⟨k + 1, by omega, by go_num, by first | rfl | trivial⟩
            case measure => simp [intOf]; omega
          · have hkm2 : ¬ (k : Int) < (m : Int) := by omega
            obtain ⟨p0, p1, pf0, pf1, pl⟩ := block2 (unhide Kp_x2)
            obtain ⟨m0, m1, mf0, mf1, ml⟩ := block2 (unhide Km_x2)
            go_wp2_with fail
            clear p0 p1 pf0 pf1 pl m0 m1 mf0 mf1 ml
            have HBA : Hid (w.heap.size ≤ T) := unhide HTW
            have NN_xx3 := hide ((unhide FN_x2).keep ki (fun k hk _ => put2_keep (y0 := .int .i64 (m : Int)) (y1 := .slice a2 0 c2) (show k ≠ T by omega)))
            clear FN_x2
            have HX_xx3 := hide (put2_below (y0 := .int .i64 (m : Int)) (y1 := .slice a2 0 c2) (unhide HX_x2) (show w.heap.size ≤ T by first | omega | (have := unhide HBA; omega)))
            have Kp_xx3 := hide (put2_new (y0 := .int .i64 (m : Int)) (y1 := .slice a2 0 c2) (unhide Kp_x2))
            have Km_xx3 := hide ((put2_keep (y0 := .int .i64 (m : Int)) (y1 := .slice a2 0 c2) (show M ≠ T by omega)).trans (unhide Km_x2))
            have Kf_xx3 := hide ((put2_keep (y0 := .int .i64 (m : Int)) (y1 := .slice a2 0 c2) (show M + 1 ≠ T by omega)).trans (unhide Kf_x2))
            obtain ⟨W4, eW4⟩ : ∃ X, put2 wr (T) (.int .i64 (m : Int)) (.slice a2 0 c2) = X := ⟨_, rfl⟩
            rw [eW4] at HX_xx3 Kp_xx3 Km_xx3 Kf_xx3 NN_xx3
            have eW42 : ((wr).setCell ⟨T, 0, none⟩ (.int .i64 (m : Int))).setCell ⟨T, 1, none⟩ (.slice a2 0 c2) = W4 := eW4
            rw [eW42]
            clear eW4 eW42 HX_x2 Kp_x2 Km_x2 Kf_x2
            go_roundw
            case rel => exact ⟨j + 1, by omega, by omega, by go_num, a2, c2, by rw [unhide HE2]; exact Kp_xx3, by rw [unhide HE2]; exact NN_xx3, HX_xx3⟩
            case measure => simp [intOf]; omega
      · obtain ⟨he, hel⟩ := gl_stay hm1 hj1 hr
        have hr3 : ((j : Int) % (m : Int) != 0) = true := by rw [hmod]; simp; omega
        have HEN : Hid (∀ W v, IsG KI W v (m : Int) (gl m j) → Calls Try.prog 10 #[v, .int .i64 j] W fun e w' => ∃ a' c' a5 c5, e = .returned (.tuple #[.agg #[.int .i64 (m : Int), .slice a' (gl m (j + 1)).length c'], .slice a5 0 c5, .agg #[.int .i64 0, .int .i64 0]]) ∧ New KI W.heap.size w' (.slice a' (gl m (j + 1)).length c') (gl m (j + 1)) ∧ Below W.heap.size W w') := fun W v hv => (arrive_ok W v _ _ j hv hf).mono fun e w' ⟨v1, v2, h1, h2, h3, h4⟩ => by
          rw [he] at h2 h3
          obtain ⟨a', c', rfl, h5⟩ := h2.form
          obtain ⟨a5, c5, rfl⟩ := h3.1.form
          exact ⟨a', c', a5, c5, h1, h5, h4⟩
        obtain ⟨P2, eP2⟩ : ∃ P, gl m (j + 1) = P := ⟨_, rfl⟩
        rw [eP2] at HEN hel
        have HP2 := hide eP2
        have hr4 : ((P2.length : Int) != (j : Int) % (m : Int)) = false := by rw [hmod, hel]; simp
        clear hf he hmod hr eP2 hel
        generalize gl m j = P at *
        obtain ⟨p0, p1, pf0, pf1, pl⟩ := block2 (unhide HPj)
        have HTB : Hid (T < wr.heap.size) := pl
        go_upto_region 10 with (go_at_call 10; refine (unhide HEN _ _ ⟨_, rfl, (unhide HWj).1⟩).mono ?_; rintro e w2 ⟨a2, c2, a5, c5, rfl, hn2', hb2⟩; have HN2 := hide (hn2'.base (Nat.succ_le_of_lt (unhide HTB))); have HX_y1 := hide (Below.next (unhide HXj) hb2 (by first | exact Nat.le_refl _ | (have := unhide HBA; omega))); have Kp_y1 := hide (keep_below (unhide HPj) hb2); clear HXj HPj; clear hb2 hn2' HWj p0 p1 pf0 pf1 pl)
        obtain ⟨W3, eW3, hBW3, k0_y2, k1_y2⟩ := two_new w2 (.cells #[.int .i64 (m : Int), .slice a2 P2.length c2] 35) (.cells #[.int .i64 0, .int .i64 0] 27)
        rw [eW3]
        clear eW3
        have hlp_m : T < w2.heap.size := size_of (unhide Kp_y1)
        (have HX_y2 := hide (Below.next (unhide HX_y1) hBW3 (by first | exact Nat.le_refl _ | (have := unhide HBA; omega))); have Kp_y2 := hide (keep_below (unhide Kp_y1) hBW3); have FN_y2 := hide ((unhide HN2).below hBW3); clear HX_y1 Kp_y1 HN2)
        obtain ⟨M, eM⟩ : ∃ X, w2.heap.size = X := ⟨_, rfl⟩
        rw [eM] at k0_y2 k1_y2 hlp_m ⊢
        have Km_y2 := hide k0_y2
        have Kf_y2 := hide k1_y2
        clear eM hBW3 k0_y2 k1_y2
        obtain ⟨m0, m1, mf0, mf1, ml⟩ := block2 (unhide Km_y2)
        obtain ⟨f0, f1, ff0, ff1, fl⟩ := block2 (unhide Kf_y2)
        go_upto_region 13 with fail
        go_wp2_with fail
        go_quiet (fail)
        clear m0 m1 mf0 mf1 ml f0 f1 ff0 ff1 fl
        have hW5 : Below W3.heap.size W3 (W3.drewN nq) := below_drewN (Below.refl _ _) _
        obtain ⟨W5, eW5⟩ : ∃ X, W3.drewN nq = X := ⟨_, rfl⟩
        rw [eW5] at hW5 ⊢
        (have HX_y3 := hide (Below.next (unhide HX_y2) hW5 (by first | exact Nat.le_refl _ | (have := unhide HBA; omega))); have Kp_y3 := hide (keep_below (unhide Kp_y2) hW5); have Km_y3 := hide (keep_below (unhide Km_y2) hW5); have Kf_y3 := hide (keep_below (unhide Kf_y2) hW5); have FN_y3 := hide ((unhide FN_y2).below hW5); clear HX_y2 Kp_y2 Km_y2 Kf_y2 FN_y2)
        clear hW5 eW5
        obtain ⟨p0, p1, pf0, pf1, pl⟩ := block2 (unhide Kp_y3)
        obtain ⟨m0, m1, mf0, mf1, ml⟩ := block2 (unhide Km_y3)
        go_wp2_with fail
        clear p0 p1 pf0 pf1 pl m0 m1 mf0 mf1 ml
        have HBA : Hid (w.heap.size ≤ T) := unhide HTW
        have NN_y4 := hide ((unhide FN_y3).keep ki (fun k hk _ => put2_keep (y0 := .int .i64 (m : Int)) (y1 := .slice a2 P2.length c2) (show k ≠ T by omega)))
        clear FN_y3
        have HX_y4 := hide (put2_below (y0 := .int .i64 (m : Int)) (y1 := .slice a2 P2.length c2) (unhide HX_y3) (show w.heap.size ≤ T by first | omega | (have := unhide HBA; omega)))
        have Kp_y4 := hide (put2_new (y0 := .int .i64 (m : Int)) (y1 := .slice a2 P2.length c2) (unhide Kp_y3))
        have Km_y4 := hide ((put2_keep (y0 := .int .i64 (m : Int)) (y1 := .slice a2 P2.length c2) (show M ≠ T by omega)).trans (unhide Km_y3))
        have Kf_y4 := hide ((put2_keep (y0 := .int .i64 (m : Int)) (y1 := .slice a2 P2.length c2) (show M + 1 ≠ T by omega)).trans (unhide Kf_y3))
        obtain ⟨W6, eW6⟩ : ∃ X, put2 W5 (T) (.int .i64 (m : Int)) (.slice a2 P2.length c2) = X := ⟨_, rfl⟩
        rw [eW6] at HX_y4 Kp_y4 Km_y4 Kf_y4 NN_y4
        have eW62 : ((W5).setCell ⟨T, 0, none⟩ (.int .i64 (m : Int))).setCell ⟨T, 1, none⟩ (.slice a2 P2.length c2) = W6 := eW6
        rw [eW62]
        clear eW6 eW62 HX_y3 Kp_y3 Km_y3 Kf_y3
        go_roundw
        case rel => exact ⟨j + 1, by omega, by omega, by go_num, a2, c2, by rw [unhide HP2]; exact Kp_y4, by rw [unhide HP2]; exact NN_y4, HX_y4⟩
        case measure => simp [intOf]; omega
    · have hjn : j = n + 1 := by omega
      subst hjn
      have hcx : ¬ ((n + 1 : Nat) : Int) ≤ (n : Int) := by omega
      have hcx3 : ¬ (n : Int) + 1 ≤ (n : Int) := by omega
      go_wp2_with fail
      go_ret
      exact ⟨rfl, unhide HXj⟩
end Go.Proofs.Ytpogcfdmkeebmab
