/-
  taskmilllaw.SyncMutex.
-/
import Derived.Test.YtpogcfdmkeebmabR
import Derived.Test.YtpogcfdmkeebmabBe
import Derived.Test.YtpogcfdmkeebmabSa
namespace Go.Proofs.Ytpogcfdmkeebmab
open Go.RowKit

/-- Those who wait for one each: the tasks a to b - 1. -/
def sline (a b : Nat) : List Po := (upTo a b).map fun t => (t, false, 1)
theorem sline_nil {a b : Nat} (h : b ≤ a) : sline a b = [] := by unfold sline; rw [upTo_nil h]; rfl
theorem sline_snoc {a b : Nat} (h : a ≤ b) : sline a (b + 1) = sline a b ++ [((b : Int), false, 1)] := by unfold sline; rw [upTo_snoc h, List.map_append]; rfl
theorem sline_length (a b : Nat) : (sline a b).length = b - a := by simp [sline, upTo_length]
theorem sline_tasks (a b : Nat) : tasks (sline a b) = upTo a b := by 
  unfold tasks sline
  have e : ((fun p : Po => p.1) ∘ fun t : Int => ((t, false, 1) : Po)) = id := rfl
  rw [List.map_map, e, List.map_id]
theorem upTo_cons {a b : Nat} (h : a < b) : upTo a b = (a : Int) :: upTo (a + 1) b := by
  unfold upTo
  obtain ⟨d, rfl⟩ : ∃ d, b = a + 1 + d := ⟨b - a - 1, by omega⟩
  rw [show a + 1 + d - a = d + 1 by omega, show a + 1 + d - (a + 1) = d by omega, List.range_succ_eq_map, List.map_cons, List.map_map]
  congr 1
  apply List.map_congr_left
  intro i _
  simp only [Function.comp]
  omega
theorem sline_cons {a b : Nat} (h : a < b) : sline a b = ((a : Int), false, 1) :: sline (a + 1) b := by unfold sline; rw [upTo_cons h]; rfl
theorem sline_lets (a b : Nat) : lets 0 (sline a b) = false := by
  by_cases h : a < b
  · rw [sline_cons h]; rfl
  · rw [sline_nil (by omega)]; rfl
theorem sline_good {a b : Nat} (ha : 1 ≤ a) (hb : b ≤ 1000) : GoodS 0 (sline a b) := by
  refine ⟨by rw [sline_length]; omega, by omega, by omega, sline_lets a b, fun x hx => ?_, by rw [sline_tasks]; exact upTo_nodup a b⟩
  simp only [sline, List.mem_map] at hx
  obtain ⟨i, hi, rfl⟩ := hx
  have := upTo_mem.1 hi
  exact ⟨by simp only; omega, rfl, by simp, by simp⟩
/-- The semaphore ahead of each Acquire. -/
def mA (j : Nat) : Int × List Po := if j = 1 then (1, []) else (0, sline 2 j)
theorem mA_acq {j : Nat} (h1 : 1 ≤ j) (h2 : j ≤ 100) : (acqF (mA j).1 (mA j).2 (j : Int) 1).1 = 0 ∧ acqR (mA j).1 (mA j).2 (j : Int) 1 false = (mA (j + 1), (j : Int) == 1) := by
  unfold mA
  by_cases h : j = 1
  · subst h
    rw [if_pos rfl, if_neg (by omega)]
    exact ⟨by decide, by rw [sline_nil (by omega)]; rfl⟩
  · rw [if_neg h, if_neg (by omega)]
    have hm : (j : Int) ∉ tasks (sline 2 j) := by rw [sline_tasks, upTo_mem]; omega
    refine ⟨(sline_good (by omega) (by omega)).acq (by omega) (by omega) (by omega) hm (by rw [sline_length]; omega), ?_⟩
    have e : ((j : Int) == 1) = false := by simp; omega
    rw [e]
    simp only
    unfold acqR
    rw [← sline_snoc (by omega), if_neg (by rw [sline_lets]; simp), if_neg (by simp)]
theorem mB_rel {n j : Nat} (h1 : 1 ≤ j) (h2 : j ≤ n) (hn : n ≤ 100) : (relF 0 (sline j (n + 1)) 1).1 = 0 ∧ giveR (0 + 1) (sline j (n + 1)) = ((0, sline (j + 1) (n + 1)), [(j : Int)]) := by
  refine ⟨(sline_good h1 (by omega)).rel (by omega) (by omega) (by omega), ?_⟩
  rw [sline_cons (by omega), giveR_go (by rfl), show (0 + 1 - 1 : Int) = 0 from rfl, giveR_stay (sline_lets _ _)]
theorem mB_last {n : Nat} : (relF 0 (sline (n + 1) (n + 1)) 1).1 = 0 ∧ giveR (0 + 1) (sline (n + 1) (n + 1)) = ((1, []), []) := by
  rw [sline_nil (Nat.le_refl _)]
  exact ⟨by decide, rfl⟩

set_option maxRecDepth 100000 in
set_option maxHeartbeats 4000000 in
theorem mutex_walk (w : World) (x : Int) : Calls Try.prog 5 #[.int .i64 x] w fun e w' => e = .returned (.bool true) ∧ Below w.heap.size w w' := by
  have hnot : ∀ (x : Bool) (w : World), (Op.unary .not (.bool x)).run Try.prog w = .ok (.bool (!x)) w := fun _ _ => rfl
  by_cases hx0 : x < 1
  · go_enter Try.func5, Try.ntmps5
    go_wp2_with (go_at_call 6; refine (begun_any _).mono ?_; rintro e w1 ⟨rfl, hb1⟩; have HX := hide hb1; clear hb1)
    go_ret
    exact ⟨rfl, unhide HX⟩
  by_cases hx1 : 60 < x
  · go_enter Try.func5, Try.ntmps5
    go_wp2_with (go_at_call 6; refine (begun_any _).mono ?_; rintro e w1 ⟨rfl, hb1⟩; have HX := hide hb1; clear hb1)
    go_ret
    exact ⟨rfl, unhide HX⟩
  obtain ⟨n, rfl⟩ : ∃ n : Nat, x = (n : Int) := ⟨x.toNat, by omega⟩
  have hn1 : 1 ≤ n := by omega
  have hn2 : n ≤ 60 := by omega
  clear hx0 hx1
  go_enter Try.func5, Try.ntmps5
  have hc1 : ¬ (n : Int) < 1 := by omega
  have hc2 : ¬ (60 : Int) < (n : Int) := by omega
  go_upto_region 5 with (go_at_call 6; refine (begun_any _).mono ?_; rintro e w1 ⟨rfl, hb1⟩; have HX := hide hb1; clear hb1)
  go_upto_region 6 with fail
  have htw : w.heap.size ≤ w1.heap.size := (unhide HX).size
  have HX_1 := hide ((unhide HX).alloc (Nat.le_trans (show w.heap.size ≤ w.heap.size from Nat.le_refl _) (unhide HX).size) (.cells #[.int .i64 1, .slice none 0 0] 40))
  have Kp_1 := hide (new_block w1 (.cells #[.int .i64 1, .slice none 0 0] 40))
  obtain ⟨T, eT⟩ : ∃ X, w1.heap.size = X := ⟨_, rfl⟩
  obtain ⟨W2, eW2⟩ : ∃ X, w1.alloc (.cells #[.int .i64 1, .slice none 0 0] 40) = X := ⟨_, rfl⟩
  rw [eT, eW2] at Kp_1; rw [eW2] at HX_1; rw [eT] at htw; rw [eT, eW2]
  clear eT eW2 HX
  have HTW := hide htw
  clear htw
  go_wp2_with fail
  go_loopw [4] (fun i W => ∃ j : Nat, 1 ≤ j ∧ j ≤ n + 1 ∧ i = .int .i64 j ∧ ∃ (a : Option Addr) (c : Nat), Hid (W.heap[T]? = some (.cells #[.int .i64 (mA j).1, .slice a ((mA j).2).length c] 40)) ∧ Hid (New KP (T + 1) W (.slice a ((mA j).2).length c) ((mA j).2)) ∧ Hid (Below w.heap.size w W)) (fun i _ => n + 1 - (intOf i).toNat)
  case atStart => exact ⟨1, Nat.le_refl _, by omega, rfl, none, 0, Kp_1, new_nil _ _, HX_1⟩
  case round =>
    obtain ⟨j, hj1, hj2, rfl, a, c, HPj, HWj, HXj⟩ := hrel
    clear Kp_1 HX_1
    by_cases hlt : j ≤ n
    · have hlt2 : (j : Int) ≤ (n : Int) := by omega
      obtain ⟨hf, he⟩ := mA_acq hj1 (show j ≤ 100 by omega)
      have HEN : Hid (∀ W v, IsG KP W v (mA j).1 (mA j).2 → Calls Try.prog 11 #[v, .int .i64 j, .int .i64 1, .bool false] W fun e w' => ∃ a' c', e = .returned (.tuple #[.agg #[.int .i64 (mA (j + 1)).1, .slice a' (mA (j + 1)).2.length c'], .bool ((j : Int) == 1), .agg #[.int .i64 0, .int .i64 0]]) ∧ New KP W.heap.size w' (.slice a' (mA (j + 1)).2.length c') (mA (j + 1)).2 ∧ Below W.heap.size W w') := fun W v hv => (acquire_ok W v _ _ j 1 false hv hf).mono fun e w' ⟨v1, h1, h2, h3⟩ => by
        rw [he] at h1 h2
        obtain ⟨a', c', rfl, h4⟩ := h2.form
        exact ⟨a', c', h1, h4, h3⟩
      clear hf he
      generalize mA j = P at *
      obtain ⟨P2, eP2⟩ : ∃ P, mA (j + 1) = P := ⟨_, rfl⟩
      rw [eP2] at HEN
      have HP2 := hide eP2
      clear eP2
      obtain ⟨b1, eb1⟩ : ∃ b, ((j : Int) == 1) = b := ⟨_, rfl⟩
      rw [eb1] at HEN
      have xb : (b1 != b1) = false := by simp
      obtain ⟨p0, p1, pf0, pf1, pl⟩ := block2 (unhide HPj)
      have hTT : T < wr.heap.size := pl
      have HTB : Hid (T < wr.heap.size) := pl
      go_upto_region 10 with (go_at_call 11; refine (unhide HEN _ _ ⟨_, rfl, (unhide HWj).1⟩).mono ?_; rintro e w2 ⟨a2, c2, rfl, hn2', hb2⟩; have HN2 := hide (hn2'.base (Nat.succ_le_of_lt (unhide HTB))); have HX_1 := hide (Below.next (unhide HXj) hb2 (by first | exact Nat.le_refl _ | (have := unhide HBA; omega))); have Kp_1 := hide (keep_below (unhide HPj) hb2); clear HXj HPj; clear hb2 hn2' HWj p0 p1 pf0 pf1 pl)
      obtain ⟨W3, eW3, hBW3, k0_2, k1_2⟩ := two_new w2 (.cells #[.int .i64 P2.1, .slice a2 P2.2.length c2] 40) (.cells #[.int .i64 0, .int .i64 0] 27)
      rw [eW3]
      clear eW3
      have hlp_m : T < w2.heap.size := size_of (unhide Kp_1)
      (have HX_2 := hide (Below.next (unhide HX_1) hBW3 (by first | exact Nat.le_refl _ | (have := unhide HBA; omega))); have Kp_2 := hide (keep_below (unhide Kp_1) hBW3); have FN_2 := hide ((unhide HN2).below hBW3); clear HX_1 Kp_1 HN2)
      obtain ⟨M, eM⟩ : ∃ X, w2.heap.size = X := ⟨_, rfl⟩
      rw [eM] at k0_2 k1_2 hlp_m ⊢
      have Km_2 := hide k0_2
      have Kf_2 := hide k1_2
      clear eM hBW3 k0_2 k1_2
      obtain ⟨p0, p1, pf0, pf1, pl⟩ := block2 (unhide Kp_2)
      obtain ⟨m0, m1, mf0, mf1, ml⟩ := block2 (unhide Km_2)
      obtain ⟨f0, f1, ff0, ff1, fl⟩ := block2 (unhide Kf_2)
      go_wp2_with fail
      clear p0 p1 pf0 pf1 pl m0 m1 mf0 mf1 ml f0 f1 ff0 ff1 fl
      have HBA : Hid (w.heap.size ≤ T) := unhide HTW
      have NN_3 := hide ((unhide FN_2).keep kp (fun k hk _ => put2_keep (y0 := .int .i64 P2.1) (y1 := .slice a2 P2.2.length c2) (show k ≠ T by omega)))
      clear FN_2
      have HX_3 := hide (put2_below (y0 := .int .i64 P2.1) (y1 := .slice a2 P2.2.length c2) (unhide HX_2) (show w.heap.size ≤ T by first | omega | (have := unhide HBA; omega)))
      have Kp_3 := hide (put2_new (y0 := .int .i64 P2.1) (y1 := .slice a2 P2.2.length c2) (unhide Kp_2))
      have Km_3 := hide ((put2_keep (y0 := .int .i64 P2.1) (y1 := .slice a2 P2.2.length c2) (show M ≠ T by omega)).trans (unhide Km_2))
      have Kf_3 := hide ((put2_keep (y0 := .int .i64 P2.1) (y1 := .slice a2 P2.2.length c2) (show M + 1 ≠ T by omega)).trans (unhide Kf_2))
      obtain ⟨W4, eW4⟩ : ∃ X, put2 W3 (T) (.int .i64 P2.1) (.slice a2 P2.2.length c2) = X := ⟨_, rfl⟩
      rw [eW4] at HX_3 Kp_3 Km_3 Kf_3 NN_3
      have eW42 : ((W3).setCell ⟨T, 0, none⟩ (.int .i64 P2.1)).setCell ⟨T, 1, none⟩ (.slice a2 P2.2.length c2) = W4 := eW4
      rw [eW42]
      clear eW4 eW42 HX_2 Kp_2 Km_2 Kf_2
      go_roundw
      case rel => exact ⟨j + 1, by omega, by omega, by go_num, a2, c2, by rw [unhide HP2]; exact Kp_3, by rw [unhide HP2]; exact NN_3, HX_3⟩
      case measure => simp [intOf]; omega
    · have hjn : j = n + 1 := by omega
      subst hjn
      have hcx : ¬ ((n + 1 : Nat) : Int) ≤ (n : Int) := by omega
      have hcx3 : ¬ (n : Int) + 1 ≤ (n : Int) := by omega
      go_wp2_with fail
      go_loopw [8] (fun i W => ∃ j : Nat, 2 ≤ j ∧ j ≤ n + 1 ∧ i = .int .i64 j ∧ ∃ (a : Option Addr) (c : Nat), Hid (W.heap[T]? = some (.cells #[.int .i64 0, .slice a (sline j (n + 1)).length c] 40)) ∧ Hid (New KP (T + 1) W (.slice a (sline j (n + 1)).length c) (sline j (n + 1))) ∧ Hid (Below w.heap.size w W)) (fun i _ => n + 1 - (intOf i).toNat)
      case atStart =>
        have e : mA (n + 1) = (0, sline 2 (n + 1)) := by unfold mA; rw [if_neg (by omega)]
        rw [e] at HPj HWj
        exact ⟨2, Nat.le_refl _, by omega, rfl, a, c, HPj, HWj, HXj⟩
      case round =>
        obtain ⟨j, hj1, hj2', rfl, a, c, HPj, HWj, HXj⟩ := hrel
        by_cases hlt : j ≤ n
        · have hlt2 : (j : Int) ≤ (n : Int) := by omega
          obtain ⟨hf, he⟩ := mB_rel (n := n) (j := j) (by omega) hlt (by omega)
          have HLV : Hid (∀ W v, IsG KP W v 0 (sline j (n + 1)) → Calls Try.prog 12 #[v, .int .i64 1] W fun e w' => ∃ a' c' a5 c5, e = .returned (.tuple #[.agg #[.int .i64 0, .slice a' (sline (j + 1) (n + 1)).length c'], .slice a5 1 c5, .agg #[.int .i64 0, .int .i64 0]]) ∧ New KP W.heap.size w' (.slice a' (sline (j + 1) (n + 1)).length c') (sline (j + 1) (n + 1)) ∧ IsL KI w' (.slice a5 1 c5) [(j : Int)] ∧ Below W.heap.size W w') := fun W v hv => (release_ok W v 0 _ 1 hv hf).mono fun e w' ⟨v1, v2, h1, h2, h3, h4⟩ => by
            rw [he] at h2 h3
            obtain ⟨a', c', rfl, h5⟩ := h2.form
            obtain ⟨a5, c5, rfl⟩ := h3.1.form
            exact ⟨a', c', a5, c5, h1, h5, h3.1, h4⟩
          clear hf he
          generalize sline j (n + 1) = P at *
          obtain ⟨P2, eP2⟩ : ∃ P, sline (j + 1) (n + 1) = P := ⟨_, rfl⟩
          rw [eP2] at HLV
          have HP2 := hide eP2
          clear eP2
          obtain ⟨p0, p1, pf0, pf1, pl⟩ := block2 (unhide HPj)
          have HTB : Hid (T < wr.heap.size) := pl
          go_upto_region 17 with (go_at_call 12; refine (unhide HLV _ _ ⟨_, rfl, (unhide HWj).1⟩).mono ?_; rintro e w2 ⟨a2, c2, a5, c5, rfl, hn2', hi5, hb2⟩; have HN2 := hide (hn2'.base (Nat.succ_le_of_lt (unhide HTB))); have HI5 := hide hi5; have HX_x1 := hide (Below.next (unhide HXj) hb2 (by first | exact Nat.le_refl _ | (have := unhide HBA; omega))); have Kp_x1 := hide (keep_below (unhide HPj) hb2); clear HXj HPj; clear hb2 hn2' hi5 HWj p0 p1 pf0 pf1 pl)
          obtain ⟨W3, eW3, hBW3, k0_x2, k1_x2⟩ := two_new w2 (.cells #[.int .i64 0, .slice a2 P2.length c2] 40) (.cells #[.int .i64 0, .int .i64 0] 27)
          rw [eW3]
          clear eW3
          have hlp_m : T < w2.heap.size := size_of (unhide Kp_x1)
          (have HX_x2 := hide (Below.next (unhide HX_x1) hBW3 (by first | exact Nat.le_refl _ | (have := unhide HBA; omega))); have Kp_x2 := hide (keep_below (unhide Kp_x1) hBW3); have FN_x2 := hide ((unhide HN2).below hBW3); have FI_x2 := hide ((unhide HI5).below hBW3); clear HX_x1 Kp_x1 HN2 HI5)
          obtain ⟨M, eM⟩ : ∃ X, w2.heap.size = X := ⟨_, rfl⟩
          rw [eM] at k0_x2 k1_x2 hlp_m ⊢
          have Km_x2 := hide k0_x2
          have Kf_x2 := hide k1_x2
          clear eM hBW3 k0_x2 k1_x2
          obtain ⟨f0, f1, ff0, ff1, fl⟩ := block2 (unhide Kf_x2)
          have HI6 := hide (isl_one ki W3 (j : Int))
          have HI7 := hide ((unhide FI_x2).below ((Below.refl _ _).alloc (Nat.le_refl _) (.cells #[.int .i64 (j : Int)] 3)))
          have HAL : Hid (Below W3.heap.size W3 (W3.alloc (.cells #[.int .i64 (j : Int)] 3))) := (Below.refl _ _).alloc (Nat.le_refl _) (.cells #[.int .i64 (j : Int)] 3)
          go_upto_region 19 with (go_at_call 13; refine (ints_same _ _ _ [(j : Int)] (unhide HI7) (unhide HI6) (by simp [maxLen])).mono ?_; rintro e w4 ⟨rfl, hb4⟩; have hb5 := Below.next (unhide HAL) hb4 (Nat.le_refl _); have HX_x3 := hide (Below.next (unhide HX_x2) hb5 (by first | exact Nat.le_refl _ | (have := unhide HBA; omega))); have Kp_x3 := hide (keep_below (unhide Kp_x2) hb5); have Km_x3 := hide (keep_below (unhide Km_x2) hb5); have Kf_x3 := hide (keep_below (unhide Kf_x2) hb5); have FN_x3 := hide ((unhide FN_x2).below hb5); clear HX_x2 Kp_x2 Km_x2 Kf_x2 FN_x2; clear hb4 hb5 f0 f1 ff0 ff1 fl)
          clear HI6 HI7 HAL FI_x2
          obtain ⟨p0, p1, pf0, pf1, pl⟩ := block2 (unhide Kp_x3)
          obtain ⟨m0, m1, mf0, mf1, ml⟩ := block2 (unhide Km_x3)
          go_wp2_with fail
          clear p0 p1 pf0 pf1 pl m0 m1 mf0 mf1 ml
          have HBA : Hid (w.heap.size ≤ T) := unhide HTW
          have NN_x4 := hide ((unhide FN_x3).keep kp (fun k hk _ => put2_keep (y0 := .int .i64 0) (y1 := .slice a2 P2.length c2) (show k ≠ T by omega)))
          clear FN_x3
          have HX_x4 := hide (put2_below (y0 := .int .i64 0) (y1 := .slice a2 P2.length c2) (unhide HX_x3) (show w.heap.size ≤ T by first | omega | (have := unhide HBA; omega)))
          have Kp_x4 := hide (put2_new (y0 := .int .i64 0) (y1 := .slice a2 P2.length c2) (unhide Kp_x3))
          have Km_x4 := hide ((put2_keep (y0 := .int .i64 0) (y1 := .slice a2 P2.length c2) (show M ≠ T by omega)).trans (unhide Km_x3))
          have Kf_x4 := hide ((put2_keep (y0 := .int .i64 0) (y1 := .slice a2 P2.length c2) (show M + 1 ≠ T by omega)).trans (unhide Kf_x3))
          obtain ⟨W5, eW5⟩ : ∃ X, put2 w4 (T) (.int .i64 0) (.slice a2 P2.length c2) = X := ⟨_, rfl⟩
          rw [eW5] at HX_x4 Kp_x4 Km_x4 Kf_x4 NN_x4
          have eW52 : ((w4).setCell ⟨T, 0, none⟩ (.int .i64 0)).setCell ⟨T, 1, none⟩ (.slice a2 P2.length c2) = W5 := eW5
          rw [eW52]
          clear eW5 eW52 HX_x3 Kp_x3 Km_x3 Kf_x3
          go_roundw
          case rel => exact ⟨j + 1, by omega, by omega, by go_num, a2, c2, by rw [unhide HP2]; exact Kp_x4, by rw [unhide HP2]; exact NN_x4, HX_x4⟩
          case measure => simp [intOf]; omega
        · have hjn : j = n + 1 := by omega
          subst hjn
          have hcx2 : ¬ ((n + 1 : Nat) : Int) ≤ (n : Int) := by omega
          have hcx4 : ¬ (n : Int) + 1 ≤ (n : Int) := by omega
          obtain ⟨hf, he⟩ := mB_last (n := n)
          have HLV : Hid (∀ W v, IsG KP W v 0 (sline (n + 1) (n + 1)) → Calls Try.prog 12 #[v, .int .i64 1] W fun e w' => ∃ a' c' a5 c5, e = .returned (.tuple #[.agg #[.int .i64 1, .slice a' 0 c'], .slice a5 0 c5, .agg #[.int .i64 0, .int .i64 0]]) ∧ IsL KP w' (.slice a' 0 c') [] ∧ Below W.heap.size W w') := fun W v hv => (release_ok W v 0 _ 1 hv hf).mono fun e w' ⟨v1, v2, h1, h2, h3, h4⟩ => by
            rw [he] at h2 h3
            obtain ⟨a', c', rfl, h5⟩ := h2.form
            obtain ⟨a5, c5, rfl⟩ := h3.1.form
            exact ⟨a', c', a5, c5, h1, h5.1, h4⟩
          clear hf he
          generalize sline (n + 1) (n + 1) = P at *
          obtain ⟨p0, p1, pf0, pf1, pl⟩ := block2 (unhide HPj)
          go_upto_region 21 with (go_at_call 12; refine (unhide HLV _ _ ⟨_, rfl, (unhide HWj).1⟩).mono ?_; rintro e w2 ⟨a2, c2, a5, c5, rfl, hi5, hb2⟩; have HI5 := hide hi5; have HX_z1 := hide (Below.next (unhide HXj) hb2 (by first | exact Nat.le_refl _ | (have := unhide HBA; omega))); have Kp_z1 := hide (keep_below (unhide HPj) hb2); clear HXj HPj; clear hb2 hi5 p0 p1 pf0 pf1 pl)
          obtain ⟨W3, eW3, hBW3, k0_z2, k1_z2⟩ := two_new w2 (.cells #[.int .i64 1, .slice a2 0 c2] 40) (.cells #[.int .i64 0, .int .i64 0] 27)
          rw [eW3]
          clear eW3
          have hlp_m : T < w2.heap.size := size_of (unhide Kp_z1)
          (have HX_z2 := hide (Below.next (unhide HX_z1) hBW3 (by first | exact Nat.le_refl _ | (have := unhide HBA; omega))); have Kp_z2 := hide (keep_below (unhide Kp_z1) hBW3); have FI_z2 := hide ((unhide HI5).below hBW3); clear HX_z1 Kp_z1 HI5)
          obtain ⟨M, eM⟩ : ∃ X, w2.heap.size = X := ⟨_, rfl⟩
          rw [eM] at k0_z2 k1_z2 hlp_m ⊢
          have Km_z2 := hide k0_z2
          have Kf_z2 := hide k1_z2
          clear eM hBW3 k0_z2 k1_z2
          obtain ⟨m0, m1, mf0, mf1, ml⟩ := block2 (unhide Km_z2)
          obtain ⟨f0, f1, ff0, ff1, fl⟩ := block2 (unhide Kf_z2)
          go_wp2_with (go_at_call 14; refine (sameSema_any _ _ _ 1 [] ⟨_, rfl, unhide FI_z2⟩ (zero_g _ 1) (by simp [maxLen])).mono ?_; rintro e w4 ⟨rfl, hb4⟩; have HX_z3 := hide (Below.next (unhide HX_z2) hb4 (by first | exact Nat.le_refl _ | (have := unhide HBA; omega))); have Kp_z3 := hide (keep_below (unhide Kp_z2) hb4); have Km_z3 := hide (keep_below (unhide Km_z2) hb4); have Kf_z3 := hide (keep_below (unhide Kf_z2) hb4); have FI_z3 := hide ((unhide FI_z2).below hb4); clear HX_z2 Kp_z2 Km_z2 Kf_z2 FI_z2; clear hb4 m0 m1 mf0 mf1 ml f0 f1 ff0 ff1 fl)
          go_ret
          exact ⟨rfl, unhide HX_z3⟩
end Go.Proofs.Ytpogcfdmkeebmab
