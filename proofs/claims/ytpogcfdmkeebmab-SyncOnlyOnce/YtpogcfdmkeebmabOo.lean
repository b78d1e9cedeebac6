/-
  taskmilllaw.SyncOnlyOnce.
-/
import Derived.Test.YtpogcfdmkeebmabR
import Derived.Test.YtpogcfdmkeebmabBe
import Derived.Test.YtpogcfdmkeebmabSa
import Derived.Test.YtpogcfdmkeebmabPb
import Derived.Test.YtpogcfdmkeebmabPe
namespace Go.Proofs.Ytpogcfdmkeebmab
open Go.RowKit

/-- The once ahead of each Begin. -/
def oA (j : Nat) : Int × Bool × List Int := if j = 1 then (0, false, []) else (1, false, upTo 2 j)
theorem oA_once {j : Nat} (h2 : j ≤ 1000) : onceF 1 false (upTo 2 j) = (0, 0) := by
  unfold onceF
  rw [upTo_line (by omega) (by omega), if_neg (by simp), if_neg (by omega), if_neg]
  rintro (h | h | h)
  · cases h.1
  · exact absurd h.1 (by decide)
  · rw [List.contains_iff_mem, upTo_mem] at h
    omega
theorem oA_begin {j : Nat} (h1 : 1 ≤ j) (h2 : j ≤ 100) : (beginF (oA j).1 (oA j).2.1 (oA j).2.2 (j : Int)).1 = 0 ∧ beginR (oA j).1 (oA j).2.1 (oA j).2.2 (j : Int) = (oA (j + 1), if j = 1 then 1 else 0) := by
  unfold oA
  by_cases h : j = 1
  · subst h
    rw [if_pos rfl, if_neg (by omega)]
    exact ⟨by decide, by rw [upTo_nil (by omega)]; rfl⟩
  · rw [if_neg h, if_neg (by omega), if_neg h]
    constructor
    · unfold beginF
      simp only
      have hc : (comesF (upTo 2 j) (j : Int)).1 = 0 := upTo_comes (by omega) (by omega) (by omega)
      rw [oA_once (by omega), if_neg (by simp), if_neg (by rw [hc]; simp), if_neg (by omega)]
    · simp only
      unfold beginR
      rw [if_neg (by simp), if_neg (by decide), upTo_snoc (by omega)]
theorem oB_begin {x : Int} (hx : 1 ≤ x) : (beginF 0 true [] x).1 = 0 ∧ beginR 0 true [] x = ((0, true, []), 2) := by
  refine ⟨?_, rfl⟩
  unfold beginF
  have h1 : onceF 0 true [] = (0, 0) := by decide
  have h2 : comesF [] x = (0, 0) := by
    unfold comesF
    rw [if_neg (by omega), if_neg (by simp), if_neg (by simp)]
  rw [h1, h2, if_neg (by simp), if_neg (by simp), if_neg (by omega)]

set_option maxRecDepth 100000 in
set_option maxHeartbeats 6000000 in
theorem once_walk (w : World) (x y : Int) : Calls Try.prog 3 #[.int .i64 x, .int .i64 y] w fun e w' => e = .returned (.bool true) ∧ Below w.heap.size w w' := by
  have hnot : ∀ (x : Bool) (w : World), (Op.unary .not (.bool x)).run Try.prog w = .ok (.bool (!x)) w := fun _ _ => rfl
  by_cases hx0 : x < 1
  · go_enter Try.func3, Try.ntmps3
    go_wp2_with (go_at_call 6; refine (begun_any _).mono ?_; rintro e w1 ⟨rfl, hb1⟩; have HX := hide hb1; clear hb1)
    go_ret
    exact ⟨rfl, unhide HX⟩
  by_cases hx1 : 60 < x
  · go_enter Try.func3, Try.ntmps3
    go_wp2_with (go_at_call 6; refine (begun_any _).mono ?_; rintro e w1 ⟨rfl, hb1⟩; have HX := hide hb1; clear hb1)
    go_ret
    exact ⟨rfl, unhide HX⟩
  by_cases hy0 : y < 0
  · go_enter Try.func3, Try.ntmps3
    go_wp2_with (go_at_call 6; refine (begun_any _).mono ?_; rintro e w1 ⟨rfl, hb1⟩; have HX := hide hb1; clear hb1)
    go_ret
    exact ⟨rfl, unhide HX⟩
  by_cases hy1 : 60 < y
  · go_enter Try.func3, Try.ntmps3
    go_wp2_with (go_at_call 6; refine (begun_any _).mono ?_; rintro e w1 ⟨rfl, hb1⟩; have HX := hide hb1; clear hb1)
    go_ret
    exact ⟨rfl, unhide HX⟩
  obtain ⟨n, rfl⟩ : ∃ n : Nat, x = (n : Int) := ⟨x.toNat, by omega⟩
  obtain ⟨l, rfl⟩ : ∃ l : Nat, y = (l : Int) := ⟨y.toNat, by omega⟩
  have hn1 : 1 ≤ n := by omega
  have hn2 : n ≤ 60 := by omega
  have hl2 : l ≤ 60 := by omega
  clear hx0 hx1 hy0 hy1
  go_enter Try.func3, Try.ntmps3
  have hc1 : ¬ (n : Int) < 1 := by omega
  have hc2 : ¬ (60 : Int) < (n : Int) := by omega
  have hc3 : ¬ (l : Int) < 0 := by omega
  have hc4 : ¬ (60 : Int) < (l : Int) := by omega
  go_upto_region 5 with (go_at_call 6; refine (begun_any _).mono ?_; rintro e w1 ⟨rfl, hb1⟩; have HX := hide hb1; clear hb1)
  go_upto_region 6 with fail
  have htw : w.heap.size ≤ w1.heap.size := (unhide HX).size
  have HX_1 := hide ((unhide HX).alloc (Nat.le_trans (show w.heap.size ≤ w.heap.size from Nat.le_refl _) (unhide HX).size) (.cells #[.int .i64 0, .bool false, .slice none 0 0] 25))
  have Kp_1 := hide (new_block w1 (.cells #[.int .i64 0, .bool false, .slice none 0 0] 25))
  obtain ⟨T, eT⟩ : ∃ X, w1.heap.size = X := ⟨_, rfl⟩
  obtain ⟨W2, eW2⟩ : ∃ X, w1.alloc (.cells #[.int .i64 0, .bool false, .slice none 0 0] 25) = X := ⟨_, rfl⟩
  rw [eT, eW2] at Kp_1; rw [eW2] at HX_1; rw [eT] at htw; rw [eT, eW2]
  clear eT eW2 HX
  have HTW := hide htw
  clear htw
  go_wp2_with fail
  go_loopw [6] (fun i W => ∃ j : Nat, 1 ≤ j ∧ j ≤ n + 1 ∧ i = .int .i64 j ∧ ∃ (a : Option Addr) (c : Nat), Hid (W.heap[T]? = some (.cells #[.int .i64 (oA j).1, .bool (oA j).2.1, .slice a (oA j).2.2.length c] 25)) ∧ Hid (New KI (T + 1) W (.slice a (oA j).2.2.length c) (oA j).2.2) ∧ Hid (Below w.heap.size w W)) (fun i _ => n + 1 - (intOf i).toNat)
  case atStart => exact ⟨1, Nat.le_refl _, by omega, rfl, none, 0, Kp_1, new_nil _ _, HX_1⟩
  case round =>
    obtain ⟨j, hj1, hj2, rfl, a, c, HPj, HWj, HXj⟩ := hrel
    clear Kp_1 HX_1
    by_cases hlt : j ≤ n
    · have hlt2 : (j : Int) ≤ (n : Int) := by omega
      obtain ⟨hf, he⟩ := oA_begin hj1 (show j ≤ 100 by omega)
      obtain ⟨kk, ekk⟩ : ∃ k : Int, (if j = 1 then (1 : Int) else 0) = k := ⟨_, rfl⟩
      rw [ekk] at he
      have HEN : Hid (∀ W v, IsO W v (oA j).1 (oA j).2.1 (oA j).2.2 → Calls Try.prog 7 #[v, .int .i64 j] W fun e w' => ∃ a' c', e = .returned (.tuple #[.agg #[.int .i64 (oA (j + 1)).1, .bool (oA (j + 1)).2.1, .slice a' (oA (j + 1)).2.2.length c'], .int .i64 kk, .agg #[.int .i64 0, .int .i64 0]]) ∧ New KI W.heap.size w' (.slice a' (oA (j + 1)).2.2.length c') (oA (j + 1)).2.2 ∧ Below W.heap.size W w') := fun W v hv => (begin_ok W v _ _ _ j hv hf).mono fun e w' ⟨v1, h1, h2, h3⟩ => by
        rw [he] at h1 h2
        obtain ⟨a', c', rfl, h4⟩ := h2.form
        exact ⟨a', c', h1, h4, h3⟩
      have xk2 : (kk == 2) = false := by rw [← ekk]; split <;> rfl
      have xk1 : (kk == 1) = ((j : Int) == 1) := by
        rw [← ekk]
        by_cases h : j = 1
        · rw [if_pos h, h]; rfl
        · rw [if_neg h]
          have : ((j : Int) == 1) = false := by simp; omega
          rw [this]
          rfl
      clear hf he ekk
      generalize oA j = P at *
      obtain ⟨P2, eP2⟩ : ∃ P, oA (j + 1) = P := ⟨_, rfl⟩
      rw [eP2] at HEN
      have HP2 := hide eP2
      clear eP2
      obtain ⟨b1, eb1⟩ : ∃ b, ((j : Int) == 1) = b := ⟨_, rfl⟩
      rw [eb1] at xk1
      have xb : (b1 != b1) = false := by simp
      obtain ⟨⟨p0, p1, p2⟩, ⟨pf0, pf1, pf2⟩, pl⟩ := block3 (unhide HPj)
      have HTB : Hid (T < wr.heap.size) := pl
      go_upto_region 10 with (go_at_call 7; refine (unhide HEN _ _ ⟨_, rfl, (unhide HWj).1⟩).mono ?_; rintro e w2 ⟨a2, c2, rfl, hn2', hb2⟩; have HN2 := hide (hn2'.base (Nat.succ_le_of_lt (unhide HTB))); have HX_1 := hide (Below.next (unhide HXj) hb2 (by first | exact Nat.le_refl _ | (have := unhide HBA; omega))); have Kp_1 := hide (keep_below (unhide HPj) hb2); clear HXj HPj; clear hb2 hn2' HWj p0 p1 p2 pf0 pf1 pf2 pl)
      obtain ⟨W3, eW3, hBW3, k0_2, k1_2⟩ := two_new w2 (.cells #[.int .i64 P2.1, .bool P2.2.1, .slice a2 P2.2.2.length c2] 25) (.cells #[.int .i64 0, .int .i64 0] 27)
      rw [eW3]
      clear eW3
      have hlp_m : T < w2.heap.size := size_of (unhide Kp_1)
      (have HX_2 := hide (Below.next (unhide HX_1) hBW3 (by first | exact Nat.le_refl _ | (have := unhide HBA; omega))); have Kp_2 := hide (keep_below (unhide Kp_1) hBW3); have FN_2 := hide ((unhide HN2).below hBW3); clear HX_1 Kp_1 HN2)
      obtain ⟨M, eM⟩ : ∃ X, w2.heap.size = X := ⟨_, rfl⟩
      rw [eM] at k0_2 k1_2 hlp_m ⊢
      have Km_2 := hide k0_2
      have Kf_2 := hide k1_2
      clear eM hBW3 k0_2 k1_2
      obtain ⟨⟨p0, p1, p2⟩, ⟨pf0, pf1, pf2⟩, pl⟩ := block3 (unhide Kp_2)
      obtain ⟨⟨m0, m1, m2⟩, ⟨mf0, mf1, mf2⟩, ml⟩ := block3 (unhide Km_2)
      obtain ⟨f0, f1, ff0, ff1, fl⟩ := block2 (unhide Kf_2)
      go_wp2_with fail
      clear p0 p1 p2 pf0 pf1 pf2 pl m0 m1 m2 mf0 mf1 mf2 ml f0 f1 ff0 ff1 fl
      have HBA : Hid (w.heap.size ≤ T) := unhide HTW
      have NN_3 := hide ((unhide FN_2).keep ki (fun k hk _ => putL_keep (y0 := .int .i64 P2.1) (y1 := .bool P2.2.1) (y2 := .slice a2 P2.2.2.length c2) (show k ≠ T by omega)))
      clear FN_2
      have HX_3 := hide (putL_below (y0 := .int .i64 P2.1) (y1 := .bool P2.2.1) (y2 := .slice a2 P2.2.2.length c2) (unhide HX_2) (show w.heap.size ≤ T by first | omega | (have := unhide HBA; omega)))
      have Kp_3 := hide (putL_new (y0 := .int .i64 P2.1) (y1 := .bool P2.2.1) (y2 := .slice a2 P2.2.2.length c2) (unhide Kp_2))
      have Km_3 := hide ((putL_keep (y0 := .int .i64 P2.1) (y1 := .bool P2.2.1) (y2 := .slice a2 P2.2.2.length c2) (show M ≠ T by omega)).trans (unhide Km_2))
      have Kf_3 := hide ((putL_keep (y0 := .int .i64 P2.1) (y1 := .bool P2.2.1) (y2 := .slice a2 P2.2.2.length c2) (show M + 1 ≠ T by omega)).trans (unhide Kf_2))
      obtain ⟨W4, eW4⟩ : ∃ X, putL W3 (T) (.int .i64 P2.1) (.bool P2.2.1) (.slice a2 P2.2.2.length c2) = X := ⟨_, rfl⟩
      rw [eW4] at HX_3 Kp_3 Km_3 Kf_3 NN_3
      have eW42 : (((W3).setCell ⟨T, 0, none⟩ (.int .i64 P2.1)).setCell ⟨T, 1, none⟩ (.bool P2.2.1)).setCell ⟨T, 2, none⟩ (.slice a2 P2.2.2.length c2) = W4 := eW4
      rw [eW42]
      clear eW4 eW42 HX_2 Kp_2 Km_2 Kf_2
      go_roundw
      case rel => exact ⟨j + 1, by omega, by omega, by go_num, a2, c2, by rw [unhide HP2]; exact Kp_3, by rw [unhide HP2]; exact NN_3, HX_3⟩
      case measure => simp [intOf]; omega
    · have hjn : j = n + 1 := by omega
      subst hjn
      have hcx : ¬ ((n + 1 : Nat) : Int) ≤ (n : Int) := by omega
      have hcx3 : ¬ (n : Int) + 1 ≤ (n : Int) := by omega
      have e : oA (n + 1) = (1, false, upTo 2 (n + 1)) := by unfold oA; rw [if_neg (by omega)]
      rw [e] at HPj HWj
      clear e
      have el : (upTo 2 (n + 1)).length = n - 1 := by rw [upTo_length]; omega
      simp only [el] at HPj HWj
      have HLV : Hid (∀ W v, IsO W v 1 false (upTo 2 (n + 1)) → Calls Try.prog 8 #[v, .int .i64 1] W fun e w' => ∃ a5 c5, e = .returned (.tuple #[.agg #[.int .i64 0, .bool true, .slice none 0 0], .slice a5 (n - 1) c5, .agg #[.int .i64 0, .int .i64 0]]) ∧ IsL KI w' (.slice a5 (n - 1) c5) (upTo 2 (n + 1)) ∧ Below W.heap.size W w') := fun W v hv => (end_ok W v 1 false _ 1 hv (by rw [oA_once (by omega)]) rfl (by omega)).mono fun e w' ⟨v2, h1, h3, h4⟩ => by
        obtain ⟨a5, c5, rfl⟩ := h3.1.form
        have h5 := h3.1
        simp only [el] at h1 h5
        exact ⟨a5, c5, h1, h5, h4⟩
      have HEL := hide el
      clear el
      obtain ⟨N, eN⟩ : ∃ N, n - 1 = N := ⟨_, rfl⟩
      rw [eN] at HPj HWj HLV HEL
      have hnN : (n : Int) - 1 = (N : Int) := by omega
      have xN : ((N : Int) != (N : Int)) = false := by simp
      have hwn : IntKind.i64.wrap ((n : Int) + 1) = (n : Int) + 1 := wrapi (by omega) (by omega)
      have hwl : IntKind.i64.wrap ((n : Int) + (l : Int)) = (n : Int) + (l : Int) := wrapi (by omega) (by omega)
      have hN60 : N ≤ 60 := by omega
      clear eN
      obtain ⟨⟨p0, p1, p2⟩, ⟨pf0, pf1, pf2⟩, pl⟩ := block3 (unhide HPj)
      go_upto_region 14 with (go_at_call 8; refine (unhide HLV _ _ ⟨_, rfl, (unhide HWj).1⟩).mono ?_; rintro e w2 ⟨a5, c5, rfl, hi5, hb2⟩; have HI5 := hide hi5; have HX_e1 := hide (Below.next (unhide HXj) hb2 (by first | exact Nat.le_refl _ | (have := unhide HBA; omega))); have Kp_e1 := hide (keep_below (unhide HPj) hb2); clear HXj HPj; clear hb2 hi5 HWj p0 p1 p2 pf0 pf1 pf2 pl)
      obtain ⟨W3, eW3, hBW3, k0_e2, k1_e2⟩ := two_new w2 (.cells #[.int .i64 0, .bool true, .slice none 0 0] 25) (.cells #[.int .i64 0, .int .i64 0] 27)
      rw [eW3]
      clear eW3
      have hlp_m : T < w2.heap.size := size_of (unhide Kp_e1)
      (have HX_e2 := hide (Below.next (unhide HX_e1) hBW3 (by first | exact Nat.le_refl _ | (have := unhide HBA; omega))); have Kp_e2 := hide (keep_below (unhide Kp_e1) hBW3); have FI_e2 := hide ((unhide HI5).below hBW3); clear HX_e1 Kp_e1 HI5)
      obtain ⟨M, eM⟩ : ∃ X, w2.heap.size = X := ⟨_, rfl⟩
      rw [eM] at k0_e2 k1_e2 hlp_m ⊢
      have Km_e2 := hide k0_e2
      have Kf_e2 := hide k1_e2
      clear eM hBW3 k0_e2 k1_e2
      obtain ⟨⟨m0, m1, m2⟩, ⟨mf0, mf1, mf2⟩, ml⟩ := block3 (unhide Km_e2)
      obtain ⟨f0, f1, ff0, ff1, fl⟩ := block2 (unhide Kf_e2)
      go_upto_region 16 with fail
      clear m0 m1 m2 mf0 mf1 mf2 ml f0 f1 ff0 ff1 fl
      have HOP := hide ((unhide FI_e2).opens ki (unhide HEL))
      go_wp2_with fail
      go_loopw [13] (fun i W => ∃ k : Nat, k ≤ N ∧ i = .int .i64 k ∧ W = W3) (fun i _ => N - (intOf i).toNat)
      case atStart => exact ⟨0, Nat.zero_le _, rfl, rfl⟩
      case round =>
        obtain ⟨k, hk, rfl, rfl⟩ := hrel
        by_cases hkm : k < N
        · obtain ⟨b0, o0, rfl, hb0, l0⟩ := unhide HOP (by omega)
          have k0 := l0.ints (j := k) (by rw [unhide HEL]; exact hkm)
          rw [upTo_get (by omega)] at k0
          have ek : ((2 + k : Nat) : Int) = (k : Int) + 2 := by omega
          rw [ek] at k0
          have xk : (((k : Int) + 2) != ((k : Int) + 2)) = false := by simp
          have hkm2 : (k : Int) < (N : Int) := by omega
          have i0 : (0 : Int) ≤ (k : Int) := by omega
          clear ek l0
          go_wp2_with fail
          go_roundw
          case rel => exact ⟨k + 1, by omega, by go_num, by first | rfl | trivial⟩
          case measure => simp [intOf]; omega
        · have hkm2 : ¬ (k : Int) < (N : Int) := by omega
          have HB2 : Hid (∀ W x, 1 ≤ x → Calls Try.prog 7 #[.agg #[.int .i64 0, .bool true, .slice none 0 0], .int .i64 x] W fun e w' => ∃ a' c', e = .returned (.tuple #[.agg #[.int .i64 0, .bool true, .slice a' 0 c'], .int .i64 2, .agg #[.int .i64 0, .int .i64 0]]) ∧ IsL KI w' (.slice a' 0 c') [] ∧ Below W.heap.size W w') := fun W x hx => (begin_ok W _ 0 true [] x (zero_o W 0 true) (oB_begin hx).1).mono fun e w' ⟨v1, h1, h2, h3⟩ => by
            rw [(oB_begin hx).2] at h1 h2
            obtain ⟨a', c', rfl, h4⟩ := h2.form
            exact ⟨a', c', h1, h4.1, h3⟩
          go_wp2_with fail
          go_loopw [14] (fun i W => ∃ j : Nat, n + 1 ≤ j ∧ j ≤ n + l + 1 ∧ i = .int .i64 j ∧ Hid (W.heap[M]? = some (.cells #[.int .i64 0, .bool true, .slice none 0 0] 25)) ∧ Hid (Below w.heap.size w W)) (fun i _ => n + l + 1 - (intOf i).toNat)
          case atStart => exact ⟨n + 1, Nat.le_refl _, by omega, by go_num, Km_e2, HX_e2⟩
          case round =>
            obtain ⟨j, hj1', hj2', rfl, HM, HXq⟩ := hrel
            by_cases hlt : j ≤ n + l
            · have hlt2 : (j : Int) ≤ (n : Int) + (l : Int) := by omega
              have HB3 := hide (fun W => unhide HB2 W (j : Int) (by omega))
              obtain ⟨⟨m0, m1, m2⟩, ⟨mf0, mf1, mf2⟩, ml⟩ := block3 (unhide HM)
              go_upto_region 25 with (go_at_call 7; refine (unhide HB3 _).mono ?_; rintro e w2 ⟨a6, c6, rfl, hi6, hb2⟩; have HI6 := hide hi6; have HX_g1 := hide (Below.next (unhide HXq) hb2 (by first | exact Nat.le_refl _ | (have := unhide HBA; omega))); have Km_g1 := hide (keep_below (unhide HM) hb2); clear HXq HM; clear hb2 hi6 m0 m1 m2 mf0 mf1 mf2 ml)
              obtain ⟨W7, eW7, hBW7, k0_g2, k1_g2⟩ := two_new w2 (.cells #[.int .i64 0, .bool true, .slice a6 0 c6] 25) (.cells #[.int .i64 0, .int .i64 0] 27)
              rw [eW7]
              clear eW7
              have hlm_q : M < w2.heap.size := size_of (unhide Km_g1)
              (have HX_g2 := hide (Below.next (unhide HX_g1) hBW7 (by first | exact Nat.le_refl _ | (have := unhide HBA; omega))); have Km_g2 := hide (keep_below (unhide Km_g1) hBW7); have FI_g2 := hide ((unhide HI6).below hBW7); clear HX_g1 Km_g1 HI6)
              obtain ⟨M2, eM2⟩ : ∃ X, w2.heap.size = X := ⟨_, rfl⟩
              rw [eM2] at k0_g2 k1_g2 hlm_q ⊢
              have Kq_g2 := hide k0_g2
              have Kf_g2 := hide k1_g2
              clear eM2 hBW7 k0_g2 k1_g2
              obtain ⟨⟨m0, m1, m2⟩, ⟨mf0, mf1, mf2⟩, ml⟩ := block3 (unhide Km_g2)
              obtain ⟨⟨q0, q1, q2⟩, ⟨qf0, qf1, qf2⟩, ql⟩ := block3 (unhide Kq_g2)
              obtain ⟨f0, f1, ff0, ff1, fl⟩ := block2 (unhide Kf_g2)
              go_wp2_with (go_at_call 9; refine (sameOnce_any _ _ _ 0 true [] ⟨_, rfl, unhide FI_g2⟩ (zero_o _ 0 true) (by simp [maxLen])).mono ?_; rintro e w4 ⟨rfl, hb4⟩; have HX_g3 := hide (Below.next (unhide HX_g2) hb4 (by first | exact Nat.le_refl _ | (have := unhide HBA; omega))); have Km_g3 := hide (keep_below (unhide Km_g2) hb4); have Kq_g3 := hide (keep_below (unhide Kq_g2) hb4); have Kf_g3 := hide (keep_below (unhide Kf_g2) hb4); have FI_g3 := hide ((unhide FI_g2).below hb4); clear HX_g2 Km_g2 Kq_g2 Kf_g2 FI_g2; clear hb4 m0 m1 m2 mf0 mf1 mf2 ml q0 q1 q2 qf0 qf1 qf2 ql f0 f1 ff0 ff1 fl)
              go_roundw
              case rel => exact ⟨j + 1, by omega, by omega, by go_num, Km_g3, HX_g3⟩
              case measure => simp [intOf]; omega
            · have hcx5 : ¬ (j : Int) ≤ (n : Int) + (l : Int) := by omega
              go_wp2_with fail
              go_ret
              exact ⟨rfl, unhide HXq⟩
end Go.Proofs.Ytpogcfdmkeebmab
