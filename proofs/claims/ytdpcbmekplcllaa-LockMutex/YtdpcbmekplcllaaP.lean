/-
  taskmilllaw.LockMutex.
-/
import Derived.Test.YtdpcbmekplcllaaBe
namespace Go.Proofs.Ytdpcbmekplcllaa
open Go.RowKit

/-- Writers that wait: the tasks a to b - 1. -/
def wline (a b : Nat) : List Po := (List.range (b - a)).map fun i => (((a + i : Nat) : Int), true, 0)
theorem wline_nil {a b : Nat} (h : b ≤ a) : wline a b = [] := by
  unfold wline
  rw [Nat.sub_eq_zero_of_le h]
  rfl
theorem wline_cons {a b : Nat} (h : a < b) : wline a b = ((a : Int), true, 0) :: wline (a + 1) b := by
  unfold wline
  obtain ⟨d, rfl⟩ : ∃ d, b = a + 1 + d := ⟨b - a - 1, by omega⟩
  rw [show a + 1 + d - a = d + 1 by omega, show a + 1 + d - (a + 1) = d by omega, List.range_succ_eq_map, List.map_cons, List.map_map]
  congr 1
  apply List.map_congr_left
  intro i _
  simp only [Function.comp]
  congr 1
  omega
theorem wline_snoc {a b : Nat} (h : a ≤ b) : wline a (b + 1) = wline a b ++ [((b : Int), true, 0)] := by
  unfold wline
  rw [show b + 1 - a = b - a + 1 by omega, List.range_succ, List.map_append]
  simp only [List.map_cons, List.map_nil]
  congr 4
  omega
theorem wline_length (a b : Nat) : (wline a b).length = b - a := by simp [wline]
theorem wline_tasks (a b : Nat) : tasks (wline a b) = (List.range (b - a)).map fun i => ((a + i : Nat) : Int) := by
  unfold tasks wline
  rw [List.map_map]
  rfl
theorem wline_mem {a b : Nat} {x : Int} : x ∈ tasks (wline a b) ↔ (a : Int) ≤ x ∧ x < b := by
  rw [wline_tasks, List.mem_map]
  constructor
  · rintro ⟨i, hi, rfl⟩
    rw [List.mem_range] at hi
    omega
  · rintro ⟨h1, h2⟩
    exact ⟨(x - a).toNat, by rw [List.mem_range]; omega, by omega⟩
theorem wline_good {a b : Nat} (ha : 1 ≤ a) (hb : b ≤ 1000) : GoodP ⟨0, true, wline a b⟩ := by
  refine ⟨by rw [wline_length]; omega, by simp, by simp, fun _ => rfl, lets_true _ _, fun x hx => ?_, ?_⟩
  · simp only [wline, List.mem_map, List.mem_range] at hx
    obtain ⟨i, hi, rfl⟩ := hx
    exact ⟨by simp only; omega, rfl⟩
  · simp only [wline_tasks]
    refine List.Pairwise.map _ ?_ List.nodup_range
    intro i j hij h
    exact hij (by omega)
theorem mutex_first : enterF zeroL 1 = (0, 0) ∧ enterR zeroL 1 true false = (⟨0, true, wline 2 2⟩, true) := by
  refine ⟨by decide, ?_⟩
  have := enterR_in (r := 0) (b := false) (x := 1) (wt := true) (by rfl) false
  simpa [zeroL, wline] using this
theorem mutex_next {k : Nat} (h1 : 1 ≤ k) (h2 : k ≤ 100) : enterF ⟨0, true, wline 2 (k + 1)⟩ ((k + 1 : Nat) : Int) = (0, 0) ∧ enterR ⟨0, true, wline 2 (k + 1)⟩ ((k + 1 : Nat) : Int) true false = (⟨0, true, wline 2 (k + 2)⟩, false) := by
  constructor
  · refine (wline_good (by omega) (by omega)).enter (by omega) ?_ ?_ (by simp)
    · rw [wline_mem]; omega
    · rw [wline_length]; omega
  · rw [enterR_wait (by exact lets_true _ _), wline_snoc (b := k + 1) (by omega)]
theorem mutex_leave {j n : Nat} (h2 : j ≤ n + 1) (h1 : 1 ≤ j) (hn : n ≤ 100) : (lockF ⟨0, true, wline j (n + 1)⟩).1 = 0 ∧ leaveR ⟨0, true, wline j (n + 1)⟩ true = if j ≤ n then ((⟨0, true, wline (j + 1) (n + 1)⟩, [(j : Int)]), false) else ((zeroL, []), false) := by
  refine ⟨(wline_good h1 (by omega)).zero, ?_⟩
  unfold leaveR
  rw [if_pos ⟨rfl, rfl⟩]
  by_cases h : j ≤ n
  · rw [if_pos h]
    simp only
    rw [wline_cons (by omega), admR_go (by rfl)]
    simp only [if_true]
    rw [admR_stay (lets_true _ _)]
  · rw [if_neg h, wline_nil (by omega)]
    rfl
theorem mutex_last : (lockF zeroL).1 = 0 ∧ leaveR zeroL true = ((zeroL, []), true) := ⟨by decide, rfl⟩
/-- The lock ahead of each Enter, and of each Leave. -/
def mutA (j : Nat) : Lk := if j = 1 then zeroL else ⟨0, true, wline 2 j⟩
def mutB (n j : Nat) : Lk := if j ≤ n + 1 then ⟨0, true, wline j (n + 1)⟩ else zeroL
theorem mutA_enter {j : Nat} (h1 : 1 ≤ j) (h2 : j ≤ 100) : (enterF (mutA j) (j : Int)).1 = 0 ∧ enterR (mutA j) (j : Int) true false = (mutA (j + 1), (j : Int) == 1) := by
  unfold mutA
  by_cases h : j = 1
  · subst h
    rw [if_pos rfl, if_neg (by omega)]
    exact ⟨by rw [show ((1 : Nat) : Int) = 1 from rfl, mutex_first.1], mutex_first.2⟩
  · rw [if_neg h, if_neg (by omega)]
    obtain ⟨k, rfl⟩ : ∃ k, j = k + 1 := ⟨j - 1, by omega⟩
    have := mutex_next (k := k) (by omega) (by omega)
    refine ⟨by rw [this.1], this.2.trans ?_⟩
    congr 1
    symm
    simp
    omega
theorem mutB_leave {n j : Nat} (h1 : 1 ≤ j) (h2 : j ≤ n + 1) (hn : n ≤ 100) : (lockF (mutB n j)).1 = 0 ∧ leaveR (mutB n j) true = ((mutB n (j + 1), if j ≤ n then [(j : Int)] else []), false) := by
  unfold mutB
  rw [if_pos h2]
  have := mutex_leave h2 h1 hn
  refine ⟨this.1, this.2.trans ?_⟩
  by_cases h : j ≤ n
  · rw [if_pos h, if_pos h, if_pos (by omega)]
  · rw [if_neg h, if_neg h, if_neg (by omega)]

set_option maxRecDepth 100000 in
set_option maxHeartbeats 4000000 in
theorem mutex_walk (w : World) (x : Int) : Calls Try.prog 6 #[.int .i64 x] w fun e w' => e = .returned (.bool true) ∧ Below w.heap.size w w' := by
  have hnot : ∀ (x : Bool) (w : World), (Op.unary .not (.bool x)).run Try.prog w = .ok (.bool (!x)) w := fun _ _ => rfl
  by_cases hx0 : x < 1
  · go_enter Try.func6, Try.ntmps6
    go_wp2_with (go_at_call 8; refine (begun_any _).mono ?_; rintro e w1 ⟨rfl, hb1⟩; have HX := hide hb1; clear hb1)
    go_ret
    exact ⟨rfl, unhide HX⟩
  by_cases hx1 : 100 < x
  · go_enter Try.func6, Try.ntmps6
    go_wp2_with (go_at_call 8; refine (begun_any _).mono ?_; rintro e w1 ⟨rfl, hb1⟩; have HX := hide hb1; clear hb1)
    go_ret
    exact ⟨rfl, unhide HX⟩
  obtain ⟨n, rfl⟩ : ∃ n : Nat, x = (n : Int) := ⟨x.toNat, by omega⟩
  have hn1 : 1 ≤ n := by omega
  have hn2 : n ≤ 100 := by omega
  clear hx0 hx1
  go_enter Try.func6, Try.ntmps6
  have hc1 : ¬ (n : Int) < 1 := by omega
  have hc2 : ¬ (100 : Int) < (n : Int) := by omega
  have hwn : IntKind.i64.wrap ((n : Int) + 1) = (n : Int) + 1 := wrapi (by omega) (by omega)
  go_upto_region 5 with (go_at_call 8; refine (begun_any _).mono ?_; rintro e w1 ⟨rfl, hb1⟩; have HX := hide hb1; clear hb1)
  go_upto_region 6 with fail
  have htw : w.heap.size ≤ w1.heap.size := (unhide HX).size
  have HX_1 := hide ((unhide HX).alloc (Nat.le_trans (show w.heap.size ≤ w.heap.size from Nat.le_refl _) (unhide HX).size) (.cells #[.int .i64 0, .bool false, .slice none 0 0] 24))
  have Kp_1 := hide (new_block w1 (.cells #[.int .i64 0, .bool false, .slice none 0 0] 24))
  obtain ⟨T, eT⟩ : ∃ X, w1.heap.size = X := ⟨_, rfl⟩
  obtain ⟨W2, eW2⟩ : ∃ X, w1.alloc (.cells #[.int .i64 0, .bool false, .slice none 0 0] 24) = X := ⟨_, rfl⟩
  rw [eT, eW2] at Kp_1; rw [eW2] at HX_1; rw [eT] at htw; rw [eT, eW2]
  clear eT eW2 HX
  have HTW := hide htw
  clear htw
  go_wp2_with fail
  go_loopw [4] (fun i W => ∃ j : Nat, 1 ≤ j ∧ j ≤ n + 1 ∧ i = .int .i64 j ∧ ∃ (a : Option Addr) (c : Nat), Hid (W.heap[T]? = some (.cells #[.int .i64 (mutA j).readers, .bool (mutA j).writer, .slice a (mutA j).line.length c] 24)) ∧ Hid (New KP (T + 1) W (.slice a (mutA j).line.length c) (mutA j).line) ∧ Hid (Below w.heap.size w W)) (fun i _ => n + 1 - (intOf i).toNat)
  case atStart => exact ⟨1, Nat.le_refl _, by omega, rfl, none, 0, Kp_1, new_nil _ _, HX_1⟩
  case round =>
    obtain ⟨j, hj1, hj2, rfl, a, c, HPj, HWj, HXj⟩ := hrel
    clear Kp_1 HX_1
    by_cases hlt : j ≤ n
    · have hlt2 : (j : Int) ≤ (n : Int) := by omega
      obtain ⟨hf, he⟩ := mutA_enter hj1 (show j ≤ 100 by omega)
      have HEN : Hid (∀ W v, IsLock W v (mutA j) → Calls Try.prog 11 #[v, .int .i64 j, .bool true, .bool false] W fun e w' => ∃ a' c', e = .returned (.tuple #[.agg #[.int .i64 (mutA (j + 1)).readers, .bool (mutA (j + 1)).writer, .slice a' (mutA (j + 1)).line.length c'], .bool ((j : Int) == 1), .agg #[.int .i64 0, .int .i64 0]]) ∧ New KP W.heap.size w' (.slice a' (mutA (j + 1)).line.length c') (mutA (j + 1)).line ∧ Below W.heap.size W w') := fun W v hv => (enter_ok W v (mutA j) j true false hv hf).mono fun e w' ⟨v1, h1, h2, h3⟩ => by
        rw [he] at h1 h2
        obtain ⟨a', c', rfl, h4⟩ := h2.form
        exact ⟨a', c', h1, h4, h3⟩
      clear hf he
      generalize mutA j = P at *
      obtain ⟨P2, eP2⟩ : ∃ P, mutA (j + 1) = P := ⟨_, rfl⟩
      rw [eP2] at HEN
      have HP2 := hide eP2
      clear eP2
      obtain ⟨b1, eb1⟩ : ∃ b, ((j : Int) == 1) = b := ⟨_, rfl⟩
      rw [eb1] at HEN
      have xb : (b1 != b1) = false := by simp
      obtain ⟨⟨p0, p1, p2⟩, ⟨pf0, pf1, pf2⟩, pl⟩ := block3 (unhide HPj)
      have hTT : T < wr.heap.size := pl
      have HTB : Hid (T < wr.heap.size) := pl
      go_upto_region 10 with (go_at_call 11; refine (unhide HEN _ _ ⟨_, rfl, (unhide HWj).1⟩).mono ?_; rintro e w2 ⟨a2, c2, rfl, hn2', hb2⟩; have HN2 := hide (hn2'.base (Nat.succ_le_of_lt (unhide HTB))); have HX_1 := hide (Below.next (unhide HXj) hb2 (by first | exact Nat.le_refl _ | (have := unhide HBA; omega))); have Kp_1 := hide (keep_below (unhide HPj) hb2); clear HXj HPj; clear hb2 hn2' HWj p0 p1 p2 pf0 pf1 pf2 pl)
      obtain ⟨W3, eW3, hBW3, k0_2, k1_2⟩ := two_new w2 (.cells #[.int .i64 P2.readers, .bool P2.writer, .slice a2 P2.line.length c2] 24) (.cells #[.int .i64 0, .int .i64 0] 28)
      rw [eW3]
      clear eW3
      have hlp_m : T < w2.heap.size := size_of (unhide Kp_1)
      (have HX_2 := hide (Below.next (unhide HX_1) hBW3 (by first | exact Nat.le_refl _ | (have := unhide HBA; omega))); have Kp_2 := hide (keep_below (unhide Kp_1) hBW3); have FN_2 := hide ((unhide HN2).below hBW3); clear HX_1 Kp_1 HN2)
      obtain ⟨M, eM⟩ : ∃ X, w2.heap.size = X := ⟨_, rfl⟩
      rw [eM] at k0_2 k1_2 hlp_m ⊢
      have Km_2 := hide k0_2
      have Kf_2 := hide k1_2
      clear eM hBW3 k0_2 k1_2
      obtain ⟨⟨p0, p1, p2⟩, ⟨pf0, pf1, pf2⟩, pl⟩ := block3 (unhide Kp_2)
      obtain ⟨⟨m0, m1, m2⟩, ⟨mf0, mf1, mf2⟩, ml⟩ := block3 (unhide Km_2)
      obtain ⟨f0, f1, ff0, ff1, fl⟩ := block2 (unhide Kf_2)
      go_wp2_with fail
      clear p0 p1 p2 pf0 pf1 pf2 pl m0 m1 m2 mf0 mf1 mf2 ml f0 f1 ff0 ff1 fl
      have HBA : Hid (w.heap.size ≤ T) := unhide HTW
      have NN_3 := hide ((unhide FN_2).keep kp (fun k hk _ => putL_keep (y0 := .int .i64 P2.readers) (y1 := .bool P2.writer) (y2 := .slice a2 P2.line.length c2) (show k ≠ T by omega)))
      clear FN_2
      have HX_3 := hide (putL_below (y0 := .int .i64 P2.readers) (y1 := .bool P2.writer) (y2 := .slice a2 P2.line.length c2) (unhide HX_2) (show w.heap.size ≤ T by first | omega | (have := unhide HBA; omega)))
      have Kp_3 := hide (putL_new (y0 := .int .i64 P2.readers) (y1 := .bool P2.writer) (y2 := .slice a2 P2.line.length c2) (unhide Kp_2))
      have Km_3 := hide ((putL_keep (y0 := .int .i64 P2.readers) (y1 := .bool P2.writer) (y2 := .slice a2 P2.line.length c2) (show M ≠ T by omega)).trans (unhide Km_2))
      have Kf_3 := hide ((putL_keep (y0 := .int .i64 P2.readers) (y1 := .bool P2.writer) (y2 := .slice a2 P2.line.length c2) (show M + 1 ≠ T by omega)).trans (unhide Kf_2))
      obtain ⟨W4, eW4⟩ : ∃ X, putL W3 (T) (.int .i64 P2.readers) (.bool P2.writer) (.slice a2 P2.line.length c2) = X := ⟨_, rfl⟩
      rw [eW4] at HX_3 Kp_3 Km_3 Kf_3 NN_3
      have eW42 : (((W3).setCell ⟨T, 0, none⟩ (.int .i64 P2.readers)).setCell ⟨T, 1, none⟩ (.bool P2.writer)).setCell ⟨T, 2, none⟩ (.slice a2 P2.line.length c2) = W4 := eW4
      rw [eW42]
      clear eW4 eW42 HX_2 Kp_2 Km_2 Kf_2
      go_roundw
      case rel => exact ⟨j + 1, by omega, by omega, by go_num, a2, c2, by rw [unhide HP2]; exact Kp_3, by rw [unhide HP2]; exact NN_3, HX_3⟩
      case measure => simp [intOf]; omega
    · have hjn : j = n + 1 := by omega
      subst hjn
      have hcx : ¬ ((n + 1 : Nat) : Int) ≤ (n : Int) := by omega
      have hcx3 : ¬ (n : Int) + 1 ≤ (n : Int) := by omega
      go_wp2_with fail
      go_loopw [8] (fun i W => ∃ j : Nat, 2 ≤ j ∧ j ≤ n + 2 ∧ i = .int .i64 j ∧ ∃ (a : Option Addr) (c : Nat), Hid (W.heap[T]? = some (.cells #[.int .i64 (mutB n j).readers, .bool (mutB n j).writer, .slice a (mutB n j).line.length c] 24)) ∧ Hid (New KP (T + 1) W (.slice a (mutB n j).line.length c) (mutB n j).line) ∧ Hid (Below w.heap.size w W)) (fun i _ => n + 2 - (intOf i).toNat)
      case atStart =>
        have e : mutA (n + 1) = mutB n 2 := by unfold mutA mutB; rw [if_neg (by omega), if_pos (by omega)]
        rw [e] at HPj HWj
        exact ⟨2, Nat.le_refl _, by omega, rfl, a, c, HPj, HWj, HXj⟩
      case round =>
        obtain ⟨j, hj1, hj2', rfl, a, c, HPj, HWj, HXj⟩ := hrel
        by_cases hlt : j ≤ n + 1
        · have hlt2 : (j : Int) ≤ (n : Int) + 1 := by omega
          obtain ⟨hf, he⟩ := mutB_leave (n := n) (j := j) (by omega) hlt hn2
          have HLV : Hid (∀ W v, IsLock W v (mutB n j) → Calls Try.prog 20 #[v, .bool true] W fun e w' => ∃ a' c' a5 c5, e = .returned (.tuple #[.agg #[.int .i64 (mutB n (j + 1)).readers, .bool (mutB n (j + 1)).writer, .slice a' (mutB n (j + 1)).line.length c'], .slice a5 (if j ≤ n then [(j : Int)] else []).length c5, .bool false, .agg #[.int .i64 0, .int .i64 0]]) ∧ New KP W.heap.size w' (.slice a' (mutB n (j + 1)).line.length c') (mutB n (j + 1)).line ∧ IsL KI w' (.slice a5 (if j ≤ n then [(j : Int)] else []).length c5) (if j ≤ n then [(j : Int)] else []) ∧ Below W.heap.size W w') := fun W v hv => (leave_ok W v (mutB n j) true hv hf).mono fun e w' ⟨v1, v2, h1, h2, h3, h4⟩ => by
            rw [he] at h1 h2 h3
            obtain ⟨a', c', rfl, h5⟩ := h2.form
            obtain ⟨a5, c5, rfl⟩ := h3.1.form
            exact ⟨a', c', a5, c5, h1, h5, h3.1, h4⟩
          clear hf he
          generalize mutB n j = P at *
          obtain ⟨P2, eP2⟩ : ∃ P, mutB n (j + 1) = P := ⟨_, rfl⟩
          rw [eP2] at HLV
          have HP2 := hide eP2
          clear eP2
          by_cases hle : j ≤ n
          · rw [if_pos hle] at HLV
            simp only [List.length_cons, List.length_nil, Nat.zero_add] at HLV
            have hd1 : (j : Int) ≤ (n : Int) := by omega
            have hd2 : ¬ (n : Int) < (j : Int) := by omega
            obtain ⟨⟨p0, p1, p2⟩, ⟨pf0, pf1, pf2⟩, pl⟩ := block3 (unhide HPj)
            have HTB : Hid (T < wr.heap.size) := pl
            go_upto_region 17 with (go_at_call 20; refine (unhide HLV _ _ ⟨_, rfl, (unhide HWj).1⟩).mono ?_; rintro e w2 ⟨a2, c2, a5, c5, rfl, hn2', hi5, hb2⟩; have HN2 := hide (hn2'.base (Nat.succ_le_of_lt (unhide HTB))); have HI5 := hide hi5; have HX_x1 := hide (Below.next (unhide HXj) hb2 (by first | exact Nat.le_refl _ | (have := unhide HBA; omega))); have Kp_x1 := hide (keep_below (unhide HPj) hb2); clear HXj HPj; clear hb2 hn2' hi5 HWj p0 p1 p2 pf0 pf1 pf2 pl)
            obtain ⟨W3, eW3, hBW3, k0_x2, k1_x2⟩ := two_new w2 (.cells #[.int .i64 P2.readers, .bool P2.writer, .slice a2 P2.line.length c2] 24) (.cells #[.int .i64 0, .int .i64 0] 28)
            rw [eW3]
            clear eW3
            have hlp_m : T < w2.heap.size := size_of (unhide Kp_x1)
            (have HX_x2 := hide (Below.next (unhide HX_x1) hBW3 (by first | exact Nat.le_refl _ | (have := unhide HBA; omega))); have Kp_x2 := hide (keep_below (unhide Kp_x1) hBW3); have FN_x2 := hide ((unhide HN2).below hBW3); have FI_x2 := hide ((unhide HI5).below hBW3); clear HX_x1 Kp_x1 HN2 HI5)
            obtain ⟨M, eM⟩ : ∃ X, w2.heap.size = X := ⟨_, rfl⟩
            rw [eM] at k0_x2 k1_x2 hlp_m ⊢
            have Km_x2 := hide k0_x2
            have Kf_x2 := hide k1_x2
            clear eM hBW3 k0_x2 k1_x2
            obtain ⟨f0, f1, ff0, ff1, fl⟩ := block2 (unhide Kf_x2)
            have HI6 := hide (isl_one ki W3 (j : Int))
            have HI7 := hide ((unhide FI_x2).below ((Below.refl _ _).alloc (Nat.le_refl _) (.cells #[.int .i64 (j : Int)] 3)))
            have HAL : Hid (Below W3.heap.size W3 (W3.alloc (.cells #[.int .i64 (j : Int)] 3))) := (Below.refl _ _).alloc (Nat.le_refl _) (.cells #[.int .i64 (j : Int)] 3)
            go_upto_region 19 with (go_at_call 22; refine (ints_same _ _ _ [(j : Int)] (unhide HI7) (unhide HI6) (by simp [maxLen])).mono ?_; rintro e w4 ⟨rfl, hb4⟩; have hb5 := Below.next (unhide HAL) hb4 (Nat.le_refl _); have HX_x3 := hide (Below.next (unhide HX_x2) hb5 (by first | exact Nat.le_refl _ | (have := unhide HBA; omega))); have Kp_x3 := hide (keep_below (unhide Kp_x2) hb5); have Km_x3 := hide (keep_below (unhide Km_x2) hb5); have Kf_x3 := hide (keep_below (unhide Kf_x2) hb5); have FN_x3 := hide ((unhide FN_x2).below hb5); clear HX_x2 Kp_x2 Km_x2 Kf_x2 FN_x2; clear hb4 hb5 f0 f1 ff0 ff1 fl)
            clear HI6 HI7 HAL FI_x2
            obtain ⟨⟨p0, p1, p2⟩, ⟨pf0, pf1, pf2⟩, pl⟩ := block3 (unhide Kp_x3)
            obtain ⟨⟨m0, m1, m2⟩, ⟨mf0, mf1, mf2⟩, ml⟩ := block3 (unhide Km_x3)
            go_wp2_with fail
            clear p0 p1 p2 pf0 pf1 pf2 pl m0 m1 m2 mf0 mf1 mf2 ml
            have HBA : Hid (w.heap.size ≤ T) := unhide HTW
            have NN_x4 := hide ((unhide FN_x3).keep kp (fun k hk _ => putL_keep (y0 := .int .i64 P2.readers) (y1 := .bool P2.writer) (y2 := .slice a2 P2.line.length c2) (show k ≠ T by omega)))
            clear FN_x3
            have HX_x4 := hide (putL_below (y0 := .int .i64 P2.readers) (y1 := .bool P2.writer) (y2 := .slice a2 P2.line.length c2) (unhide HX_x3) (show w.heap.size ≤ T by first | omega | (have := unhide HBA; omega)))
            have Kp_x4 := hide (putL_new (y0 := .int .i64 P2.readers) (y1 := .bool P2.writer) (y2 := .slice a2 P2.line.length c2) (unhide Kp_x3))
            have Km_x4 := hide ((putL_keep (y0 := .int .i64 P2.readers) (y1 := .bool P2.writer) (y2 := .slice a2 P2.line.length c2) (show M ≠ T by omega)).trans (unhide Km_x3))
            have Kf_x4 := hide ((putL_keep (y0 := .int .i64 P2.readers) (y1 := .bool P2.writer) (y2 := .slice a2 P2.line.length c2) (show M + 1 ≠ T by omega)).trans (unhide Kf_x3))
            obtain ⟨W5, eW5⟩ : ∃ X, putL w4 (T) (.int .i64 P2.readers) (.bool P2.writer) (.slice a2 P2.line.length c2) = X := ⟨_, rfl⟩
            rw [eW5] at HX_x4 Kp_x4 Km_x4 Kf_x4 NN_x4
            have eW52 : (((w4).setCell ⟨T, 0, none⟩ (.int .i64 P2.readers)).setCell ⟨T, 1, none⟩ (.bool P2.writer)).setCell ⟨T, 2, none⟩ (.slice a2 P2.line.length c2) = W5 := eW5
            rw [eW52]
            clear eW5 eW52 HX_x3 Kp_x3 Km_x3 Kf_x3
            go_roundw
            case rel => exact ⟨j + 1, by omega, by omega, by go_num, a2, c2, by rw [unhide HP2]; exact Kp_x4, by rw [unhide HP2]; exact NN_x4, HX_x4⟩
            case measure => simp [intOf]; omega
          · rw [if_neg hle] at HLV
            simp only [List.length_nil] at HLV
            have hd1 : ¬ (j : Int) ≤ (n : Int) := by omega
            have hd2 : (n : Int) < (j : Int) := by omega
            obtain ⟨⟨p0, p1, p2⟩, ⟨pf0, pf1, pf2⟩, pl⟩ := block3 (unhide HPj)
            have HTB : Hid (T < wr.heap.size) := pl
            go_upto_region 17 with (go_at_call 20; refine (unhide HLV _ _ ⟨_, rfl, (unhide HWj).1⟩).mono ?_; rintro e w2 ⟨a2, c2, a5, c5, rfl, hn2', hi5, hb2⟩; have HN2 := hide (hn2'.base (Nat.succ_le_of_lt (unhide HTB))); have HI5 := hide hi5; have HX_y1 := hide (Below.next (unhide HXj) hb2 (by first | exact Nat.le_refl _ | (have := unhide HBA; omega))); have Kp_y1 := hide (keep_below (unhide HPj) hb2); clear HXj HPj; clear hb2 hn2' hi5 HWj p0 p1 p2 pf0 pf1 pf2 pl)
            obtain ⟨W3, eW3, hBW3, k0_y2, k1_y2⟩ := two_new w2 (.cells #[.int .i64 P2.readers, .bool P2.writer, .slice a2 P2.line.length c2] 24) (.cells #[.int .i64 0, .int .i64 0] 28)
            rw [eW3]
            clear eW3
            have hlp_m : T < w2.heap.size := size_of (unhide Kp_y1)
            (have HX_y2 := hide (Below.next (unhide HX_y1) hBW3 (by first | exact Nat.le_refl _ | (have := unhide HBA; omega))); have Kp_y2 := hide (keep_below (unhide Kp_y1) hBW3); have FN_y2 := hide ((unhide HN2).below hBW3); have FI_y2 := hide ((unhide HI5).below hBW3); clear HX_y1 Kp_y1 HN2 HI5)
            obtain ⟨M, eM⟩ : ∃ X, w2.heap.size = X := ⟨_, rfl⟩
            rw [eM] at k0_y2 k1_y2 hlp_m ⊢
            have Km_y2 := hide k0_y2
            have Kf_y2 := hide k1_y2
            clear eM hBW3 k0_y2 k1_y2
            obtain ⟨f0, f1, ff0, ff1, fl⟩ := block2 (unhide Kf_y2)
            go_upto_region 19 with fail
            clear f0 f1 ff0 ff1 fl FI_y2
            obtain ⟨⟨p0, p1, p2⟩, ⟨pf0, pf1, pf2⟩, pl⟩ := block3 (unhide Kp_y2)
            obtain ⟨⟨m0, m1, m2⟩, ⟨mf0, mf1, mf2⟩, ml⟩ := block3 (unhide Km_y2)
            go_wp2_with fail
            clear p0 p1 p2 pf0 pf1 pf2 pl m0 m1 m2 mf0 mf1 mf2 ml
            have HBA : Hid (w.heap.size ≤ T) := unhide HTW
            have NN_y3 := hide ((unhide FN_y2).keep kp (fun k hk _ => putL_keep (y0 := .int .i64 P2.readers) (y1 := .bool P2.writer) (y2 := .slice a2 P2.line.length c2) (show k ≠ T by omega)))
            clear FN_y2
            have HX_y3 := hide (putL_below (y0 := .int .i64 P2.readers) (y1 := .bool P2.writer) (y2 := .slice a2 P2.line.length c2) (unhide HX_y2) (show w.heap.size ≤ T by first | omega | (have := unhide HBA; omega)))
            have Kp_y3 := hide (putL_new (y0 := .int .i64 P2.readers) (y1 := .bool P2.writer) (y2 := .slice a2 P2.line.length c2) (unhide Kp_y2))
            have Km_y3 := hide ((putL_keep (y0 := .int .i64 P2.readers) (y1 := .bool P2.writer) (y2 := .slice a2 P2.line.length c2) (show M ≠ T by omega)).trans (unhide Km_y2))
            have Kf_y3 := hide ((putL_keep (y0 := .int .i64 P2.readers) (y1 := .bool P2.writer) (y2 := .slice a2 P2.line.length c2) (show M + 1 ≠ T by omega)).trans (unhide Kf_y2))
            obtain ⟨W5, eW5⟩ : ∃ X, putL W3 (T) (.int .i64 P2.readers) (.bool P2.writer) (.slice a2 P2.line.length c2) = X := ⟨_, rfl⟩
            rw [eW5] at HX_y3 Kp_y3 Km_y3 Kf_y3 NN_y3
            have eW52 : (((W3).setCell ⟨T, 0, none⟩ (.int .i64 P2.readers)).setCell ⟨T, 1, none⟩ (.bool P2.writer)).setCell ⟨T, 2, none⟩ (.slice a2 P2.line.length c2) = W5 := eW5
            rw [eW52]
            clear eW5 eW52 HX_y2 Kp_y2 Km_y2 Kf_y2
            go_roundw
            case rel => exact ⟨j + 1, by omega, by omega, by go_num, a2, c2, by rw [unhide HP2]; exact Kp_y3, by rw [unhide HP2]; exact NN_y3, HX_y3⟩
            case measure => simp [intOf]; omega
        · have hjn : j = n + 2 := by omega
          subst hjn
          have hcx2 : ¬ ((n + 2 : Nat) : Int) ≤ (n : Int) + 1 := by omega
          have hcx4 : ¬ (n : Int) + 2 ≤ (n : Int) + 1 := by omega
          have e : mutB n (n + 2) = zeroL := by unfold mutB; rw [if_neg (by omega)]
          rw [e] at HPj HWj
          clear e
          simp only [zeroL, List.length_nil] at HPj HWj
          have HLV : Hid (∀ W v, IsLock W v zeroL → Calls Try.prog 20 #[v, .bool true] W fun e w' => ∃ a' c' a6 c6, e = .returned (.tuple #[.agg #[.int .i64 0, .bool false, .slice a' 0 c'], .slice a6 0 c6, .bool true, .agg #[.int .i64 0, .int .i64 0]]) ∧ Below W.heap.size W w') := fun W v hv => (leave_none0 W v zeroL hv mutex_last.1 rfl).mono fun e w' ⟨v1, v2, h1, h2, h3, h4⟩ => by
            obtain ⟨a', c', rfl, h5⟩ := h2.form
            obtain ⟨a6, c6, rfl⟩ := h3.1.form
            exact ⟨a', c', a6, c6, h1, h4⟩
          obtain ⟨⟨p0, p1, p2⟩, ⟨pf0, pf1, pf2⟩, pl⟩ := block3 (unhide HPj)
          go_upto_region 21 with (go_at_call 20; refine (unhide HLV _ _ ⟨_, rfl, (unhide HWj).1⟩).mono ?_; rintro e w2 ⟨a2, c2, a6, c6, rfl, hb2⟩; have HX_z1 := hide (Below.next (unhide HXj) hb2 (by first | exact Nat.le_refl _ | (have := unhide HBA; omega))); have Kp_z1 := hide (keep_below (unhide HPj) hb2); have FN_z1 := hide ((unhide HWj).below hb2); clear HXj HPj HWj; clear hb2 p0 p1 p2 pf0 pf1 pf2 pl)
          obtain ⟨W3, eW3, hBW3, k0_z2, k1_z2⟩ := two_new w2 (.cells #[.int .i64 0, .bool false, .slice a2 0 c2] 24) (.cells #[.int .i64 0, .int .i64 0] 28)
          rw [eW3]
          clear eW3
          have hlp_m : T < w2.heap.size := size_of (unhide Kp_z1)
          (have HX_z2 := hide (Below.next (unhide HX_z1) hBW3 (by first | exact Nat.le_refl _ | (have := unhide HBA; omega))); have Kp_z2 := hide (keep_below (unhide Kp_z1) hBW3); have FN_z2 := hide ((unhide FN_z1).below hBW3); clear HX_z1 Kp_z1 FN_z1)
          obtain ⟨M, eM⟩ : ∃ X, w2.heap.size = X := ⟨_, rfl⟩
          rw [eM] at k0_z2 k1_z2 hlp_m ⊢
          have Km_z2 := hide k0_z2
          have Kf_z2 := hide k1_z2
          clear eM hBW3 k0_z2 k1_z2
          obtain ⟨⟨p0, p1, p2⟩, ⟨pf0, pf1, pf2⟩, pl⟩ := block3 (unhide Kp_z2)
          obtain ⟨f0, f1, ff0, ff1, fl⟩ := block2 (unhide Kf_z2)
          go_wp2_with (go_at_call 16; refine (noLock_any _ _ ⟨_, rfl, (unhide FN_z2).1⟩).mono ?_; rintro e w4 ⟨rfl, hb4⟩; have HX_z3 := hide (Below.next (unhide HX_z2) hb4 (by first | exact Nat.le_refl _ | (have := unhide HBA; omega))); have Kp_z3 := hide (keep_below (unhide Kp_z2) hb4); have Km_z3 := hide (keep_below (unhide Km_z2) hb4); have Kf_z3 := hide (keep_below (unhide Kf_z2) hb4); have FN_z3 := hide ((unhide FN_z2).below hb4); clear HX_z2 Kp_z2 Km_z2 Kf_z2 FN_z2; clear hb4 p0 p1 p2 pf0 pf1 pf2 pl f0 f1 ff0 ff1 fl)
          go_ret
          exact ⟨rfl, unhide HX_z3⟩
end Go.Proofs.Ytdpcbmekplcllaa
