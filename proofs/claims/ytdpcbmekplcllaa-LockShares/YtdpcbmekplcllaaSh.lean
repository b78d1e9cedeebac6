/-
  taskmilllaw.LockShares.
-/
import Derived.Test.YtdpcbmekplcllaaSb
namespace Go.Proofs.Ytdpcbmekplcllaa
open Go.RowKit

theorem shA_enter' {j : Nat} (h1 : 1 ≤ j) (h2 : j ≤ 100) : (enterF (shA (j - 1)) (j : Int)).1 = 0 ∧ enterR (shA (j - 1)) (j : Int) false false = (shA j, true) := by
  obtain ⟨k, rfl⟩ : ∃ k, j = k + 1 := ⟨j - 1, by omega⟩
  exact shA_enter (by omega)
theorem own_but {α : Type} {K : Kind α} {base g : Nat} {w w' : World} {v : Value} {xs : List α} (h : Own K base w v xs) (hb : But g w w') {arr : Array Value} {t : TypeId} {f : Nat × Nat} (hR : w.heap[g]? = some (.cells arr t f)) (ht : t ≠ K.e) : Own K base w' v xs := h.keep fun k hk => hb.block k (h.lt k hk).2 (Own.ne h hR ht k hk)
theorem below_but {B g : Nat} {w w1 w2 : World} (h : Below B w w1) (hb : But g w1 w2) (hg : B ≤ g) (hB : B ≤ w.heap.size) : Below B w w2 := h.trans (hb.below hg (Nat.le_trans hB h.size))
theorem New.grown {α : Type} {K : Kind α} (hK : K.Ok) {base : Nat} {w w' : World} {row : Option Nat} {v : Value} {xs : List α} (h : New K base w v xs) (hg : w.grownBy w' row) (hr : ∀ k, row = some k → k < base) : New K base w' v xs := h.keep hK fun k h1 h2 => hg.block k h2 (fun e => by have := hr k e.symm; omega)
theorem later_snoc (R t : Nat) : tasks (rline (R + 2) (R + 2 + (t + 1))) = tasks (rline (R + 2) (R + 2 + t)) ++ [(R : Int) + 2 + (t : Int)] := by
  rw [← Nat.add_assoc, rline_snoc (by omega), tasks_append]
  simp [tasks]
theorem later_len (R t : Nat) : (tasks (rline (R + 2) (R + 2 + t))).length = t := by
  unfold tasks
  rw [List.length_map, rline_length]
  omega

set_option maxRecDepth 100000 in
set_option maxHeartbeats 4000000 in
theorem shares_walk (w : World) (x y : Int) : Calls Try.prog 7 #[.int .i64 x, .int .i64 y] w fun e w' => e = .returned (.bool true) ∧ Below w.heap.size w w' := by
  have hnot : ∀ (x : Bool) (w : World), (Op.unary .not (.bool x)).run Try.prog w = .ok (.bool (!x)) w := fun _ _ => rfl
  by_cases hx0 : x < 1
  · go_enter Try.func7, Try.ntmps7
    go_wp2_with (go_at_call 8; refine (begun_any _).mono ?_; rintro e w1 ⟨rfl, hb1⟩; have HX := hide hb1; clear hb1)
    go_ret
    exact ⟨rfl, unhide HX⟩
  by_cases hx1 : 50 < x
  · go_enter Try.func7, Try.ntmps7
    go_wp2_with (go_at_call 8; refine (begun_any _).mono ?_; rintro e w1 ⟨rfl, hb1⟩; have HX := hide hb1; clear hb1)
    go_ret
    exact ⟨rfl, unhide HX⟩
  by_cases hy0 : y < 0
  · go_enter Try.func7, Try.ntmps7
    go_wp2_with (go_at_call 8; refine (begun_any _).mono ?_; rintro e w1 ⟨rfl, hb1⟩; have HX := hide hb1; clear hb1)
    go_ret
    exact ⟨rfl, unhide HX⟩
  by_cases hy1 : 50 < y
  · go_enter Try.func7, Try.ntmps7
    go_wp2_with (go_at_call 8; refine (begun_any _).mono ?_; rintro e w1 ⟨rfl, hb1⟩; have HX := hide hb1; clear hb1)
    go_ret
    exact ⟨rfl, unhide HX⟩
  obtain ⟨R, rfl⟩ : ∃ n : Nat, x = (n : Int) := ⟨x.toNat, by omega⟩
  obtain ⟨L, rfl⟩ : ∃ n : Nat, y = (n : Int) := ⟨y.toNat, by omega⟩
  have hR1 : 1 ≤ R := by omega
  have hR2 : R ≤ 50 := by omega
  have hL2 : L ≤ 50 := by omega
  clear hx0 hx1 hy0 hy1
  have hc1 : ¬ (R : Int) < 1 := by omega
  have hc2 : ¬ (50 : Int) < (R : Int) := by omega
  have hc3 : ¬ (L : Int) < 0 := by omega
  have hc4 : ¬ (50 : Int) < (L : Int) := by omega
  have hwn : IntKind.i64.wrap ((R : Int) + 1) = (R : Int) + 1 := wrapi (by omega) (by omega)
  have hwn2 : IntKind.i64.wrap ((R : Int) + 2) = (R : Int) + 2 := wrapi (by omega) (by omega)
  have hent := enters24
  go_enter Try.func7, Try.ntmps7
  go_upto_region 5 with (go_at_call 8; refine (begun_any _).mono ?_; rintro e w1 ⟨rfl, hb1⟩; have HX := hide hb1; clear hb1)
  go_upto_region 6 with fail
  have htw : w.heap.size ≤ w1.heap.size := (unhide HX).size
  have HX_1 := hide ((unhide HX).alloc (Nat.le_trans (show w.heap.size ≤ w.heap.size from Nat.le_refl _) (unhide HX).size) (.cells #[.int .i64 0, .bool false, .slice none 0 0] 24))
  have Kp_1 := hide (new_block w1 (.cells #[.int .i64 0, .bool false, .slice none 0 0] 24))
  obtain ⟨T, eT⟩ : ∃ X, w1.heap.size = X := ⟨_, rfl⟩
  obtain ⟨W2, eW2⟩ : ∃ X, w1.alloc (.cells #[.int .i64 0, .bool false, .slice none 0 0] 24) = X := ⟨_, rfl⟩
  rw [eT, eW2] at Kp_1; rw [eW2] at HX_1; rw [eT] at htw; rw [eT, eW2]
  clear eT eW2 HX
  have HTW := hide htw
  clear htw
  go_wp2_with fail
  go_loopw [7] (fun i W => ∃ j : Nat, 1 ≤ j ∧ j ≤ R + 1 ∧ i = .int .i64 j ∧ ∃ (a : Option Addr) (c : Nat), Hid (W.heap[T]? = some (.cells #[.int .i64 (shA (j - 1)).readers, .bool (shA (j - 1)).writer, .slice a (shA (j - 1)).line.length c] 24)) ∧ Hid (New KP (T + 1) W (.slice a (shA (j - 1)).line.length c) (shA (j - 1)).line) ∧ Hid (Below w.heap.size w W)) (fun i _ => R + 1 - (intOf i).toNat)
  case atStart => exact ⟨1, Nat.le_refl _, by omega, rfl, none, 0, Kp_1, new_nil _ _, HX_1⟩
  case round =>
    obtain ⟨j, hj1, hj2, rfl, a, c, HPj, HNj, HXj⟩ := hrel
    clear Kp_1 HX_1
    by_cases hlt : j ≤ R
    · have hlt2 : (j : Int) ≤ (R : Int) := by omega
      obtain ⟨hf, he⟩ := shA_enter' hj1 (show j ≤ 100 by omega)
      have HSE := hide (share_enter wr T (shA (j - 1)) a c (j : Int) false (unhide HPj) (unhide HNj) hf)
      rw [he] at HSE
      simp only at HSE
      clear hf he
      obtain ⟨P2, eP2⟩ : ∃ P, shA j = P := ⟨_, rfl⟩
      rw [eP2] at HSE
      have HE2 := hide eP2
      clear eP2
      go_wp2_with (refine (unhide HSE).mono ?_; rintro e w2 ⟨a2, c2, rfl, hp2, hn2, hbt⟩; have HP2 := hide hp2; have HN0 := hide hn2; have HN2 := hide (hn2.base (Nat.succ_le_of_lt (size_of (unhide HPj)))); have HX2 := hide (below_but (unhide HXj) hbt (unhide HTW) (Nat.le_refl _)); clear hp2 hn2 hbt HSE)
      go_roundw
      case rel => exact ⟨j + 1, by omega, by omega, by go_num, a2, c2, by rw [show j + 1 - 1 = j by omega, unhide HE2]; exact HP2, by rw [show j + 1 - 1 = j by omega, unhide HE2]; exact HN2, HX2⟩
      case measure => simp [intOf]; omega
    · have hjn : j = R + 1 := by omega
      subst hjn
      have hcx : ¬ ((R + 1 : Nat) : Int) ≤ (R : Int) := by omega
      have hcx3 : ¬ (R : Int) + 1 ≤ (R : Int) := by omega
      rw [show R + 1 - 1 = R by omega] at HPj HNj
      have hse := shA_writer hR1 (show R ≤ 100 by omega)
      rw [show ((R + 1 : Nat) : Int) = (R : Int) + 1 by omega] at hse
      obtain ⟨hf, he⟩ := hse
      have HSE := hide (share_enter wr T (shA R) a c ((R : Int) + 1) true (unhide HPj) (unhide HNj) hf)
      rw [he] at HSE
      simp only at HSE
      clear hf he
      obtain ⟨P2, eP2⟩ : ∃ P, shB R 0 = P := ⟨_, rfl⟩
      rw [eP2] at HSE
      have HE2 := hide eP2
      clear eP2
      go_wp2_with (refine (unhide HSE).mono ?_; rintro e w2 ⟨a2, c2, rfl, hp2, hn2, hbt⟩; have HP2 := hide hp2; have HN0 := hide hn2; have HN2 := hide (hn2.base (Nat.succ_le_of_lt (size_of (unhide HPj)))); have HX2 := hide (below_but (unhide HXj) hbt (unhide HTW) (Nat.le_refl _)); clear hp2 hn2 hbt HSE)
      go_loopw [12, 13] (fun v i W => ∃ j : Nat, j ≤ L ∧ i = .int .i64 j ∧ ∃ (a : Option Addr) (c : Nat), Hid (W.heap[T]? = some (.cells #[.int .i64 (shB R j).readers, .bool (shB R j).writer, .slice a (shB R j).line.length c] 24)) ∧ Hid (New KP (T + 1) W (.slice a (shB R j).line.length c) (shB R j).line) ∧ Hid (Below w.heap.size w W) ∧ ∃ (s2 : Option Addr) (c2 : Nat), v = .slice s2 j c2 ∧ Hid (Own KI w.heap.size W (.slice s2 j c2) (tasks (rline (R + 2) (R + 2 + j))))) (fun _ i _ => L - (intOf i).toNat)
      case atStart => exact ⟨0, Nat.zero_le _, rfl, a2, c2, by rw [unhide HE2]; exact HP2, by rw [unhide HE2]; exact HN2, HX2, none, 0, rfl, by rw [rline_nil (by omega)]; exact own_nil _ _⟩
      case round =>
        clear HPj HNj HXj HP2 HN2 HX2 HE2
        obtain ⟨j, hj, rfl, a, c, HPj, HNj, HXj, s2, c2', rfl, HOj⟩ := hrel
        by_cases hlt : j < L
        · have hlt2 : (j : Int) < (L : Int) := by omega
          have hwn3 : IntKind.i64.wrap ((R : Int) + 2 + (j : Int)) = (R : Int) + 2 + (j : Int) := wrapi (by omega) (by omega)
          have hse := shB_enter (R := R) (t := j) hR1 (by omega) (by omega)
          rw [show ((R + 2 + j : Nat) : Int) = (R : Int) + 2 + (j : Int) by omega] at hse
          obtain ⟨hf, he⟩ := hse
          have HSE := hide (share_enter wr T (shB R j) a c ((R : Int) + 2 + (j : Int)) false (unhide HPj) (unhide HNj) hf)
          rw [he] at HSE
          simp only at HSE
          clear hf he
          obtain ⟨P2, eP2⟩ : ∃ P, shB R (j + 1) = P := ⟨_, rfl⟩
          rw [eP2] at HSE
          have HE2 := hide eP2
          clear eP2
          go_upto_region 23 with (refine (unhide HSE).mono ?_; rintro e w2 ⟨a2, c2, rfl, hp2, hn2, hbt⟩; have HP2 := hide hp2; have HN0 := hide hn2; have HN2 := hide (hn2.base (Nat.succ_le_of_lt (size_of (unhide HPj)))); have HX2 := hide (below_but (unhide HXj) hbt (unhide HTW) (Nat.le_refl _)); have HO2 := hide (own_but (unhide HOj) hbt (unhide HPj) (by decide)); clear hp2 hn2 hbt HSE)
          have HI1 := hide (isl_one ki w2 ((R : Int) + 2 + (j : Int)))
          have HO5 := hide ((unhide HO2).below ((Below.refl _ _).alloc (Nat.le_refl _) (.cells #[.int .i64 ((R : Int) + 2 + (j : Int))] 3)))
          have HL5 := hide (later_len R j)
          go_wp2_with (at_builtin; refine wpList_append ki rfl (.tmp 91) (.tmp 96) rfl w.heap.size _ (tasks (rline (R + 2) (R + 2 + j))) rfl (unhide HO5) _ [(R : Int) + 2 + (j : Int)] rfl (unhide HI1) (j + 1) (by simp [unhide HL5]) (by simp [KI]; omega) ((unhide HX2).alloc (unhide HX2).size (.cells #[.int .i64 ((R : Int) + 2 + (j : Int))] 3)).size ?_; intro a6 c6 w6 ho6 hg6; have HO6 := hide ho6; have HX6 := hide (((unhide HX2).alloc (unhide HX2).size (.cells #[.int .i64 ((R : Int) + 2 + (j : Int))] 3)).grown hg6 ((unhide HX2).alloc (unhide HX2).size (.cells #[.int .i64 ((R : Int) + 2 + (j : Int))] 3)).size (fun k hk => (unhide HO5).lt k hk |>.1)); have HP6 := hide (keep_grown (keep_alloc (unhide HP2) (.cells #[.int .i64 ((R : Int) + 2 + (j : Int))] 3)) hg6 (fun jj hj => Own.ne (unhide HO5) (keep_alloc (unhide HP2) (.cells #[.int .i64 ((R : Int) + 2 + (j : Int))] 3)) (by decide) jj hj)); have HN6 : Hid (New KP (T + 1) w6 (.slice a2 P2.line.length c2) P2.line) := (((unhide HN0).below ((Below.refl _ _).alloc (Nat.le_refl _) (.cells #[.int .i64 ((R : Int) + 2 + (j : Int))] 3))).grown kp hg6 (fun k hk => ((unhide HOj).lt k hk).2)).base (Nat.succ_le_of_lt (size_of (unhide HPj))); clear ho6 hg6)
          go_roundw
          case rel => exact ⟨j + 1, by omega, by go_num, a2, c2, by rw [unhide HE2]; exact HP6, by rw [unhide HE2]; exact HN6, HX6, a6, c6, by rfl, by rw [later_snoc]; exact HO6⟩
          case measure => simp [intOf]; omega
        · have hjn : j = L := by omega
          subst hjn
          have hcx4 : ¬ (j : Int) < (j : Int) := by omega
          go_wp2_with fail
          go_loopw [16] (fun i W => ∃ q : Nat, 1 ≤ q ∧ q ≤ R + 1 ∧ i = .int .i64 q ∧ ∃ (a : Option Addr) (c : Nat), Hid (W.heap[T]? = some (.cells #[.int .i64 (shC R j q).readers, .bool (shC R j q).writer, .slice a (shC R j q).line.length c] 24)) ∧ Hid (New KP (T + 1) W (.slice a (shC R j q).line.length c) (shC R j q).line) ∧ Hid (Below w.heap.size w W) ∧ Hid (Own KI w.heap.size W (.slice s2 j c2') (tasks (rline (R + 2) (R + 2 + j))))) (fun i _ => R + 1 - (intOf i).toNat)
          case atStart =>
            rw [shB_shC R j hR1] at HPj HNj
            exact ⟨1, Nat.le_refl _, by omega, rfl, a, c, HPj, HNj, HXj, HOj⟩
          case round =>
            clear HPj HNj HXj HOj
            obtain ⟨q, hq1, hq2, rfl, a, c, HPj, HNj, HXj, HOj⟩ := hrel
            by_cases hlt : q ≤ R
            · have hlt2 : (q : Int) ≤ (R : Int) := by omega
              obtain ⟨hf, he⟩ := shC_leave (R := R) (L := j) (j := q) hq1 hlt (by omega) (by omega)
              rw [show ((R + 1 : Nat) : Int) = (R : Int) + 1 by omega] at he
              have HLV : Hid (∀ W v, IsLock W v (shC R j q) → Calls Try.prog 20 #[v, .bool false] W fun e w' => ∃ a' c' a5 c5, e = .returned (.tuple #[.agg #[.int .i64 (shC R j (q + 1)).readers, .bool (shC R j (q + 1)).writer, .slice a' (shC R j (q + 1)).line.length c'], .slice a5 (if q = R then [(R : Int) + 1] else []).length c5, .bool false, .agg #[.int .i64 0, .int .i64 0]]) ∧ New KP W.heap.size w' (.slice a' (shC R j (q + 1)).line.length c') (shC R j (q + 1)).line ∧ IsL KI w' (.slice a5 (if q = R then [(R : Int) + 1] else []).length c5) (if q = R then [(R : Int) + 1] else []) ∧ Below W.heap.size W w') := fun W v hv => (leave_ok W v (shC R j q) false hv hf).mono fun e w' ⟨v1, v2, h1, h2, h3, h4⟩ => by
                rw [he] at h1 h2 h3
                obtain ⟨a', c', rfl, h5⟩ := h2.form
                obtain ⟨a5, c5, rfl⟩ := h3.1.form
                exact ⟨a', c', a5, c5, h1, h5, h3.1, h4⟩
              clear hf he
              generalize shC R j q = P at *
              obtain ⟨P2, eP2⟩ : ∃ P, shC R j (q + 1) = P := ⟨_, rfl⟩
              rw [eP2] at HLV
              have HE2 := hide eP2
              clear eP2
              by_cases hle : q = R
              · subst hle
                rw [if_pos rfl] at HLV
                simp only [List.length_cons, List.length_nil, Nat.zero_add] at HLV
                have hd1 : ¬ (q : Int) < (q : Int) := by omega
                have hd2 : ((q : Int) == (q : Int)) = true := by simp
                obtain ⟨⟨p0, p1, p2⟩, ⟨pf0, pf1, pf2⟩, pl⟩ := block3 (unhide HPj)
                have HTB : Hid (T < wr.heap.size) := pl
                go_upto_region 28 with (go_at_call 20; refine (unhide HLV _ _ ⟨_, rfl, (unhide HNj).1⟩).mono ?_; rintro e w2 ⟨a2, c2, a5, c5, rfl, hn2', hi5, hb2⟩; have HN2 := hide (hn2'.base (Nat.succ_le_of_lt (unhide HTB))); have HI5 := hide hi5; have HX_x1 := hide (Below.next (unhide HXj) hb2 (by first | exact Nat.le_refl _ | (have := unhide HBA; omega))); have Kp_x1 := hide (keep_below (unhide HPj) hb2); have Ow_x1 := hide ((unhide HOj).below hb2); clear HXj HPj HOj; clear hb2 hn2' hi5 HNj p0 p1 p2 pf0 pf1 pf2 pl)
                obtain ⟨W3, eW3, hBW3, k0_x2, k1_x2⟩ := two_new w2 (.cells #[.int .i64 P2.readers, .bool P2.writer, .slice a2 P2.line.length c2] 24) (.cells #[.int .i64 0, .int .i64 0] 28)
                rw [eW3]
                clear eW3
                have hlp_m : T < w2.heap.size := size_of (unhide Kp_x1)
                (have HX_x2 := hide (Below.next (unhide HX_x1) hBW3 (by first | exact Nat.le_refl _ | (have := unhide HBA; omega))); have Kp_x2 := hide (keep_below (unhide Kp_x1) hBW3); have Ow_x2 := hide ((unhide Ow_x1).below hBW3); have FN_x2 := hide ((unhide HN2).below hBW3); have FI_x2 := hide ((unhide HI5).below hBW3); clear HX_x1 Kp_x1 Ow_x1 HN2 HI5)
                obtain ⟨M, eM⟩ : ∃ X, w2.heap.size = X := ⟨_, rfl⟩
                rw [eM] at k0_x2 k1_x2 hlp_m ⊢
                have Km_x2 := hide k0_x2
                have Kf_x2 := hide k1_x2
                clear eM hBW3 k0_x2 k1_x2
                obtain ⟨f0, f1, ff0, ff1, fl⟩ := block2 (unhide Kf_x2)
                have HI6 := hide (isl_one ki W3 ((q : Int) + 1))
                have HI7 := hide ((unhide FI_x2).below ((Below.refl _ _).alloc (Nat.le_refl _) (.cells #[.int .i64 ((q : Int) + 1)] 3)))
                have HAL : Hid (Below W3.heap.size W3 (W3.alloc (.cells #[.int .i64 ((q : Int) + 1)] 3))) := (Below.refl _ _).alloc (Nat.le_refl _) (.cells #[.int .i64 ((q : Int) + 1)] 3)
                go_upto_region 30 with (go_at_call 22; refine (ints_same _ _ _ [(q : Int) + 1] (unhide HI7) (unhide HI6) (by simp [maxLen])).mono ?_; rintro e w4 ⟨rfl, hb4⟩; have hb5 := Below.next (unhide HAL) hb4 (Nat.le_refl _); have HX_x3 := hide (Below.next (unhide HX_x2) hb5 (by first | exact Nat.le_refl _ | (have := unhide HBA; omega))); have Kp_x3 := hide (keep_below (unhide Kp_x2) hb5); have Km_x3 := hide (keep_below (unhide Km_x2) hb5); have Kf_x3 := hide (keep_below (unhide Kf_x2) hb5); have Ow_x3 := hide ((unhide Ow_x2).below hb5); have FN_x3 := hide ((unhide FN_x2).below hb5); clear HX_x2 Kp_x2 Km_x2 Kf_x2 Ow_x2 FN_x2; clear hb4 hb5 f0 f1 ff0 ff1 fl)
                clear HI6 HI7 HAL FI_x2
                obtain ⟨⟨p0, p1, p2⟩, ⟨pf0, pf1, pf2⟩, pl⟩ := block3 (unhide Kp_x3)
                obtain ⟨⟨m0, m1, m2⟩, ⟨mf0, mf1, mf2⟩, ml⟩ := block3 (unhide Km_x3)
                go_wp2_with fail
                clear p0 p1 p2 pf0 pf1 pf2 pl m0 m1 m2 mf0 mf1 mf2 ml
                have HBA : Hid (w.heap.size ≤ T) := unhide HTW
                have NN_x4 := hide ((unhide FN_x3).keep kp (fun k hk _ => putL_keep (y0 := .int .i64 P2.readers) (y1 := .bool P2.writer) (y2 := .slice a2 P2.line.length c2) (show k ≠ T by omega)))
                clear FN_x3
                have HX_x4 := hide (putL_below (y0 := .int .i64 P2.readers) (y1 := .bool P2.writer) (y2 := .slice a2 P2.line.length c2) (unhide HX_x3) (show w.heap.size ≤ T by first | omega | (have := unhide HBA; omega)))
                have Kp_x4 := hide (putL_new (y0 := .int .i64 P2.readers) (y1 := .bool P2.writer) (y2 := .slice a2 P2.line.length c2) (unhide Kp_x3))
                have Km_x4 := hide ((putL_keep (y0 := .int .i64 P2.readers) (y1 := .bool P2.writer) (y2 := .slice a2 P2.line.length c2) (show M ≠ T by omega)).trans (unhide Km_x3))
                have Kf_x4 := hide ((putL_keep (y0 := .int .i64 P2.readers) (y1 := .bool P2.writer) (y2 := .slice a2 P2.line.length c2) (show M + 1 ≠ T by omega)).trans (unhide Kf_x3))
                have Ow_x4 := hide ((unhide Ow_x3).keep (fun k hk => putL_keep (y0 := .int .i64 P2.readers) (y1 := .bool P2.writer) (y2 := .slice a2 P2.line.length c2) (Own.ne (unhide Ow_x3) (unhide Kp_x3) (by decide) k hk)))
                obtain ⟨W5, eW5⟩ : ∃ X, putL w4 (T) (.int .i64 P2.readers) (.bool P2.writer) (.slice a2 P2.line.length c2) = X := ⟨_, rfl⟩
                rw [eW5] at HX_x4 Kp_x4 Km_x4 Kf_x4 Ow_x4 NN_x4
                have eW52 : (((w4).setCell ⟨T, 0, none⟩ (.int .i64 P2.readers)).setCell ⟨T, 1, none⟩ (.bool P2.writer)).setCell ⟨T, 2, none⟩ (.slice a2 P2.line.length c2) = W5 := eW5
                rw [eW52]
                clear eW5 eW52 HX_x3 Kp_x3 Km_x3 Kf_x3 Ow_x3
                go_roundw
                case rel => exact ⟨q + 1, by omega, by omega, by go_num, a2, c2, by rw [unhide HE2]; exact Kp_x4, by rw [unhide HE2]; exact NN_x4, HX_x4, Ow_x4⟩
                case measure => simp [intOf]
              · rw [if_neg hle] at HLV
                simp only [List.length_nil] at HLV
                have hd1 : (q : Int) < (R : Int) := by omega
                have hd2 : ((q : Int) == (R : Int)) = false := beq_false_of_ne (by omega)
                obtain ⟨⟨p0, p1, p2⟩, ⟨pf0, pf1, pf2⟩, pl⟩ := block3 (unhide HPj)
                have HTB : Hid (T < wr.heap.size) := pl
                go_upto_region 28 with (go_at_call 20; refine (unhide HLV _ _ ⟨_, rfl, (unhide HNj).1⟩).mono ?_; rintro e w2 ⟨a2, c2, a5, c5, rfl, hn2', hi5, hb2⟩; have HN2 := hide (hn2'.base (Nat.succ_le_of_lt (unhide HTB))); have HI5 := hide hi5; have HX_y1 := hide (Below.next (unhide HXj) hb2 (by first | exact Nat.le_refl _ | (have := unhide HBA; omega))); have Kp_y1 := hide (keep_below (unhide HPj) hb2); have Ow_y1 := hide ((unhide HOj).below hb2); clear HXj HPj HOj; clear hb2 hn2' hi5 HNj p0 p1 p2 pf0 pf1 pf2 pl)
                obtain ⟨W3, eW3, hBW3, k0_y2, k1_y2⟩ := two_new w2 (.cells #[.int .i64 P2.readers, .bool P2.writer, .slice a2 P2.line.length c2] 24) (.cells #[.int .i64 0, .int .i64 0] 28)
                rw [eW3]
                clear eW3
                have hlp_m : T < w2.heap.size := size_of (unhide Kp_y1)
                (have HX_y2 := hide (Below.next (unhide HX_y1) hBW3 (by first | exact Nat.le_refl _ | (have := unhide HBA; omega))); have Kp_y2 := hide (keep_below (unhide Kp_y1) hBW3); have Ow_y2 := hide ((unhide Ow_y1).below hBW3); have FN_y2 := hide ((unhide HN2).below hBW3); have FI_y2 := hide ((unhide HI5).below hBW3); clear HX_y1 Kp_y1 Ow_y1 HN2 HI5)
                obtain ⟨M, eM⟩ : ∃ X, w2.heap.size = X := ⟨_, rfl⟩
                rw [eM] at k0_y2 k1_y2 hlp_m ⊢
                have Km_y2 := hide k0_y2
                have Kf_y2 := hide k1_y2
                clear eM hBW3 k0_y2 k1_y2
                obtain ⟨f0, f1, ff0, ff1, fl⟩ := block2 (unhide Kf_y2)
                go_upto_region 30 with fail
                clear f0 f1 ff0 ff1 fl FI_y2
                obtain ⟨⟨p0, p1, p2⟩, ⟨pf0, pf1, pf2⟩, pl⟩ := block3 (unhide Kp_y2)
                obtain ⟨⟨m0, m1, m2⟩, ⟨mf0, mf1, mf2⟩, ml⟩ := block3 (unhide Km_y2)
                go_wp2_with fail
                clear p0 p1 p2 pf0 pf1 pf2 pl m0 m1 m2 mf0 mf1 mf2 ml
                have HBA : Hid (w.heap.size ≤ T) := unhide HTW
                have NN_y3 := hide ((unhide FN_y2).keep kp (fun k hk _ => putL_keep (y0 := .int .i64 P2.readers) (y1 := .bool P2.writer) (y2 := .slice a2 P2.line.length c2) (show k ≠ T by omega)))
                clear FN_y2
                have HX_y3 := hide (putL_below (y0 := .int .i64 P2.readers) (y1 := .bool P2.writer) (y2 := .slice a2 P2.line.length c2) (unhide HX_y2) (show w.heap.size ≤ T by first | omega | (have := unhide HBA; omega)))
                have Kp_y3 := hide (putL_new (y0 := .int .i64 P2.readers) (y1 := .bool P2.writer) (y2 := .slice a2 P2.line.length c2) (unhide Kp_y2))
                have Km_y3 := hide ((putL_keep (y0 := .int .i64 P2.readers) (y1 := .bool P2.writer) (y2 := .slice a2 P2.line.length c2) (show M ≠ T by omega)).trans (unhide Km_y2))
                have Kf_y3 := hide ((putL_keep (y0 := .int .i64 P2.readers) (y1 := .bool P2.writer) (y2 := .slice a2 P2.line.length c2) (show M + 1 ≠ T by omega)).trans (unhide Kf_y2))
                have Ow_y3 := hide ((unhide Ow_y2).keep (fun k hk => putL_keep (y0 := .int .i64 P2.readers) (y1 := .bool P2.writer) (y2 := .slice a2 P2.line.length c2) (Own.ne (unhide Ow_y2) (unhide Kp_y2) (by decide) k hk)))
                obtain ⟨W5, eW5⟩ : ∃ X, putL W3 (T) (.int .i64 P2.readers) (.bool P2.writer) (.slice a2 P2.line.length c2) = X := ⟨_, rfl⟩
                rw [eW5] at HX_y3 Kp_y3 Km_y3 Kf_y3 Ow_y3 NN_y3
                have eW52 : (((W3).setCell ⟨T, 0, none⟩ (.int .i64 P2.readers)).setCell ⟨T, 1, none⟩ (.bool P2.writer)).setCell ⟨T, 2, none⟩ (.slice a2 P2.line.length c2) = W5 := eW5
                rw [eW52]
                clear eW5 eW52 HX_y2 Kp_y2 Km_y2 Kf_y2 Ow_y2
                go_roundw
                case rel => exact ⟨q + 1, by omega, by omega, by go_num, a2, c2, by rw [unhide HE2]; exact Kp_y3, by rw [unhide HE2]; exact NN_y3, HX_y3, Ow_y3⟩
                case measure => simp [intOf]; omega
            · have hqn : q = R + 1 := by omega
              subst hqn
              have hcx5 : ¬ ((R + 1 : Nat) : Int) ≤ (R : Int) := by omega
              have hcx6 : ¬ (R : Int) + 1 ≤ (R : Int) := by omega
              obtain ⟨hf, he⟩ := shC_last (R := R) (L := j) (by omega)
              have HLV : Hid (∀ W v, IsLock W v (shC R j (R + 1)) → Calls Try.prog 20 #[v, .bool true] W fun e w' => ∃ a' c' a5 c5, e = .returned (.tuple #[.agg #[.int .i64 (j : Int), .bool false, .slice a' 0 c'], .slice a5 j c5, .bool false, .agg #[.int .i64 0, .int .i64 0]]) ∧ IsL KI w' (.slice a5 j c5) (tasks (rline (R + 2) (R + 2 + j))) ∧ Below W.heap.size W w') := fun W v hv => (leave_ok W v (shC R j (R + 1)) true hv hf).mono fun e w' ⟨v1, v2, h1, h2, h3, h4⟩ => by
                rw [he] at h1 h2 h3
                obtain ⟨a', c', rfl, h5⟩ := h2.form
                obtain ⟨a5, c5, rfl⟩ := h3.1.form
                have h6 := h3.1
                simp only [later_len] at h1 h6
                exact ⟨a', c', a5, c5, h1, h6, h4⟩
              clear hf he
              have HL5 := hide (later_len R j)
              generalize tasks (rline (R + 2) (R + 2 + j)) = ws at *
              generalize shC R j (R + 1) = P at *
              have hjj : ((j : Int) == (j : Int)) = true := by simp
              obtain ⟨⟨p0, p1, p2⟩, ⟨pf0, pf1, pf2⟩, pl⟩ := block3 (unhide HPj)
              go_upto_region 32 with (go_at_call 20; refine (unhide HLV _ _ ⟨_, rfl, (unhide HNj).1⟩).mono ?_; rintro e w2 ⟨a2, c2, a5, c5, rfl, hi5, hb2⟩; have HI5 := hide hi5; have HX_z1 := hide (Below.next (unhide HXj) hb2 (by first | exact Nat.le_refl _ | (have := unhide HBA; omega))); have Kp_z1 := hide (keep_below (unhide HPj) hb2); have Ow_z1 := hide ((unhide HOj).below hb2); clear HXj HPj HOj; clear hb2 hi5 HNj p0 p1 p2 pf0 pf1 pf2 pl)
              obtain ⟨W3, eW3, hBW3, k0_z2, k1_z2⟩ := two_new w2 (.cells #[.int .i64 (j : Int), .bool false, .slice a2 0 c2] 24) (.cells #[.int .i64 0, .int .i64 0] 28)
              rw [eW3]
              clear eW3
              have hlp_m : T < w2.heap.size := size_of (unhide Kp_z1)
              (have HX_z2 := hide (Below.next (unhide HX_z1) hBW3 (by first | exact Nat.le_refl _ | (have := unhide HBA; omega))); have Kp_z2 := hide (keep_below (unhide Kp_z1) hBW3); have Ow_z2 := hide ((unhide Ow_z1).below hBW3); have FI_z2 := hide ((unhide HI5).below hBW3); clear HX_z1 Kp_z1 Ow_z1 HI5)
              obtain ⟨M, eM⟩ : ∃ X, w2.heap.size = X := ⟨_, rfl⟩
              rw [eM] at k0_z2 k1_z2 hlp_m ⊢
              have Km_z2 := hide k0_z2
              have Kf_z2 := hide k1_z2
              clear eM hBW3 k0_z2 k1_z2
              obtain ⟨⟨m0, m1, m2⟩, ⟨mf0, mf1, mf2⟩, ml⟩ := block3 (unhide Km_z2)
              obtain ⟨f0, f1, ff0, ff1, fl⟩ := block2 (unhide Kf_z2)
              go_wp2_with (go_at_call 22; refine (ints_same _ _ _ ws (unhide FI_z2) (unhide Ow_z2).isl (by have := unhide HL5; unfold maxLen; omega)).mono ?_; rintro e w4 ⟨rfl, hb4⟩; have HX_z3 := hide (Below.next (unhide HX_z2) hb4 (by first | exact Nat.le_refl _ | (have := unhide HBA; omega))); have Kp_z3 := hide (keep_below (unhide Kp_z2) hb4); have Km_z3 := hide (keep_below (unhide Km_z2) hb4); have Kf_z3 := hide (keep_below (unhide Kf_z2) hb4); have Ow_z3 := hide ((unhide Ow_z2).below hb4); have FI_z3 := hide ((unhide FI_z2).below hb4); clear HX_z2 Kp_z2 Km_z2 Kf_z2 Ow_z2 FI_z2; clear hb4 m0 m1 m2 mf0 mf1 mf2 ml f0 f1 ff0 ff1 fl; obtain ⟨⟨m0, m1, m2⟩, -, ml⟩ := block3 (unhide Km_z3))
              go_ret
              exact ⟨rfl, unhide HX_z3⟩
end Go.Proofs.Ytdpcbmekplcllaa
