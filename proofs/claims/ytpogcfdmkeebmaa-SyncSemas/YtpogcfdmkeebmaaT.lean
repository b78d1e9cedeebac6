/-
  taskmillref.F, Has, LineFault, ComeFault.
-/
import Derived.Test.YtpogcfdmkeebmaaN
namespace Go.Proofs.Ytpogcfdmkeebmaa
open Go.RowKit

set_option maxRecDepth 100000 in
theorem refF_any (w : World) (x y : Int) :
    Calls Try.prog 16 #[.int .i64 x, .int .i64 y] w fun e w' => e = .returned (.agg #[.int .i64 x, .int .i64 y]) ∧ Below w.heap.size w w' := by
  have HK := hide (new_block w (.cells #[.int .i64 0, .int .i64 0] 29)); have HX := hide ((Below.refl w.heap.size w).alloc (Nat.le_refl _) (.cells #[.int .i64 0, .int .i64 0] 29))
  go_enter Try.func16, Try.ntmps16
  go_upto_region 1 with fail
  obtain ⟨W0, e0⟩ : ∃ W, w.alloc (.cells #[.int .i64 0, .int .i64 0] 29) = W := ⟨_, rfl⟩
  rw [e0] at HK HX ⊢
  clear e0
  obtain ⟨p0, p1, f0, f1, pl⟩ := block2 (unhide HK)
  go_wp2_with fail
  exact bodyPost_ret (v := .agg #[.int .i64 x, .int .i64 y]) (by simp [results, Try.results16, go_sem, p0, p1]) rfl ⟨rfl, below_set2 (unhide HX) (Nat.le_refl _) _ _⟩

set_option maxRecDepth 100000 in
set_option maxHeartbeats 1000000 in
theorem has_same (w : World) (v : Value) (xs : List Int) (x : Int) (h : IsL KI w v xs) (hn : xs.length ≤ maxLen) :
    Calls Try.prog 30 #[v, .int .i64 x] w fun e w' => e = .returned (.bool (xs.contains x)) ∧ w' = w := by
  obtain ⟨a0, c0, rfl⟩ := h.form
  have H0 := hide (h.opens ki rfl)
  have HR := hide (contains_iff xs x)
  obtain ⟨r, er⟩ : ∃ r, xs.contains x = r := ⟨_, rfl⟩
  rw [er] at HR ⊢
  obtain ⟨n, en⟩ : ∃ n, xs.length = n := ⟨_, rfl⟩
  rw [en] at H0 HR hn ⊢
  have HN := hide en
  unfold maxLen at hn
  clear h en er
  go_enter Try.func30, Try.ntmps30
  go_wp2
  go_loopw [5] (fun i wr => ∃ j : Nat, j ≤ n ∧ i = .int .i64 j ∧ wr = w ∧ ∀ i, i < j → xs.getD i 0 ≠ x) (fun i _ => n - (intOf i).toNat)
  case atStart => exact ⟨0, Nat.zero_le _, rfl, rfl, fun i hi => by omega⟩
  case round =>
    obtain ⟨j, hj, rfl, rfl, hne⟩ := hrel
    have HNE := hide hne
    clear hne
    by_cases hlt : j < n
    · obtain ⟨b0, o0, rfl, hb0, l0⟩ := unhide H0 (by omega)
      have k0 := l0.ints (j := j) (by rw [unhide HN]; exact hlt)
      obtain ⟨z, ez⟩ : ∃ z, xs.getD j 0 = z := ⟨_, rfl⟩
      rw [ez] at k0
      have HZ := hide ez
      have i0 : (0 : Int) ≤ (j : Int) := by omega
      have i1 : (j : Int) < (n : Int) := by omega
      clear ez l0 H0
      by_cases hz : z = x
      · subst hz
        have hz1 : (z == z) = true := by simp
        go_wp2
        go_ret
        refine ⟨?_, rfl⟩
        rw [(unhide HR).2 ⟨j, hlt, unhide HZ⟩]
        rfl
      · have hz1 : (z == x) = false := by simpa using hz
        go_wp2
        go_roundw
        case rel => exact ⟨j + 1, by omega, by go_num, by first | rfl | trivial, fun i hi => by
          by_cases e : i = j
          · subst e; rw [unhide HZ]; exact hz
          · exact unhide HNE i (by omega)⟩
        case measure => simp [intOf]; omega
    · go_wp2
      go_ret
      refine ⟨?_, rfl⟩
      cases r with
      | false => rfl
      | true =>
        obtain ⟨i, hi, he⟩ := (unhide HR).1 rfl
        exact absurd he (unhide HNE i (by omega))

theorem Lies.take {α : Type} {K : Kind α} (hK : K.Ok) {w : World} {b off : Nat} {xs : List α} (h : Lies K w b off xs) {j c : Nat} (hj : j ≤ xs.length) (hc : j ≤ c) : IsL K w (.slice (some ⟨b, off, none⟩) j c) (xs.take j) := by
  refine Lies.isl hK (fun i k u hi hu => ?_) (by rw [List.length_take]; omega) hc
  rw [List.length_take] at hi
  have e : (xs.take j).getD i K.d = xs.getD i K.d := by
    have hij : i < j := by omega
    rw [List.getD_eq_getElem?_getD, List.getElem?_take, if_pos hij, List.getD_eq_getElem?_getD]
  rw [e] at hu
  exact h i k u (by omega) hu

set_option maxRecDepth 100000 in
set_option maxHeartbeats 2000000 in
theorem lineFault_any (w : World) (v : Value) (xs : List Int) (h : IsL KI w v xs) (hn : xs.length ≤ maxLen) :
    Calls Try.prog 38 #[v] w fun e w' => e = .returned (faultV (lineF xs)) ∧ Below w.heap.size w w' := by
  obtain ⟨a0, c0, rfl⟩ := h.form
  have HL := hide h
  have HFT := hide h.fits
  obtain ⟨R, eR⟩ : ∃ R, lineF xs = R := ⟨_, rfl⟩
  rw [eR]
  unfold lineF at eR
  obtain ⟨n, en⟩ : ∃ n, xs.length = n := ⟨_, rfl⟩
  rw [en] at HL HFT hn eR ⊢
  unfold maxLen at hn
  have HN := hide en; have HR := hide eR
  clear h en eR
  obtain ⟨W0, e0, hB, k0⟩ : ∃ W, w.alloc (.cells #[.int .i64 0, .int .i64 0] 29) = W ∧ Below w.heap.size w W ∧ W.heap[w.heap.size]? = some (.cells #[.int .i64 0, .int .i64 0] 29) := ⟨_, rfl, (Below.refl _ _).alloc (Nat.le_refl _) _, new_block _ _⟩
  have HX := hide hB; have HQ := hide k0; have HE := hide e0
  clear hB k0 e0
  go_enter Try.func38, Try.ntmps38
  go_upto_region 1 with fail
  rw [unhide HE]
  clear HE
  by_cases q1 : 5000 < n
  · have hr := unhide HR
    rw [if_pos q1] at hr
    subst hr
    have j1 : (5000 : Int) < (n : Int) := by omega
    clear HR
    go_wp2_with (go_at_call 16; refine (refF_any _ _ _).mono ?_; rintro e w1 ⟨rfl, hb1⟩; have HX1 := hide (Below.next (unhide HX) hb1 (Nat.le_refl _)); have HQ1 := hide (keep_below (unhide HQ) hb1); clear hb1; obtain ⟨q0, q1, qf0, qf1, ql⟩ := block2 (unhide HQ1))
    exact bodyPost_ret (v := .agg #[.int .i64 2, .int .i64 0]) (by simp [results, Try.results38, go_sem, q0, q1]) rfl ⟨rfl, below_set2 (unhide HX1) (Nat.le_refl _) _ _⟩
  have hr := unhide HR
  rw [if_neg q1] at hr
  have HR2 : Hid (firstC lineP (xs.take 0) (xs.drop 0) ((0 : Nat) : Int) = R) := hr
  have j1 : ¬ (5000 : Int) < (n : Int) := by omega
  clear HR hr
  go_wp2_with fail
  go_loopw [3] (fun i W => ∃ j : Nat, j ≤ n ∧ i = .int .i64 j ∧ Hid (firstC lineP (xs.take j) (xs.drop j) (j : Int) = R) ∧ Hid (W.heap[w.heap.size]? = some (.cells #[.int .i64 0, .int .i64 0] 29)) ∧ Hid (Below w.heap.size w W)) (fun i _ => n - (intOf i).toNat)
  case atStart => exact ⟨0, Nat.zero_le _, rfl, HR2, HQ, HX⟩
  case round =>
    obtain ⟨j, hj, rfl, HRj, HQj, HXj⟩ := hrel
    clear HR2 HQ HX
    by_cases hlt : j < n
    · obtain ⟨b0, o0, rfl, hb0, l0⟩ := (unhide HL).opens ki (unhide HN) (by omega)
      have l1 := l0.below (unhide HXj) hb0
      have k0 := l1.ints (j := j) (by rw [unhide HN]; exact hlt)
      obtain ⟨x, hx⟩ : ∃ x, xs.getD j 0 = x := ⟨_, rfl⟩
      rw [hx] at k0
      have hlt2 : j < xs.length := by rw [unhide HN]; exact hlt
      have HRn := unhide HRj
      rw [drop_get (0 : Int) hlt2, hx] at HRn
      have HTT := hide (take_get (0 : Int) hlt2)
      rw [hx] at HTT
      have HIT := hide (l1.take ki (j := j) (c := c0) (by rw [unhide HN]; omega) (by have := unhide HFT; omega))
      obtain ⟨ls, els⟩ : ∃ ls, xs.drop (j + 1) = ls := ⟨_, rfl⟩
      obtain ⟨ks, eks⟩ : ∃ ks, xs.take j = ks := ⟨_, rfl⟩
      have hks : ks.length ≤ maxLen := by rw [← eks, List.length_take]; unfold maxLen; omega
      rw [els] at HRn; rw [eks] at HRn HTT HIT
      have HRN := hide HRn; have HEL := hide els
      have HHS : Hid (∀ m, Calls Try.prog 30 #[.slice (some ⟨b0, o0, none⟩) j c0, .int .i64 x] (wr.drewN m) fun e w' => e = .returned (.bool (ks.contains x)) ∧ w' = wr.drewN m) := fun m => has_same (wr.drewN m) _ ks x ((unhide HIT).below (below_drewN (Below.refl _ _) m)) hks
      have i0 : (0 : Int) ≤ (j : Int) := by omega
      have i1 : (j : Int) < (n : Int) := by omega
      have i2 : (j : Int) ≤ (c0 : Int) := by have := unhide HFT; omega
      have hw1 : IntKind.i64.wrap ((j : Int) + 1) = (j : Int) + 1 := wrapi (by omega) (by omega)
      clear HRj HRn hx hlt2 l0 l1 eks els HIT hks
      by_cases h1 : x < 1
      · have HE2 : Hid (R = (3, (j : Int) + 1)) := by
          have := unhide HRN
          rw [firstC_stop (d := 3) (by unfold lineP; rw [if_pos h1]) (by decide)] at this
          exact this.symm
        clear HRN HHS
        go_wp2_with (go_at_call 16; refine (refF_any _ _ _).mono ?_; rintro e w2 ⟨rfl, hb2⟩; have HX2 := hide (Below.next (unhide HXj) hb2 (Nat.le_refl _)); have HQ2 := hide (keep_below (unhide HQj) hb2); clear hb2; obtain ⟨q0, q1, qf0, qf1, ql⟩ := block2 (unhide HQ2))
        refine bodyPost_ret (v := .agg #[.int .i64 3, .int .i64 ((j : Int) + 1)]) (by simp [results, Try.results38, go_sem, q0, q1]) rfl ⟨?_, below_set2 (unhide HX2) (Nat.le_refl _) _ _⟩
        rw [unhide HE2]
        rfl
      · cases hq : ks.contains x with
        | true =>
          rw [hq] at HHS
          have HE2 : Hid (R = (10, (j : Int) + 1)) := by
            have := unhide HRN
            rw [firstC_stop (d := 10) (by unfold lineP; rw [if_neg h1, if_pos hq]) (by decide)] at this
            exact this.symm
          clear HRN hq
          go_wp2_with fail
          go_quiet ((go_at_call 30; exact Calls.quiet_of_same (unhide HHS _)))
          have hW5 : Below wr.heap.size wr (wr.drewN nq) := below_drewN (Below.refl _ _) _
          obtain ⟨W5, eW5⟩ : ∃ X, wr.drewN nq = X := ⟨_, rfl⟩
          rw [eW5] at hW5 ⊢
          (have HX_a1 := hide (Below.next (unhide HXj) hW5 (by first | exact Nat.le_refl _ | (have := unhide HBA; omega))); have Kq_a1 := hide (keep_below (unhide HQj) hW5); clear HXj HQj)
          clear hW5 eW5
          go_wp2_with (go_at_call 16; refine (refF_any _ _ _).mono ?_; rintro e w6 ⟨rfl, hb6⟩; have HX6 := hide (Below.next (unhide HX_a1) hb6 (Nat.le_refl _)); have HQ6 := hide (keep_below (unhide Kq_a1) hb6); clear hb6; obtain ⟨q0, q1, qf0, qf1, ql⟩ := block2 (unhide HQ6))
          refine bodyPost_ret (v := .agg #[.int .i64 10, .int .i64 ((j : Int) + 1)]) (by simp [results, Try.results38, go_sem, q0, q1]) rfl ⟨?_, below_set2 (unhide HX6) (Nat.le_refl _) _ _⟩
          rw [unhide HE2]
          rfl
        | false =>
          rw [hq] at HHS
          have HRN2 : Hid (firstC lineP (ks ++ [x]) ls ((j : Int) + 1) = R) := by
            have := unhide HRN
            rw [firstC_go (by unfold lineP; rw [if_neg h1, if_neg (by rw [hq]; simp)])] at this
            exact this
          clear HRN hq
          go_wp2_with fail
          go_quiet ((go_at_call 30; exact Calls.quiet_of_same (unhide HHS _)))
          have hW5 : Below wr.heap.size wr (wr.drewN nq) := below_drewN (Below.refl _ _) _
          obtain ⟨W5, eW5⟩ : ∃ X, wr.drewN nq = X := ⟨_, rfl⟩
          rw [eW5] at hW5 ⊢
          (have HX_b1 := hide (Below.next (unhide HXj) hW5 (by first | exact Nat.le_refl _ | (have := unhide HBA; omega))); have Kq_b1 := hide (keep_below (unhide HQj) hW5); clear HXj HQj)
          clear hW5 eW5
          go_wp2_with fail
          go_roundw
          case rel => exact ⟨j + 1, by omega, by go_num, by rw [unhide HTT, unhide HEL]; exact HRN2, Kq_b1, HX_b1⟩
          case measure => simp [intOf]; omega
    · have hjn : j = n := by omega
      subst hjn
      have HE2 : Hid (R = (0, 0)) := by have := unhide HRj; rw [List.drop_eq_nil_of_le (by rw [unhide HN]; exact Nat.le_refl _)] at this; exact this.symm
      clear HRj
      obtain ⟨q0, q1, f0, f1, ql⟩ := block2 (unhide HQj)
      go_wp2_with fail
      refine bodyPost_ret (v := .agg #[.int .i64 0, .int .i64 0]) (by simp [results, Try.results38, go_sem, q0, q1]) rfl ⟨?_, below_set2 (unhide HXj) (Nat.le_refl _) _ _⟩
      rw [unhide HE2]
      rfl

set_option maxRecDepth 100000 in
set_option maxHeartbeats 2000000 in
theorem comeFault_any (w : World) (F : Int × Int) (v : Value) (xs : List Int) (x : Int) (h : IsL KI w v xs) (hn : xs.length ≤ maxLen) :
    Calls Try.prog 18 #[.agg #[.int .i64 F.1, .int .i64 F.2], v, .int .i64 x] w fun e w' => e = .returned (faultV (if F.1 ≠ 0 then F else comesF xs x)) ∧ Below w.heap.size w w' := by
  have HH : Hid (∀ W, Below w.heap.size w W → Calls Try.prog 30 #[v, .int .i64 x] W fun e w' => e = .returned (.bool (xs.contains x)) ∧ w' = W) := fun W hW => has_same W v xs x (h.below hW) hn
  obtain ⟨F0, F1⟩ := F
  obtain ⟨R, eR⟩ : ∃ R, (if ((F0, F1) : Int × Int).1 ≠ 0 then (F0, F1) else comesF xs x) = R := ⟨_, rfl⟩
  rw [eR]
  unfold comesF at eR
  obtain ⟨a0, c0, rfl⟩ := h.form
  obtain ⟨q, hq⟩ : ∃ q, xs.contains x = q := ⟨_, rfl⟩
  rw [hq] at HH eR
  unfold maxLen at hn
  generalize xs.length = n at *
  simp only at eR ⊢
  have HR := hide eR
  clear h hq eR
  obtain ⟨W0, e0, hB, k0, k1⟩ := two_new w (.cells #[.int .i64 F0, .int .i64 F1] 29) (.cells #[.int .i64 0, .int .i64 0] 29)
  have HX := hide hB; have HP := hide k0; have HQ := hide k1; have HE := hide e0
  clear hB k0 k1 e0
  go_enter Try.func18, Try.ntmps18
  go_upto_region 1 with fail
  rw [unhide HE]
  clear HE
  obtain ⟨p0, p1, pf0, pf1, pl⟩ := block2 (unhide HP)
  obtain ⟨q0, q1, qf0, qf1, ql⟩ := block2 (unhide HQ)
  by_cases hF : F0 ≠ 0
  · have hr := unhide HR
    rw [if_pos hF] at hr
    subst hr
    have x0 : (F0 != 0) = true := by simpa using hF
    clear HR hF
    go_wp2_with fail
    exact bodyPost_ret (v := .agg #[.int .i64 F0, .int .i64 F1]) (by simp [results, Try.results18, go_sem, q0, q1]) rfl ⟨rfl, below_set2 (unhide HX) (Nat.le_succ _) _ _⟩
  have hr := unhide HR
  rw [if_neg hF] at hr
  have HR2 := hide hr
  have hF0 : F0 = 0 := by omega
  subst hF0
  clear HR hr hF
  by_cases h1 : x < 1
  · have hr := unhide HR2
    rw [if_pos h1] at hr
    subst hr
    clear HR2
    go_wp2_with (go_at_call 16; refine (refF_any _ _ _).mono ?_; rintro e w1 ⟨rfl, hb1⟩; have HX1 := hide (Below.next (unhide HX) hb1 (Nat.le_refl _)); have HQ1 := hide (keep_below (unhide HQ) hb1); clear hb1 p0 p1 pf0 pf1 pl q0 q1 qf0 qf1 ql; obtain ⟨q0, q1, qf0, qf1, ql⟩ := block2 (unhide HQ1))
    exact bodyPost_ret (v := .agg #[.int .i64 3, .int .i64 (-1)]) (by simp [results, Try.results18, go_sem, q0, q1]) rfl ⟨rfl, below_set2 (unhide HX1) (Nat.le_succ _) _ _⟩
  have hr := unhide HR2
  rw [if_neg h1] at hr
  have HR3 := hide hr
  clear HR2 hr
  cases q with
  | true =>
    have hr := unhide HR3
    rw [if_pos rfl] at hr
    subst hr
    clear HR3
    go_wp2_with (first | (go_at_call 30; refine (unhide HH _ (unhide HX)).mono ?_; rintro e W0 ⟨rfl, rfl⟩) | (go_at_call 16; refine (refF_any _ _ _).mono ?_; rintro e w1 ⟨rfl, hb1⟩; have HX1 := hide (Below.next (unhide HX) hb1 (Nat.le_refl _)); have HQ1 := hide (keep_below (unhide HQ) hb1); clear hb1 p0 p1 pf0 pf1 pl q0 q1 qf0 qf1 ql; obtain ⟨q0, q1, qf0, qf1, ql⟩ := block2 (unhide HQ1)))
    exact bodyPost_ret (v := .agg #[.int .i64 10, .int .i64 (-1)]) (by simp [results, Try.results18, go_sem, q0, q1]) rfl ⟨rfl, below_set2 (unhide HX1) (Nat.le_succ _) _ _⟩
  | false =>
    have hr := unhide HR3
    rw [if_neg (by simp)] at hr
    have HR4 := hide hr
    clear HR3 hr
    by_cases h2 : n = 5000
    · have hr := unhide HR4
      rw [if_pos h2] at hr
      subst hr
      subst h2
      clear HR4
      go_wp2_with (first | (go_at_call 30; refine (unhide HH _ (unhide HX)).mono ?_; rintro e W0 ⟨rfl, rfl⟩) | (go_at_call 16; refine (refF_any _ _ _).mono ?_; rintro e w1 ⟨rfl, hb1⟩; have HX1 := hide (Below.next (unhide HX) hb1 (Nat.le_refl _)); have HQ1 := hide (keep_below (unhide HQ) hb1); clear hb1 p0 p1 pf0 pf1 pl q0 q1 qf0 qf1 ql; obtain ⟨q0, q1, qf0, qf1, ql⟩ := block2 (unhide HQ1)))
      exact bodyPost_ret (v := .agg #[.int .i64 9, .int .i64 0]) (by simp [results, Try.results18, go_sem, q0, q1]) rfl ⟨rfl, below_set2 (unhide HX1) (Nat.le_succ _) _ _⟩
    · have hr := unhide HR4
      rw [if_neg h2] at hr
      subst hr
      have xn : ((n : Int) == 5000) = false := by simp; omega
      clear HR4 h2
      go_wp2_with (go_at_call 30; refine (unhide HH _ (unhide HX)).mono ?_; rintro e W0 ⟨rfl, rfl⟩)
      exact bodyPost_ret (v := .agg #[.int .i64 0, .int .i64 0]) (by simp [results, Try.results18, go_sem, q0, q1]) rfl ⟨rfl, below_set2 (unhide HX) (Nat.le_succ _) _ _⟩
end Go.Proofs.Ytpogcfdmkeebmaa
