/-
  code.Check.
-/
import Derived.Test.YtgeinjldjpaleaaDoorF
namespace Go.Proofs.YtgeinjldjpaleaaDoor
open Go.RowKit

/-- The first of some that is not 0, and where. -/
def firstF (f : Nat → Int) : Nat → Nat → Int × Int
  | 0, _ => (0, 0)
  | n + 1, i => if f i = 0 then firstF f n (i + 1) else (f i, i)
theorem firstF_at (f : Nat → Int) {n j : Nat} (h : j < n) : firstF f (n - j) j = if f j = 0 then firstF f (n - (j + 1)) (j + 1) else (f j, (j : Int)) := by
  obtain ⟨k, hk⟩ : ∃ k, n - j = k + 1 := ⟨n - j - 1, by omega⟩
  rw [hk, show n - (j + 1) = k by omega]
  rfl
theorem firstF_zero (f : Nat → Int) : ∀ n i, (firstF f n i).1 = 0 → firstF f n i = (0, 0) ∧ ∀ j, i ≤ j → j < i + n → f j = 0
  | 0, _, _ => ⟨rfl, fun j h1 h2 => by omega⟩
  | n + 1, i, h => by
    unfold firstF at h ⊢
    by_cases h0 : f i = 0
    · rw [if_pos h0] at h ⊢
      obtain ⟨h1, h2⟩ := firstF_zero f n (i + 1) h
      refine ⟨h1, fun j h3 h4 => ?_⟩
      rcases Nat.eq_or_lt_of_le h3 with rfl | h5
      · exact h0
      · exact h2 j h5 (by omega)
    · rw [if_neg h0] at h
      exact absurd h h0
/-- What is wrong with the pipes; with the instructions; with a program. -/
def pipeF (p : Pg) (j : Nat) : Int := if 0 ≤ p.pipes.getD j 0 ∧ p.pipes.getD j 0 ≤ 100 then 0 else 8
def codeF (p : Pg) (j : Nat) : Int := wrongF p (p.code.getD j (0, 0, 0))
def Ranges (p : Pg) : Prop := (0 ≤ p.cells ∧ p.cells ≤ 20) ∧ (0 ≤ p.locks ∧ p.locks ≤ 20) ∧ (0 ≤ p.groups ∧ p.groups ≤ 20)
instance (p : Pg) : Decidable (Ranges p) := by unfold Ranges; infer_instance
def checkF (p : Pg) : Int × Int := if 1000 < p.code.length ∨ 20 < p.pipes.length then (2, 0) else if ¬ Ranges p then (3, 0) else if (firstF (pipeF p) p.pipes.length 0).1 ≠ 0 then firstF (pipeF p) p.pipes.length 0 else firstF (codeF p) p.code.length 0

set_option maxRecDepth 100000 in
set_option maxHeartbeats 2000000 in
theorem check_many1 (w : World) (v : Value) (p : Pg) (h : IsP w v p) (_hl : p.code.length ≤ maxLen) (hm : 1000 < p.code.length) :
    Calls Tryd.prog 10 #[v] w fun e w' => e = .returned (faultV (2, 0)) ∧ Below w.heap.size w w' := by
  obtain ⟨a, c, b, d, rfl, hc, hp⟩ := h.form
  obtain ⟨W0, e0, hB, k0, k1⟩ := two_new w (.cells #[.slice a p.code.length c, .int .i64 p.cells, .slice b p.pipes.length d, .int .i64 p.locks, .int .i64 p.groups] 25) (.cells #[.int .i64 0, .int .i64 0] 31)
  have HX := hide hB; have HE := hide e0; have HK := hide k0; have HF := hide k1
  have j1 : (1000 : Int) < (p.code.length : Int) := by omega
  clear hB e0 k0 k1 h hc hp hm
  go_enter Tryd.func10, Tryd.ntmps10
  go_upto_region 1 with fail
  rw [unhide HE]
  clear HE
  obtain ⟨⟨q0, q1, q2, q3, q4⟩, ql⟩ := block5 (unhide HK)
  obtain ⟨p0, p1, f0, f1, pl⟩ := block2 (unhide HF)
  go_wp2_with fail
  exact bodyPost_ret (v := .agg #[.int .i64 2, .int .i64 0]) (by simp [results, Tryd.results10, go_sem, p0, p1]) rfl ⟨rfl, below_set2 (unhide HX) (Nat.le_succ _) _ _⟩

set_option maxRecDepth 100000 in
set_option maxHeartbeats 2000000 in
theorem check_many2 (w : World) (v : Value) (p : Pg) (h : IsP w v p) (hn : ¬ 1000 < p.code.length) (_hl : p.pipes.length ≤ maxLen) (hm : 20 < p.pipes.length) :
    Calls Tryd.prog 10 #[v] w fun e w' => e = .returned (faultV (2, 0)) ∧ Below w.heap.size w w' := by
  obtain ⟨a, c, b, d, rfl, hc, hp⟩ := h.form
  obtain ⟨W0, e0, hB, k0, k1⟩ := two_new w (.cells #[.slice a p.code.length c, .int .i64 p.cells, .slice b p.pipes.length d, .int .i64 p.locks, .int .i64 p.groups] 25) (.cells #[.int .i64 0, .int .i64 0] 31)
  have HX := hide hB; have HE := hide e0; have HK := hide k0; have HF := hide k1
  have j1 : ¬ (1000 : Int) < (p.code.length : Int) := by omega
  have j2 : (20 : Int) < (p.pipes.length : Int) := by omega
  clear hB e0 k0 k1 h hc hp hm hn
  go_enter Tryd.func10, Tryd.ntmps10
  go_upto_region 1 with fail
  rw [unhide HE]
  clear HE
  obtain ⟨⟨q0, q1, q2, q3, q4⟩, ql⟩ := block5 (unhide HK)
  obtain ⟨p0, p1, f0, f1, pl⟩ := block2 (unhide HF)
  go_wp2_with fail
  exact bodyPost_ret (v := .agg #[.int .i64 2, .int .i64 0]) (by simp [results, Tryd.results10, go_sem, p0, p1]) rfl ⟨rfl, below_set2 (unhide HX) (Nat.le_succ _) _ _⟩

set_option maxRecDepth 100000 in
set_option maxHeartbeats 2000000 in
theorem check_range1 (w : World) (v : Value) (p : Pg) (h : IsP w v p) (hn : ¬ 1000 < p.code.length) (hm : ¬ 20 < p.pipes.length) (h1 : ¬ (0 ≤ p.cells ∧ p.cells ≤ 20)) :
    Calls Tryd.prog 10 #[v] w fun e w' => e = .returned (faultV (3, 0)) ∧ Below w.heap.size w w' := by
  obtain ⟨a, c, b, d, rfl, hc, hp⟩ := h.form
  obtain ⟨W0, e0, hB, k0, k1⟩ := two_new w (.cells #[.slice a p.code.length c, .int .i64 p.cells, .slice b p.pipes.length d, .int .i64 p.locks, .int .i64 p.groups] 25) (.cells #[.int .i64 0, .int .i64 0] 31)
  have HX := hide hB; have HE := hide e0; have HK := hide k0; have HF := hide k1
  have j1 : ¬ (1000 : Int) < (p.code.length : Int) := by omega
  have j2 : ¬ (20 : Int) < (p.pipes.length : Int) := by omega
  have HA1 := hide fun W => within_any W p.cells 0 20
  rw [decide_eq_false h1] at HA1
  clear hB e0 k0 k1 h hc hp h1
  go_enter Tryd.func10, Tryd.ntmps10
  go_upto_region 1 with fail
  rw [unhide HE]
  clear HE
  obtain ⟨⟨q0, q1, q2, q3, q4⟩, ql⟩ := block5 (unhide HK)
  obtain ⟨p0, p1, f0, f1, pl⟩ := block2 (unhide HF)
  go_wp2_with (first
    | (go_at_call 23; refine (unhide HA1 _).mono ?_; rintro e w1 ⟨rfl, rfl⟩; clear HA1))
  exact bodyPost_ret (v := .agg #[.int .i64 3, .int .i64 0]) (by simp [results, Tryd.results10, go_sem, p0, p1]) rfl ⟨rfl, below_set2 (unhide HX) (Nat.le_succ _) _ _⟩

set_option maxRecDepth 100000 in
set_option maxHeartbeats 2000000 in
theorem check_range2 (w : World) (v : Value) (p : Pg) (h : IsP w v p) (hn : ¬ 1000 < p.code.length) (hm : ¬ 20 < p.pipes.length) (h1 : (0 ≤ p.cells ∧ p.cells ≤ 20)) (h2 : ¬ (0 ≤ p.locks ∧ p.locks ≤ 20)) :
    Calls Tryd.prog 10 #[v] w fun e w' => e = .returned (faultV (3, 0)) ∧ Below w.heap.size w w' := by
  obtain ⟨a, c, b, d, rfl, hc, hp⟩ := h.form
  obtain ⟨W0, e0, hB, k0, k1⟩ := two_new w (.cells #[.slice a p.code.length c, .int .i64 p.cells, .slice b p.pipes.length d, .int .i64 p.locks, .int .i64 p.groups] 25) (.cells #[.int .i64 0, .int .i64 0] 31)
  have HX := hide hB; have HE := hide e0; have HK := hide k0; have HF := hide k1
  have j1 : ¬ (1000 : Int) < (p.code.length : Int) := by omega
  have j2 : ¬ (20 : Int) < (p.pipes.length : Int) := by omega
  have HA1 := hide fun W => within_any W p.cells 0 20
  rw [decide_eq_true h1] at HA1
  have HA2 := hide fun W => within_any W p.locks 0 20
  rw [decide_eq_false h2] at HA2
  clear hB e0 k0 k1 h hc hp h1 h2
  go_enter Tryd.func10, Tryd.ntmps10
  go_upto_region 1 with fail
  rw [unhide HE]
  clear HE
  obtain ⟨⟨q0, q1, q2, q3, q4⟩, ql⟩ := block5 (unhide HK)
  obtain ⟨p0, p1, f0, f1, pl⟩ := block2 (unhide HF)
  go_wp2_with (first
    | (go_at_call 23; refine (unhide HA1 _).mono ?_; rintro e w1 ⟨rfl, rfl⟩; clear HA1)
    | (go_at_call 23; refine (unhide HA2 _).mono ?_; rintro e w1 ⟨rfl, rfl⟩; clear HA2))
  exact bodyPost_ret (v := .agg #[.int .i64 3, .int .i64 0]) (by simp [results, Tryd.results10, go_sem, p0, p1]) rfl ⟨rfl, below_set2 (unhide HX) (Nat.le_succ _) _ _⟩

set_option maxRecDepth 100000 in
set_option maxHeartbeats 2000000 in
theorem check_range3 (w : World) (v : Value) (p : Pg) (h : IsP w v p) (hn : ¬ 1000 < p.code.length) (hm : ¬ 20 < p.pipes.length) (h1 : (0 ≤ p.cells ∧ p.cells ≤ 20)) (h2 : (0 ≤ p.locks ∧ p.locks ≤ 20)) (h3 : ¬ (0 ≤ p.groups ∧ p.groups ≤ 20)) :
    Calls Tryd.prog 10 #[v] w fun e w' => e = .returned (faultV (3, 0)) ∧ Below w.heap.size w w' := by
  obtain ⟨a, c, b, d, rfl, hc, hp⟩ := h.form
  obtain ⟨W0, e0, hB, k0, k1⟩ := two_new w (.cells #[.slice a p.code.length c, .int .i64 p.cells, .slice b p.pipes.length d, .int .i64 p.locks, .int .i64 p.groups] 25) (.cells #[.int .i64 0, .int .i64 0] 31)
  have HX := hide hB; have HE := hide e0; have HK := hide k0; have HF := hide k1
  have j1 : ¬ (1000 : Int) < (p.code.length : Int) := by omega
  have j2 : ¬ (20 : Int) < (p.pipes.length : Int) := by omega
  have HA1 := hide fun W => within_any W p.cells 0 20
  rw [decide_eq_true h1] at HA1
  have HA2 := hide fun W => within_any W p.locks 0 20
  rw [decide_eq_true h2] at HA2
  have HA3 := hide fun W => within_any W p.groups 0 20
  rw [decide_eq_false h3] at HA3
  clear hB e0 k0 k1 h hc hp h1 h2 h3
  go_enter Tryd.func10, Tryd.ntmps10
  go_upto_region 1 with fail
  rw [unhide HE]
  clear HE
  obtain ⟨⟨q0, q1, q2, q3, q4⟩, ql⟩ := block5 (unhide HK)
  obtain ⟨p0, p1, f0, f1, pl⟩ := block2 (unhide HF)
  go_wp2_with (first
    | (go_at_call 23; refine (unhide HA1 _).mono ?_; rintro e w1 ⟨rfl, rfl⟩; clear HA1)
    | (go_at_call 23; refine (unhide HA2 _).mono ?_; rintro e w1 ⟨rfl, rfl⟩; clear HA2)
    | (go_at_call 23; refine (unhide HA3 _).mono ?_; rintro e w1 ⟨rfl, rfl⟩; clear HA3))
  exact bodyPost_ret (v := .agg #[.int .i64 3, .int .i64 0]) (by simp [results, Tryd.results10, go_sem, p0, p1]) rfl ⟨rfl, below_set2 (unhide HX) (Nat.le_succ _) _ _⟩

set_option maxRecDepth 100000 in
set_option maxHeartbeats 2000000 in
theorem check_loops (w : World) (v : Value) (p : Pg) (h : IsP w v p) (ht : Tabs w) (hn : ¬ 1000 < p.code.length) (hm : ¬ 20 < p.pipes.length) (hrg : Ranges p) :
    Calls Tryd.prog 10 #[v] w fun e w' => e = .returned (faultV (if (firstF (pipeF p) p.pipes.length 0).1 ≠ 0 then firstF (pipeF p) p.pipes.length 0 else firstF (codeF p) p.code.length 0)) ∧ Below w.heap.size w w' := by
  have HRM := hide fun k => room_wrap p k (by omega) (by omega) hrg.1 hrg.2.1 hrg.2.2
  obtain ⟨h1, h2, h3⟩ := hrg
  obtain ⟨R, eR⟩ : ∃ R, (if (firstF (pipeF p) p.pipes.length 0).1 ≠ 0 then firstF (pipeF p) p.pipes.length 0 else firstF (codeF p) p.code.length 0) = R := ⟨_, rfl⟩
  rw [eR]
  have HR := hide eR
  obtain ⟨R1, e1⟩ : ∃ R, firstF (pipeF p) p.pipes.length 0 = R := ⟨_, rfl⟩
  rw [e1] at HR
  obtain ⟨R2, e2⟩ : ∃ R, firstF (codeF p) p.code.length 0 = R := ⟨_, rfl⟩
  rw [e2] at HR
  have HR1 : Hid (firstF (pipeF p) (p.pipes.length - 0) 0 = R1) := e1
  have HR2 : Hid (firstF (codeF p) (p.code.length - 0) 0 = R2) := e2
  obtain ⟨a, c, b, d, rfl, hc, hp⟩ := h.form
  obtain ⟨W0, e0, hB, k0, k1⟩ := two_new w (.cells #[.slice a p.code.length c, .int .i64 p.cells, .slice b p.pipes.length d, .int .i64 p.locks, .int .i64 p.groups] 25) (.cells #[.int .i64 0, .int .i64 0] 31)
  have HX := hide hB; have HE := hide e0; have HK := hide k0; have HF := hide k1
  have HC0 := hide ((hc.below hB).opens kc rfl)
  have HP0 := hide ((hp.below hB).opens ki rfl)
  have HP := hide (h.below hB); have HT := hide (ht.below hB)
  have HA1 := hide fun W => within_any W p.cells 0 20
  rw [decide_eq_true h1] at HA1
  have HA2 := hide fun W => within_any W p.locks 0 20
  rw [decide_eq_true h2] at HA2
  have HA3 := hide fun W => within_any W p.groups 0 20
  rw [decide_eq_true h3] at HA3
  obtain ⟨n, en⟩ : ∃ n, p.code.length = n := ⟨_, rfl⟩
  obtain ⟨m, em⟩ : ∃ m, p.pipes.length = m := ⟨_, rfl⟩
  have HN := hide en; have HM := hide em
  rw [en] at HE HK HP HC0 HR2 hn; rw [em] at HE HK HP HP0 HR1 hm; rw [en, em]
  have j1 : ¬ (1000 : Int) < (n : Int) := by omega
  have j2 : ¬ (20 : Int) < (m : Int) := by omega
  clear hB e0 k0 k1 h hc hp ht h1 h2 h3 eR e1 e2 en em
  go_enter Tryd.func10, Tryd.ntmps10
  go_upto_region 1 with fail
  rw [unhide HE]
  clear HE
  obtain ⟨⟨q0, q1, q2, q3, q4⟩, ql⟩ := block5 (unhide HK)
  obtain ⟨p0, p1, f0, f1, pl⟩ := block2 (unhide HF)
  go_upto_region 3 with fail
  go_upto_region 5 with (first
    | (go_at_call 23; refine (unhide HA1 _).mono ?_; rintro e w1 ⟨rfl, rfl⟩; clear HA1)
    | (go_at_call 23; refine (unhide HA2 _).mono ?_; rintro e w1 ⟨rfl, rfl⟩; clear HA2)
    | (go_at_call 23; refine (unhide HA3 _).mono ?_; rintro e w1 ⟨rfl, rfl⟩))
  clear HA3
  go_wp2_with fail
  go_loopw [39] (fun i W => ∃ j : Nat, j ≤ m ∧ i = .int .i64 j ∧ W = w1 ∧ Hid (firstF (pipeF p) (m - j) j = R1)) (fun i _ => m - (intOf i).toNat)
  case atStart => exact ⟨0, Nat.zero_le _, rfl, rfl, HR1⟩
  case round =>
    obtain ⟨j, hj, rfl, rfl, HRj⟩ := hrel
    clear HR1
    by_cases hlt : j < m
    · obtain ⟨b0, o0, rfl, hb0, l0⟩ := unhide HP0 (by omega)
      have k0 := l0.ints (j := j) (by rw [unhide HM]; exact hlt)
      have hRn := unhide HRj
      rw [firstF_at _ hlt] at hRn
      obtain ⟨x, ex⟩ : ∃ x, p.pipes.getD j 0 = x := ⟨_, rfl⟩
      have hpf : pipeF p j = if 0 ≤ x ∧ x ≤ 100 then 0 else 8 := by unfold pipeF; rw [ex]
      rw [ex] at k0
      rw [hpf] at hRn
      have i1 : (j : Int) < (m : Int) := by omega
      have i0 : (0 : Int) ≤ (j : Int) := by omega
      have HW := hide fun W => within_any W x 0 100
      by_cases hx : 0 ≤ x ∧ x ≤ 100
      · rw [if_pos hx, if_pos rfl] at hRn
        rw [decide_eq_true hx] at HW
        have HRN : Hid (firstF (pipeF p) (m - (j + 1)) (j + 1) = R1) := hRn
        clear hRn HRj ex hx l0 hpf
        go_wp2_with (go_at_call 23; refine (unhide HW _).mono ?_; rintro e w2 ⟨rfl, rfl⟩)
        go_roundw
        case rel => exact ⟨j + 1, by omega, by go_num, by first | rfl | trivial, HRN⟩
        case measure => simp [intOf]; omega
      · rw [if_neg hx, if_neg (by decide)] at hRn
        rw [decide_eq_false hx] at HW
        have hRR : R = (8, (j : Int)) := by have := unhide HR; rw [← hRn] at this; exact (this.symm.trans (if_pos (by simp)))
        subst hRR
        clear hRn HRj ex hx l0 HR HR2 hpf
        go_wp2_with (go_at_call 23; refine (unhide HW _).mono ?_; rintro e w2 ⟨rfl, rfl⟩)
        exact bodyPost_ret (v := .agg #[.int .i64 8, .int .i64 j]) (by simp [results, Tryd.results10, go_sem, p0, p1]) rfl ⟨rfl, below_set2 (unhide HX) (Nat.le_succ _) _ _⟩
    · have hRn := unhide HRj
      rw [show m - j = 0 by omega] at hRn
      have e1 : R1 = (0, 0) := hRn.symm
      subst e1
      have hRR : R = R2 := by have := unhide HR; exact (this.symm.trans (if_neg (by simp)))
      subst hRR
      have i1 : ¬ (j : Int) < (m : Int) := by omega
      clear hRn HRj HR HP0
      have HPW := hide fun W (hW : Below wr.heap.size wr W) i => wrong_any W _ p ((unhide HP).below hW) ((unhide HT).below hW) i (unhide HRM)
      clear HP HT HRM
      go_wp2_with fail
      go_loopw [53] (fun i W => ∃ j : Nat, j ≤ n ∧ i = .int .i64 j ∧ Hid (Below wr.heap.size wr W) ∧ Hid (firstF (codeF p) (n - j) j = R)) (fun i _ => n - (intOf i).toNat)
      case atStart => exact ⟨0, Nat.zero_le _, rfl, Below.refl _ _, HR2⟩
      case round =>
        obtain ⟨j2, hj2, rfl, HBj, HRj⟩ := hrel
        clear HR2 q0 q1 q2 q3 q4 ql p0 p1 f0 f1 pl
        have HXr := hide ((unhide HX).trans ((unhide HBj).mono (unhide HX).size))
        have HKr := hide (keep_below (unhide HK) (unhide HBj))
        have HFr := hide (keep_below (unhide HF) (unhide HBj))
        by_cases hlt2 : j2 < n
        · obtain ⟨b0, o0, rfl, hb0, l0⟩ := unhide HC0 (by omega)
          obtain ⟨⟨t, x, y⟩, hx⟩ : ∃ x, p.code.getD j2 (0, 0, 0) = x := ⟨_, rfl⟩
          obtain ⟨k0, k1, k2⟩ := (l0.below (unhide HBj) hb0).instr (j := j2) (by rw [unhide HN]; exact hlt2) hx
          have hRn := unhide HRj
          rw [firstF_at _ hlt2] at hRn
          have hcf : codeF p j2 = wrongF p (t, x, y) := by unfold codeF; rw [hx]
          rw [hcf] at hRn
          have HWR := hide fun W hW => unhide HPW W hW (t, x, y)
          obtain ⟨q, eq⟩ : ∃ q, wrongF p (t, x, y) = q := ⟨_, rfl⟩
          rw [eq] at HWR hRn
          have HRN := hide hRn
          have i3 : (j2 : Int) < (n : Int) := by omega
          have i4 : (0 : Int) ≤ (j2 : Int) := by omega
          clear hRn HRj hcf hx eq l0
          go_upto_region 14 with fail
          clear k0 k1 k2
          obtain ⟨W3, e3, b3, z3⟩ := one_new wr (.cells #[.int .i64 t, .int .i64 x, .int .i64 y] 38)
          have HB3 := hide ((unhide HBj).trans (b3.mono (unhide HBj).size))
          have HX3 := hide ((unhide HXr).trans (b3.mono (unhide HXr).size))
          have HK3 := hide (block5 (keep_below (unhide HKr) b3))
          have HF3 := hide (keep_below (unhide HFr) b3)
          have HI3 := hide (block3 z3)
          rw [e3]
          clear e3 b3 z3
          obtain ⟨⟨q0, q1, q2, q3, q4⟩, ql⟩ := unhide HK3
          obtain ⟨⟨k0, k1, k2⟩, -, kl⟩ := unhide HI3
          by_cases hq : q = 0
          · subst hq
            have HRM : Hid (firstF (codeF p) (n - (j2 + 1)) (j2 + 1) = R) := by have := unhide HRN; rw [if_pos rfl] at this; exact this
            clear HRN
            go_wp2_with (go_at_call 24; refine (unhide HWR _ (unhide HB3)).mono ?_; rintro e w4 ⟨rfl, b4⟩; have HB4 := hide ((unhide HB3).trans (b4.mono (unhide HB3).size)); clear b4 q0 q1 q2 q3 q4 k0 k1 k2)
            go_roundw
            case rel => exact ⟨j2 + 1, by omega, by go_num, HB4, HRM⟩
            case measure => simp [intOf]; omega
          · have hRR : R = (q, (j2 : Int)) := by have := unhide HRN; rw [if_neg hq] at this; exact this.symm
            subst hRR
            clear HRN
            have hq2 : (q == 0) = false := by simpa using hq
            go_wp2_with (go_at_call 24; refine (unhide HWR _ (unhide HB3)).mono ?_; rintro e w4 ⟨rfl, b4⟩; have HX4 := hide ((unhide HX3).trans (b4.mono (unhide HX3).size)); have HF4 := hide (block2 (keep_below (unhide HF3) b4)); clear b4 q0 q1 q2 q3 q4 k0 k1 k2; obtain ⟨p0, p1, f0, f1, pl⟩ := unhide HF4)
            exact bodyPost_ret (v := .agg #[.int .i64 q, .int .i64 j2]) (by simp [results, Tryd.results10, go_sem, p0, p1]) rfl ⟨rfl, below_set2 (unhide HX4) (Nat.le_succ _) _ _⟩
        · have hRn := unhide HRj
          rw [show n - j2 = 0 by omega] at hRn
          have e1 : R = (0, 0) := hRn.symm
          subst e1
          have i3 : ¬ (j2 : Int) < (n : Int) := by omega
          clear hRn HRj
          obtain ⟨p0, p1, f0, f1, pl⟩ := block2 (unhide HFr)
          go_wp2_with fail
          exact bodyPost_ret (v := .agg #[.int .i64 0, .int .i64 0]) (by simp [results, Tryd.results10, go_sem, p0, p1]) rfl ⟨rfl, below_set2 (unhide HXr) (Nat.le_succ _) _ _⟩

theorem check_any (w : World) (v : Value) (p : Pg) (h : IsP w v p) (ht : Tabs w) (hn : p.code.length ≤ maxLen) (hm : p.pipes.length ≤ maxLen) :
    Calls Tryd.prog 10 #[v] w fun e w' => e = .returned (faultV (checkF p)) ∧ Below w.heap.size w w' := by
  unfold checkF
  by_cases q1 : 1000 < p.code.length
  · rw [if_pos (Or.inl q1)]; exact check_many1 w v p h hn q1
  by_cases q2 : 20 < p.pipes.length
  · rw [if_pos (Or.inr q2)]; exact check_many2 w v p h q1 hm q2
  rw [if_neg (by omega)]
  by_cases q3 : Ranges p
  · rw [if_neg (fun h => h q3)]; exact check_loops w v p h ht q1 q2 q3
  rw [if_pos q3]
  unfold Ranges at q3
  by_cases h1 : 0 ≤ p.cells ∧ p.cells ≤ 20
  · by_cases h2 : 0 ≤ p.locks ∧ p.locks ≤ 20
    · exact check_range3 w v p h q1 q2 h1 h2 (fun h3 => q3 ⟨h1, h2, h3⟩)
    · exact check_range2 w v p h q1 q2 h1 h2
  · exact check_range1 w v p h q1 q2 h1

end Go.Proofs.YtgeinjldjpaleaaDoor
