/-
  taskmillref.ProgramFault.
-/
import Derived.Test.YtgeinjldjpaleaaDoorDb
namespace Go.Proofs.YtgeinjldjpaleaaDoor
open Go.RowKit

set_option maxRecDepth 100000 in
set_option maxHeartbeats 1000000 in
theorem pf_many1 (w : World) (v : Value) (p : Pg) (h : IsP w v p) (hm : 1000 < p.code.length) :
    Calls Tryd.prog 12 #[v] w fun e w' => e = .returned (faultV (2, 0)) ∧ Below w.heap.size w w' := by
  obtain ⟨a, c, b, d, rfl, hc, hp⟩ := h.form
  obtain ⟨W0, e0, hB, k0, k1⟩ := two_new w (.cells #[.slice a p.code.length c, .int .i64 p.cells, .slice b p.pipes.length d, .int .i64 p.locks, .int .i64 p.groups] 25) (.cells #[.int .i64 0, .int .i64 0] 31)
  have HX := hide hB; have HE := hide e0; have HK := hide k0; have HF := hide k1
  have j1 : (1000 : Int) < (p.code.length : Int) := by omega
  clear hB e0 k0 k1 h hc hp
  go_enter Tryd.func12, Tryd.ntmps12
  go_upto_region 1 with fail
  rw [unhide HE]
  clear HE
  obtain ⟨⟨q0, q1, q2, q3, q4⟩, ql⟩ := block5 (unhide HK)
  go_wp2_with (go_at_call 14; refine (f_any _ _ _).mono ?_; rintro e w1 ⟨rfl, b1⟩; have HX1 := hide ((unhide HX).trans (b1.mono (unhide HX).size)); have HF1 := hide (block2 (keep_below (unhide HF) b1)); clear b1 q0 q1 q2 q3 q4; obtain ⟨p0, p1, f0, f1, pl⟩ := unhide HF1)
  exact bodyPost_ret (v := .agg #[.int .i64 2, .int .i64 0]) (by simp [results, Tryd.results12, go_sem, p0, p1]) rfl ⟨rfl, below_set2 (unhide HX1) (Nat.le_succ _) _ _⟩

set_option maxRecDepth 100000 in
set_option maxHeartbeats 1000000 in
theorem pf_many2 (w : World) (v : Value) (p : Pg) (h : IsP w v p) (hn : ¬ 1000 < p.code.length) (hm : 20 < p.pipes.length) :
    Calls Tryd.prog 12 #[v] w fun e w' => e = .returned (faultV (2, 0)) ∧ Below w.heap.size w w' := by
  obtain ⟨a, c, b, d, rfl, hc, hp⟩ := h.form
  obtain ⟨W0, e0, hB, k0, k1⟩ := two_new w (.cells #[.slice a p.code.length c, .int .i64 p.cells, .slice b p.pipes.length d, .int .i64 p.locks, .int .i64 p.groups] 25) (.cells #[.int .i64 0, .int .i64 0] 31)
  have HX := hide hB; have HE := hide e0; have HK := hide k0; have HF := hide k1
  have j1 : ¬ (1000 : Int) < (p.code.length : Int) := by omega
  have j2 : (20 : Int) < (p.pipes.length : Int) := by omega
  clear hB e0 k0 k1 h hc hp
  go_enter Tryd.func12, Tryd.ntmps12
  go_upto_region 1 with fail
  rw [unhide HE]
  clear HE
  obtain ⟨⟨q0, q1, q2, q3, q4⟩, ql⟩ := block5 (unhide HK)
  go_wp2_with (go_at_call 14; refine (f_any _ _ _).mono ?_; rintro e w1 ⟨rfl, b1⟩; have HX1 := hide ((unhide HX).trans (b1.mono (unhide HX).size)); have HF1 := hide (block2 (keep_below (unhide HF) b1)); clear b1 q0 q1 q2 q3 q4; obtain ⟨p0, p1, f0, f1, pl⟩ := unhide HF1)
  exact bodyPost_ret (v := .agg #[.int .i64 2, .int .i64 0]) (by simp [results, Tryd.results12, go_sem, p0, p1]) rfl ⟨rfl, below_set2 (unhide HX1) (Nat.le_succ _) _ _⟩

set_option maxRecDepth 100000 in
set_option maxHeartbeats 1000000 in
theorem pf_range0a (w : World) (v : Value) (p : Pg) (h : IsP w v p) (hn : ¬ 1000 < p.code.length) (hm : ¬ 20 < p.pipes.length) (c0a : p.cells < 0) :
    Calls Tryd.prog 12 #[v] w fun e w' => e = .returned (faultV (3, 0)) ∧ Below w.heap.size w w' := by
  obtain ⟨a, c, b, d, rfl, hc, hp⟩ := h.form
  obtain ⟨W0, e0, hB, k0, k1⟩ := two_new w (.cells #[.slice a p.code.length c, .int .i64 p.cells, .slice b p.pipes.length d, .int .i64 p.locks, .int .i64 p.groups] 25) (.cells #[.int .i64 0, .int .i64 0] 31)
  have HX := hide hB; have HE := hide e0; have HK := hide k0; have HF := hide k1
  have j1 : ¬ (1000 : Int) < (p.code.length : Int) := by omega
  have j2 : ¬ (20 : Int) < (p.pipes.length : Int) := by omega
  clear hB e0 k0 k1 h hc hp
  go_enter Tryd.func12, Tryd.ntmps12
  go_upto_region 1 with fail
  rw [unhide HE]
  clear HE
  obtain ⟨⟨q0, q1, q2, q3, q4⟩, ql⟩ := block5 (unhide HK)
  go_wp2_with (go_at_call 14; refine (f_any _ _ _).mono ?_; rintro e w1 ⟨rfl, b1⟩; have HX1 := hide ((unhide HX).trans (b1.mono (unhide HX).size)); have HF1 := hide (block2 (keep_below (unhide HF) b1)); clear b1 q0 q1 q2 q3 q4; obtain ⟨p0, p1, f0, f1, pl⟩ := unhide HF1)
  exact bodyPost_ret (v := .agg #[.int .i64 3, .int .i64 0]) (by simp [results, Tryd.results12, go_sem, p0, p1]) rfl ⟨rfl, below_set2 (unhide HX1) (Nat.le_succ _) _ _⟩

set_option maxRecDepth 100000 in
set_option maxHeartbeats 1000000 in
theorem pf_range0b (w : World) (v : Value) (p : Pg) (h : IsP w v p) (hn : ¬ 1000 < p.code.length) (hm : ¬ 20 < p.pipes.length) (c0a : ¬ p.cells < 0) (c0b : 20 < p.cells) :
    Calls Tryd.prog 12 #[v] w fun e w' => e = .returned (faultV (3, 0)) ∧ Below w.heap.size w w' := by
  obtain ⟨a, c, b, d, rfl, hc, hp⟩ := h.form
  obtain ⟨W0, e0, hB, k0, k1⟩ := two_new w (.cells #[.slice a p.code.length c, .int .i64 p.cells, .slice b p.pipes.length d, .int .i64 p.locks, .int .i64 p.groups] 25) (.cells #[.int .i64 0, .int .i64 0] 31)
  have HX := hide hB; have HE := hide e0; have HK := hide k0; have HF := hide k1
  have j1 : ¬ (1000 : Int) < (p.code.length : Int) := by omega
  have j2 : ¬ (20 : Int) < (p.pipes.length : Int) := by omega
  clear hB e0 k0 k1 h hc hp
  go_enter Tryd.func12, Tryd.ntmps12
  go_upto_region 1 with fail
  rw [unhide HE]
  clear HE
  obtain ⟨⟨q0, q1, q2, q3, q4⟩, ql⟩ := block5 (unhide HK)
  go_wp2_with (go_at_call 14; refine (f_any _ _ _).mono ?_; rintro e w1 ⟨rfl, b1⟩; have HX1 := hide ((unhide HX).trans (b1.mono (unhide HX).size)); have HF1 := hide (block2 (keep_below (unhide HF) b1)); clear b1 q0 q1 q2 q3 q4; obtain ⟨p0, p1, f0, f1, pl⟩ := unhide HF1)
  exact bodyPost_ret (v := .agg #[.int .i64 3, .int .i64 0]) (by simp [results, Tryd.results12, go_sem, p0, p1]) rfl ⟨rfl, below_set2 (unhide HX1) (Nat.le_succ _) _ _⟩

set_option maxRecDepth 100000 in
set_option maxHeartbeats 1000000 in
theorem pf_range1a (w : World) (v : Value) (p : Pg) (h : IsP w v p) (hn : ¬ 1000 < p.code.length) (hm : ¬ 20 < p.pipes.length) (c0a : ¬ p.cells < 0) (c0b : ¬ 20 < p.cells) (c1a : p.locks < 0) :
    Calls Tryd.prog 12 #[v] w fun e w' => e = .returned (faultV (3, 0)) ∧ Below w.heap.size w w' := by
  obtain ⟨a, c, b, d, rfl, hc, hp⟩ := h.form
  obtain ⟨W0, e0, hB, k0, k1⟩ := two_new w (.cells #[.slice a p.code.length c, .int .i64 p.cells, .slice b p.pipes.length d, .int .i64 p.locks, .int .i64 p.groups] 25) (.cells #[.int .i64 0, .int .i64 0] 31)
  have HX := hide hB; have HE := hide e0; have HK := hide k0; have HF := hide k1
  have j1 : ¬ (1000 : Int) < (p.code.length : Int) := by omega
  have j2 : ¬ (20 : Int) < (p.pipes.length : Int) := by omega
  clear hB e0 k0 k1 h hc hp
  go_enter Tryd.func12, Tryd.ntmps12
  go_upto_region 1 with fail
  rw [unhide HE]
  clear HE
  obtain ⟨⟨q0, q1, q2, q3, q4⟩, ql⟩ := block5 (unhide HK)
  go_wp2_with (go_at_call 14; refine (f_any _ _ _).mono ?_; rintro e w1 ⟨rfl, b1⟩; have HX1 := hide ((unhide HX).trans (b1.mono (unhide HX).size)); have HF1 := hide (block2 (keep_below (unhide HF) b1)); clear b1 q0 q1 q2 q3 q4; obtain ⟨p0, p1, f0, f1, pl⟩ := unhide HF1)
  exact bodyPost_ret (v := .agg #[.int .i64 3, .int .i64 0]) (by simp [results, Tryd.results12, go_sem, p0, p1]) rfl ⟨rfl, below_set2 (unhide HX1) (Nat.le_succ _) _ _⟩

set_option maxRecDepth 100000 in
set_option maxHeartbeats 1000000 in
theorem pf_range1b (w : World) (v : Value) (p : Pg) (h : IsP w v p) (hn : ¬ 1000 < p.code.length) (hm : ¬ 20 < p.pipes.length) (c0a : ¬ p.cells < 0) (c0b : ¬ 20 < p.cells) (c1a : ¬ p.locks < 0) (c1b : 20 < p.locks) :
    Calls Tryd.prog 12 #[v] w fun e w' => e = .returned (faultV (3, 0)) ∧ Below w.heap.size w w' := by
  obtain ⟨a, c, b, d, rfl, hc, hp⟩ := h.form
  obtain ⟨W0, e0, hB, k0, k1⟩ := two_new w (.cells #[.slice a p.code.length c, .int .i64 p.cells, .slice b p.pipes.length d, .int .i64 p.locks, .int .i64 p.groups] 25) (.cells #[.int .i64 0, .int .i64 0] 31)
  have HX := hide hB; have HE := hide e0; have HK := hide k0; have HF := hide k1
  have j1 : ¬ (1000 : Int) < (p.code.length : Int) := by omega
  have j2 : ¬ (20 : Int) < (p.pipes.length : Int) := by omega
  clear hB e0 k0 k1 h hc hp
  go_enter Tryd.func12, Tryd.ntmps12
  go_upto_region 1 with fail
  rw [unhide HE]
  clear HE
  obtain ⟨⟨q0, q1, q2, q3, q4⟩, ql⟩ := block5 (unhide HK)
  go_wp2_with (go_at_call 14; refine (f_any _ _ _).mono ?_; rintro e w1 ⟨rfl, b1⟩; have HX1 := hide ((unhide HX).trans (b1.mono (unhide HX).size)); have HF1 := hide (block2 (keep_below (unhide HF) b1)); clear b1 q0 q1 q2 q3 q4; obtain ⟨p0, p1, f0, f1, pl⟩ := unhide HF1)
  exact bodyPost_ret (v := .agg #[.int .i64 3, .int .i64 0]) (by simp [results, Tryd.results12, go_sem, p0, p1]) rfl ⟨rfl, below_set2 (unhide HX1) (Nat.le_succ _) _ _⟩

set_option maxRecDepth 100000 in
set_option maxHeartbeats 1000000 in
theorem pf_range2a (w : World) (v : Value) (p : Pg) (h : IsP w v p) (hn : ¬ 1000 < p.code.length) (hm : ¬ 20 < p.pipes.length) (c0a : ¬ p.cells < 0) (c0b : ¬ 20 < p.cells) (c1a : ¬ p.locks < 0) (c1b : ¬ 20 < p.locks) (c2a : p.groups < 0) :
    Calls Tryd.prog 12 #[v] w fun e w' => e = .returned (faultV (3, 0)) ∧ Below w.heap.size w w' := by
  obtain ⟨a, c, b, d, rfl, hc, hp⟩ := h.form
  obtain ⟨W0, e0, hB, k0, k1⟩ := two_new w (.cells #[.slice a p.code.length c, .int .i64 p.cells, .slice b p.pipes.length d, .int .i64 p.locks, .int .i64 p.groups] 25) (.cells #[.int .i64 0, .int .i64 0] 31)
  have HX := hide hB; have HE := hide e0; have HK := hide k0; have HF := hide k1
  have j1 : ¬ (1000 : Int) < (p.code.length : Int) := by omega
  have j2 : ¬ (20 : Int) < (p.pipes.length : Int) := by omega
  clear hB e0 k0 k1 h hc hp
  go_enter Tryd.func12, Tryd.ntmps12
  go_upto_region 1 with fail
  rw [unhide HE]
  clear HE
  obtain ⟨⟨q0, q1, q2, q3, q4⟩, ql⟩ := block5 (unhide HK)
  go_wp2_with (go_at_call 14; refine (f_any _ _ _).mono ?_; rintro e w1 ⟨rfl, b1⟩; have HX1 := hide ((unhide HX).trans (b1.mono (unhide HX).size)); have HF1 := hide (block2 (keep_below (unhide HF) b1)); clear b1 q0 q1 q2 q3 q4; obtain ⟨p0, p1, f0, f1, pl⟩ := unhide HF1)
  exact bodyPost_ret (v := .agg #[.int .i64 3, .int .i64 0]) (by simp [results, Tryd.results12, go_sem, p0, p1]) rfl ⟨rfl, below_set2 (unhide HX1) (Nat.le_succ _) _ _⟩

set_option maxRecDepth 100000 in
set_option maxHeartbeats 1000000 in
theorem pf_range2b (w : World) (v : Value) (p : Pg) (h : IsP w v p) (hn : ¬ 1000 < p.code.length) (hm : ¬ 20 < p.pipes.length) (c0a : ¬ p.cells < 0) (c0b : ¬ 20 < p.cells) (c1a : ¬ p.locks < 0) (c1b : ¬ 20 < p.locks) (c2a : ¬ p.groups < 0) (c2b : 20 < p.groups) :
    Calls Tryd.prog 12 #[v] w fun e w' => e = .returned (faultV (3, 0)) ∧ Below w.heap.size w w' := by
  obtain ⟨a, c, b, d, rfl, hc, hp⟩ := h.form
  obtain ⟨W0, e0, hB, k0, k1⟩ := two_new w (.cells #[.slice a p.code.length c, .int .i64 p.cells, .slice b p.pipes.length d, .int .i64 p.locks, .int .i64 p.groups] 25) (.cells #[.int .i64 0, .int .i64 0] 31)
  have HX := hide hB; have HE := hide e0; have HK := hide k0; have HF := hide k1
  have j1 : ¬ (1000 : Int) < (p.code.length : Int) := by omega
  have j2 : ¬ (20 : Int) < (p.pipes.length : Int) := by omega
  clear hB e0 k0 k1 h hc hp
  go_enter Tryd.func12, Tryd.ntmps12
  go_upto_region 1 with fail
  rw [unhide HE]
  clear HE
  obtain ⟨⟨q0, q1, q2, q3, q4⟩, ql⟩ := block5 (unhide HK)
  go_wp2_with (go_at_call 14; refine (f_any _ _ _).mono ?_; rintro e w1 ⟨rfl, b1⟩; have HX1 := hide ((unhide HX).trans (b1.mono (unhide HX).size)); have HF1 := hide (block2 (keep_below (unhide HF) b1)); clear b1 q0 q1 q2 q3 q4; obtain ⟨p0, p1, f0, f1, pl⟩ := unhide HF1)
  exact bodyPost_ret (v := .agg #[.int .i64 3, .int .i64 0]) (by simp [results, Tryd.results12, go_sem, p0, p1]) rfl ⟨rfl, below_set2 (unhide HX1) (Nat.le_succ _) _ _⟩

set_option maxRecDepth 100000 in
set_option maxHeartbeats 2000000 in
theorem pf_loops (w : World) (v : Value) (p : Pg) (h : IsP w v p) (ht : ArgsAt w) (hn : ¬ 1000 < p.code.length) (hm : ¬ 20 < p.pipes.length) (c0a : ¬ p.cells < 0) (c0b : ¬ 20 < p.cells) (c1a : ¬ p.locks < 0) (c1b : ¬ 20 < p.locks) (c2a : ¬ p.groups < 0) (c2b : ¬ 20 < p.groups) :
    Calls Tryd.prog 12 #[v] w fun e w' => e = .returned (faultV (if (firstF (pipeF p) p.pipes.length 0).1 ≠ 0 then firstF (pipeF p) p.pipes.length 0 else firstF (codeF p) p.code.length 0)) ∧ Below w.heap.size w w' := by
  obtain ⟨R, eR⟩ : ∃ R, (if (firstF (pipeF p) p.pipes.length 0).1 ≠ 0 then firstF (pipeF p) p.pipes.length 0 else firstF (codeF p) p.code.length 0) = R := ⟨_, rfl⟩
  rw [eR]
  have HR := hide eR
  obtain ⟨R1, e1⟩ : ∃ R, firstF (pipeF p) p.pipes.length 0 = R := ⟨_, rfl⟩
  rw [e1] at HR
  obtain ⟨R2, e2⟩ : ∃ R, firstF (codeF p) p.code.length 0 = R := ⟨_, rfl⟩
  rw [e2] at HR
  have HR1 : Hid (firstF (pipeF p) (p.pipes.length - 0) 0 = R1) := e1
  have HR2 : Hid (firstF (codeF p) (p.code.length - 0) 0 = R2) := e2
  obtain ⟨a, c, b, d, rfl, hc, hp⟩ := h.form
  obtain ⟨W0, e0, hB, k0, k1⟩ := two_new w (.cells #[.slice a p.code.length c, .int .i64 p.cells, .slice b p.pipes.length d, .int .i64 p.locks, .int .i64 p.groups] 25) (.cells #[.int .i64 0, .int .i64 0] 31)
  have HX := hide hB; have HE := hide e0; have HK := hide k0; have HF := hide k1
  have HC0 := hide ((hc.below hB).opens kc rfl)
  have HP0 := hide ((hp.below hB).opens ki rfl)
  have HP := hide (h.below hB)
  obtain ⟨bA, oA, hA1, hA2, hA3, hA4⟩ := ht.below hB
  have HA3 := hide fun W (hW : Below W0.heap.size W0 W) => (hW.cell hA2).trans hA3
  have HA4 := hide fun W (hW : Below W0.heap.size W0 W) j (hj : j < 23) => (hW.cell hA1).trans (hA4 j hj)
  have HAK := hide fun W (hW : Below W0.heap.size W0 W) k x (h0 : 0 ≤ k) (h9 : k < 9) => argOk_any W _ p ((unhide HP).below hW) k x h0 h9
  obtain ⟨n, en⟩ : ∃ n, p.code.length = n := ⟨_, rfl⟩
  obtain ⟨m, em⟩ : ∃ m, p.pipes.length = m := ⟨_, rfl⟩
  have HN := hide en; have HM := hide em
  rw [en] at HE HK HAK HC0 HR2 hn; rw [em] at HE HK HAK HP0 HR1 hm; rw [en, em]
  have j1 : ¬ (1000 : Int) < (n : Int) := by omega
  have j2 : ¬ (20 : Int) < (m : Int) := by omega
  clear hB e0 k0 k1 h hc hp ht eR e1 e2 en em hA1 hA2 hA3 hA4 HP
  go_enter Tryd.func12, Tryd.ntmps12
  go_upto_region 1 with fail
  rw [unhide HE]
  clear HE
  obtain ⟨⟨q0, q1, q2, q3, q4⟩, ql⟩ := block5 (unhide HK)
  go_wp2_with fail
  go_loopw [3] (fun i W => ∃ j : Nat, j ≤ m ∧ i = .int .i64 j ∧ W = W0 ∧ Hid (firstF (pipeF p) (m - j) j = R1)) (fun i _ => m - (intOf i).toNat)
  case atStart => exact ⟨0, Nat.zero_le _, rfl, rfl, HR1⟩
  case round =>
    obtain ⟨j, hj, rfl, rfl, HRj⟩ := hrel
    clear HR1
    by_cases hlt : j < m
    · obtain ⟨b0, o0, rfl, hb0, l0⟩ := unhide HP0 (by omega)
      have k0 := l0.ints (j := j) (by rw [unhide HM]; exact hlt)
      have hRn := unhide HRj
      rw [firstF_at _ hlt] at hRn
      obtain ⟨x, ex⟩ : ∃ x, p.pipes.getD j 0 = x := ⟨_, rfl⟩
      have hpf : pipeF p j = if 0 ≤ x ∧ x ≤ 100 then 0 else 8 := by unfold pipeF; rw [ex]
      rw [ex] at k0
      rw [hpf] at hRn
      have i1 : (j : Int) < (m : Int) := by omega
      have i0 : (0 : Int) ≤ (j : Int) := by omega
      by_cases hx : 0 ≤ x ∧ x ≤ 100
      · rw [if_pos hx, if_pos rfl] at hRn
        have x0 : ¬ x < 0 := by omega
        have x1 : ¬ 100 < x := by omega
        have HRN : Hid (firstF (pipeF p) (m - (j + 1)) (j + 1) = R1) := hRn
        clear hRn HRj ex hx l0 hpf
        go_wp2_with fail
        go_roundw
        case rel => exact ⟨j + 1, by omega, by go_num, by first | rfl | trivial, HRN⟩
        case measure => simp [intOf]; omega
      · rw [if_neg hx, if_neg (by decide)] at hRn
        have hRR : R = (8, (j : Int)) := by have := unhide HR; rw [← hRn] at this; exact (this.symm.trans (if_pos (by simp)))
        subst hRR
        clear hRn HRj ex l0 HR HR2 hpf
        by_cases x0 : x < 0
        · clear hx
          go_wp2_with (go_at_call 14; refine (f_any _ _ _).mono ?_; rintro e w1 ⟨rfl, b1⟩; have HX1 := hide ((unhide HX).trans (b1.mono (unhide HX).size)); have HF1 := hide (block2 (keep_below (unhide HF) b1)); clear b1 q0 q1 q2 q3 q4 k0; obtain ⟨p0, p1, f0, f1, pl⟩ := unhide HF1)
          exact bodyPost_ret (v := .agg #[.int .i64 8, .int .i64 j]) (by simp [results, Tryd.results12, go_sem, p0, p1]) rfl ⟨rfl, below_set2 (unhide HX1) (Nat.le_succ _) _ _⟩
        · have x1 : 100 < x := by omega
          clear hx
          go_wp2_with (go_at_call 14; refine (f_any _ _ _).mono ?_; rintro e w1 ⟨rfl, b1⟩; have HX1 := hide ((unhide HX).trans (b1.mono (unhide HX).size)); have HF1 := hide (block2 (keep_below (unhide HF) b1)); clear b1 q0 q1 q2 q3 q4 k0; obtain ⟨p0, p1, f0, f1, pl⟩ := unhide HF1)
          exact bodyPost_ret (v := .agg #[.int .i64 8, .int .i64 j]) (by simp [results, Tryd.results12, go_sem, p0, p1]) rfl ⟨rfl, below_set2 (unhide HX1) (Nat.le_succ _) _ _⟩
    · have hRn := unhide HRj
      rw [show m - j = 0 by omega] at hRn
      have e1 : R1 = (0, 0) := hRn.symm
      subst e1
      have hRR : R = R2 := by have := unhide HR; exact (this.symm.trans (if_neg (by simp)))
      subst hRR
      have i1 : ¬ (j : Int) < (m : Int) := by omega
      clear hRn HRj HR HP0
      go_wp2_with fail
      go_loopw [4] (fun i W => ∃ j : Nat, j ≤ n ∧ i = .int .i64 j ∧ Hid (Below wr.heap.size wr W) ∧ Hid (firstF (codeF p) (n - j) j = R)) (fun i _ => n - (intOf i).toNat)
      case atStart => exact ⟨0, Nat.zero_le _, rfl, Below.refl _ _, HR2⟩
      case round =>
        obtain ⟨j2, hj2, rfl, HBj, HRj⟩ := hrel
        clear HR2 q0 q1 q2 q3 q4 ql
        have HXr := hide ((unhide HX).trans ((unhide HBj).mono (unhide HX).size))
        have HKr := hide (keep_below (unhide HK) (unhide HBj))
        have HFr := hide (keep_below (unhide HF) (unhide HBj))
        obtain ⟨⟨q0, q1, q2, q3, q4⟩, ql⟩ := block5 (unhide HKr)
        by_cases hlt2 : j2 < n
        case neg =>
          have hRn := unhide HRj
          rw [show n - j2 = 0 by omega] at hRn
          have e1 : R = (0, 0) := hRn.symm
          subst e1
          have i3 : ¬ (j2 : Int) < (n : Int) := by omega
          clear hRn HRj
          obtain ⟨p0, p1, f0, f1, pl⟩ := block2 (unhide HFr)
          go_wp2_with fail
          exact bodyPost_ret (v := .agg #[.int .i64 0, .int .i64 0]) (by simp [results, Tryd.results12, go_sem, p0, p1]) rfl ⟨rfl, below_set2 (unhide HXr) (Nat.le_succ _) _ _⟩
        obtain ⟨b0, o0, rfl, hb0, l0⟩ := unhide HC0 (by omega)
        obtain ⟨⟨t, x, y⟩, hx⟩ : ∃ x, p.code.getD j2 (0, 0, 0) = x := ⟨_, rfl⟩
        obtain ⟨k0, k1, k2⟩ := (l0.below (unhide HBj) hb0).instr (j := j2) (by rw [unhide HN]; exact hlt2) hx
        have hRn := unhide HRj
        rw [firstF_at _ hlt2] at hRn
        have hcf : codeF p j2 = wrongF p (t, x, y) := by unfold codeF; rw [hx]
        rw [hcf] at hRn
        have i3 : (j2 : Int) < (n : Int) := by omega
        have i4 : (0 : Int) ≤ (j2 : Int) := by omega
        clear HRj hcf hx l0
        go_upto_region 14 with fail
        clear k0 k1 k2 q0 q1 q2 q3 q4
        obtain ⟨W3, e3, b3, z3⟩ := one_new wr (.cells #[.int .i64 t, .int .i64 x, .int .i64 y] 38)
        have HB3 := hide ((unhide HBj).trans (b3.mono (unhide HBj).size))
        have HX3 := hide ((unhide HXr).trans (b3.mono (unhide HXr).size))
        have HK3 := hide (keep_below (unhide HKr) b3)
        have HF3 := hide (keep_below (unhide HFr) b3)
        have HI3 := hide z3
        obtain ⟨Ci, eCi⟩ : ∃ X, wr.heap.size = X := ⟨_, rfl⟩
        rw [eCi] at HI3
        rw [e3, eCi]
        clear e3 b3 z3 eCi HXr HKr HFr HBj
        obtain ⟨⟨k0, k1, k2⟩, -, kl⟩ := block3 (unhide HI3)
        by_cases hop : 1 ≤ t ∧ t < 23
        case neg =>
          have hRR : R = (4, (j2 : Int)) := by rw [show wrongF p (t, x, y) = 4 from if_neg hop, if_neg (by decide)] at hRn; exact hRn.symm
          subst hRR
          clear hRn
          by_cases t0 : t < 1
          · clear hop
            go_wp2_with (go_at_call 14; refine (f_any _ _ _).mono ?_; rintro e w4 ⟨rfl, b4⟩; have HX4 := hide ((unhide HX3).trans (b4.mono (unhide HX3).size)); have HF4 := hide (block2 (keep_below (unhide HF3) b4)); clear b4 k0 k1 k2; obtain ⟨p0, p1, f0, f1, pl⟩ := unhide HF4)
            exact bodyPost_ret (v := .agg #[.int .i64 4, .int .i64 j2]) (by simp [results, Tryd.results12, go_sem, p0, p1]) rfl ⟨rfl, below_set2 (unhide HX4) (Nat.le_succ _) _ _⟩
          · have t1 : 22 < t := by omega
            clear hop
            go_wp2_with (go_at_call 14; refine (f_any _ _ _).mono ?_; rintro e w4 ⟨rfl, b4⟩; have HX4 := hide ((unhide HX3).trans (b4.mono (unhide HX3).size)); have HF4 := hide (block2 (keep_below (unhide HF3) b4)); clear b4 k0 k1 k2; obtain ⟨p0, p1, f0, f1, pl⟩ := unhide HF4)
            exact bodyPost_ret (v := .agg #[.int .i64 4, .int .i64 j2]) (by simp [results, Tryd.results12, go_sem, p0, p1]) rfl ⟨rfl, below_set2 (unhide HX4) (Nat.le_succ _) _ _⟩
        have t0 : ¬ t < 1 := by omega
        have t1 : ¬ 22 < t := by omega
        obtain ⟨u, rfl⟩ : ∃ u : Nat, t = u := ⟨t.toNat, by omega⟩
        have hu1 : 1 ≤ u := by omega
        have hu2 : u < 23 := by omega
        have hag : ag u = ⟨#[klL.getD (ka u).toNat 0, klL.getD (kb u).toNat 0]⟩ := if_neg (by omega)
        obtain ⟨La, eLa⟩ : ∃ l, klL.getD (ka u).toNat 0 = l := ⟨_, rfl⟩
        obtain ⟨Lb, eLb⟩ : ∃ l, klL.getD (kb u).toNat 0 = l := ⟨_, rfl⟩
        rw [eLa, eLb] at hag
        have ha9 := ka_range u hu2
        have hb9 := kb_range u hu2
        have HFA := hide fun W (hW : Below W3.heap.size W3 W) => unhide HAK W ((unhide HB3).trans (hW.mono (unhide HB3).size)) (ka u) x ha9.1 ha9.2
        have HFB := hide fun W (hW : Below W3.heap.size W3 W) => unhide HAK W ((unhide HB3).trans (hW.mono (unhide HB3).size)) (kb u) y hb9.1 hb9.2
        unfold klI at HFA HFB
        rw [eLa] at HFA
        rw [eLb] at HFB
        have hwf : wrongF p ((u : Int), x, y) = if fitsB p (ka u) x = true ∧ fitsB p (kb u) y = true then 0 else 5 := by
          unfold wrongF
          rw [if_pos hop]
          rfl
        rw [hwf] at hRn
        obtain ⟨A, eA⟩ : ∃ A, fitsB p (ka u) x = A := ⟨_, rfl⟩
        obtain ⟨B, eB⟩ : ∃ B, fitsB p (kb u) y = B := ⟨_, rfl⟩
        rw [eA] at HFA hRn
        rw [eB] at HFB hRn
        have HSS : Hid (∀ W, Below W3.heap.size W3 W → (W.cell? ⟨w.heap.size, 0, none⟩ = some (.slice (some ⟨b0, o0, none⟩) n c) ∧ W.cell? ⟨w.heap.size, 1, none⟩ = some (.int .i64 p.cells) ∧ W.cell? ⟨w.heap.size, 2, none⟩ = some (.slice b m d) ∧ W.cell? ⟨w.heap.size, 3, none⟩ = some (.int .i64 p.locks) ∧ W.cell? ⟨w.heap.size, 4, none⟩ = some (.int .i64 p.groups)) ∧ (W.cell? ⟨Ci, 0, none⟩ = some (.int .i64 (u : Int)) ∧ W.cell? ⟨Ci, 1, none⟩ = some (.int .i64 x) ∧ W.cell? ⟨Ci, 2, none⟩ = some (.int .i64 y)) ∧ W.cell? ⟨0, 0, none⟩ = some (.slice (some ⟨bA, oA, none⟩) 23 23) ∧ W.cell? ⟨bA, oA + u, none⟩ = some (.string ⟨#[La, Lb]⟩)) := fun W hW => ⟨(block5 (keep_below (unhide HK3) hW)).1, (block3 (keep_below (unhide HI3) hW)).1, unhide HA3 _ ((unhide HB3).trans (hW.mono (unhide HB3).size)), by have := unhide HA4 W ((unhide HB3).trans (hW.mono (unhide HB3).size)) u hu2; rw [hag] at this; exact this⟩
        have HRN0 := hide hRn
        have i5 : (u : Int) < 23 := by omega
        have i6 : (0 : Int) ≤ (u : Int) := by omega
        clear hRn hwf eA eB hag eLa eLb ha9 hb9 hop
        go_upto_region 16 with fail
        clear k0 k1 k2
        cases A
        case false =>
          have hRR : R = (5, (j2 : Int)) := by have := unhide HRN0; simp at this; exact this.symm
          subst hRR
          clear HRN0
          refine wp_region_held_drew (S := (fun W => (W.cell? ⟨w.heap.size, 0, none⟩ = some (.slice (some ⟨b0, o0, none⟩) n c) ∧ W.cell? ⟨w.heap.size, 1, none⟩ = some (.int .i64 p.cells) ∧ W.cell? ⟨w.heap.size, 2, none⟩ = some (.slice b m d) ∧ W.cell? ⟨w.heap.size, 3, none⟩ = some (.int .i64 p.locks) ∧ W.cell? ⟨w.heap.size, 4, none⟩ = some (.int .i64 p.groups)) ∧ (W.cell? ⟨Ci, 0, none⟩ = some (.int .i64 (u : Int)) ∧ W.cell? ⟨Ci, 1, none⟩ = some (.int .i64 x) ∧ W.cell? ⟨Ci, 2, none⟩ = some (.int .i64 y)) ∧ W.cell? ⟨0, 0, none⟩ = some (.slice (some ⟨bA, oA, none⟩) 23 23) ∧ W.cell? ⟨bA, oA + u, none⟩ = some (.string ⟨#[La, Lb]⟩))) (by kernel_rfl) (unhide HSS _ (Below.refl _ _).drew) (fun hHeld => ?_)
          refine wpAnyH_take (i := 0) (oi := { dst := some 91, op := Op.load 25 (Operand.tmp 1), type := 25, pos := "code.go:51", after := #[], guard := none }) (v := ?v0) rfl (by kernel_rfl) (by kernel_rfl) (by kernel_rfl) (fun _ _ _ h => h) (Or.inl ⟨by rfl, ?y0⟩) (by assumption) ?r0
          case y0 => (intro w hSw; (try dsimp only at hSw); go_simp; try with_reducible rfl)
          try simp only [Act.put, List.setIfInBounds_toArray, List.set_cons_zero, List.set_cons_succ]
          refine wpAnyH_take (i := 1) (oi := { dst := some 92, op := Op.load 47 (Operand.global 0), type := 47, pos := "code.go:51", after := #[], guard := none }) (v := ?v1) rfl (by kernel_rfl) (by kernel_rfl) (by kernel_rfl) (fun _ _ _ h => h) (Or.inl ⟨by rfl, ?y1⟩) (by assumption) ?r1
          case y1 => (intro w hSw; (try dsimp only at hSw); go_simp; try with_reducible rfl)
          try simp only [Act.put, List.setIfInBounds_toArray, List.set_cons_zero, List.set_cons_succ]
          refine wpAnyH_take (i := 2) (oi := { dst := some 93, op := Op.fieldAddr 38 (Operand.tmp 5) 0, type := 0, pos := "code.go:51", after := #[], guard := none }) (v := ?v2) rfl (by kernel_rfl) (by kernel_rfl) (by kernel_rfl) (fun _ _ _ h => h) (Or.inl ⟨by rfl, ?y2⟩) (by assumption) ?r2
          case y2 => (intro w hSw; (try dsimp only at hSw); go_simp; try with_reducible rfl)
          try simp only [Act.put, List.setIfInBounds_toArray, List.set_cons_zero, List.set_cons_succ]
          refine wpAnyH_take (i := 3) (oi := { dst := some 94, op := Op.load 3 (Operand.tmp 93), type := 3, pos := "code.go:51", after := #[{ on := 2, ground := Ground.data }], guard := none }) (v := ?v3) rfl (by kernel_rfl) (by kernel_rfl) (by kernel_rfl) (fun _ _ _ h => h) (Or.inl ⟨by rfl, ?y3⟩) (by assumption) ?r3
          case y3 => (intro w hSw; (try dsimp only at hSw); go_simp; try with_reducible rfl)
          try simp only [Act.put, List.setIfInBounds_toArray, List.set_cons_zero, List.set_cons_succ]
          refine wpAnyH_take (i := 4) (oi := { dst := some 95, op := Op.indexAddr 47 (Operand.tmp 92) (Operand.tmp 94), type := 0, pos := "code.go:51", after := #[{ on := 1, ground := Ground.data }, { on := 3, ground := Ground.data }], guard := none }) (v := ?v4) rfl (by kernel_rfl) (by kernel_rfl) (by kernel_rfl) (fun _ _ _ h => h) (Or.inl ⟨by rfl, ?y4⟩) (by assumption) ?r4
          case y4 => (intro w hSw; (try dsimp only at hSw); go_simp; try with_reducible rfl)
          try simp only [Act.put, List.setIfInBounds_toArray, List.set_cons_zero, List.set_cons_succ]
          refine wpAnyH_take (i := 5) (oi := { dst := some 96, op := Op.load 9 (Operand.tmp 95), type := 9, pos := "code.go:51", after := #[{ on := 4, ground := Ground.data }], guard := none }) (v := ?v5) rfl (by kernel_rfl) (by kernel_rfl) (by kernel_rfl) (fun _ _ _ h => h) (Or.inl ⟨by rfl, ?y5⟩) (by assumption) ?r5
          case y5 => (intro w hSw; (try dsimp only at hSw); go_simp; try with_reducible rfl)
          try simp only [Act.put, List.setIfInBounds_toArray, List.set_cons_zero, List.set_cons_succ]
          refine wpAnyH_take (i := 6) (oi := { dst := some 97, op := Op.index 9 (Operand.tmp 96) (Operand.const (Value.int IntKind.i64 0)), type := 5, pos := "code.go:51", after := #[{ on := 5, ground := Ground.data }], guard := none }) (v := ?v6) rfl (by kernel_rfl) (by kernel_rfl) (by kernel_rfl) (fun _ _ _ h => h) (Or.inl ⟨by rfl, ?y6⟩) (by assumption) ?r6
          case y6 => (intro w hSw; (try dsimp only at hSw); go_simp; try with_reducible rfl)
          try simp only [Act.put, List.setIfInBounds_toArray, List.set_cons_zero, List.set_cons_succ]
          refine wpAnyH_take (i := 7) (oi := { dst := some 98, op := Op.fieldAddr 38 (Operand.tmp 5) 1, type := 0, pos := "code.go:51", after := #[], guard := none }) (v := ?v7) rfl (by kernel_rfl) (by kernel_rfl) (by kernel_rfl) (fun _ _ _ h => h) (Or.inl ⟨by rfl, ?y7⟩) (by assumption) ?r7
          case y7 => (intro w hSw; (try dsimp only at hSw); go_simp; try with_reducible rfl)
          try simp only [Act.put, List.setIfInBounds_toArray, List.set_cons_zero, List.set_cons_succ]
          refine wpAnyH_take (i := 8) (oi := { dst := some 99, op := Op.load 3 (Operand.tmp 98), type := 3, pos := "code.go:51", after := #[{ on := 7, ground := Ground.data }], guard := none }) (v := ?v8) rfl (by kernel_rfl) (by kernel_rfl) (by kernel_rfl) (fun _ _ _ h => h) (Or.inl ⟨by rfl, ?y8⟩) (by assumption) ?r8
          case y8 => (intro w hSw; (try dsimp only at hSw); go_simp; try with_reducible rfl)
          try simp only [Act.put, List.setIfInBounds_toArray, List.set_cons_zero, List.set_cons_succ]
          refine wpAnyH_ready (rs := [9]) (by kernel_rfl) (by simp) ?_
          refine AllReadyH.cons (o := { dst := some 100, op := Op.call { callee := Callee.value (Operand.func 28), args := #[Operand.tmp 91, Operand.tmp 97, Operand.tmp 99], argTypes := #[25, 5, 3] }, type := 4, pos := "code.go:51", after := #[{ on := 0, ground := Ground.data }, { on := 6, ground := Ground.data }, { on := 8, ground := Ground.data }], guard := none }) rfl (fun K hK => ?_) AllReadyH.nil
          go_simp
          (refine (unhide HFA _ (Below.refl _ _).drew).mono ?_; rintro e w5 ⟨rfl, b5⟩; have HY5 : Hid (Below W3.heap.size W3 w5) := Below.next (Below.refl _ _).drew b5 (Nat.le_refl _); clear b5; go_simp)
          refine hK.out _ _ (unhide HSS _ (unhide HY5)) (fun hHeld => ?_)
          clear hK K
          try simp only [Act.put, List.setIfInBounds_toArray, List.set_cons_zero, List.set_cons_succ]
          refine wpAnyH_take (i := 10) (oi := { dst := some 101, op := Op.unOp UnOp.not 4 (Operand.tmp 100), type := 4, pos := "code.go:51", after := #[{ on := 9, ground := Ground.data }], guard := none }) (v := ?v10) rfl (by kernel_rfl) (by kernel_rfl) (by kernel_rfl) (fun _ _ _ h => h) (Or.inl ⟨by rfl, ?y10⟩) (by assumption) ?r10
          case y10 => (intro w hSw; (try dsimp only at hSw); go_simp; try with_reducible rfl)
          try simp only [Act.put, List.setIfInBounds_toArray, List.set_cons_zero, List.set_cons_succ]
          refine wpAnyH_take (i := 11) (oi := { dst := some 102, op := Op.move (Operand.tmp 101), type := 4, pos := "code.go:51", after := #[{ on := 10, ground := Ground.data }, { on := 9, ground := Ground.chain }], guard := none }) (v := ?v11) rfl (by kernel_rfl) (by kernel_rfl) (by kernel_rfl) (fun _ _ _ h => h) (Or.inl ⟨by rfl, ?y11⟩) (by assumption) ?r11
          case y11 => (intro w hSw; (try dsimp only at hSw); go_simp; try with_reducible rfl)
          try simp only [Act.put, List.setIfInBounds_toArray, List.set_cons_zero, List.set_cons_succ]
          refine wpAnyH_take (i := 12) (oi := { dst := some 103, op := Op.load 25 (Operand.tmp 1), type := 25, pos := "code.go:51", after := #[{ on := 11, ground := Ground.guard }], guard := some (11, false) }) (v := undef) rfl (by kernel_rfl) (by kernel_rfl) (by kernel_rfl) (fun _ _ _ h => h) (Or.inr ⟨by rfl, rfl⟩) (by assumption) ?_
          try simp only [Act.put, List.setIfInBounds_toArray, List.set_cons_zero, List.set_cons_succ]
          refine wpAnyH_take (i := 13) (oi := { dst := some 104, op := Op.load 47 (Operand.global 0), type := 47, pos := "code.go:51", after := #[{ on := 11, ground := Ground.guard }], guard := some (11, false) }) (v := undef) rfl (by kernel_rfl) (by kernel_rfl) (by kernel_rfl) (fun _ _ _ h => h) (Or.inr ⟨by rfl, rfl⟩) (by assumption) ?_
          try simp only [Act.put, List.setIfInBounds_toArray, List.set_cons_zero, List.set_cons_succ]
          refine wpAnyH_take (i := 14) (oi := { dst := some 105, op := Op.fieldAddr 38 (Operand.tmp 5) 0, type := 0, pos := "code.go:51", after := #[{ on := 11, ground := Ground.guard }], guard := some (11, false) }) (v := undef) rfl (by kernel_rfl) (by kernel_rfl) (by kernel_rfl) (fun _ _ _ h => h) (Or.inr ⟨by rfl, rfl⟩) (by assumption) ?_
          try simp only [Act.put, List.setIfInBounds_toArray, List.set_cons_zero, List.set_cons_succ]
          refine wpAnyH_take (i := 15) (oi := { dst := some 106, op := Op.load 3 (Operand.tmp 105), type := 3, pos := "code.go:51", after := #[{ on := 14, ground := Ground.data }, { on := 11, ground := Ground.guard }], guard := some (11, false) }) (v := undef) rfl (by kernel_rfl) (by kernel_rfl) (by kernel_rfl) (fun _ _ _ h => h) (Or.inr ⟨by rfl, rfl⟩) (by assumption) ?_
          try simp only [Act.put, List.setIfInBounds_toArray, List.set_cons_zero, List.set_cons_succ]
          refine wpAnyH_take (i := 16) (oi := { dst := some 107, op := Op.indexAddr 47 (Operand.tmp 104) (Operand.tmp 106), type := 0, pos := "code.go:51", after := #[{ on := 13, ground := Ground.data }, { on := 15, ground := Ground.data }, { on := 11, ground := Ground.guard }], guard := some (11, false) }) (v := undef) rfl (by kernel_rfl) (by kernel_rfl) (by kernel_rfl) (fun _ _ _ h => h) (Or.inr ⟨by rfl, rfl⟩) (by assumption) ?_
          try simp only [Act.put, List.setIfInBounds_toArray, List.set_cons_zero, List.set_cons_succ]
          refine wpAnyH_take (i := 17) (oi := { dst := some 108, op := Op.load 9 (Operand.tmp 107), type := 9, pos := "code.go:51", after := #[{ on := 16, ground := Ground.data }, { on := 11, ground := Ground.guard }], guard := some (11, false) }) (v := undef) rfl (by kernel_rfl) (by kernel_rfl) (by kernel_rfl) (fun _ _ _ h => h) (Or.inr ⟨by rfl, rfl⟩) (by assumption) ?_
          try simp only [Act.put, List.setIfInBounds_toArray, List.set_cons_zero, List.set_cons_succ]
          refine wpAnyH_take (i := 18) (oi := { dst := some 109, op := Op.index 9 (Operand.tmp 108) (Operand.const (Value.int IntKind.i64 1)), type := 5, pos := "code.go:51", after := #[{ on := 17, ground := Ground.data }, { on := 11, ground := Ground.guard }], guard := some (11, false) }) (v := undef) rfl (by kernel_rfl) (by kernel_rfl) (by kernel_rfl) (fun _ _ _ h => h) (Or.inr ⟨by rfl, rfl⟩) (by assumption) ?_
          try simp only [Act.put, List.setIfInBounds_toArray, List.set_cons_zero, List.set_cons_succ]
          refine wpAnyH_take (i := 19) (oi := { dst := some 110, op := Op.fieldAddr 38 (Operand.tmp 5) 2, type := 0, pos := "code.go:51", after := #[{ on := 11, ground := Ground.guard }], guard := some (11, false) }) (v := undef) rfl (by kernel_rfl) (by kernel_rfl) (by kernel_rfl) (fun _ _ _ h => h) (Or.inr ⟨by rfl, rfl⟩) (by assumption) ?_
          try simp only [Act.put, List.setIfInBounds_toArray, List.set_cons_zero, List.set_cons_succ]
          refine wpAnyH_take (i := 20) (oi := { dst := some 111, op := Op.load 3 (Operand.tmp 110), type := 3, pos := "code.go:51", after := #[{ on := 19, ground := Ground.data }, { on := 11, ground := Ground.guard }], guard := some (11, false) }) (v := undef) rfl (by kernel_rfl) (by kernel_rfl) (by kernel_rfl) (fun _ _ _ h => h) (Or.inr ⟨by rfl, rfl⟩) (by assumption) ?_
          try simp only [Act.put, List.setIfInBounds_toArray, List.set_cons_zero, List.set_cons_succ]
          refine wpAnyH_take (i := 21) (oi := { dst := some 112, op := Op.call { callee := Callee.value (Operand.func 28), args := #[Operand.tmp 103, Operand.tmp 109, Operand.tmp 111], argTypes := #[25, 5, 3] }, type := 4, pos := "code.go:51", after := #[{ on := 12, ground := Ground.data }, { on := 18, ground := Ground.data }, { on := 20, ground := Ground.data }, { on := 11, ground := Ground.chain }, { on := 11, ground := Ground.guard }], guard := some (11, false) }) (v := undef) rfl (by kernel_rfl) (by kernel_rfl) (by kernel_rfl) (fun _ _ _ h => h) (Or.inr ⟨by rfl, rfl⟩) (by assumption) ?_
          try simp only [Act.put, List.setIfInBounds_toArray, List.set_cons_zero, List.set_cons_succ]
          refine wpAnyH_take (i := 22) (oi := { dst := some 113, op := Op.unOp UnOp.not 4 (Operand.tmp 112), type := 4, pos := "code.go:51", after := #[{ on := 21, ground := Ground.data }, { on := 11, ground := Ground.guard }], guard := some (11, false) }) (v := undef) rfl (by kernel_rfl) (by kernel_rfl) (by kernel_rfl) (fun _ _ _ h => h) (Or.inr ⟨by rfl, rfl⟩) (by assumption) ?_
          try simp only [Act.put, List.setIfInBounds_toArray, List.set_cons_zero, List.set_cons_succ]
          refine wpAnyH_take (i := 23) (oi := { dst := some 114, op := Op.pick (Operand.tmp 102) (Operand.const (Value.bool true)) (Operand.tmp 113), type := 4, pos := "code.go:51", after := #[{ on := 11, ground := Ground.data }, { on := 22, ground := Ground.data }], guard := none }) (v := ?v23) rfl (by kernel_rfl) (by kernel_rfl) (by kernel_rfl) (fun _ _ _ h => h) (Or.inl ⟨by rfl, ?y23⟩) (by assumption) ?r23
          case y23 => (intro w hSw; (try dsimp only at hSw); go_simp; try with_reducible rfl)
          try simp only [Act.put, List.setIfInBounds_toArray, List.set_cons_zero, List.set_cons_succ]
          refine wpAnyH_done (by kernel_rfl) ?_ _
          have HX7 := hide ((unhide HX3).trans ((unhide HY5).mono (unhide HX3).size))
          have HF7 := hide (keep_below (unhide HF3) (unhide HY5))
          go_wp2_with (go_at_call 14; refine (f_any _ _ _).mono ?_; rintro e w8 ⟨rfl, b8⟩; have HX8 := hide ((unhide HX7).trans (b8.mono (unhide HX7).size)); have HF8 := hide (block2 (keep_below (unhide HF7) b8)); clear b8; obtain ⟨p0, p1, f0, f1, pl⟩ := unhide HF8)
          exact bodyPost_ret (v := .agg #[.int .i64 5, .int .i64 j2]) (by simp [results, Tryd.results12, go_sem, p0, p1]) rfl ⟨rfl, below_set2 (unhide HX8) (Nat.le_succ _) _ _⟩
        cases B
        case false =>
          have hRR : R = (5, (j2 : Int)) := by have := unhide HRN0; simp at this; exact this.symm
          subst hRR
          clear HRN0
          refine wp_region_held_drew (S := (fun W => (W.cell? ⟨w.heap.size, 0, none⟩ = some (.slice (some ⟨b0, o0, none⟩) n c) ∧ W.cell? ⟨w.heap.size, 1, none⟩ = some (.int .i64 p.cells) ∧ W.cell? ⟨w.heap.size, 2, none⟩ = some (.slice b m d) ∧ W.cell? ⟨w.heap.size, 3, none⟩ = some (.int .i64 p.locks) ∧ W.cell? ⟨w.heap.size, 4, none⟩ = some (.int .i64 p.groups)) ∧ (W.cell? ⟨Ci, 0, none⟩ = some (.int .i64 (u : Int)) ∧ W.cell? ⟨Ci, 1, none⟩ = some (.int .i64 x) ∧ W.cell? ⟨Ci, 2, none⟩ = some (.int .i64 y)) ∧ W.cell? ⟨0, 0, none⟩ = some (.slice (some ⟨bA, oA, none⟩) 23 23) ∧ W.cell? ⟨bA, oA + u, none⟩ = some (.string ⟨#[La, Lb]⟩))) (by kernel_rfl) (unhide HSS _ (Below.refl _ _).drew) (fun hHeld => ?_)
          refine wpAnyH_take (i := 0) (oi := { dst := some 91, op := Op.load 25 (Operand.tmp 1), type := 25, pos := "code.go:51", after := #[], guard := none }) (v := ?v0b) rfl (by kernel_rfl) (by kernel_rfl) (by kernel_rfl) (fun _ _ _ h => h) (Or.inl ⟨by rfl, ?y0b⟩) (by assumption) ?r0b
          case y0b => (intro w hSw; (try dsimp only at hSw); go_simp; try with_reducible rfl)
          try simp only [Act.put, List.setIfInBounds_toArray, List.set_cons_zero, List.set_cons_succ]
          refine wpAnyH_take (i := 1) (oi := { dst := some 92, op := Op.load 47 (Operand.global 0), type := 47, pos := "code.go:51", after := #[], guard := none }) (v := ?v1b) rfl (by kernel_rfl) (by kernel_rfl) (by kernel_rfl) (fun _ _ _ h => h) (Or.inl ⟨by rfl, ?y1b⟩) (by assumption) ?r1b
          case y1b => (intro w hSw; (try dsimp only at hSw); go_simp; try with_reducible rfl)
          try simp only [Act.put, List.setIfInBounds_toArray, List.set_cons_zero, List.set_cons_succ]
          refine wpAnyH_take (i := 2) (oi := { dst := some 93, op := Op.fieldAddr 38 (Operand.tmp 5) 0, type := 0, pos := "code.go:51", after := #[], guard := none }) (v := ?v2b) rfl (by kernel_rfl) (by kernel_rfl) (by kernel_rfl) (fun _ _ _ h => h) (Or.inl ⟨by rfl, ?y2b⟩) (by assumption) ?r2b
          case y2b => (intro w hSw; (try dsimp only at hSw); go_simp; try with_reducible rfl)
          try simp only [Act.put, List.setIfInBounds_toArray, List.set_cons_zero, List.set_cons_succ]
          refine wpAnyH_take (i := 3) (oi := { dst := some 94, op := Op.load 3 (Operand.tmp 93), type := 3, pos := "code.go:51", after := #[{ on := 2, ground := Ground.data }], guard := none }) (v := ?v3b) rfl (by kernel_rfl) (by kernel_rfl) (by kernel_rfl) (fun _ _ _ h => h) (Or.inl ⟨by rfl, ?y3b⟩) (by assumption) ?r3b
          case y3b => (intro w hSw; (try dsimp only at hSw); go_simp; try with_reducible rfl)
          try simp only [Act.put, List.setIfInBounds_toArray, List.set_cons_zero, List.set_cons_succ]
          refine wpAnyH_take (i := 4) (oi := { dst := some 95, op := Op.indexAddr 47 (Operand.tmp 92) (Operand.tmp 94), type := 0, pos := "code.go:51", after := #[{ on := 1, ground := Ground.data }, { on := 3, ground := Ground.data }], guard := none }) (v := ?v4b) rfl (by kernel_rfl) (by kernel_rfl) (by kernel_rfl) (fun _ _ _ h => h) (Or.inl ⟨by rfl, ?y4b⟩) (by assumption) ?r4b
          case y4b => (intro w hSw; (try dsimp only at hSw); go_simp; try with_reducible rfl)
          try simp only [Act.put, List.setIfInBounds_toArray, List.set_cons_zero, List.set_cons_succ]
          refine wpAnyH_take (i := 5) (oi := { dst := some 96, op := Op.load 9 (Operand.tmp 95), type := 9, pos := "code.go:51", after := #[{ on := 4, ground := Ground.data }], guard := none }) (v := ?v5b) rfl (by kernel_rfl) (by kernel_rfl) (by kernel_rfl) (fun _ _ _ h => h) (Or.inl ⟨by rfl, ?y5b⟩) (by assumption) ?r5b
          case y5b => (intro w hSw; (try dsimp only at hSw); go_simp; try with_reducible rfl)
          try simp only [Act.put, List.setIfInBounds_toArray, List.set_cons_zero, List.set_cons_succ]
          refine wpAnyH_take (i := 6) (oi := { dst := some 97, op := Op.index 9 (Operand.tmp 96) (Operand.const (Value.int IntKind.i64 0)), type := 5, pos := "code.go:51", after := #[{ on := 5, ground := Ground.data }], guard := none }) (v := ?v6b) rfl (by kernel_rfl) (by kernel_rfl) (by kernel_rfl) (fun _ _ _ h => h) (Or.inl ⟨by rfl, ?y6b⟩) (by assumption) ?r6b
          case y6b => (intro w hSw; (try dsimp only at hSw); go_simp; try with_reducible rfl)
          try simp only [Act.put, List.setIfInBounds_toArray, List.set_cons_zero, List.set_cons_succ]
          refine wpAnyH_take (i := 7) (oi := { dst := some 98, op := Op.fieldAddr 38 (Operand.tmp 5) 1, type := 0, pos := "code.go:51", after := #[], guard := none }) (v := ?v7b) rfl (by kernel_rfl) (by kernel_rfl) (by kernel_rfl) (fun _ _ _ h => h) (Or.inl ⟨by rfl, ?y7b⟩) (by assumption) ?r7b
          case y7b => (intro w hSw; (try dsimp only at hSw); go_simp; try with_reducible rfl)
          try simp only [Act.put, List.setIfInBounds_toArray, List.set_cons_zero, List.set_cons_succ]
          refine wpAnyH_take (i := 8) (oi := { dst := some 99, op := Op.load 3 (Operand.tmp 98), type := 3, pos := "code.go:51", after := #[{ on := 7, ground := Ground.data }], guard := none }) (v := ?v8b) rfl (by kernel_rfl) (by kernel_rfl) (by kernel_rfl) (fun _ _ _ h => h) (Or.inl ⟨by rfl, ?y8b⟩) (by assumption) ?r8b
          case y8b => (intro w hSw; (try dsimp only at hSw); go_simp; try with_reducible rfl)
          try simp only [Act.put, List.setIfInBounds_toArray, List.set_cons_zero, List.set_cons_succ]
          refine wpAnyH_ready (rs := [9]) (by kernel_rfl) (by simp) ?_
          refine AllReadyH.cons (o := { dst := some 100, op := Op.call { callee := Callee.value (Operand.func 28), args := #[Operand.tmp 91, Operand.tmp 97, Operand.tmp 99], argTypes := #[25, 5, 3] }, type := 4, pos := "code.go:51", after := #[{ on := 0, ground := Ground.data }, { on := 6, ground := Ground.data }, { on := 8, ground := Ground.data }], guard := none }) rfl (fun K hK => ?_) AllReadyH.nil
          go_simp
          (refine (unhide HFA _ (Below.refl _ _).drew).mono ?_; rintro e w5 ⟨rfl, b5⟩; have HY5 : Hid (Below W3.heap.size W3 w5) := Below.next (Below.refl _ _).drew b5 (Nat.le_refl _); clear b5; go_simp)
          refine hK.out _ _ (unhide HSS _ (unhide HY5)) (fun hHeld => ?_)
          clear hK K
          try simp only [Act.put, List.setIfInBounds_toArray, List.set_cons_zero, List.set_cons_succ]
          refine wpAnyH_take (i := 10) (oi := { dst := some 101, op := Op.unOp UnOp.not 4 (Operand.tmp 100), type := 4, pos := "code.go:51", after := #[{ on := 9, ground := Ground.data }], guard := none }) (v := ?v10b) rfl (by kernel_rfl) (by kernel_rfl) (by kernel_rfl) (fun _ _ _ h => h) (Or.inl ⟨by rfl, ?y10b⟩) (by assumption) ?r10b
          case y10b => (intro w hSw; (try dsimp only at hSw); go_simp; try with_reducible rfl)
          try simp only [Act.put, List.setIfInBounds_toArray, List.set_cons_zero, List.set_cons_succ]
          refine wpAnyH_take (i := 11) (oi := { dst := some 102, op := Op.move (Operand.tmp 101), type := 4, pos := "code.go:51", after := #[{ on := 10, ground := Ground.data }, { on := 9, ground := Ground.chain }], guard := none }) (v := ?v11b) rfl (by kernel_rfl) (by kernel_rfl) (by kernel_rfl) (fun _ _ _ h => h) (Or.inl ⟨by rfl, ?y11b⟩) (by assumption) ?r11b
          case y11b => (intro w hSw; (try dsimp only at hSw); go_simp; try with_reducible rfl)
          try simp only [Act.put, List.setIfInBounds_toArray, List.set_cons_zero, List.set_cons_succ]
          refine wpAnyH_take (i := 12) (oi := { dst := some 103, op := Op.load 25 (Operand.tmp 1), type := 25, pos := "code.go:51", after := #[{ on := 11, ground := Ground.guard }], guard := some (11, false) }) (v := ?v12b) rfl (by kernel_rfl) (by kernel_rfl) (by kernel_rfl) (fun _ _ _ h => h) (Or.inl ⟨by rfl, ?y12b⟩) (by assumption) ?r12b
          case y12b => (intro w hSw; (try dsimp only at hSw); go_simp; try with_reducible rfl)
          try simp only [Act.put, List.setIfInBounds_toArray, List.set_cons_zero, List.set_cons_succ]
          refine wpAnyH_take (i := 13) (oi := { dst := some 104, op := Op.load 47 (Operand.global 0), type := 47, pos := "code.go:51", after := #[{ on := 11, ground := Ground.guard }], guard := some (11, false) }) (v := ?v13b) rfl (by kernel_rfl) (by kernel_rfl) (by kernel_rfl) (fun _ _ _ h => h) (Or.inl ⟨by rfl, ?y13b⟩) (by assumption) ?r13b
          case y13b => (intro w hSw; (try dsimp only at hSw); go_simp; try with_reducible rfl)
          try simp only [Act.put, List.setIfInBounds_toArray, List.set_cons_zero, List.set_cons_succ]
          refine wpAnyH_take (i := 14) (oi := { dst := some 105, op := Op.fieldAddr 38 (Operand.tmp 5) 0, type := 0, pos := "code.go:51", after := #[{ on := 11, ground := Ground.guard }], guard := some (11, false) }) (v := ?v14b) rfl (by kernel_rfl) (by kernel_rfl) (by kernel_rfl) (fun _ _ _ h => h) (Or.inl ⟨by rfl, ?y14b⟩) (by assumption) ?r14b
          case y14b => (intro w hSw; (try dsimp only at hSw); go_simp; try with_reducible rfl)
          try simp only [Act.put, List.setIfInBounds_toArray, List.set_cons_zero, List.set_cons_succ]
          refine wpAnyH_take (i := 15) (oi := { dst := some 106, op := Op.load 3 (Operand.tmp 105), type := 3, pos := "code.go:51", after := #[{ on := 14, ground := Ground.data }, { on := 11, ground := Ground.guard }], guard := some (11, false) }) (v := ?v15b) rfl (by kernel_rfl) (by kernel_rfl) (by kernel_rfl) (fun _ _ _ h => h) (Or.inl ⟨by rfl, ?y15b⟩) (by assumption) ?r15b
          case y15b => (intro w hSw; (try dsimp only at hSw); go_simp; try with_reducible rfl)
          try simp only [Act.put, List.setIfInBounds_toArray, List.set_cons_zero, List.set_cons_succ]
          refine wpAnyH_take (i := 16) (oi := { dst := some 107, op := Op.indexAddr 47 (Operand.tmp 104) (Operand.tmp 106), type := 0, pos := "code.go:51", after := #[{ on := 13, ground := Ground.data }, { on := 15, ground := Ground.data }, { on := 11, ground := Ground.guard }], guard := some (11, false) }) (v := ?v16b) rfl (by kernel_rfl) (by kernel_rfl) (by kernel_rfl) (fun _ _ _ h => h) (Or.inl ⟨by rfl, ?y16b⟩) (by assumption) ?r16b
          case y16b => (intro w hSw; (try dsimp only at hSw); go_simp; try with_reducible rfl)
          try simp only [Act.put, List.setIfInBounds_toArray, List.set_cons_zero, List.set_cons_succ]
          refine wpAnyH_take (i := 17) (oi := { dst := some 108, op := Op.load 9 (Operand.tmp 107), type := 9, pos := "code.go:51", after := #[{ on := 16, ground := Ground.data }, { on := 11, ground := Ground.guard }], guard := some (11, false) }) (v := ?v17b) rfl (by kernel_rfl) (by kernel_rfl) (by kernel_rfl) (fun _ _ _ h => h) (Or.inl ⟨by rfl, ?y17b⟩) (by assumption) ?r17b
          case y17b => (intro w hSw; (try dsimp only at hSw); go_simp; try with_reducible rfl)
          try simp only [Act.put, List.setIfInBounds_toArray, List.set_cons_zero, List.set_cons_succ]
          refine wpAnyH_take (i := 18) (oi := { dst := some 109, op := Op.index 9 (Operand.tmp 108) (Operand.const (Value.int IntKind.i64 1)), type := 5, pos := "code.go:51", after := #[{ on := 17, ground := Ground.data }, { on := 11, ground := Ground.guard }], guard := some (11, false) }) (v := ?v18b) rfl (by kernel_rfl) (by kernel_rfl) (by kernel_rfl) (fun _ _ _ h => h) (Or.inl ⟨by rfl, ?y18b⟩) (by assumption) ?r18b
          case y18b => (intro w hSw; (try dsimp only at hSw); go_simp; try with_reducible rfl)
          try simp only [Act.put, List.setIfInBounds_toArray, List.set_cons_zero, List.set_cons_succ]
          refine wpAnyH_take (i := 19) (oi := { dst := some 110, op := Op.fieldAddr 38 (Operand.tmp 5) 2, type := 0, pos := "code.go:51", after := #[{ on := 11, ground := Ground.guard }], guard := some (11, false) }) (v := ?v19b) rfl (by kernel_rfl) (by kernel_rfl) (by kernel_rfl) (fun _ _ _ h => h) (Or.inl ⟨by rfl, ?y19b⟩) (by assumption) ?r19b
          case y19b => (intro w hSw; (try dsimp only at hSw); go_simp; try with_reducible rfl)
          try simp only [Act.put, List.setIfInBounds_toArray, List.set_cons_zero, List.set_cons_succ]
          refine wpAnyH_take (i := 20) (oi := { dst := some 111, op := Op.load 3 (Operand.tmp 110), type := 3, pos := "code.go:51", after := #[{ on := 19, ground := Ground.data }, { on := 11, ground := Ground.guard }], guard := some (11, false) }) (v := ?v20b) rfl (by kernel_rfl) (by kernel_rfl) (by kernel_rfl) (fun _ _ _ h => h) (Or.inl ⟨by rfl, ?y20b⟩) (by assumption) ?r20b
          case y20b => (intro w hSw; (try dsimp only at hSw); go_simp; try with_reducible rfl)
          try simp only [Act.put, List.setIfInBounds_toArray, List.set_cons_zero, List.set_cons_succ]
          refine wpAnyH_ready (rs := [21]) (by kernel_rfl) (by simp) ?_
          refine AllReadyH.cons (o := { dst := some 112, op := Op.call { callee := Callee.value (Operand.func 28), args := #[Operand.tmp 103, Operand.tmp 109, Operand.tmp 111], argTypes := #[25, 5, 3] }, type := 4, pos := "code.go:51", after := #[{ on := 12, ground := Ground.data }, { on := 18, ground := Ground.data }, { on := 20, ground := Ground.data }, { on := 11, ground := Ground.chain }, { on := 11, ground := Ground.guard }], guard := some (11, false) }) rfl (fun K hK => ?_) AllReadyH.nil
          go_simp
          (refine (unhide HFB _ (unhide HY5)).mono ?_; rintro e w6 ⟨rfl, b6⟩; have HY6 : Hid (Below W3.heap.size W3 w6) := Below.next (unhide HY5) b6 (Nat.le_refl _); clear b6; go_simp)
          refine hK.out _ _ (unhide HSS _ (unhide HY6)) (fun hHeld => ?_)
          clear hK K
          try simp only [Act.put, List.setIfInBounds_toArray, List.set_cons_zero, List.set_cons_succ]
          refine wpAnyH_take (i := 22) (oi := { dst := some 113, op := Op.unOp UnOp.not 4 (Operand.tmp 112), type := 4, pos := "code.go:51", after := #[{ on := 21, ground := Ground.data }, { on := 11, ground := Ground.guard }], guard := some (11, false) }) (v := ?v22b) rfl (by kernel_rfl) (by kernel_rfl) (by kernel_rfl) (fun _ _ _ h => h) (Or.inl ⟨by rfl, ?y22b⟩) (by assumption) ?r22b
          case y22b => (intro w hSw; (try dsimp only at hSw); go_simp; try with_reducible rfl)
          try simp only [Act.put, List.setIfInBounds_toArray, List.set_cons_zero, List.set_cons_succ]
          refine wpAnyH_take (i := 23) (oi := { dst := some 114, op := Op.pick (Operand.tmp 102) (Operand.const (Value.bool true)) (Operand.tmp 113), type := 4, pos := "code.go:51", after := #[{ on := 11, ground := Ground.data }, { on := 22, ground := Ground.data }], guard := none }) (v := ?v23b) rfl (by kernel_rfl) (by kernel_rfl) (by kernel_rfl) (fun _ _ _ h => h) (Or.inl ⟨by rfl, ?y23b⟩) (by assumption) ?r23b
          case y23b => (intro w hSw; (try dsimp only at hSw); go_simp; try with_reducible rfl)
          try simp only [Act.put, List.setIfInBounds_toArray, List.set_cons_zero, List.set_cons_succ]
          refine wpAnyH_done (by kernel_rfl) ?_ _
          have HX7 := hide ((unhide HX3).trans ((unhide HY6).mono (unhide HX3).size))
          have HF7 := hide (keep_below (unhide HF3) (unhide HY6))
          go_wp2_with (go_at_call 14; refine (f_any _ _ _).mono ?_; rintro e w8 ⟨rfl, b8⟩; have HX8 := hide ((unhide HX7).trans (b8.mono (unhide HX7).size)); have HF8 := hide (block2 (keep_below (unhide HF7) b8)); clear b8; obtain ⟨p0, p1, f0, f1, pl⟩ := unhide HF8)
          exact bodyPost_ret (v := .agg #[.int .i64 5, .int .i64 j2]) (by simp [results, Tryd.results12, go_sem, p0, p1]) rfl ⟨rfl, below_set2 (unhide HX8) (Nat.le_succ _) _ _⟩
        case true =>
          have HRN : Hid (firstF (codeF p) (n - (j2 + 1)) (j2 + 1) = R) := by have := unhide HRN0; simp at this; exact this
          clear HRN0
          refine wp_region_held_drew (S := (fun W => (W.cell? ⟨w.heap.size, 0, none⟩ = some (.slice (some ⟨b0, o0, none⟩) n c) ∧ W.cell? ⟨w.heap.size, 1, none⟩ = some (.int .i64 p.cells) ∧ W.cell? ⟨w.heap.size, 2, none⟩ = some (.slice b m d) ∧ W.cell? ⟨w.heap.size, 3, none⟩ = some (.int .i64 p.locks) ∧ W.cell? ⟨w.heap.size, 4, none⟩ = some (.int .i64 p.groups)) ∧ (W.cell? ⟨Ci, 0, none⟩ = some (.int .i64 (u : Int)) ∧ W.cell? ⟨Ci, 1, none⟩ = some (.int .i64 x) ∧ W.cell? ⟨Ci, 2, none⟩ = some (.int .i64 y)) ∧ W.cell? ⟨0, 0, none⟩ = some (.slice (some ⟨bA, oA, none⟩) 23 23) ∧ W.cell? ⟨bA, oA + u, none⟩ = some (.string ⟨#[La, Lb]⟩))) (by kernel_rfl) (unhide HSS _ (Below.refl _ _).drew) (fun hHeld => ?_)
          refine wpAnyH_take (i := 0) (oi := { dst := some 91, op := Op.load 25 (Operand.tmp 1), type := 25, pos := "code.go:51", after := #[], guard := none }) (v := ?v0c) rfl (by kernel_rfl) (by kernel_rfl) (by kernel_rfl) (fun _ _ _ h => h) (Or.inl ⟨by rfl, ?y0c⟩) (by assumption) ?r0c
          case y0c => (intro w hSw; (try dsimp only at hSw); go_simp; try with_reducible rfl)
          try simp only [Act.put, List.setIfInBounds_toArray, List.set_cons_zero, List.set_cons_succ]
          refine wpAnyH_take (i := 1) (oi := { dst := some 92, op := Op.load 47 (Operand.global 0), type := 47, pos := "code.go:51", after := #[], guard := none }) (v := ?v1c) rfl (by kernel_rfl) (by kernel_rfl) (by kernel_rfl) (fun _ _ _ h => h) (Or.inl ⟨by rfl, ?y1c⟩) (by assumption) ?r1c
          case y1c => (intro w hSw; (try dsimp only at hSw); go_simp; try with_reducible rfl)
          try simp only [Act.put, List.setIfInBounds_toArray, List.set_cons_zero, List.set_cons_succ]
          refine wpAnyH_take (i := 2) (oi := { dst := some 93, op := Op.fieldAddr 38 (Operand.tmp 5) 0, type := 0, pos := "code.go:51", after := #[], guard := none }) (v := ?v2c) rfl (by kernel_rfl) (by kernel_rfl) (by kernel_rfl) (fun _ _ _ h => h) (Or.inl ⟨by rfl, ?y2c⟩) (by assumption) ?r2c
          case y2c => (intro w hSw; (try dsimp only at hSw); go_simp; try with_reducible rfl)
          try simp only [Act.put, List.setIfInBounds_toArray, List.set_cons_zero, List.set_cons_succ]
          refine wpAnyH_take (i := 3) (oi := { dst := some 94, op := Op.load 3 (Operand.tmp 93), type := 3, pos := "code.go:51", after := #[{ on := 2, ground := Ground.data }], guard := none }) (v := ?v3c) rfl (by kernel_rfl) (by kernel_rfl) (by kernel_rfl) (fun _ _ _ h => h) (Or.inl ⟨by rfl, ?y3c⟩) (by assumption) ?r3c
          case y3c => (intro w hSw; (try dsimp only at hSw); go_simp; try with_reducible rfl)
          try simp only [Act.put, List.setIfInBounds_toArray, List.set_cons_zero, List.set_cons_succ]
          refine wpAnyH_take (i := 4) (oi := { dst := some 95, op := Op.indexAddr 47 (Operand.tmp 92) (Operand.tmp 94), type := 0, pos := "code.go:51", after := #[{ on := 1, ground := Ground.data }, { on := 3, ground := Ground.data }], guard := none }) (v := ?v4c) rfl (by kernel_rfl) (by kernel_rfl) (by kernel_rfl) (fun _ _ _ h => h) (Or.inl ⟨by rfl, ?y4c⟩) (by assumption) ?r4c
          case y4c => (intro w hSw; (try dsimp only at hSw); go_simp; try with_reducible rfl)
          try simp only [Act.put, List.setIfInBounds_toArray, List.set_cons_zero, List.set_cons_succ]
          refine wpAnyH_take (i := 5) (oi := { dst := some 96, op := Op.load 9 (Operand.tmp 95), type := 9, pos := "code.go:51", after := #[{ on := 4, ground := Ground.data }], guard := none }) (v := ?v5c) rfl (by kernel_rfl) (by kernel_rfl) (by kernel_rfl) (fun _ _ _ h => h) (Or.inl ⟨by rfl, ?y5c⟩) (by assumption) ?r5c
          case y5c => (intro w hSw; (try dsimp only at hSw); go_simp; try with_reducible rfl)
          try simp only [Act.put, List.setIfInBounds_toArray, List.set_cons_zero, List.set_cons_succ]
          refine wpAnyH_take (i := 6) (oi := { dst := some 97, op := Op.index 9 (Operand.tmp 96) (Operand.const (Value.int IntKind.i64 0)), type := 5, pos := "code.go:51", after := #[{ on := 5, ground := Ground.data }], guard := none }) (v := ?v6c) rfl (by kernel_rfl) (by kernel_rfl) (by kernel_rfl) (fun _ _ _ h => h) (Or.inl ⟨by rfl, ?y6c⟩) (by assumption) ?r6c
          case y6c => (intro w hSw; (try dsimp only at hSw); go_simp; try with_reducible rfl)
          try simp only [Act.put, List.setIfInBounds_toArray, List.set_cons_zero, List.set_cons_succ]
          refine wpAnyH_take (i := 7) (oi := { dst := some 98, op := Op.fieldAddr 38 (Operand.tmp 5) 1, type := 0, pos := "code.go:51", after := #[], guard := none }) (v := ?v7c) rfl (by kernel_rfl) (by kernel_rfl) (by kernel_rfl) (fun _ _ _ h => h) (Or.inl ⟨by rfl, ?y7c⟩) (by assumption) ?r7c
          case y7c => (intro w hSw; (try dsimp only at hSw); go_simp; try with_reducible rfl)
          try simp only [Act.put, List.setIfInBounds_toArray, List.set_cons_zero, List.set_cons_succ]
          refine wpAnyH_take (i := 8) (oi := { dst := some 99, op := Op.load 3 (Operand.tmp 98), type := 3, pos := "code.go:51", after := #[{ on := 7, ground := Ground.data }], guard := none }) (v := ?v8c) rfl (by kernel_rfl) (by kernel_rfl) (by kernel_rfl) (fun _ _ _ h => h) (Or.inl ⟨by rfl, ?y8c⟩) (by assumption) ?r8c
          case y8c => (intro w hSw; (try dsimp only at hSw); go_simp; try with_reducible rfl)
          try simp only [Act.put, List.setIfInBounds_toArray, List.set_cons_zero, List.set_cons_succ]
          refine wpAnyH_ready (rs := [9]) (by kernel_rfl) (by simp) ?_
          refine AllReadyH.cons (o := { dst := some 100, op := Op.call { callee := Callee.value (Operand.func 28), args := #[Operand.tmp 91, Operand.tmp 97, Operand.tmp 99], argTypes := #[25, 5, 3] }, type := 4, pos := "code.go:51", after := #[{ on := 0, ground := Ground.data }, { on := 6, ground := Ground.data }, { on := 8, ground := Ground.data }], guard := none }) rfl (fun K hK => ?_) AllReadyH.nil
          go_simp
          (refine (unhide HFA _ (Below.refl _ _).drew).mono ?_; rintro e w5 ⟨rfl, b5⟩; have HY5 : Hid (Below W3.heap.size W3 w5) := Below.next (Below.refl _ _).drew b5 (Nat.le_refl _); clear b5; go_simp)
          refine hK.out _ _ (unhide HSS _ (unhide HY5)) (fun hHeld => ?_)
          clear hK K
          try simp only [Act.put, List.setIfInBounds_toArray, List.set_cons_zero, List.set_cons_succ]
          refine wpAnyH_take (i := 10) (oi := { dst := some 101, op := Op.unOp UnOp.not 4 (Operand.tmp 100), type := 4, pos := "code.go:51", after := #[{ on := 9, ground := Ground.data }], guard := none }) (v := ?v10c) rfl (by kernel_rfl) (by kernel_rfl) (by kernel_rfl) (fun _ _ _ h => h) (Or.inl ⟨by rfl, ?y10c⟩) (by assumption) ?r10c
          case y10c => (intro w hSw; (try dsimp only at hSw); go_simp; try with_reducible rfl)
          try simp only [Act.put, List.setIfInBounds_toArray, List.set_cons_zero, List.set_cons_succ]
          refine wpAnyH_take (i := 11) (oi := { dst := some 102, op := Op.move (Operand.tmp 101), type := 4, pos := "code.go:51", after := #[{ on := 10, ground := Ground.data }, { on := 9, ground := Ground.chain }], guard := none }) (v := ?v11c) rfl (by kernel_rfl) (by kernel_rfl) (by kernel_rfl) (fun _ _ _ h => h) (Or.inl ⟨by rfl, ?y11c⟩) (by assumption) ?r11c
          case y11c => (intro w hSw; (try dsimp only at hSw); go_simp; try with_reducible rfl)
          try simp only [Act.put, List.setIfInBounds_toArray, List.set_cons_zero, List.set_cons_succ]
          refine wpAnyH_take (i := 12) (oi := { dst := some 103, op := Op.load 25 (Operand.tmp 1), type := 25, pos := "code.go:51", after := #[{ on := 11, ground := Ground.guard }], guard := some (11, false) }) (v := ?v12c) rfl (by kernel_rfl) (by kernel_rfl) (by kernel_rfl) (fun _ _ _ h => h) (Or.inl ⟨by rfl, ?y12c⟩) (by assumption) ?r12c
          case y12c => (intro w hSw; (try dsimp only at hSw); go_simp; try with_reducible rfl)
          try simp only [Act.put, List.setIfInBounds_toArray, List.set_cons_zero, List.set_cons_succ]
          refine wpAnyH_take (i := 13) (oi := { dst := some 104, op := Op.load 47 (Operand.global 0), type := 47, pos := "code.go:51", after := #[{ on := 11, ground := Ground.guard }], guard := some (11, false) }) (v := ?v13c) rfl (by kernel_rfl) (by kernel_rfl) (by kernel_rfl) (fun _ _ _ h => h) (Or.inl ⟨by rfl, ?y13c⟩) (by assumption) ?r13c
          case y13c => (intro w hSw; (try dsimp only at hSw); go_simp; try with_reducible rfl)
          try simp only [Act.put, List.setIfInBounds_toArray, List.set_cons_zero, List.set_cons_succ]
          refine wpAnyH_take (i := 14) (oi := { dst := some 105, op := Op.fieldAddr 38 (Operand.tmp 5) 0, type := 0, pos := "code.go:51", after := #[{ on := 11, ground := Ground.guard }], guard := some (11, false) }) (v := ?v14c) rfl (by kernel_rfl) (by kernel_rfl) (by kernel_rfl) (fun _ _ _ h => h) (Or.inl ⟨by rfl, ?y14c⟩) (by assumption) ?r14c
          case y14c => (intro w hSw; (try dsimp only at hSw); go_simp; try with_reducible rfl)
          try simp only [Act.put, List.setIfInBounds_toArray, List.set_cons_zero, List.set_cons_succ]
          refine wpAnyH_take (i := 15) (oi := { dst := some 106, op := Op.load 3 (Operand.tmp 105), type := 3, pos := "code.go:51", after := #[{ on := 14, ground := Ground.data }, { on := 11, ground := Ground.guard }], guard := some (11, false) }) (v := ?v15c) rfl (by kernel_rfl) (by kernel_rfl) (by kernel_rfl) (fun _ _ _ h => h) (Or.inl ⟨by rfl, ?y15c⟩) (by assumption) ?r15c
          case y15c => (intro w hSw; (try dsimp only at hSw); go_simp; try with_reducible rfl)
          try simp only [Act.put, List.setIfInBounds_toArray, List.set_cons_zero, List.set_cons_succ]
          refine wpAnyH_take (i := 16) (oi := { dst := some 107, op := Op.indexAddr 47 (Operand.tmp 104) (Operand.tmp 106), type := 0, pos := "code.go:51", after := #[{ on := 13, ground := Ground.data }, { on := 15, ground := Ground.data }, { on := 11, ground := Ground.guard }], guard := some (11, false) }) (v := ?v16c) rfl (by kernel_rfl) (by kernel_rfl) (by kernel_rfl) (fun _ _ _ h => h) (Or.inl ⟨by rfl, ?y16c⟩) (by assumption) ?r16c
          case y16c => (intro w hSw; (try dsimp only at hSw); go_simp; try with_reducible rfl)
          try simp only [Act.put, List.setIfInBounds_toArray, List.set_cons_zero, List.set_cons_succ]
          refine wpAnyH_take (i := 17) (oi := { dst := some 108, op := Op.load 9 (Operand.tmp 107), type := 9, pos := "code.go:51", after := #[{ on := 16, ground := Ground.data }, { on := 11, ground := Ground.guard }], guard := some (11, false) }) (v := ?v17c) rfl (by kernel_rfl) (by kernel_rfl) (by kernel_rfl) (fun _ _ _ h => h) (Or.inl ⟨by rfl, ?y17c⟩) (by assumption) ?r17c
          case y17c => (intro w hSw; (try dsimp only at hSw); go_simp; try with_reducible rfl)
          try simp only [Act.put, List.setIfInBounds_toArray, List.set_cons_zero, List.set_cons_succ]
          refine wpAnyH_take (i := 18) (oi := { dst := some 109, op := Op.index 9 (Operand.tmp 108) (Operand.const (Value.int IntKind.i64 1)), type := 5, pos := "code.go:51", after := #[{ on := 17, ground := Ground.data }, { on := 11, ground := Ground.guard }], guard := some (11, false) }) (v := ?v18c) rfl (by kernel_rfl) (by kernel_rfl) (by kernel_rfl) (fun _ _ _ h => h) (Or.inl ⟨by rfl, ?y18c⟩) (by assumption) ?r18c
          case y18c => (intro w hSw; (try dsimp only at hSw); go_simp; try with_reducible rfl)
          try simp only [Act.put, List.setIfInBounds_toArray, List.set_cons_zero, List.set_cons_succ]
          refine wpAnyH_take (i := 19) (oi := { dst := some 110, op := Op.fieldAddr 38 (Operand.tmp 5) 2, type := 0, pos := "code.go:51", after := #[{ on := 11, ground := Ground.guard }], guard := some (11, false) }) (v := ?v19c) rfl (by kernel_rfl) (by kernel_rfl) (by kernel_rfl) (fun _ _ _ h => h) (Or.inl ⟨by rfl, ?y19c⟩) (by assumption) ?r19c
          case y19c => (intro w hSw; (try dsimp only at hSw); go_simp; try with_reducible rfl)
          try simp only [Act.put, List.setIfInBounds_toArray, List.set_cons_zero, List.set_cons_succ]
          refine wpAnyH_take (i := 20) (oi := { dst := some 111, op := Op.load 3 (Operand.tmp 110), type := 3, pos := "code.go:51", after := #[{ on := 19, ground := Ground.data }, { on := 11, ground := Ground.guard }], guard := some (11, false) }) (v := ?v20c) rfl (by kernel_rfl) (by kernel_rfl) (by kernel_rfl) (fun _ _ _ h => h) (Or.inl ⟨by rfl, ?y20c⟩) (by assumption) ?r20c
          case y20c => (intro w hSw; (try dsimp only at hSw); go_simp; try with_reducible rfl)
          try simp only [Act.put, List.setIfInBounds_toArray, List.set_cons_zero, List.set_cons_succ]
          refine wpAnyH_ready (rs := [21]) (by kernel_rfl) (by simp) ?_
          refine AllReadyH.cons (o := { dst := some 112, op := Op.call { callee := Callee.value (Operand.func 28), args := #[Operand.tmp 103, Operand.tmp 109, Operand.tmp 111], argTypes := #[25, 5, 3] }, type := 4, pos := "code.go:51", after := #[{ on := 12, ground := Ground.data }, { on := 18, ground := Ground.data }, { on := 20, ground := Ground.data }, { on := 11, ground := Ground.chain }, { on := 11, ground := Ground.guard }], guard := some (11, false) }) rfl (fun K hK => ?_) AllReadyH.nil
          go_simp
          (refine (unhide HFB _ (unhide HY5)).mono ?_; rintro e w6 ⟨rfl, b6⟩; have HY6 : Hid (Below W3.heap.size W3 w6) := Below.next (unhide HY5) b6 (Nat.le_refl _); clear b6; go_simp)
          refine hK.out _ _ (unhide HSS _ (unhide HY6)) (fun hHeld => ?_)
          clear hK K
          try simp only [Act.put, List.setIfInBounds_toArray, List.set_cons_zero, List.set_cons_succ]
          refine wpAnyH_take (i := 22) (oi := { dst := some 113, op := Op.unOp UnOp.not 4 (Operand.tmp 112), type := 4, pos := "code.go:51", after := #[{ on := 21, ground := Ground.data }, { on := 11, ground := Ground.guard }], guard := some (11, false) }) (v := ?v22c) rfl (by kernel_rfl) (by kernel_rfl) (by kernel_rfl) (fun _ _ _ h => h) (Or.inl ⟨by rfl, ?y22c⟩) (by assumption) ?r22c
          case y22c => (intro w hSw; (try dsimp only at hSw); go_simp; try with_reducible rfl)
          try simp only [Act.put, List.setIfInBounds_toArray, List.set_cons_zero, List.set_cons_succ]
          refine wpAnyH_take (i := 23) (oi := { dst := some 114, op := Op.pick (Operand.tmp 102) (Operand.const (Value.bool true)) (Operand.tmp 113), type := 4, pos := "code.go:51", after := #[{ on := 11, ground := Ground.data }, { on := 22, ground := Ground.data }], guard := none }) (v := ?v23c) rfl (by kernel_rfl) (by kernel_rfl) (by kernel_rfl) (fun _ _ _ h => h) (Or.inl ⟨by rfl, ?y23c⟩) (by assumption) ?r23c
          case y23c => (intro w hSw; (try dsimp only at hSw); go_simp; try with_reducible rfl)
          try simp only [Act.put, List.setIfInBounds_toArray, List.set_cons_zero, List.set_cons_succ]
          refine wpAnyH_done (by kernel_rfl) ?_ _
          have HB7 := hide ((unhide HB3).trans ((unhide HY6).mono (unhide HB3).size))
          go_wp2_with fail
          go_roundw
          case rel => exact ⟨j2 + 1, by omega, by go_num, HB7, HRN⟩
          case measure => simp [intOf]; omega

theorem pf_any (w : World) (v : Value) (p : Pg) (h : IsP w v p) (ht : ArgsAt w) :
    Calls Tryd.prog 12 #[v] w fun e w' => e = .returned (faultV (checkF p)) ∧ Below w.heap.size w w' := by
  unfold checkF
  by_cases q1 : 1000 < p.code.length
  · rw [if_pos (Or.inl q1)]; exact pf_many1 w v p h q1
  by_cases q2 : 20 < p.pipes.length
  · rw [if_pos (Or.inr q2)]; exact pf_many2 w v p h q1 q2
  rw [if_neg (by omega)]
  by_cases c0a : p.cells < 0
  · rw [if_pos (by unfold Ranges; omega)]; exact pf_range0a w v p h q1 q2 c0a
  by_cases c0b : 20 < p.cells
  · rw [if_pos (by unfold Ranges; omega)]; exact pf_range0b w v p h q1 q2 c0a c0b
  by_cases c1a : p.locks < 0
  · rw [if_pos (by unfold Ranges; omega)]; exact pf_range1a w v p h q1 q2 c0a c0b c1a
  by_cases c1b : 20 < p.locks
  · rw [if_pos (by unfold Ranges; omega)]; exact pf_range1b w v p h q1 q2 c0a c0b c1a c1b
  by_cases c2a : p.groups < 0
  · rw [if_pos (by unfold Ranges; omega)]; exact pf_range2a w v p h q1 q2 c0a c0b c1a c1b c2a
  by_cases c2b : 20 < p.groups
  · rw [if_pos (by unfold Ranges; omega)]; exact pf_range2b w v p h q1 q2 c0a c0b c1a c1b c2a c2b
  rw [if_neg (by unfold Ranges; omega)]
  exact pf_loops w v p h ht q1 q2 c0a c0b c1a c1b c2a c2b

end Go.Proofs.YtgeinjldjpaleaaDoor
