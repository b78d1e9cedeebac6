/-
  code.Run.
-/
import Derived.Test.YtgeinjldjpaleaaDoorI
namespace Go.Proofs.YtgeinjldjpaleaaDoor
open Go.RowKit

/-- What a run does: where it stands then, the registers, how many steps it did. -/
def runL (p : Pg) : Nat → Int → (Nat → Int) → Int × (Nat → Int) × Nat
  | 0, pc, r => (pc, r, 0)
  | n + 1, pc, r => if pc < p.code.length ∧ 1 ≤ (p.code.getD pc.toNat (0, 0, 0)).1 ∧ (p.code.getD pc.toNat (0, 0, 0)).1 ≤ 7 then ((runL p n (stepF (p.code.getD pc.toNat (0, 0, 0)) pc r).1 (stepF (p.code.getD pc.toNat (0, 0, 0)) pc r).2).1, (runL p n (stepF (p.code.getD pc.toNat (0, 0, 0)) pc r).1 (stepF (p.code.getD pc.toNat (0, 0, 0)) pc r).2).2.1, (runL p n (stepF (p.code.getD pc.toNat (0, 0, 0)) pc r).1 (stepF (p.code.getD pc.toNat (0, 0, 0)) pc r).2).2.2 + 1) else (pc, r, 0)
theorem keep_put8 {w W : World} {R k : Nat} {x : Obj} (r : Nat → Int) (_ : Below w.heap.size w W) (h : W.heap[k]? = some x) (hk : k ≠ R) : (((((((((W.setCell ⟨R, 0, none⟩ (.int .i64 (r 0))).setCell ⟨R, 1, none⟩ (.int .i64 (r 1))).setCell ⟨R, 2, none⟩ (.int .i64 (r 2))).setCell ⟨R, 3, none⟩ (.int .i64 (r 3))).setCell ⟨R, 4, none⟩ (.int .i64 (r 4))).setCell ⟨R, 5, none⟩ (.int .i64 (r 5))).setCell ⟨R, 6, none⟩ (.int .i64 (r 6))).setCell ⟨R, 7, none⟩ (.int .i64 (r 7)))).heap[k]? = some x := (keep_set (keep_set (keep_set (keep_set (keep_set (keep_set (keep_set (keep_set h hk) hk) hk) hk) hk) hk) hk) hk)

set_option maxRecDepth 100000 in
set_option maxHeartbeats 2000000 in
theorem run_fault (w : World) (v : Value) (p : Pg) (h : IsP w v p) (ht : Tabs w) (hn : p.code.length ≤ maxLen) (hm : p.pipes.length ≤ maxLen) (pc fuel : Int) (r : Nat → Int) (F0 F1 : Int) (hF : runFault p pc fuel = (F0, F1)) (h0 : ¬ F0 = 0) :
    Calls Tryd.prog 11 #[v, .int .i64 pc, rv r, .int .i64 fuel] w fun e w' => e = .returned (.tuple #[.int .i64 0, rv (fun _ => 0), .int .i64 0, .agg #[.int .i64 F0, .int .i64 F1]]) ∧ Below w.heap.size w w' := by
  obtain ⟨a, c, b, d, rfl, hc, hp⟩ := h.form
  obtain ⟨W0, e0, hB, k0, k1, k2, k3⟩ := four_new w (.cells #[.slice a p.code.length c, .int .i64 p.cells, .slice b p.pipes.length d, .int .i64 p.locks, .int .i64 p.groups] 25) (.cells #[.int .i64 (r 0), .int .i64 (r 1), .int .i64 (r 2), .int .i64 (r 3), .int .i64 (r 4), .int .i64 (r 5), .int .i64 (r 6), .int .i64 (r 7)] 26) (.cells #[.int .i64 0, .int .i64 0, .int .i64 0, .int .i64 0, .int .i64 0, .int .i64 0, .int .i64 0, .int .i64 0] 26) (.cells #[.int .i64 0, .int .i64 0] 31)
  have HX := hide hB; have HE := hide e0; have HK := hide k0; have HR : Hid (W0.heap[w.heap.size + 1]? = some (.cells (rvA r) 26 (0, 0))) := k1; have HZ : Hid (W0.heap[w.heap.size + 1 + 1]? = some (.cells (rvA fun _ => 0) 26 (0, 0))) := k2; have HF := hide k3
  have HC := hide fun W (hW : Below w.heap.size w W) => checkRun_any W _ p (h.below hW) (ht.below hW) hn hm pc fuel
  rw [hF] at HC
  unfold faultV at HC
  have h0' : (F0 == 0) = false := by simpa using h0
  clear hB e0 k0 k1 k2 k3 h hc hp ht hn hm hF
  unfold rv rvA
  go_enter Tryd.func11, Tryd.ntmps11
  go_upto_region 1 with fail
  rw [unhide HE]
  clear HE
  obtain ⟨⟨q0, q1, q2, q3, q4⟩, ql⟩ := block5 (unhide HK)
  go_upto_region 2 with (go_at_call 25; refine (unhide HC _ (unhide HX)).mono ?_; rintro e w1 ⟨rfl, b1⟩; have HX1 := hide ((unhide HX).trans (b1.mono (unhide HX).size)); have HK1 := hide (keep_below (unhide HK) b1); have HF1 := hide (keep_below (unhide HF) b1); have HR1 := hide (keep_below (unhide HR) b1); have HZ1 := hide (keep_below (unhide HZ) b1); clear b1 q0 q1 q2 q3 q4)
  obtain ⟨W2, e2, b2, k2⟩ := one_new w1 (.cells #[.int .i64 F0, .int .i64 F1] 31)
  rw [e2]
  have HX2 := hide ((unhide HX1).trans (b2.mono (unhide HX1).size))
  have HK2 := hide (keep_below (unhide HK1) b2)
  have HF2 := hide (keep_below (unhide HF1) b2)
  have HR2 := hide (keep_below (unhide HR1) b2)
  have HZ2 := hide (keep_below (unhide HZ1) b2)
  have HG2 := hide k2
  have hl1 : w.heap.size + 1 + 1 + 1 < w1.heap.size := size_of (unhide HF1)
  clear e2 b2 k2 HK1 HF1 HX1 HR1 HZ1 HK HF HX HR HZ
  obtain ⟨g0, g1, -, -, gl⟩ := block2 (unhide HG2)
  obtain ⟨p0, p1, f0', f1', pl⟩ := block2 (unhide HF2)
  obtain ⟨⟨z0, z1, z2, z3, z4, z5, z6, z7⟩, ⟨f0, f1, f2, f3, f4, f5, f6, f7⟩, zl⟩ := reg_all (unhide HZ2)
  go_upto_region 3 with fail
  go_region
  go_wp2_with fail
  clear z0 z1 z2 z3 z4 z5 z6 z7 f0 f1 f2 f3 f4 f5 f6 f7
  obtain ⟨W3, e3, b3, y3⟩ := put8 (fun _ => 0) (unhide HX2) (unhide HZ2) (by omega)
  have y4 := keep_put8 (fun _ => 0) (unhide HX2) (unhide HF2) (by omega : w.heap.size + 1 + 1 + 1 ≠ w.heap.size + 1 + 1)
  rw [e3] at y4 ⊢
  clear e3
  obtain ⟨p0, p1, f0', f1', pl⟩ := block2 y4
  obtain ⟨⟨z0, z1, z2, z3, z4, z5, z6, z7⟩, -, -⟩ := reg_all y3
  exact bodyPost_ret (v := .tuple #[.int .i64 0, rv (fun _ => 0), .int .i64 0, .agg #[.int .i64 F0, .int .i64 F1]]) (by simp [results, Tryd.results11, go_sem, rv, rvA, z0, z1, z2, z3, z4, z5, z6, z7, p0, p1]) rfl ⟨rfl, (below_set2 b3 (by omega) _ _).drew⟩

/-- What holds in a run's loop. -/
structure RunAt (p : Pg) (w : World) (pv : Array Value) (s : Nat → Int) (W : World) : Prop where
  below : Below w.heap.size w W
  prog : W.heap[w.heap.size]? = some (.cells pv 25 (0, 0))
  regs : W.heap[w.heap.size + 1]? = some (.cells (rvA s) 26 (0, 0))
  zero : W.heap[w.heap.size + 1 + 1]? = some (.cells (rvA fun _ => 0) 26 (0, 0))
  fault : W.heap[w.heap.size + 1 + 1 + 1]? = some (.cells #[.int .i64 0, .int .i64 0] 31 (0, 0))
theorem RunAt.call {p : Pg} {w W W' : World} {pv : Array Value} {s : Nat → Int} (h : RunAt p w pv s W) (b : Below W.heap.size W W') : RunAt p w pv s W' :=
  ⟨h.below.trans (b.mono h.below.size), keep_below h.prog b, keep_below h.regs b, keep_below h.zero b, keep_below h.fault b⟩
theorem RunAt.drew {p : Pg} {w W : World} {pv : Array Value} {s : Nat → Int} (h : RunAt p w pv s W) : RunAt p w pv s W.drew := ⟨h.below.drew, h.prog, h.regs, h.zero, h.fault⟩
theorem RunAt.put {p : Pg} {w W : World} {pv : Array Value} {s : Nat → Int} (h : RunAt p w pv s W) (r : Nat → Int) : ∃ W2, ((((((((W.setCell ⟨w.heap.size + 1, 0, none⟩ (.int .i64 (r 0))).setCell ⟨w.heap.size + 1, 1, none⟩ (.int .i64 (r 1))).setCell ⟨w.heap.size + 1, 2, none⟩ (.int .i64 (r 2))).setCell ⟨w.heap.size + 1, 3, none⟩ (.int .i64 (r 3))).setCell ⟨w.heap.size + 1, 4, none⟩ (.int .i64 (r 4))).setCell ⟨w.heap.size + 1, 5, none⟩ (.int .i64 (r 5))).setCell ⟨w.heap.size + 1, 6, none⟩ (.int .i64 (r 6))).setCell ⟨w.heap.size + 1, 7, none⟩ (.int .i64 (r 7))) = W2 ∧ RunAt p w pv r W2 := by
  obtain ⟨W2, e2, b2, y2⟩ := put8 r h.below h.regs (by omega)
  refine ⟨W2, e2, b2, ?_, y2, ?_, ?_⟩
  · rw [← e2]; exact keep_put8 r h.below h.prog (by omega)
  · rw [← e2]; exact keep_put8 r h.below h.zero (by omega)
  · rw [← e2]; exact keep_put8 r h.below h.fault (by omega)

set_option maxRecDepth 100000 in
set_option maxHeartbeats 2000000 in
theorem run_ok (w : World) (v : Value) (p : Pg) (h : IsP w v p) (ht : Tabs w) (hn : p.code.length ≤ maxLen) (hm : p.pipes.length ≤ maxLen) (pc fuel : Int) (r : Nat → Int) (hF : runFault p pc fuel = (0, 0)) :
    Calls Tryd.prog 11 #[v, .int .i64 pc, rv r, .int .i64 fuel] w fun e w' => e = .returned (.tuple #[.int .i64 (runL p fuel.toNat pc r).1, rv (runL p fuel.toNat pc r).2.1, .int .i64 (runL p fuel.toNat pc r).2.2, .agg #[.int .i64 0, .int .i64 0]]) ∧ Below w.heap.size w w' := by
  have hF' := hF
  unfold runFault at hF'
  by_cases hcz : (checkF p).1 = 0
  case neg => rw [if_pos hcz] at hF'; rw [hF'] at hcz; exact absurd rfl hcz
  rw [if_neg (fun h => h hcz)] at hF'
  by_cases hrg : (0 ≤ pc ∧ pc ≤ p.code.length) ∧ (0 ≤ fuel ∧ fuel ≤ 5000)
  case neg => rw [if_neg hrg] at hF'; cases hF'
  clear hF'
  obtain ⟨⟨hp0, hp1⟩, hf0, hf1⟩ := hrg
  obtain ⟨-, hl1000, -, -, hok⟩ := check_zero hcz
  have HOK := hide hok
  obtain ⟨q0, rfl⟩ : ∃ q : Nat, pc = q := ⟨pc.toNat, by omega⟩
  obtain ⟨N, rfl⟩ : ∃ N : Nat, fuel = N := ⟨fuel.toNat, by omega⟩
  simp only [Int.toNat_natCast]
  obtain ⟨P1, eP⟩ : ∃ x, (runL p N q0 r).1 = x := ⟨_, rfl⟩
  obtain ⟨R1, eR⟩ : ∃ x, (runL p N q0 r).2.1 = x := ⟨_, rfl⟩
  obtain ⟨D1, eD⟩ : ∃ x, (runL p N q0 r).2.2 = x := ⟨_, rfl⟩
  rw [eP, eR, eD]
  have HI : Hid ((runL p (N - 0) (q0 : Nat) r).1 = P1 ∧ (runL p (N - 0) (q0 : Nat) r).2.1 = R1 ∧ (runL p (N - 0) (q0 : Nat) r).2.2 + 0 = D1) := ⟨eP, eR, eD⟩
  obtain ⟨a, c, b, d, rfl, hc, hp⟩ := h.form
  obtain ⟨W0, e0, hB, k0, k1, k2, k3⟩ := four_new w (.cells #[.slice a p.code.length c, .int .i64 p.cells, .slice b p.pipes.length d, .int .i64 p.locks, .int .i64 p.groups] 25) (.cells #[.int .i64 (r 0), .int .i64 (r 1), .int .i64 (r 2), .int .i64 (r 3), .int .i64 (r 4), .int .i64 (r 5), .int .i64 (r 6), .int .i64 (r 7)] 26) (.cells #[.int .i64 0, .int .i64 0, .int .i64 0, .int .i64 0, .int .i64 0, .int .i64 0, .int .i64 0, .int .i64 0] 26) (.cells #[.int .i64 0, .int .i64 0] 31)
  have HX := hide hB; have HE := hide e0; have HK := hide k0; have HR : Hid (W0.heap[w.heap.size + 1]? = some (.cells (rvA r) 26 (0, 0))) := k1; have HZ : Hid (W0.heap[w.heap.size + 1 + 1]? = some (.cells (rvA fun _ => 0) 26 (0, 0))) := k2; have HF := hide k3
  have HC := hide fun W (hW : Below w.heap.size w W) => checkRun_any W _ p (h.below hW) (ht.below hW) hn hm (q0 : Int) (N : Int)
  rw [hF] at HC
  unfold faultV at HC
  have HC0 := hide (hc.opens kc rfl)
  obtain ⟨n, en⟩ : ∃ n, p.code.length = n := ⟨_, rfl⟩
  obtain ⟨m, em⟩ : ∃ m, p.pipes.length = m := ⟨_, rfl⟩
  have HN := hide en
  rw [en] at HE HK HC HC0 hp1 hl1000 HOK; rw [em] at HE HK HC; rw [en, em]
  clear hB e0 k0 k1 k2 k3 h hc hp ht hn hm hF eP eR eD en em hcz hok
  unfold rv rvA
  go_enter Tryd.func11, Tryd.ntmps11
  go_upto_region 1 with fail
  rw [unhide HE]
  clear HE
  obtain ⟨⟨q0, q1, q2, q3, q4⟩, ql⟩ := block5 (unhide HK)
  go_upto_region 2 with (go_at_call 25; refine (unhide HC _ (unhide HX)).mono ?_; rintro e w1 ⟨rfl, b1⟩; have HX1 := hide ((unhide HX).trans (b1.mono (unhide HX).size)); have HK1 := hide (keep_below (unhide HK) b1); have HF1 := hide (keep_below (unhide HF) b1); have HR1 := hide (keep_below (unhide HR) b1); have HZ1 := hide (keep_below (unhide HZ) b1); clear b1 q0 q1 q2 q3 q4)
  obtain ⟨W2, e2, b2, k2⟩ := one_new w1 (.cells #[.int .i64 0, .int .i64 0] 31)
  rw [e2]
  have HX2 := hide ((unhide HX1).trans (b2.mono (unhide HX1).size))
  have HK2 := hide (keep_below (unhide HK1) b2)
  have HF2 := hide (keep_below (unhide HF1) b2)
  have HR2 := hide (keep_below (unhide HR1) b2)
  have HZ2 := hide (keep_below (unhide HZ1) b2)
  have HG2 := hide k2
  have hl1 : w.heap.size + 1 + 1 + 1 < w1.heap.size := size_of (unhide HF1)
  clear e2 b2 k2 HK1 HF1 HX1 HR1 HZ1 HK HF HX HR HZ
  obtain ⟨g0, g1, -, -, gl⟩ := block2 (unhide HG2)
  go_wp2_with fail
  clear g0 g1 gl HG2
  have HA0 : Hid (RunAt p w #[.slice a n c, .int .i64 p.cells, .slice b m d, .int .i64 p.locks, .int .i64 p.groups] r W2) := ⟨unhide HX2, unhide HK2, unhide HR2, unhide HZ2, unhide HF2⟩
  clear HX2 HK2 HR2 HZ2 HF2
  go_loopw [1, 13] (fun i j W => ∃ (k q : Nat) (s : Nat → Int), i = .int .i64 q ∧ j = .int .i64 k ∧ k ≤ N ∧ q ≤ n ∧ Hid ((runL p (N - k) (q : Nat) s).1 = P1 ∧ (runL p (N - k) (q : Nat) s).2.1 = R1 ∧ (runL p (N - k) (q : Nat) s).2.2 + k = D1) ∧ Hid (RunAt p w #[.slice a n c, .int .i64 p.cells, .slice b m d, .int .i64 p.locks, .int .i64 p.groups] s W)) (fun _ j _ => N - (intOf j).toNat)
  case atStart => exact ⟨0, q0, r, rfl, rfl, Nat.zero_le _, by omega, HI, HA0⟩
  case round =>
    obtain ⟨k, q, s, rfl, rfl, hk, hq1, HIk, HAt⟩ := hrel
    clear HI HA0
    obtain ⟨⟨q0, q1, q2, q3, q4⟩, ql⟩ := block5 (unhide HAt).prog
    have hEnd : ∀ (_ : runL p (N - k) (q : Nat) s = ((q : Int), s, 0)), P1 = q ∧ R1 = s ∧ D1 = k := fun e => by have := unhide HIk; rw [e] at this; exact ⟨this.1.symm, this.2.1.symm, by have h3 := this.2.2; simp only at h3; omega⟩
    have HEnd := hide hEnd
    clear hEnd
    by_cases hkN : k < N
    case neg =>
      obtain ⟨e1, e2, e3⟩ := unhide HEnd (by rw [show N - k = 0 by omega]; rfl)
      subst e1 e2 e3
      have i1 : ¬ (D1 : Int) < (N : Int) := by omega
      clear HEnd HIk
      have HXE := hide (unhide HAt).below
      have HZE := hide (unhide HAt).zero
      have HFE := hide (unhide HAt).fault
      clear q0 q1 q2 q3 q4
      obtain ⟨⟨q0, q1, q2, q3, q4⟩, ql⟩ := block5 (unhide HAt).prog
      obtain ⟨⟨s0, s1, s2, s3, s4, s5, s6, s7⟩, -, sl⟩ := reg_all (unhide HAt).regs
      obtain ⟨⟨z0, z1, z2, z3, z4, z5, z6, z7⟩, ⟨f0, f1, f2, f3, f4, f5, f6, f7⟩, zl⟩ := reg_all (unhide HAt).zero
      obtain ⟨p0, p1, f0', f1', pl⟩ := block2 (unhide HAt).fault
      go_upto_region 8 with fail
      go_region
      go_wp2_with fail
      clear z0 z1 z2 z3 z4 z5 z6 z7 f0 f1 f2 f3 f4 f5 f6 f7
      obtain ⟨W3, e3, b3, y3⟩ := put8 (R1) (unhide HXE) (unhide HZE) (by omega)
      have y4 := keep_put8 (R1) (unhide HXE) (unhide HFE) (by omega : w.heap.size + 1 + 1 + 1 ≠ w.heap.size + 1 + 1)
      rw [e3] at y4 ⊢
      clear e3
      obtain ⟨p0, p1, f0', f1', pl⟩ := block2 y4
      obtain ⟨⟨z0, z1, z2, z3, z4, z5, z6, z7⟩, -, -⟩ := reg_all y3
      exact bodyPost_ret (v := .tuple #[.int .i64 (q : Int), rv (R1), .int .i64 (D1 : Int), .agg #[.int .i64 0, .int .i64 0]]) (by simp [results, Tryd.results11, go_sem, rv, rvA, z0, z1, z2, z3, z4, z5, z6, z7, p0, p1]) rfl ⟨rfl, (below_set2 b3 (by omega) _ _).drew⟩
    have i1 : (k : Int) < (N : Int) := by omega
    obtain ⟨M, hM⟩ : ∃ M, N - k = M + 1 := ⟨N - k - 1, by omega⟩
    have HMM := hide hM
    by_cases hq : q < n
    case neg =>
      obtain ⟨e1, e2, e3⟩ := unhide HEnd (by rw [hM]; unfold runL; rw [if_neg (by rw [unhide HN]; omega)])
      subst e1 e2 e3
      have i2 : ¬ (q : Int) < (n : Int) := by omega
      clear HEnd HIk hM
      have HXE := hide (unhide HAt).below
      have HZE := hide (unhide HAt).zero
      have HFE := hide (unhide HAt).fault
      clear q0 q1 q2 q3 q4
      obtain ⟨⟨q0, q1, q2, q3, q4⟩, ql⟩ := block5 (unhide HAt).prog
      obtain ⟨⟨s0, s1, s2, s3, s4, s5, s6, s7⟩, -, sl⟩ := reg_all (unhide HAt).regs
      obtain ⟨⟨z0, z1, z2, z3, z4, z5, z6, z7⟩, ⟨f0, f1, f2, f3, f4, f5, f6, f7⟩, zl⟩ := reg_all (unhide HAt).zero
      obtain ⟨p0, p1, f0', f1', pl⟩ := block2 (unhide HAt).fault
      go_upto_region 8 with fail
      go_region
      go_wp2_with fail
      clear z0 z1 z2 z3 z4 z5 z6 z7 f0 f1 f2 f3 f4 f5 f6 f7
      obtain ⟨W3, e3, b3, y3⟩ := put8 (R1) (unhide HXE) (unhide HZE) (by omega)
      have y4 := keep_put8 (R1) (unhide HXE) (unhide HFE) (by omega : w.heap.size + 1 + 1 + 1 ≠ w.heap.size + 1 + 1)
      rw [e3] at y4 ⊢
      clear e3
      obtain ⟨p0, p1, f0', f1', pl⟩ := block2 y4
      obtain ⟨⟨z0, z1, z2, z3, z4, z5, z6, z7⟩, -, -⟩ := reg_all y3
      exact bodyPost_ret (v := .tuple #[.int .i64 (q : Int), rv (R1), .int .i64 (D1 : Int), .agg #[.int .i64 0, .int .i64 0]]) (by simp [results, Tryd.results11, go_sem, rv, rvA, z0, z1, z2, z3, z4, z5, z6, z7, p0, p1]) rfl ⟨rfl, (below_set2 b3 (by omega) _ _).drew⟩
    have i2 : (q : Int) < (n : Int) := by omega
    have i3 : (0 : Int) ≤ (q : Int) := by omega
    obtain ⟨b0, o0, rfl, hb0, l0⟩ := unhide HC0 (by omega)
    obtain ⟨⟨t, x, y⟩, hx⟩ : ∃ x, p.code.getD q (0, 0, 0) = x := ⟨_, rfl⟩
    obtain ⟨k0, k1, k2⟩ := (l0.below (unhide HAt).below hb0).instr (j := q) (by rw [unhide HN]; exact hq) hx
    have HAl := hide fun W => isAlone_any W t
    have hwr := unhide HOK q hq
    rw [hx] at hwr
    by_cases ha : 1 ≤ t ∧ t ≤ 7
    case neg =>
      obtain ⟨e1, e2, e3⟩ := unhide HEnd (by rw [hM]; unfold runL; rw [if_neg (by rw [Int.toNat_natCast, hx]; exact fun h => ha h.2)])
      subst e1 e2 e3
      rw [decide_eq_false ha] at HAl
      clear HEnd HIk hM hwr hx l0 ha
      have HXE := hide (unhide HAt).below
      have HZE := hide (unhide HAt).zero
      have HFE := hide (unhide HAt).fault
      clear q0 q1 q2 q3 q4
      obtain ⟨⟨q0, q1, q2, q3, q4⟩, ql⟩ := block5 (unhide HAt).prog
      obtain ⟨⟨s0, s1, s2, s3, s4, s5, s6, s7⟩, -, sl⟩ := reg_all (unhide HAt).regs
      obtain ⟨⟨z0, z1, z2, z3, z4, z5, z6, z7⟩, ⟨f0, f1, f2, f3, f4, f5, f6, f7⟩, zl⟩ := reg_all (unhide HAt).zero
      obtain ⟨p0, p1, f0', f1', pl⟩ := block2 (unhide HAt).fault
      go_upto_region 8 with (go_at_call 26; refine (unhide HAl _).mono ?_; rintro e w3 ⟨rfl, rfl⟩)
      go_region
      go_wp2_with fail
      clear z0 z1 z2 z3 z4 z5 z6 z7 f0 f1 f2 f3 f4 f5 f6 f7
      obtain ⟨W3, e3, b3, y3⟩ := put8 (R1) (unhide HXE) (unhide HZE) (by omega)
      have y4 := keep_put8 (R1) (unhide HXE) (unhide HFE) (by omega : w.heap.size + 1 + 1 + 1 ≠ w.heap.size + 1 + 1)
      rw [e3] at y4 ⊢
      clear e3
      obtain ⟨p0, p1, f0', f1', pl⟩ := block2 y4
      obtain ⟨⟨z0, z1, z2, z3, z4, z5, z6, z7⟩, -, -⟩ := reg_all y3
      exact bodyPost_ret (v := .tuple #[.int .i64 (q : Int), rv (R1), .int .i64 (D1 : Int), .agg #[.int .i64 0, .int .i64 0]]) (by simp [results, Tryd.results11, go_sem, rv, rvA, z0, z1, z2, z3, z4, z5, z6, z7, p0, p1]) rfl ⟨rfl, (below_set2 b3 (by omega) _ _).drew⟩
    rw [decide_eq_true ha] at HAl
    have HST := hide fun W => step_any W p (t, x, y) hwr ha (q : Int) s (by omega) (by omega)
    have hpc := step_pc (p := p) hwr ha (pc := (q : Int)) (by omega) (by rw [unhide HN]; omega) s
    have hrun := unhide HIk
    have e1 : ∀ (X : Int × (Nat → Int)), stepF (t, x, y) (q : Int) s = X → runL p (N - k) (q : Nat) s = ((runL p M X.1 X.2).1, (runL p M X.1 X.2).2.1, (runL p M X.1 X.2).2.2 + 1) := fun X e => by
      rw [hM]
      conv => lhs; unfold runL
      rw [if_pos (by rw [Int.toNat_natCast, hx, unhide HN]; exact ⟨i2, ha⟩), Int.toNat_natCast, hx, e]
    obtain ⟨⟨pc2, r2⟩, es⟩ : ∃ X, stepF (t, x, y) (q : Int) s = X := ⟨_, rfl⟩
    rw [e1 _ es] at hrun
    rw [es] at HST hpc
    simp only at HST hpc hrun
    unfold rv rvA at HST
    obtain ⟨q', rfl⟩ : ∃ q' : Nat, pc2 = q' := ⟨pc2.toNat, by omega⟩
    have HIN : Hid ((runL p (N - (k + 1)) (q' : Nat) r2).1 = P1 ∧ (runL p (N - (k + 1)) (q' : Nat) r2).2.1 = R1 ∧ (runL p (N - (k + 1)) (q' : Nat) r2).2.2 + (k + 1) = D1) := by
      rw [show N - (k + 1) = M by omega]
      exact ⟨hrun.1, hrun.2.1, by omega⟩
    have hq2 : q' ≤ n := by have := hpc.2; rw [unhide HN] at this; omega
    have hw1 : IntKind.i64.wrap ((k : Int) + 1) = (k : Int) + 1 := wrapi (by omega) (by omega)
    clear HEnd HIk hM hwr ha e1 hrun es hpc
    go_upto_region 6 with (go_at_call 26; refine (unhide HAl _).mono ?_; rintro e w3 ⟨rfl, rfl⟩)
    clear k0 k1 k2 q0 q1 q2 q3 q4
    obtain ⟨⟨q0, q1, q2, q3, q4, q5, q6, q7⟩, -, ql⟩ := reg_all (unhide HAt).regs
    have HSS : Hid (∀ (W : World) s, RunAt p w #[.slice (some ⟨b0, o0, none⟩) n c, .int .i64 p.cells, .slice b m d, .int .i64 p.locks, .int .i64 p.groups] s W → (fun W => W.cell? ⟨w.heap.size, 0, none⟩ = some (.slice (some ⟨b0, o0, none⟩) n c) ∧ W.cell? ⟨b0, o0 + q * 3, none⟩ = some (.int .i64 t) ∧ W.cell? ⟨b0, o0 + q * 3 + 1, none⟩ = some (.int .i64 x) ∧ W.cell? ⟨b0, o0 + q * 3 + 2, none⟩ = some (.int .i64 y)) W) := fun W s h => ⟨(block5 h.prog).1.1, (l0.below h.below hb0).instr (by rw [unhide HN]; exact hq) hx⟩
    clear l0 hx
    refine wp_region_held_drew (S := (fun W => W.cell? ⟨w.heap.size, 0, none⟩ = some (.slice (some ⟨b0, o0, none⟩) n c) ∧ W.cell? ⟨b0, o0 + q * 3, none⟩ = some (.int .i64 t) ∧ W.cell? ⟨b0, o0 + q * 3 + 1, none⟩ = some (.int .i64 x) ∧ W.cell? ⟨b0, o0 + q * 3 + 2, none⟩ = some (.int .i64 y))) (by kernel_rfl) (unhide HSS _ _ (unhide HAt).drew) (fun hHeld => ?_)
    refine wpAnyH_take (i := 0) (oi := { dst := some 43, op := Op.fieldAddr 25 (Operand.tmp 4) 0, type := 0, pos := "code.go:57", after := #[], guard := none }) (v := ?v0) rfl (by kernel_rfl) (by kernel_rfl) (by kernel_rfl) (fun _ _ _ h => h) (Or.inl ⟨by rfl, ?y0⟩) (by assumption) ?r0
    case y0 => (intro w hSw; (try dsimp only at hSw); go_simp; try with_reducible rfl)
    try simp only [Act.put, List.setIfInBounds_toArray, List.set_cons_zero, List.set_cons_succ]
    refine wpAnyH_take (i := 1) (oi := { dst := some 44, op := Op.load 22 (Operand.tmp 43), type := 22, pos := "code.go:57", after := #[{ on := 0, ground := Ground.data }], guard := none }) (v := ?v1) rfl (by kernel_rfl) (by kernel_rfl) (by kernel_rfl) (fun _ _ _ h => h) (Or.inl ⟨by rfl, ?y1⟩) (by assumption) ?r1
    case y1 => (intro w hSw; (try dsimp only at hSw); go_simp; try with_reducible rfl)
    try simp only [Act.put, List.setIfInBounds_toArray, List.set_cons_zero, List.set_cons_succ]
    refine wpAnyH_take (i := 2) (oi := { dst := some 45, op := Op.move (Operand.tmp 1), type := 3, pos := "code.go:57", after := #[], guard := none }) (v := ?v2) rfl (by kernel_rfl) (by kernel_rfl) (by kernel_rfl) (fun _ _ _ h => h) (Or.inl ⟨by rfl, ?y2⟩) (by assumption) ?r2
    case y2 => (intro w hSw; (try dsimp only at hSw); go_simp; try with_reducible rfl)
    try simp only [Act.put, List.setIfInBounds_toArray, List.set_cons_zero, List.set_cons_succ]
    refine wpAnyH_take (i := 3) (oi := { dst := some 46, op := Op.indexAddr 22 (Operand.tmp 44) (Operand.tmp 45), type := 0, pos := "code.go:57", after := #[{ on := 1, ground := Ground.data }, { on := 2, ground := Ground.data }], guard := none }) (v := ?v3) rfl (by kernel_rfl) (by kernel_rfl) (by kernel_rfl) (fun _ _ _ h => h) (Or.inl ⟨by rfl, ?y3⟩) (by assumption) ?r3
    case y3 => (intro w hSw; (try dsimp only at hSw); go_simp; try with_reducible rfl)
    try simp only [Act.put, List.setIfInBounds_toArray, List.set_cons_zero, List.set_cons_succ]
    refine wpAnyH_take (i := 4) (oi := { dst := some 47, op := Op.load 38 (Operand.tmp 46), type := 38, pos := "code.go:57", after := #[{ on := 3, ground := Ground.data }], guard := none }) (v := ?v4) rfl (by kernel_rfl) (by kernel_rfl) (by kernel_rfl) (fun _ _ _ h => h) (Or.inl ⟨by rfl, ?y4⟩) (by assumption) ?r4
    case y4 => (intro w hSw; (try dsimp only at hSw); go_simp; try with_reducible rfl)
    try simp only [Act.put, List.setIfInBounds_toArray, List.set_cons_zero, List.set_cons_succ]
    refine wpAnyH_take (i := 5) (oi := { dst := some 48, op := Op.move (Operand.tmp 1), type := 3, pos := "code.go:57", after := #[], guard := none }) (v := ?v5) rfl (by kernel_rfl) (by kernel_rfl) (by kernel_rfl) (fun _ _ _ h => h) (Or.inl ⟨by rfl, ?y5⟩) (by assumption) ?r5
    case y5 => (intro w hSw; (try dsimp only at hSw); go_simp; try with_reducible rfl)
    try simp only [Act.put, List.setIfInBounds_toArray, List.set_cons_zero, List.set_cons_succ]
    refine wpAnyH_ready (rs := [6]) (by kernel_rfl) (by simp) ?_
    refine AllReadyH.cons (o := { dst := some 49, op := Op.load 26 (Operand.tmp 6), type := 26, pos := "code.go:57", after := #[], guard := none }) rfl (fun K hK => ?_) AllReadyH.nil
    go_simp
    skip
    refine hK.out _ _ (unhide HSS _ _ (unhide HAt).drew) (fun hHeld => ?_)
    clear hK K
    try simp only [Act.put, List.setIfInBounds_toArray, List.set_cons_zero, List.set_cons_succ]
    refine wpAnyH_ready (rs := [7]) (by kernel_rfl) (by simp) ?_
    refine AllReadyH.cons (o := { dst := some 50, op := Op.call { callee := Callee.value (Operand.func 27), args := #[Operand.tmp 47, Operand.tmp 48, Operand.tmp 49], argTypes := #[38, 3, 26] }, type := 39, pos := "code.go:57", after := #[{ on := 4, ground := Ground.data }, { on := 5, ground := Ground.data }, { on := 6, ground := Ground.data }], guard := none }) rfl (fun K hK => ?_) AllReadyH.nil
    go_simp
    (refine (unhide HST _).mono ?_; rintro e w5 ⟨rfl, b5⟩; have HAt5 := hide ((unhide HAt).drew.call b5); clear b5; go_simp)
    refine hK.out _ _ (unhide HSS _ _ (unhide HAt5)) (fun hHeld => ?_)
    clear hK K
    try simp only [Act.put, List.setIfInBounds_toArray, List.set_cons_zero, List.set_cons_succ]
    refine wpAnyH_take (i := 8) (oi := { dst := some 42, op := Op.move (Operand.tmp 50), type := 39, pos := "code.go:57", after := #[{ on := 7, ground := Ground.data }], guard := none }) (v := ?v8) rfl (by kernel_rfl) (by kernel_rfl) (by kernel_rfl) (fun _ _ _ h => h) (Or.inl ⟨by rfl, ?y8⟩) (by assumption) ?r8
    case y8 => (intro w hSw; (try dsimp only at hSw); go_simp; try with_reducible rfl)
    try simp only [Act.put, List.setIfInBounds_toArray, List.set_cons_zero, List.set_cons_succ]
    refine wpAnyH_take (i := 9) (oi := { dst := some 51, op := Op.extract (Operand.tmp 42) 0, type := 3, pos := "code.go:57", after := #[{ on := 8, ground := Ground.data }], guard := none }) (v := ?v9) rfl (by kernel_rfl) (by kernel_rfl) (by kernel_rfl) (fun _ _ _ h => h) (Or.inl ⟨by rfl, ?y9⟩) (by assumption) ?r9
    case y9 => (intro w hSw; (try dsimp only at hSw); go_simp; try with_reducible rfl)
    try simp only [Act.put, List.setIfInBounds_toArray, List.set_cons_zero, List.set_cons_succ]
    refine wpAnyH_take (i := 10) (oi := { dst := some 52, op := Op.extract (Operand.tmp 42) 1, type := 26, pos := "code.go:57", after := #[{ on := 8, ground := Ground.data }, { on := 11, ground := Ground.gcOnly Departure.lateStores }], guard := none }) (v := ?v10) rfl (by kernel_rfl) (by kernel_rfl) (by kernel_rfl) (fun _ _ _ h => h) (Or.inl ⟨by rfl, ?y10⟩) (by assumption) ?r10
    case y10 => (intro w hSw; (try dsimp only at hSw); go_simp; try with_reducible rfl)
    try simp only [Act.put, List.setIfInBounds_toArray, List.set_cons_zero, List.set_cons_succ]
    refine wpAnyH_take (i := 11) (oi := { dst := some 1, op := Op.assign (Operand.tmp 51), type := 3, pos := "code.go:57", after := #[{ on := 9, ground := Ground.data }, { on := 7, ground := Ground.chain }, { on := 0, ground := Ground.phase }, { on := 1, ground := Ground.phase }, { on := 2, ground := Ground.phase }, { on := 3, ground := Ground.phase }, { on := 4, ground := Ground.phase }, { on := 5, ground := Ground.phase }, { on := 6, ground := Ground.phase }, { on := 7, ground := Ground.phase }, { on := 8, ground := Ground.phase }, { on := 9, ground := Ground.phase }, { on := 10, ground := Ground.textOnly Departure.lateStores }], guard := none }) (v := ?v11) rfl (by kernel_rfl) (by kernel_rfl) (by kernel_rfl) (fun _ _ _ h => h) (Or.inl ⟨by rfl, ?y11⟩) (by assumption) ?r11
    case y11 => (intro w hSw; (try dsimp only at hSw); go_simp; try with_reducible rfl)
    try simp only [Act.put, List.setIfInBounds_toArray, List.set_cons_zero, List.set_cons_succ]
    obtain ⟨⟨s0, s1, s2, s3, s4, s5, s6, s7⟩, ⟨h0, h1, h2, h3, h4, h5, h6, h7⟩, sl⟩ := reg_all (unhide HAt5).regs
    obtain ⟨W6, e6, HA6⟩ := (unhide HAt5).put r2
    refine wpAnyH_ready (rs := [12]) (by kernel_rfl) (by simp) ?_
    refine AllReadyH.cons (o := { dst := none, op := Op.store 26 (Operand.tmp 6) (Operand.tmp 52), type := 0, pos := "code.go:57", after := #[{ on := 10, ground := Ground.data }, { on := 11, ground := Ground.chain }, { on := 0, ground := Ground.phase }, { on := 1, ground := Ground.phase }, { on := 2, ground := Ground.phase }, { on := 3, ground := Ground.phase }, { on := 4, ground := Ground.phase }, { on := 5, ground := Ground.phase }, { on := 6, ground := Ground.phase }, { on := 7, ground := Ground.phase }, { on := 8, ground := Ground.phase }, { on := 9, ground := Ground.phase }, { on := 10, ground := Ground.phase }, { on := 11, ground := Ground.phase }], guard := none }) rfl (fun K hK => ?_) AllReadyH.nil
    go_simp
    try rw [e6]
    refine hK.out _ _ (unhide HSS _ _ HA6) (fun hHeld => ?_)
    clear hK K
    try simp only [Act.put, List.setIfInBounds_toArray, List.set_cons_zero, List.set_cons_succ]
    refine wpAnyH_done (by kernel_rfl) ?_ _
    go_wp2_with fail
    go_roundw
    case rel => exact ⟨k + 1, q', r2, rfl, by go_num, by omega, hq2, HIN, HA6⟩
    case measure => simp [intOf]; omega

/-- What a run answers. -/
def runR (p : Pg) (pc fuel : Int) (r : Nat → Int) : Int × (Nat → Int) × Int × (Int × Int) := if (runFault p pc fuel).1 ≠ 0 then (0, fun _ => 0, 0, runFault p pc fuel) else ((runL p fuel.toNat pc r).1, (runL p fuel.toNat pc r).2.1, ((runL p fuel.toNat pc r).2.2 : Int), (0, 0))
def runV (x : Int × (Nat → Int) × Int × (Int × Int)) : Value := .tuple #[.int .i64 x.1, rv x.2.1, .int .i64 x.2.2.1, .agg #[.int .i64 x.2.2.2.1, .int .i64 x.2.2.2.2]]
theorem runFault_zero {p : Pg} {pc fuel : Int} (h : (runFault p pc fuel).1 = 0) : runFault p pc fuel = (0, 0) ∧ (checkF p).1 = 0 ∧ (0 ≤ pc ∧ pc ≤ p.code.length) ∧ (0 ≤ fuel ∧ fuel ≤ 5000) := by
  unfold runFault at h ⊢
  by_cases hc : (checkF p).1 = 0
  · rw [if_neg (fun h => h hc)] at h ⊢
    by_cases hr : (0 ≤ pc ∧ pc ≤ p.code.length) ∧ (0 ≤ fuel ∧ fuel ≤ 5000)
    · rw [if_pos hr]; exact ⟨rfl, hc, hr.1, hr.2⟩
    · rw [if_neg hr] at h; cases h
  · rw [if_pos hc] at h; exact absurd h hc
theorem run_any (w : World) (v : Value) (p : Pg) (h : IsP w v p) (ht : Tabs w) (hn : p.code.length ≤ maxLen) (hm : p.pipes.length ≤ maxLen) (pc fuel : Int) (r : Nat → Int) :
    Calls Tryd.prog 11 #[v, .int .i64 pc, rv r, .int .i64 fuel] w fun e w' => e = .returned (runV (runR p pc fuel r)) ∧ Below w.heap.size w w' := by
  unfold runR
  by_cases h0 : (runFault p pc fuel).1 = 0
  · rw [if_neg (fun h => h h0)]
    exact run_ok w v p h ht hn hm pc fuel r (runFault_zero h0).1
  · rw [if_pos h0]
    exact run_fault w v p h ht hn hm pc fuel r _ _ rfl h0

theorem runL_done (p : Pg) : ∀ (n : Nat) (pc : Int) (r : Nat → Int), (runL p n pc r).2.2 ≤ n
  | 0, _, _ => Nat.le_refl _
  | n + 1, pc, r => by
    unfold runL
    split
    · have := runL_done p n (stepF (p.code.getD pc.toNat (0, 0, 0)) pc r).1 (stepF (p.code.getD pc.toNat (0, 0, 0)) pc r).2
      simp only
      omega
    · exact Nat.zero_le _
/-- A run that ends ahead of its fuel stands where none goes on. -/
theorem runL_stop (p : Pg) : ∀ (n : Nat) (pc : Int) (r : Nat → Int), (runL p n pc r).2.2 < n → ¬ ((runL p n pc r).1 < p.code.length ∧ 1 ≤ (p.code.getD (runL p n pc r).1.toNat (0, 0, 0)).1 ∧ (p.code.getD (runL p n pc r).1.toNat (0, 0, 0)).1 ≤ 7)
  | 0, _, _, h => by simp [runL] at h
  | n + 1, pc, r, h => by
    unfold runL at h ⊢
    split at h
    · next hc =>
      rw [if_pos hc]
      exact runL_stop p n _ _ (by simp only at h; omega)
    · next hc =>
      rw [if_neg hc]
      exact hc
theorem runL_stay (p : Pg) (n : Nat) (pc : Int) (r : Nat → Int) (h : ¬ (pc < p.code.length ∧ 1 ≤ (p.code.getD pc.toNat (0, 0, 0)).1 ∧ (p.code.getD pc.toNat (0, 0, 0)).1 ≤ 7)) : runL p n pc r = (pc, r, 0) := by
  cases n with
  | zero => rfl
  | succ n => unfold runL; rw [if_neg h]
/-- To run so much, and then so much more. -/
theorem runL_two (p : Pg) : ∀ (m n : Nat) (pc : Int) (r : Nat → Int), runL p (m + n) pc r = ((runL p n (runL p m pc r).1 (runL p m pc r).2.1).1, (runL p n (runL p m pc r).1 (runL p m pc r).2.1).2.1, (runL p m pc r).2.2 + (runL p n (runL p m pc r).1 (runL p m pc r).2.1).2.2)
  | 0, n, pc, r => by simp [runL]
  | m + 1, n, pc, r => by
    rw [show m + 1 + n = (m + n) + 1 by omega]
    by_cases hc : pc < p.code.length ∧ 1 ≤ (p.code.getD pc.toNat (0, 0, 0)).1 ∧ (p.code.getD pc.toNat (0, 0, 0)).1 ≤ 7
    · have e1 : ∀ k, runL p (k + 1) pc r = ((runL p k (stepF (p.code.getD pc.toNat (0, 0, 0)) pc r).1 (stepF (p.code.getD pc.toNat (0, 0, 0)) pc r).2).1, (runL p k (stepF (p.code.getD pc.toNat (0, 0, 0)) pc r).1 (stepF (p.code.getD pc.toNat (0, 0, 0)) pc r).2).2.1, (runL p k (stepF (p.code.getD pc.toNat (0, 0, 0)) pc r).1 (stepF (p.code.getD pc.toNat (0, 0, 0)) pc r).2).2.2 + 1) := fun k => by
        conv => lhs; unfold runL
        rw [if_pos hc]
      rw [e1, e1, runL_two p m n]
      simp only [Prod.mk.injEq, true_and]
      omega
    · rw [runL_stay p _ pc r hc, runL_stay p _ pc r hc, runL_stay p _ pc r hc]
      rfl
theorem runL_pc (p : Pg) (hw : ∀ j, j < p.code.length → wrongF p (p.code.getD j (0, 0, 0)) = 0) : ∀ (n : Nat) (pc : Int) (r : Nat → Int), 0 ≤ pc → pc ≤ p.code.length → 0 ≤ (runL p n pc r).1 ∧ (runL p n pc r).1 ≤ p.code.length
  | 0, _, _, h0, h1 => ⟨h0, h1⟩
  | n + 1, pc, r, h0, h1 => by
    unfold runL
    split
    · next hc =>
      have := step_pc (hw pc.toNat (by omega)) hc.2 h0 hc.1 r
      exact runL_pc p hw n _ _ this.1 this.2
    · exact ⟨h0, h1⟩

end Go.Proofs.YtgeinjldjpaleaaDoor
