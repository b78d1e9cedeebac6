/-
  taskmilllaw.CodeHalves.
-/
import Derived.Test.YtgeinjldjpaleaaDoorM
import Derived.Test.YtgeinjldjpaleaaDoorEq
namespace Go.Proofs.YtgeinjldjpaleaaDoor
open Go.RowKit

set_option maxRecDepth 100000 in
set_option maxHeartbeats 2000000 in
theorem halves_vast (w : World) (v : Value) (p : Pg) (h : IsP w v p) (ht : Tabs w) (hn : p.code.length ≤ maxLen) (hm : p.pipes.length ≤ maxLen) (pc : Int) (r : Nat → Int) (m n : Int) (hv : 2000 < p.code.length ∨ 2000 < p.pipes.length) :
    Calls Tryd.prog 5 #[v, .int .i64 pc, rv r, .int .i64 m, .int .i64 n] w fun e w' => e = .returned (.bool true) ∧ Below w.heap.size w w' := by
  obtain ⟨a, c, b, d, rfl, hc, hp⟩ := h.form
  obtain ⟨W0, e0, hB, k0, k1⟩ := two_new w (.cells #[.slice a p.code.length c, .int .i64 p.cells, .slice b p.pipes.length d, .int .i64 p.locks, .int .i64 p.groups] 25) (.cells #[.int .i64 (r 0), .int .i64 (r 1), .int .i64 (r 2), .int .i64 (r 3), .int .i64 (r 4), .int .i64 (r 5), .int .i64 (r 6), .int .i64 (r 7)] 26)
  have HX := hide hB; have HE := hide e0; have HK := hide k0; have HR : Hid (W0.heap[w.heap.size + 1]? = some (.cells (rvA r) 26 (0, 0))) := k1
  have HV := hide fun W (hW : Below w.heap.size w W) => vast_any W _ p (h.below hW) hn hm
  have HBG := hide fun W (hW : Below w.heap.size w W) => begun_any W (ht.below hW)
  have HRUN := hide fun W (hW : Below w.heap.size w W) pc fuel r => run_any W _ p (h.below hW) (ht.below hW) hn hm pc fuel r
  rw [decide_eq_true hv] at HV
  clear hB e0 k0 k1 h hc hp ht hn hm HRUN
  unfold rv rvA
  go_enter Tryd.func5, Tryd.ntmps5
  go_upto_region 1 with fail
  rw [unhide HE]
  clear HE
  go_upto_region 3 with (go_at_call 7; refine (unhide HBG _ (unhide HX)).mono ?_; rintro e w1 ⟨rfl, b1⟩; have HX1 := hide ((unhide HX).trans (b1.mono (unhide HX).size)); have HK1 := hide (keep_below (unhide HK) b1); have HR1 := hide (keep_below (unhide HR) b1); clear b1 HX HK HR HBG)
  obtain ⟨⟨q0, q1, q2, q3, q4⟩, ql⟩ := block5 (unhide HK1)
  go_wp2_with (go_at_call 8; refine (unhide HV _ (unhide HX1)).mono ?_; rintro e w2 ⟨rfl, b2⟩; have HX2 := hide ((unhide HX1).trans (b2.mono (unhide HX1).size)); have HK2 := hide (keep_below (unhide HK1) b2); have HR2 := hide (keep_below (unhide HR1) b2); clear b2 q0 q1 q2 q3 q4 HX1 HK1 HR1 HV)
  go_ret
  exact ⟨rfl, unhide HX2⟩

set_option maxRecDepth 100000 in
set_option maxHeartbeats 2000000 in
theorem halves_e1 (w : World) (v : Value) (p : Pg) (h : IsP w v p) (ht : Tabs w) (hn : p.code.length ≤ maxLen) (hm : p.pipes.length ≤ maxLen) (pc : Int) (r : Nat → Int) (m n : Int) (hv : ¬ (2000 < p.code.length ∨ 2000 < p.pipes.length)) (i0 : m < 0) :
    Calls Tryd.prog 5 #[v, .int .i64 pc, rv r, .int .i64 m, .int .i64 n] w fun e w' => e = .returned (.bool true) ∧ Below w.heap.size w w' := by
  obtain ⟨a, c, b, d, rfl, hc, hp⟩ := h.form
  obtain ⟨W0, e0, hB, k0, k1⟩ := two_new w (.cells #[.slice a p.code.length c, .int .i64 p.cells, .slice b p.pipes.length d, .int .i64 p.locks, .int .i64 p.groups] 25) (.cells #[.int .i64 (r 0), .int .i64 (r 1), .int .i64 (r 2), .int .i64 (r 3), .int .i64 (r 4), .int .i64 (r 5), .int .i64 (r 6), .int .i64 (r 7)] 26)
  have HX := hide hB; have HE := hide e0; have HK := hide k0; have HR : Hid (W0.heap[w.heap.size + 1]? = some (.cells (rvA r) 26 (0, 0))) := k1
  have HV := hide fun W (hW : Below w.heap.size w W) => vast_any W _ p (h.below hW) hn hm
  have HBG := hide fun W (hW : Below w.heap.size w W) => begun_any W (ht.below hW)
  have HRUN := hide fun W (hW : Below w.heap.size w W) pc fuel r => run_any W _ p (h.below hW) (ht.below hW) hn hm pc fuel r
  rw [decide_eq_false hv] at HV
  clear hB e0 k0 k1 h hc hp ht hn hm HRUN
  unfold rv rvA
  go_enter Tryd.func5, Tryd.ntmps5
  go_upto_region 1 with fail
  rw [unhide HE]
  clear HE
  go_upto_region 3 with (go_at_call 7; refine (unhide HBG _ (unhide HX)).mono ?_; rintro e w1 ⟨rfl, b1⟩; have HX1 := hide ((unhide HX).trans (b1.mono (unhide HX).size)); have HK1 := hide (keep_below (unhide HK) b1); have HR1 := hide (keep_below (unhide HR) b1); clear b1 HX HK HR HBG)
  obtain ⟨⟨q0, q1, q2, q3, q4⟩, ql⟩ := block5 (unhide HK1)
  go_wp2_with (go_at_call 8; refine (unhide HV _ (unhide HX1)).mono ?_; rintro e w2 ⟨rfl, b2⟩; have HX2 := hide ((unhide HX1).trans (b2.mono (unhide HX1).size)); have HK2 := hide (keep_below (unhide HK1) b2); have HR2 := hide (keep_below (unhide HR1) b2); clear b2 q0 q1 q2 q3 q4 HX1 HK1 HR1 HV)
  go_ret
  exact ⟨rfl, unhide HX2⟩

set_option maxRecDepth 100000 in
set_option maxHeartbeats 2000000 in
theorem halves_e2 (w : World) (v : Value) (p : Pg) (h : IsP w v p) (ht : Tabs w) (hn : p.code.length ≤ maxLen) (hm : p.pipes.length ≤ maxLen) (pc : Int) (r : Nat → Int) (m n : Int) (hv : ¬ (2000 < p.code.length ∨ 2000 < p.pipes.length)) (i0 : ¬ m < 0) (i1 : n < 0) :
    Calls Tryd.prog 5 #[v, .int .i64 pc, rv r, .int .i64 m, .int .i64 n] w fun e w' => e = .returned (.bool true) ∧ Below w.heap.size w w' := by
  obtain ⟨a, c, b, d, rfl, hc, hp⟩ := h.form
  obtain ⟨W0, e0, hB, k0, k1⟩ := two_new w (.cells #[.slice a p.code.length c, .int .i64 p.cells, .slice b p.pipes.length d, .int .i64 p.locks, .int .i64 p.groups] 25) (.cells #[.int .i64 (r 0), .int .i64 (r 1), .int .i64 (r 2), .int .i64 (r 3), .int .i64 (r 4), .int .i64 (r 5), .int .i64 (r 6), .int .i64 (r 7)] 26)
  have HX := hide hB; have HE := hide e0; have HK := hide k0; have HR : Hid (W0.heap[w.heap.size + 1]? = some (.cells (rvA r) 26 (0, 0))) := k1
  have HV := hide fun W (hW : Below w.heap.size w W) => vast_any W _ p (h.below hW) hn hm
  have HBG := hide fun W (hW : Below w.heap.size w W) => begun_any W (ht.below hW)
  have HRUN := hide fun W (hW : Below w.heap.size w W) pc fuel r => run_any W _ p (h.below hW) (ht.below hW) hn hm pc fuel r
  rw [decide_eq_false hv] at HV
  clear hB e0 k0 k1 h hc hp ht hn hm HRUN
  unfold rv rvA
  go_enter Tryd.func5, Tryd.ntmps5
  go_upto_region 1 with fail
  rw [unhide HE]
  clear HE
  go_upto_region 3 with (go_at_call 7; refine (unhide HBG _ (unhide HX)).mono ?_; rintro e w1 ⟨rfl, b1⟩; have HX1 := hide ((unhide HX).trans (b1.mono (unhide HX).size)); have HK1 := hide (keep_below (unhide HK) b1); have HR1 := hide (keep_below (unhide HR) b1); clear b1 HX HK HR HBG)
  obtain ⟨⟨q0, q1, q2, q3, q4⟩, ql⟩ := block5 (unhide HK1)
  go_wp2_with (go_at_call 8; refine (unhide HV _ (unhide HX1)).mono ?_; rintro e w2 ⟨rfl, b2⟩; have HX2 := hide ((unhide HX1).trans (b2.mono (unhide HX1).size)); have HK2 := hide (keep_below (unhide HK1) b2); have HR2 := hide (keep_below (unhide HR1) b2); clear b2 q0 q1 q2 q3 q4 HX1 HK1 HR1 HV)
  go_ret
  exact ⟨rfl, unhide HX2⟩

set_option maxRecDepth 100000 in
set_option maxHeartbeats 2000000 in
theorem halves_e3 (w : World) (v : Value) (p : Pg) (h : IsP w v p) (ht : Tabs w) (hn : p.code.length ≤ maxLen) (hm : p.pipes.length ≤ maxLen) (pc : Int) (r : Nat → Int) (m n : Int) (hv : ¬ (2000 < p.code.length ∨ 2000 < p.pipes.length)) (i0 : ¬ m < 0) (i1 : ¬ n < 0) (i2 : 2000 < m) :
    Calls Tryd.prog 5 #[v, .int .i64 pc, rv r, .int .i64 m, .int .i64 n] w fun e w' => e = .returned (.bool true) ∧ Below w.heap.size w w' := by
  obtain ⟨a, c, b, d, rfl, hc, hp⟩ := h.form
  obtain ⟨W0, e0, hB, k0, k1⟩ := two_new w (.cells #[.slice a p.code.length c, .int .i64 p.cells, .slice b p.pipes.length d, .int .i64 p.locks, .int .i64 p.groups] 25) (.cells #[.int .i64 (r 0), .int .i64 (r 1), .int .i64 (r 2), .int .i64 (r 3), .int .i64 (r 4), .int .i64 (r 5), .int .i64 (r 6), .int .i64 (r 7)] 26)
  have HX := hide hB; have HE := hide e0; have HK := hide k0; have HR : Hid (W0.heap[w.heap.size + 1]? = some (.cells (rvA r) 26 (0, 0))) := k1
  have HV := hide fun W (hW : Below w.heap.size w W) => vast_any W _ p (h.below hW) hn hm
  have HBG := hide fun W (hW : Below w.heap.size w W) => begun_any W (ht.below hW)
  have HRUN := hide fun W (hW : Below w.heap.size w W) pc fuel r => run_any W _ p (h.below hW) (ht.below hW) hn hm pc fuel r
  rw [decide_eq_false hv] at HV
  clear hB e0 k0 k1 h hc hp ht hn hm HRUN
  unfold rv rvA
  go_enter Tryd.func5, Tryd.ntmps5
  go_upto_region 1 with fail
  rw [unhide HE]
  clear HE
  go_upto_region 3 with (go_at_call 7; refine (unhide HBG _ (unhide HX)).mono ?_; rintro e w1 ⟨rfl, b1⟩; have HX1 := hide ((unhide HX).trans (b1.mono (unhide HX).size)); have HK1 := hide (keep_below (unhide HK) b1); have HR1 := hide (keep_below (unhide HR) b1); clear b1 HX HK HR HBG)
  obtain ⟨⟨q0, q1, q2, q3, q4⟩, ql⟩ := block5 (unhide HK1)
  go_wp2_with (go_at_call 8; refine (unhide HV _ (unhide HX1)).mono ?_; rintro e w2 ⟨rfl, b2⟩; have HX2 := hide ((unhide HX1).trans (b2.mono (unhide HX1).size)); have HK2 := hide (keep_below (unhide HK1) b2); have HR2 := hide (keep_below (unhide HR1) b2); clear b2 q0 q1 q2 q3 q4 HX1 HK1 HR1 HV)
  go_ret
  exact ⟨rfl, unhide HX2⟩

set_option maxRecDepth 100000 in
set_option maxHeartbeats 2000000 in
theorem halves_e4 (w : World) (v : Value) (p : Pg) (h : IsP w v p) (ht : Tabs w) (hn : p.code.length ≤ maxLen) (hm : p.pipes.length ≤ maxLen) (pc : Int) (r : Nat → Int) (m n : Int) (hv : ¬ (2000 < p.code.length ∨ 2000 < p.pipes.length)) (i0 : ¬ m < 0) (i1 : ¬ n < 0) (i2 : ¬ 2000 < m) (i3 : 2000 < n) :
    Calls Tryd.prog 5 #[v, .int .i64 pc, rv r, .int .i64 m, .int .i64 n] w fun e w' => e = .returned (.bool true) ∧ Below w.heap.size w w' := by
  obtain ⟨a, c, b, d, rfl, hc, hp⟩ := h.form
  obtain ⟨W0, e0, hB, k0, k1⟩ := two_new w (.cells #[.slice a p.code.length c, .int .i64 p.cells, .slice b p.pipes.length d, .int .i64 p.locks, .int .i64 p.groups] 25) (.cells #[.int .i64 (r 0), .int .i64 (r 1), .int .i64 (r 2), .int .i64 (r 3), .int .i64 (r 4), .int .i64 (r 5), .int .i64 (r 6), .int .i64 (r 7)] 26)
  have HX := hide hB; have HE := hide e0; have HK := hide k0; have HR : Hid (W0.heap[w.heap.size + 1]? = some (.cells (rvA r) 26 (0, 0))) := k1
  have HV := hide fun W (hW : Below w.heap.size w W) => vast_any W _ p (h.below hW) hn hm
  have HBG := hide fun W (hW : Below w.heap.size w W) => begun_any W (ht.below hW)
  have HRUN := hide fun W (hW : Below w.heap.size w W) pc fuel r => run_any W _ p (h.below hW) (ht.below hW) hn hm pc fuel r
  rw [decide_eq_false hv] at HV
  clear hB e0 k0 k1 h hc hp ht hn hm HRUN
  unfold rv rvA
  go_enter Tryd.func5, Tryd.ntmps5
  go_upto_region 1 with fail
  rw [unhide HE]
  clear HE
  go_upto_region 3 with (go_at_call 7; refine (unhide HBG _ (unhide HX)).mono ?_; rintro e w1 ⟨rfl, b1⟩; have HX1 := hide ((unhide HX).trans (b1.mono (unhide HX).size)); have HK1 := hide (keep_below (unhide HK) b1); have HR1 := hide (keep_below (unhide HR) b1); clear b1 HX HK HR HBG)
  obtain ⟨⟨q0, q1, q2, q3, q4⟩, ql⟩ := block5 (unhide HK1)
  go_wp2_with (go_at_call 8; refine (unhide HV _ (unhide HX1)).mono ?_; rintro e w2 ⟨rfl, b2⟩; have HX2 := hide ((unhide HX1).trans (b2.mono (unhide HX1).size)); have HK2 := hide (keep_below (unhide HK1) b2); have HR2 := hide (keep_below (unhide HR1) b2); clear b2 q0 q1 q2 q3 q4 HX1 HK1 HR1 HV)
  go_ret
  exact ⟨rfl, unhide HX2⟩

set_option maxRecDepth 100000 in
set_option maxHeartbeats 2000000 in
theorem halves_f (w : World) (v : Value) (p : Pg) (h : IsP w v p) (ht : Tabs w) (hn : p.code.length ≤ maxLen) (hm : p.pipes.length ≤ maxLen) (pc : Int) (r : Nat → Int) (m n : Int) (hv : ¬ (2000 < p.code.length ∨ 2000 < p.pipes.length)) (i0 : ¬ m < 0) (i1 : ¬ n < 0) (i2 : ¬ 2000 < m) (i3 : ¬ 2000 < n) (h0 : ¬ (runFault p pc m).1 = 0) :
    Calls Tryd.prog 5 #[v, .int .i64 pc, rv r, .int .i64 m, .int .i64 n] w fun e w' => e = .returned (.bool true) ∧ Below w.heap.size w w' := by
  obtain ⟨a, c, b, d, rfl, hc, hp⟩ := h.form
  obtain ⟨W0, e0, hB, k0, k1⟩ := two_new w (.cells #[.slice a p.code.length c, .int .i64 p.cells, .slice b p.pipes.length d, .int .i64 p.locks, .int .i64 p.groups] 25) (.cells #[.int .i64 (r 0), .int .i64 (r 1), .int .i64 (r 2), .int .i64 (r 3), .int .i64 (r 4), .int .i64 (r 5), .int .i64 (r 6), .int .i64 (r 7)] 26)
  have HX := hide hB; have HE := hide e0; have HK := hide k0; have HR : Hid (W0.heap[w.heap.size + 1]? = some (.cells (rvA r) 26 (0, 0))) := k1
  have HV := hide fun W (hW : Below w.heap.size w W) => vast_any W _ p (h.below hW) hn hm
  have HBG := hide fun W (hW : Below w.heap.size w W) => begun_any W (ht.below hW)
  have HRUN := hide fun W (hW : Below w.heap.size w W) pc fuel r => run_any W _ p (h.below hW) (ht.below hW) hn hm pc fuel r
  rw [decide_eq_false hv] at HV
  obtain ⟨⟨P1, R1, D1, F1, A1⟩, e1⟩ : ∃ X, runR p pc m r = X := ⟨_, rfl⟩
  have HRa := hide fun W (hW : Below w.heap.size w W) => unhide HRUN W hW pc m r
  rw [e1] at HRa
  unfold runV rv rvA at HRa
  have hF : ¬ F1 = 0 := by
    unfold runR at e1
    rw [if_pos h0] at e1
    simp only [Prod.mk.injEq] at e1
    have h5 := e1.2.2.2; rw [h5] at h0; exact h0
  have hF' : (F1 == 0) = false := by simpa using hF
  clear hB e0 k0 k1 h hc hp ht hn hm HRUN e1 h0
  unfold rv rvA
  go_enter Tryd.func5, Tryd.ntmps5
  go_upto_region 1 with fail
  rw [unhide HE]
  clear HE
  go_upto_region 3 with (go_at_call 7; refine (unhide HBG _ (unhide HX)).mono ?_; rintro e w1 ⟨rfl, b1⟩; have HX1 := hide ((unhide HX).trans (b1.mono (unhide HX).size)); have HK1 := hide (keep_below (unhide HK) b1); have HR1 := hide (keep_below (unhide HR) b1); clear b1 HX HK HR HBG)
  obtain ⟨⟨q0, q1, q2, q3, q4⟩, ql⟩ := block5 (unhide HK1)
  go_upto_region 5 with (go_at_call 8; refine (unhide HV _ (unhide HX1)).mono ?_; rintro e w2 ⟨rfl, b2⟩; have HX2 := hide ((unhide HX1).trans (b2.mono (unhide HX1).size)); have HK2 := hide (keep_below (unhide HK1) b2); have HR2 := hide (keep_below (unhide HR1) b2); clear b2 q0 q1 q2 q3 q4 HX1 HK1 HR1 HV)
  obtain ⟨⟨q0, q1, q2, q3, q4⟩, ql⟩ := block5 (unhide HK2)
  obtain ⟨⟨r0, r1, r2, r3, r4, r5, r6, r7⟩, -, rl⟩ := reg_all (unhide HR2)
  go_upto_region 6 with (go_at_call 11; refine (unhide HRa _ (unhide HX2)).mono ?_; rintro e w3 ⟨rfl, b3⟩; have HX3 := hide ((unhide HX2).trans (b3.mono (unhide HX2).size)); have HK3 := hide (keep_below (unhide HK2) b3); have HR3 := hide (keep_below (unhide HR2) b3); clear b3 q0 q1 q2 q3 q4 r0 r1 r2 r3 r4 r5 r6 r7 HX2 HK2 HR2 HRa)
  obtain ⟨W4, e4, b4, z4, y4⟩ := two_new w3 (.cells #[.int .i64 (R1 0), .int .i64 (R1 1), .int .i64 (R1 2), .int .i64 (R1 3), .int .i64 (R1 4), .int .i64 (R1 5), .int .i64 (R1 6), .int .i64 (R1 7)] 26) (.cells #[.int .i64 F1, .int .i64 A1] 31)
  rw [e4]
  have HX4 := hide ((unhide HX3).trans (b4.mono (unhide HX3).size))
  have HK4 := hide (keep_below (unhide HK3) b4)
  have HR4 := hide (keep_below (unhide HR3) b4)
  have HS4 : Hid (W4.heap[w3.heap.size]? = some (.cells (rvA R1) 26 (0, 0))) := z4
  have HF4 := hide y4
  clear e4 b4 z4 y4 HX3 HK3 HR3
  obtain ⟨g0, g1, gf0, gf1, gl⟩ := block2 (unhide HF4)
  go_wp2_with fail
  go_ret
  exact ⟨rfl, unhide HX4⟩

theorem runR_ok {p : Pg} {pc fuel : Int} {r : Nat → Int} (hc : (checkF p).1 = 0) (h1 : 0 ≤ pc ∧ pc ≤ p.code.length) (h2 : 0 ≤ fuel ∧ fuel ≤ 5000) : runR p pc fuel r = ((runL p fuel.toNat pc r).1, (runL p fuel.toNat pc r).2.1, ((runL p fuel.toNat pc r).2.2 : Int), (0, 0)) := by
  have e : runFault p pc fuel = (0, 0) := by unfold runFault; rw [if_neg (fun h => h hc), if_pos ⟨h1, h2⟩]
  unfold runR
  rw [e, if_neg (by simp)]
theorem halves_math {p : Pg} {pc : Int} {r : Nat → Int} {m n : Int} (h0 : (runFault p pc m).1 = 0) (m0 : 0 ≤ m) (n0 : 0 ≤ n) (m1 : m ≤ 2000) (n1 : n ≤ 2000) : ∃ (q1 q2 d1 d2 : Nat) (R1 R2 : Nat → Int), runR p pc m r = ((q1 : Int), R1, (d1 : Int), (0, 0)) ∧ runR p q1 n R1 = ((q2 : Int), R2, (d2 : Int), (0, 0)) ∧ runR p pc (m + n) r = ((q2 : Int), R2, (d1 : Int) + (d2 : Int), (0, 0)) ∧ (d1 : Int) ≤ m ∧ (d1 : Int) + d2 ≤ m + n ∧ p.code.length ≤ 1000 ∧ q2 ≤ p.code.length ∧ ((d1 : Int) + d2 = m + n ∨ q2 = p.code.length ∨ (q2 < p.code.length ∧ 7 < (p.code.getD q2 (0, 0, 0)).1)) := by
  obtain ⟨-, hc, hpc, -⟩ := runFault_zero h0
  obtain ⟨-, hl, -, -, hw⟩ := check_zero hc
  obtain ⟨M, rfl⟩ : ∃ M : Nat, m = M := ⟨m.toNat, by omega⟩
  obtain ⟨K, rfl⟩ : ∃ K : Nat, n = K := ⟨n.toNat, by omega⟩
  have e1 := runR_ok (r := r) hc hpc (show 0 ≤ (M : Int) ∧ (M : Int) ≤ 5000 by omega)
  rw [Int.toNat_natCast] at e1
  have p1 := runL_pc p hw M pc r hpc.1 hpc.2
  obtain ⟨q1, hq1⟩ : ∃ q : Nat, (runL p M pc r).1 = q := ⟨(runL p M pc r).1.toNat, by omega⟩
  have e2 := runR_ok (r := (runL p M pc r).2.1) hc p1 (show 0 ≤ (K : Int) ∧ (K : Int) ≤ 5000 by omega)
  rw [Int.toNat_natCast] at e2
  have p2 := runL_pc p hw K (runL p M pc r).1 (runL p M pc r).2.1 p1.1 p1.2
  have e3 := runR_ok (r := r) hc hpc (show 0 ≤ (M : Int) + (K : Int) ∧ (M : Int) + (K : Int) ≤ 5000 by omega)
  rw [show ((M : Int) + (K : Int)).toNat = M + K by omega, runL_two p M K pc r] at e3
  have d1 := runL_done p M pc r
  have d2 := runL_done p K (runL p M pc r).1 (runL p M pc r).2.1
  have st := runL_stop p (M + K) pc r
  rw [runL_two p M K pc r] at st
  simp only at st e3
  rw [hq1] at e1 e2 e3 p2 d2 st
  generalize hX : runL p K (q1 : Int) (runL p M pc r).2.1 = X at e2 e3 p2 d2 st
  obtain ⟨P2, R2, d2'⟩ := X
  simp only at e2 e3 p2 d2 st
  obtain ⟨q2, rfl⟩ : ∃ q : Nat, P2 = q := ⟨P2.toNat, by omega⟩
  refine ⟨q1, q2, _, _, _, _, e1, e2, ?_, by omega, by omega, hl, by omega, ?_⟩
  · rw [e3]; simp
  · by_cases h5 : (runL p M pc r).2.2 + d2' < M + K
    · have h6 := st h5
      rw [Int.toNat_natCast] at h6
      by_cases h7 : q2 = p.code.length
      · exact Or.inr (Or.inl h7)
      · have h8 := (wrong_none (hw q2 (by omega))).1
        exact Or.inr (Or.inr ⟨by omega, by omega⟩)
    · exact Or.inl (by omega)

theorem set2b' {w : World} {R : Nat} {t : TypeId} (h : w.heap[R]? = some (.cells #[.int .i64 0, .int .i64 0] t (0, 0))) : ((w.setCell ⟨R, 0, none⟩ (.int .i64 0)).setCell ⟨R, 1, none⟩ (.int .i64 0)).heap[R]? = some (.cells #[.int .i64 0, .int .i64 0] t (0, 0)) := by
  simp [World.setCell, Array.getElem?_modify, h]

set_option maxRecDepth 100000 in
set_option maxHeartbeats 2000000 in
theorem halves_1 (w : World) (v : Value) (p : Pg) (h : IsP w v p) (ht : Tabs w) (hn : p.code.length ≤ maxLen) (hm : p.pipes.length ≤ maxLen) (pc : Int) (r : Nat → Int) (m n : Int) (hv : ¬ (2000 < p.code.length ∨ 2000 < p.pipes.length)) (i0 : ¬ m < 0) (i1 : ¬ n < 0) (i2 : ¬ 2000 < m) (i3 : ¬ 2000 < n) (q1 q2 d1 d2 : Nat) (R1 R2 : Nat → Int) (e1 : runR p pc m r = ((q1 : Int), R1, (d1 : Int), (0, 0))) (e2 : runR p q1 n R1 = ((q2 : Int), R2, (d2 : Int), (0, 0))) (e3 : runR p pc (m + n) r = ((q2 : Int), R2, (d1 : Int) + (d2 : Int), (0, 0))) (b1 : (d1 : Int) ≤ m) (b2 : (d1 : Int) + d2 ≤ m + n) (_b3 : p.code.length ≤ 1000) (_b5 : q2 ≤ p.code.length) (c1 : (d1 : Int) + d2 = m + n) :
    Calls Tryd.prog 5 #[v, .int .i64 pc, rv r, .int .i64 m, .int .i64 n] w fun e w' => e = .returned (.bool true) ∧ Below w.heap.size w w' := by
  obtain ⟨a, c, b, d, rfl, hc, hp⟩ := h.form
  obtain ⟨W0, e0, hB, k0, k1⟩ := two_new w (.cells #[.slice a p.code.length c, .int .i64 p.cells, .slice b p.pipes.length d, .int .i64 p.locks, .int .i64 p.groups] 25) (.cells #[.int .i64 (r 0), .int .i64 (r 1), .int .i64 (r 2), .int .i64 (r 3), .int .i64 (r 4), .int .i64 (r 5), .int .i64 (r 6), .int .i64 (r 7)] 26)
  have HX := hide hB; have HE := hide e0; have HK := hide k0; have HR : Hid (W0.heap[w.heap.size + 1]? = some (.cells (rvA r) 26 (0, 0))) := k1
  have HV := hide fun W (hW : Below w.heap.size w W) => vast_any W _ p (h.below hW) hn hm
  have HBG := hide fun W (hW : Below w.heap.size w W) => begun_any W (ht.below hW)
  have HRUN := hide fun W (hW : Below w.heap.size w W) pc fuel r => run_any W _ p (h.below hW) (ht.below hW) hn hm pc fuel r
  rw [decide_eq_false hv] at HV
  have HRa := hide fun W (hW : Below w.heap.size w W) => unhide HRUN W hW pc m r
  have HRb := hide fun W (hW : Below w.heap.size w W) => unhide HRUN W hW q1 n R1
  have HRc := hide fun W (hW : Below w.heap.size w W) => unhide HRUN W hW pc (m + n) r
  rw [e1] at HRa
  rw [e2] at HRb
  rw [e3] at HRc
  unfold runV rv rvA at HRa HRb HRc
  have HC0 := hide (hc.opens kc rfl)
  have x1 : ¬ m < (d1 : Int) := by omega
  have x2 : ¬ m + n < (d1 : Int) + (d2 : Int) := by omega
  have x3 : (0 : Int) ≤ (q2 : Int) := by omega
  have x4 : ((d1 : Int) + (d2 : Int) == m + n) = true := by simpa using c1
  clear c1 HC0
  clear hB e0 k0 k1 h hc hp ht hn hm HRUN e1 e2 e3
  unfold rv rvA
  go_enter Tryd.func5, Tryd.ntmps5
  go_upto_region 1 with fail
  rw [unhide HE]
  clear HE
  go_upto_region 3 with (go_at_call 7; refine (unhide HBG _ (unhide HX)).mono ?_; rintro e w1 ⟨rfl, b1⟩; have HX1 := hide ((unhide HX).trans (b1.mono (unhide HX).size)); have HK1 := hide (keep_below (unhide HK) b1); have HR1 := hide (keep_below (unhide HR) b1); clear b1 HX HK HR HBG)
  obtain ⟨⟨q0, q1, q2, q3, q4⟩, ql⟩ := block5 (unhide HK1)
  go_upto_region 5 with (go_at_call 8; refine (unhide HV _ (unhide HX1)).mono ?_; rintro e w2 ⟨rfl, b2⟩; have HX2 := hide ((unhide HX1).trans (b2.mono (unhide HX1).size)); have HK2 := hide (keep_below (unhide HK1) b2); have HR2 := hide (keep_below (unhide HR1) b2); clear b2 q0 q1 q2 q3 q4 HX1 HK1 HR1 HV)
  obtain ⟨⟨q0, q1, q2, q3, q4⟩, ql⟩ := block5 (unhide HK2)
  obtain ⟨⟨r0, r1, r2, r3, r4, r5, r6, r7⟩, -, rl⟩ := reg_all (unhide HR2)
  go_upto_region 6 with (go_at_call 11; refine (unhide HRa _ (unhide HX2)).mono ?_; rintro e w3 ⟨rfl, b3⟩; have HX3 := hide ((unhide HX2).trans (b3.mono (unhide HX2).size)); have HK3 := hide (keep_below (unhide HK2) b3); have HR3 := hide (keep_below (unhide HR2) b3); clear b3 q0 q1 q2 q3 q4 r0 r1 r2 r3 r4 r5 r6 r7 HX2 HK2 HR2 HRa)
  have HL3 := hide (size_of (unhide HR3))
  obtain ⟨W4, e4, b4, z4, y4⟩ := two_new w3 (.cells #[.int .i64 (R1 0), .int .i64 (R1 1), .int .i64 (R1 2), .int .i64 (R1 3), .int .i64 (R1 4), .int .i64 (R1 5), .int .i64 (R1 6), .int .i64 (R1 7)] 26) (.cells #[.int .i64 0, .int .i64 0] 31)
  rw [e4]
  have HX4 := hide ((unhide HX3).trans (b4.mono (unhide HX3).size))
  have HK4 := hide (keep_below (unhide HK3) b4)
  have HR4 := hide (keep_below (unhide HR3) b4)
  have HS4 : Hid (W4.heap[w3.heap.size]? = some (.cells (rvA R1) 26 (0, 0))) := z4
  have HF4 := hide y4
  clear e4 b4 z4 y4 HX3 HK3 HR3
  obtain ⟨g0, g1, gf0, gf1, gl⟩ := block2 (unhide HF4)
  go_upto_region 8 with fail
  obtain ⟨⟨q0', q1', q2', q3', q4'⟩, ql⟩ := block5 (unhide HK4)
  obtain ⟨⟨s0, s1, s2, s3, s4, s5, s6, s7⟩, -, sl⟩ := reg_all (unhide HS4)
  go_upto_region 9 with (go_at_call 11; refine (unhide HRb _ (unhide HX4)).mono ?_; rintro e w5 ⟨rfl, b5⟩; have HX5 := hide ((unhide HX4).trans (b5.mono (unhide HX4).size)); have HK5 := hide (keep_below (unhide HK4) b5); have HR5 := hide (keep_below (unhide HR4) b5); have HF5 := hide (keep_below (unhide HF4) b5); clear b5 q0' q1' q2' q3' q4' s0 s1 s2 s3 s4 s5 s6 s7 g0 g1 gf0 gf1 gl HX4 HK4 HR4 HS4 HF4 HRb; obtain ⟨g0, g1, gf0, gf1, gl⟩ := block2 (unhide HF5))
  have HX6 := hide (below_set2 (unhide HX5) (Nat.le_trans (Nat.le_of_lt (Nat.lt_trans (Nat.lt_succ_self _) (unhide HL3))) (Nat.le_succ w3.heap.size)) (.int .i64 0) (.int .i64 0))
  have HK6 := hide (keep_set (o := 1) (v := .int .i64 0) (keep_set (o := 0) (v := .int .i64 0) (unhide HK5) (show w.heap.size ≠ w3.heap.size + 1 by have := unhide HL3; omega)) (show w.heap.size ≠ w3.heap.size + 1 by have := unhide HL3; omega))
  have HR6 := hide (keep_set (o := 1) (v := .int .i64 0) (keep_set (o := 0) (v := .int .i64 0) (unhide HR5) (show w.heap.size + 1 ≠ w3.heap.size + 1 by have := unhide HL3; omega)) (show w.heap.size + 1 ≠ w3.heap.size + 1 by have := unhide HL3; omega))
  have HF6 := hide (set2b' (unhide HF5))
  obtain ⟨W6, e6⟩ : ∃ X, (w5.setCell ⟨w3.heap.size + 1, 0, none⟩ (.int .i64 0)).setCell ⟨w3.heap.size + 1, 1, none⟩ (.int .i64 0) = X := ⟨_, rfl⟩
  have hsz : w5.heap.size = W6.heap.size := by rw [← e6]; simp [World.setCell]
  rw [e6] at HX6 HK6 HR6 HF6 ⊢
  rw [hsz]
  clear e6 hsz g0 g1 gf0 gf1 gl HX5 HK5 HR5 HF5
  obtain ⟨W7, e7, b7, z7⟩ := one_new W6 (.cells #[.int .i64 (R2 0), .int .i64 (R2 1), .int .i64 (R2 2), .int .i64 (R2 3), .int .i64 (R2 4), .int .i64 (R2 5), .int .i64 (R2 6), .int .i64 (R2 7)] 26)
  rw [e7]
  have HX7 := hide ((unhide HX6).trans (b7.mono (unhide HX6).size))
  have HK7 := hide (keep_below (unhide HK6) b7)
  have HR7 := hide (keep_below (unhide HR6) b7)
  have HF7 := hide (keep_below (unhide HF6) b7)
  have HS7 : Hid (W7.heap[W6.heap.size]? = some (.cells (rvA R2) 26 (0, 0))) := z7
  clear e7 b7 z7 HX6 HK6 HR6 HF6
  obtain ⟨S7, eS7⟩ : ∃ X, W6.heap.size = X := ⟨_, rfl⟩
  rw [eS7] at HS7 ⊢
  clear eS7
  obtain ⟨⟨q0', q1', q2', q3', q4'⟩, ql⟩ := block5 (unhide HK7)
  obtain ⟨⟨r0, r1, r2, r3, r4, r5, r6, r7⟩, -, rl⟩ := reg_all (unhide HR7)
  go_upto_region 10 with (go_at_call 11; refine (unhide HRc _ (unhide HX7)).mono ?_; rintro e w8 ⟨rfl, b8⟩; have HX8 := hide ((unhide HX7).trans (b8.mono (unhide HX7).size)); have HK8 := hide (keep_below (unhide HK7) b8); have HF8 := hide (keep_below (unhide HF7) b8); have HS8 := hide (keep_below (unhide HS7) b8); clear b8 q0' q1' q2' q3' q4' r0 r1 r2 r3 r4 r5 r6 r7 HX7 HK7 HR7 HF7 HS7 HRc)
  obtain ⟨W9, e9, b9, z9, y9⟩ := two_new w8 (.cells #[.int .i64 (R2 0), .int .i64 (R2 1), .int .i64 (R2 2), .int .i64 (R2 3), .int .i64 (R2 4), .int .i64 (R2 5), .int .i64 (R2 6), .int .i64 (R2 7)] 26) (.cells #[.int .i64 0, .int .i64 0] 31)
  rw [e9]
  have HX9 := hide ((unhide HX8).trans (b9.mono (unhide HX8).size))
  have HT9 : Hid (W9.heap[w8.heap.size]? = some (.cells (rvA R2) 26 (0, 0))) := z9
  obtain ⟨⟨q0', q1', q2', q3', q4'⟩, ql⟩ := block5 (keep_below (unhide HK8) b9)
  obtain ⟨g0, g1, -, -, gl⟩ := block2 (keep_below (unhide HF8) b9)
  obtain ⟨f0, f1, -, -, fl⟩ := block2 y9
  obtain ⟨⟨s0, s1, s2, s3, s4, s5, s6, s7⟩, -, sl⟩ := reg_all (keep_below (unhide HS8) b9)
  obtain ⟨⟨t0, t1, t2, t3, t4, t5, t6, t7⟩, -, tl⟩ := reg_all (unhide HT9)
  clear e9 b9 z9 y9 HX8 HK8 HF8 HS8 HT9
  have hreq := fun W => regs_same W R2
  go_wp2_with fail
  go_ret
  exact ⟨by first | rfl | simp [x4], unhide HX9⟩

set_option maxRecDepth 100000 in
set_option maxHeartbeats 2000000 in
theorem halves_2 (w : World) (v : Value) (p : Pg) (h : IsP w v p) (ht : Tabs w) (hn : p.code.length ≤ maxLen) (hm : p.pipes.length ≤ maxLen) (pc : Int) (r : Nat → Int) (m n : Int) (hv : ¬ (2000 < p.code.length ∨ 2000 < p.pipes.length)) (i0 : ¬ m < 0) (i1 : ¬ n < 0) (i2 : ¬ 2000 < m) (i3 : ¬ 2000 < n) (q1 q2 d1 d2 : Nat) (R1 R2 : Nat → Int) (e1 : runR p pc m r = ((q1 : Int), R1, (d1 : Int), (0, 0))) (e2 : runR p q1 n R1 = ((q2 : Int), R2, (d2 : Int), (0, 0))) (e3 : runR p pc (m + n) r = ((q2 : Int), R2, (d1 : Int) + (d2 : Int), (0, 0))) (b1 : (d1 : Int) ≤ m) (b2 : (d1 : Int) + d2 ≤ m + n) (b3 : p.code.length ≤ 1000) (_b5 : q2 ≤ p.code.length) (c1 : ¬ (d1 : Int) + d2 = m + n) (c2 : q2 = p.code.length) :
    Calls Tryd.prog 5 #[v, .int .i64 pc, rv r, .int .i64 m, .int .i64 n] w fun e w' => e = .returned (.bool true) ∧ Below w.heap.size w w' := by
  obtain ⟨a, c, b, d, rfl, hc, hp⟩ := h.form
  obtain ⟨W0, e0, hB, k0, k1⟩ := two_new w (.cells #[.slice a p.code.length c, .int .i64 p.cells, .slice b p.pipes.length d, .int .i64 p.locks, .int .i64 p.groups] 25) (.cells #[.int .i64 (r 0), .int .i64 (r 1), .int .i64 (r 2), .int .i64 (r 3), .int .i64 (r 4), .int .i64 (r 5), .int .i64 (r 6), .int .i64 (r 7)] 26)
  have HX := hide hB; have HE := hide e0; have HK := hide k0; have HR : Hid (W0.heap[w.heap.size + 1]? = some (.cells (rvA r) 26 (0, 0))) := k1
  have HV := hide fun W (hW : Below w.heap.size w W) => vast_any W _ p (h.below hW) hn hm
  have HBG := hide fun W (hW : Below w.heap.size w W) => begun_any W (ht.below hW)
  have HRUN := hide fun W (hW : Below w.heap.size w W) pc fuel r => run_any W _ p (h.below hW) (ht.below hW) hn hm pc fuel r
  rw [decide_eq_false hv] at HV
  have HRa := hide fun W (hW : Below w.heap.size w W) => unhide HRUN W hW pc m r
  have HRb := hide fun W (hW : Below w.heap.size w W) => unhide HRUN W hW q1 n R1
  have HRc := hide fun W (hW : Below w.heap.size w W) => unhide HRUN W hW pc (m + n) r
  rw [e1] at HRa
  rw [e2] at HRb
  rw [e3] at HRc
  unfold runV rv rvA at HRa HRb HRc
  have HC0 := hide (hc.opens kc rfl)
  have x1 : ¬ m < (d1 : Int) := by omega
  have x2 : ¬ m + n < (d1 : Int) + (d2 : Int) := by omega
  have x3 : (0 : Int) ≤ (q2 : Int) := by omega
  have x4 : ((d1 : Int) + (d2 : Int) == m + n) = false := by simpa using c1
  have x5 : ((q2 : Int) == (p.code.length : Int)) = true := by simp [c2]
  clear c1 c2 HC0
  clear hB e0 k0 k1 h hc hp ht hn hm HRUN e1 e2 e3
  unfold rv rvA
  go_enter Tryd.func5, Tryd.ntmps5
  go_upto_region 1 with fail
  rw [unhide HE]
  clear HE
  go_upto_region 3 with (go_at_call 7; refine (unhide HBG _ (unhide HX)).mono ?_; rintro e w1 ⟨rfl, b1⟩; have HX1 := hide ((unhide HX).trans (b1.mono (unhide HX).size)); have HK1 := hide (keep_below (unhide HK) b1); have HR1 := hide (keep_below (unhide HR) b1); clear b1 HX HK HR HBG)
  obtain ⟨⟨q0, q1, q2, q3, q4⟩, ql⟩ := block5 (unhide HK1)
  go_upto_region 5 with (go_at_call 8; refine (unhide HV _ (unhide HX1)).mono ?_; rintro e w2 ⟨rfl, b2⟩; have HX2 := hide ((unhide HX1).trans (b2.mono (unhide HX1).size)); have HK2 := hide (keep_below (unhide HK1) b2); have HR2 := hide (keep_below (unhide HR1) b2); clear b2 q0 q1 q2 q3 q4 HX1 HK1 HR1 HV)
  obtain ⟨⟨q0, q1, q2, q3, q4⟩, ql⟩ := block5 (unhide HK2)
  obtain ⟨⟨r0, r1, r2, r3, r4, r5, r6, r7⟩, -, rl⟩ := reg_all (unhide HR2)
  go_upto_region 6 with (go_at_call 11; refine (unhide HRa _ (unhide HX2)).mono ?_; rintro e w3 ⟨rfl, b3⟩; have HX3 := hide ((unhide HX2).trans (b3.mono (unhide HX2).size)); have HK3 := hide (keep_below (unhide HK2) b3); have HR3 := hide (keep_below (unhide HR2) b3); clear b3 q0 q1 q2 q3 q4 r0 r1 r2 r3 r4 r5 r6 r7 HX2 HK2 HR2 HRa)
  have HL3 := hide (size_of (unhide HR3))
  obtain ⟨W4, e4, b4, z4, y4⟩ := two_new w3 (.cells #[.int .i64 (R1 0), .int .i64 (R1 1), .int .i64 (R1 2), .int .i64 (R1 3), .int .i64 (R1 4), .int .i64 (R1 5), .int .i64 (R1 6), .int .i64 (R1 7)] 26) (.cells #[.int .i64 0, .int .i64 0] 31)
  rw [e4]
  have HX4 := hide ((unhide HX3).trans (b4.mono (unhide HX3).size))
  have HK4 := hide (keep_below (unhide HK3) b4)
  have HR4 := hide (keep_below (unhide HR3) b4)
  have HS4 : Hid (W4.heap[w3.heap.size]? = some (.cells (rvA R1) 26 (0, 0))) := z4
  have HF4 := hide y4
  clear e4 b4 z4 y4 HX3 HK3 HR3
  obtain ⟨g0, g1, gf0, gf1, gl⟩ := block2 (unhide HF4)
  go_upto_region 8 with fail
  obtain ⟨⟨q0', q1', q2', q3', q4'⟩, ql⟩ := block5 (unhide HK4)
  obtain ⟨⟨s0, s1, s2, s3, s4, s5, s6, s7⟩, -, sl⟩ := reg_all (unhide HS4)
  go_upto_region 9 with (go_at_call 11; refine (unhide HRb _ (unhide HX4)).mono ?_; rintro e w5 ⟨rfl, b5⟩; have HX5 := hide ((unhide HX4).trans (b5.mono (unhide HX4).size)); have HK5 := hide (keep_below (unhide HK4) b5); have HR5 := hide (keep_below (unhide HR4) b5); have HF5 := hide (keep_below (unhide HF4) b5); clear b5 q0' q1' q2' q3' q4' s0 s1 s2 s3 s4 s5 s6 s7 g0 g1 gf0 gf1 gl HX4 HK4 HR4 HS4 HF4 HRb; obtain ⟨g0, g1, gf0, gf1, gl⟩ := block2 (unhide HF5))
  have HX6 := hide (below_set2 (unhide HX5) (Nat.le_trans (Nat.le_of_lt (Nat.lt_trans (Nat.lt_succ_self _) (unhide HL3))) (Nat.le_succ w3.heap.size)) (.int .i64 0) (.int .i64 0))
  have HK6 := hide (keep_set (o := 1) (v := .int .i64 0) (keep_set (o := 0) (v := .int .i64 0) (unhide HK5) (show w.heap.size ≠ w3.heap.size + 1 by have := unhide HL3; omega)) (show w.heap.size ≠ w3.heap.size + 1 by have := unhide HL3; omega))
  have HR6 := hide (keep_set (o := 1) (v := .int .i64 0) (keep_set (o := 0) (v := .int .i64 0) (unhide HR5) (show w.heap.size + 1 ≠ w3.heap.size + 1 by have := unhide HL3; omega)) (show w.heap.size + 1 ≠ w3.heap.size + 1 by have := unhide HL3; omega))
  have HF6 := hide (set2b' (unhide HF5))
  obtain ⟨W6, e6⟩ : ∃ X, (w5.setCell ⟨w3.heap.size + 1, 0, none⟩ (.int .i64 0)).setCell ⟨w3.heap.size + 1, 1, none⟩ (.int .i64 0) = X := ⟨_, rfl⟩
  have hsz : w5.heap.size = W6.heap.size := by rw [← e6]; simp [World.setCell]
  rw [e6] at HX6 HK6 HR6 HF6 ⊢
  rw [hsz]
  clear e6 hsz g0 g1 gf0 gf1 gl HX5 HK5 HR5 HF5
  obtain ⟨W7, e7, b7, z7⟩ := one_new W6 (.cells #[.int .i64 (R2 0), .int .i64 (R2 1), .int .i64 (R2 2), .int .i64 (R2 3), .int .i64 (R2 4), .int .i64 (R2 5), .int .i64 (R2 6), .int .i64 (R2 7)] 26)
  rw [e7]
  have HX7 := hide ((unhide HX6).trans (b7.mono (unhide HX6).size))
  have HK7 := hide (keep_below (unhide HK6) b7)
  have HR7 := hide (keep_below (unhide HR6) b7)
  have HF7 := hide (keep_below (unhide HF6) b7)
  have HS7 : Hid (W7.heap[W6.heap.size]? = some (.cells (rvA R2) 26 (0, 0))) := z7
  clear e7 b7 z7 HX6 HK6 HR6 HF6
  obtain ⟨S7, eS7⟩ : ∃ X, W6.heap.size = X := ⟨_, rfl⟩
  rw [eS7] at HS7 ⊢
  clear eS7
  obtain ⟨⟨q0', q1', q2', q3', q4'⟩, ql⟩ := block5 (unhide HK7)
  obtain ⟨⟨r0, r1, r2, r3, r4, r5, r6, r7⟩, -, rl⟩ := reg_all (unhide HR7)
  go_upto_region 10 with (go_at_call 11; refine (unhide HRc _ (unhide HX7)).mono ?_; rintro e w8 ⟨rfl, b8⟩; have HX8 := hide ((unhide HX7).trans (b8.mono (unhide HX7).size)); have HK8 := hide (keep_below (unhide HK7) b8); have HF8 := hide (keep_below (unhide HF7) b8); have HS8 := hide (keep_below (unhide HS7) b8); clear b8 q0' q1' q2' q3' q4' r0 r1 r2 r3 r4 r5 r6 r7 HX7 HK7 HR7 HF7 HS7 HRc)
  obtain ⟨W9, e9, b9, z9, y9⟩ := two_new w8 (.cells #[.int .i64 (R2 0), .int .i64 (R2 1), .int .i64 (R2 2), .int .i64 (R2 3), .int .i64 (R2 4), .int .i64 (R2 5), .int .i64 (R2 6), .int .i64 (R2 7)] 26) (.cells #[.int .i64 0, .int .i64 0] 31)
  rw [e9]
  have HX9 := hide ((unhide HX8).trans (b9.mono (unhide HX8).size))
  have HT9 : Hid (W9.heap[w8.heap.size]? = some (.cells (rvA R2) 26 (0, 0))) := z9
  obtain ⟨⟨q0', q1', q2', q3', q4'⟩, ql⟩ := block5 (keep_below (unhide HK8) b9)
  obtain ⟨g0, g1, -, -, gl⟩ := block2 (keep_below (unhide HF8) b9)
  obtain ⟨f0, f1, -, -, fl⟩ := block2 y9
  obtain ⟨⟨s0, s1, s2, s3, s4, s5, s6, s7⟩, -, sl⟩ := reg_all (keep_below (unhide HS8) b9)
  obtain ⟨⟨t0, t1, t2, t3, t4, t5, t6, t7⟩, -, tl⟩ := reg_all (unhide HT9)
  clear e9 b9 z9 y9 HX8 HK8 HF8 HS8 HT9
  have hreq := fun W => regs_same W R2
  go_wp2_with fail
  go_ret
  exact ⟨by first | rfl | simp [x4, x5], unhide HX9⟩

set_option maxRecDepth 100000 in
set_option maxHeartbeats 2000000 in
theorem halves_3 (w : World) (v : Value) (p : Pg) (h : IsP w v p) (ht : Tabs w) (hn : p.code.length ≤ maxLen) (hm : p.pipes.length ≤ maxLen) (pc : Int) (r : Nat → Int) (m n : Int) (hv : ¬ (2000 < p.code.length ∨ 2000 < p.pipes.length)) (i0 : ¬ m < 0) (i1 : ¬ n < 0) (i2 : ¬ 2000 < m) (i3 : ¬ 2000 < n) (q1 q2 d1 d2 : Nat) (R1 R2 : Nat → Int) (e1 : runR p pc m r = ((q1 : Int), R1, (d1 : Int), (0, 0))) (e2 : runR p q1 n R1 = ((q2 : Int), R2, (d2 : Int), (0, 0))) (e3 : runR p pc (m + n) r = ((q2 : Int), R2, (d1 : Int) + (d2 : Int), (0, 0))) (b1 : (d1 : Int) ≤ m) (b2 : (d1 : Int) + d2 ≤ m + n) (b3 : p.code.length ≤ 1000) (_b5 : q2 ≤ p.code.length) (c1 : ¬ (d1 : Int) + d2 = m + n) (c2 : q2 < p.code.length) (c3 : 7 < (p.code.getD q2 (0, 0, 0)).1) :
    Calls Tryd.prog 5 #[v, .int .i64 pc, rv r, .int .i64 m, .int .i64 n] w fun e w' => e = .returned (.bool true) ∧ Below w.heap.size w w' := by
  obtain ⟨a, c, b, d, rfl, hc, hp⟩ := h.form
  obtain ⟨W0, e0, hB, k0, k1⟩ := two_new w (.cells #[.slice a p.code.length c, .int .i64 p.cells, .slice b p.pipes.length d, .int .i64 p.locks, .int .i64 p.groups] 25) (.cells #[.int .i64 (r 0), .int .i64 (r 1), .int .i64 (r 2), .int .i64 (r 3), .int .i64 (r 4), .int .i64 (r 5), .int .i64 (r 6), .int .i64 (r 7)] 26)
  have HX := hide hB; have HE := hide e0; have HK := hide k0; have HR : Hid (W0.heap[w.heap.size + 1]? = some (.cells (rvA r) 26 (0, 0))) := k1
  have HV := hide fun W (hW : Below w.heap.size w W) => vast_any W _ p (h.below hW) hn hm
  have HBG := hide fun W (hW : Below w.heap.size w W) => begun_any W (ht.below hW)
  have HRUN := hide fun W (hW : Below w.heap.size w W) pc fuel r => run_any W _ p (h.below hW) (ht.below hW) hn hm pc fuel r
  rw [decide_eq_false hv] at HV
  have HRa := hide fun W (hW : Below w.heap.size w W) => unhide HRUN W hW pc m r
  have HRb := hide fun W (hW : Below w.heap.size w W) => unhide HRUN W hW q1 n R1
  have HRc := hide fun W (hW : Below w.heap.size w W) => unhide HRUN W hW pc (m + n) r
  rw [e1] at HRa
  rw [e2] at HRb
  rw [e3] at HRc
  unfold runV rv rvA at HRa HRb HRc
  have HC0 := hide (hc.opens kc rfl)
  have x1 : ¬ m < (d1 : Int) := by omega
  have x2 : ¬ m + n < (d1 : Int) + (d2 : Int) := by omega
  have x3 : (0 : Int) ≤ (q2 : Int) := by omega
  have x4 : ((d1 : Int) + (d2 : Int) == m + n) = false := by simpa using c1
  have x5 : ((q2 : Int) == (p.code.length : Int)) = false := by simp; omega
  have x6 : (q2 : Int) < (p.code.length : Int) := by omega
  obtain ⟨b0, o0, rfl, hb0, l0⟩ := unhide HC0 (by omega)
  obtain ⟨⟨t, x, y⟩, hx⟩ : ∃ x, p.code.getD q2 (0, 0, 0) = x := ⟨_, rfl⟩
  rw [hx] at c3
  simp only at c3
  have HLI := hide fun W (hW : Below w.heap.size w W) => (l0.below hW hb0).instr c2 hx
  clear c1 c2 HC0 l0 hx
  clear hB e0 k0 k1 h hc hp ht hn hm HRUN e1 e2 e3
  unfold rv rvA
  go_enter Tryd.func5, Tryd.ntmps5
  go_upto_region 1 with fail
  rw [unhide HE]
  clear HE
  go_upto_region 3 with (go_at_call 7; refine (unhide HBG _ (unhide HX)).mono ?_; rintro e w1 ⟨rfl, b1⟩; have HX1 := hide ((unhide HX).trans (b1.mono (unhide HX).size)); have HK1 := hide (keep_below (unhide HK) b1); have HR1 := hide (keep_below (unhide HR) b1); clear b1 HX HK HR HBG)
  obtain ⟨⟨q0, q1, q2, q3, q4⟩, ql⟩ := block5 (unhide HK1)
  go_upto_region 5 with (go_at_call 8; refine (unhide HV _ (unhide HX1)).mono ?_; rintro e w2 ⟨rfl, b2⟩; have HX2 := hide ((unhide HX1).trans (b2.mono (unhide HX1).size)); have HK2 := hide (keep_below (unhide HK1) b2); have HR2 := hide (keep_below (unhide HR1) b2); clear b2 q0 q1 q2 q3 q4 HX1 HK1 HR1 HV)
  obtain ⟨⟨q0, q1, q2, q3, q4⟩, ql⟩ := block5 (unhide HK2)
  obtain ⟨⟨r0, r1, r2, r3, r4, r5, r6, r7⟩, -, rl⟩ := reg_all (unhide HR2)
  go_upto_region 6 with (go_at_call 11; refine (unhide HRa _ (unhide HX2)).mono ?_; rintro e w3 ⟨rfl, b3⟩; have HX3 := hide ((unhide HX2).trans (b3.mono (unhide HX2).size)); have HK3 := hide (keep_below (unhide HK2) b3); have HR3 := hide (keep_below (unhide HR2) b3); clear b3 q0 q1 q2 q3 q4 r0 r1 r2 r3 r4 r5 r6 r7 HX2 HK2 HR2 HRa)
  have HL3 := hide (size_of (unhide HR3))
  obtain ⟨W4, e4, b4, z4, y4⟩ := two_new w3 (.cells #[.int .i64 (R1 0), .int .i64 (R1 1), .int .i64 (R1 2), .int .i64 (R1 3), .int .i64 (R1 4), .int .i64 (R1 5), .int .i64 (R1 6), .int .i64 (R1 7)] 26) (.cells #[.int .i64 0, .int .i64 0] 31)
  rw [e4]
  have HX4 := hide ((unhide HX3).trans (b4.mono (unhide HX3).size))
  have HK4 := hide (keep_below (unhide HK3) b4)
  have HR4 := hide (keep_below (unhide HR3) b4)
  have HS4 : Hid (W4.heap[w3.heap.size]? = some (.cells (rvA R1) 26 (0, 0))) := z4
  have HF4 := hide y4
  clear e4 b4 z4 y4 HX3 HK3 HR3
  obtain ⟨g0, g1, gf0, gf1, gl⟩ := block2 (unhide HF4)
  go_upto_region 8 with fail
  obtain ⟨⟨q0', q1', q2', q3', q4'⟩, ql⟩ := block5 (unhide HK4)
  obtain ⟨⟨s0, s1, s2, s3, s4, s5, s6, s7⟩, -, sl⟩ := reg_all (unhide HS4)
  go_upto_region 9 with (go_at_call 11; refine (unhide HRb _ (unhide HX4)).mono ?_; rintro e w5 ⟨rfl, b5⟩; have HX5 := hide ((unhide HX4).trans (b5.mono (unhide HX4).size)); have HK5 := hide (keep_below (unhide HK4) b5); have HR5 := hide (keep_below (unhide HR4) b5); have HF5 := hide (keep_below (unhide HF4) b5); clear b5 q0' q1' q2' q3' q4' s0 s1 s2 s3 s4 s5 s6 s7 g0 g1 gf0 gf1 gl HX4 HK4 HR4 HS4 HF4 HRb; obtain ⟨g0, g1, gf0, gf1, gl⟩ := block2 (unhide HF5))
  have HX6 := hide (below_set2 (unhide HX5) (Nat.le_trans (Nat.le_of_lt (Nat.lt_trans (Nat.lt_succ_self _) (unhide HL3))) (Nat.le_succ w3.heap.size)) (.int .i64 0) (.int .i64 0))
  have HK6 := hide (keep_set (o := 1) (v := .int .i64 0) (keep_set (o := 0) (v := .int .i64 0) (unhide HK5) (show w.heap.size ≠ w3.heap.size + 1 by have := unhide HL3; omega)) (show w.heap.size ≠ w3.heap.size + 1 by have := unhide HL3; omega))
  have HR6 := hide (keep_set (o := 1) (v := .int .i64 0) (keep_set (o := 0) (v := .int .i64 0) (unhide HR5) (show w.heap.size + 1 ≠ w3.heap.size + 1 by have := unhide HL3; omega)) (show w.heap.size + 1 ≠ w3.heap.size + 1 by have := unhide HL3; omega))
  have HF6 := hide (set2b' (unhide HF5))
  obtain ⟨W6, e6⟩ : ∃ X, (w5.setCell ⟨w3.heap.size + 1, 0, none⟩ (.int .i64 0)).setCell ⟨w3.heap.size + 1, 1, none⟩ (.int .i64 0) = X := ⟨_, rfl⟩
  have hsz : w5.heap.size = W6.heap.size := by rw [← e6]; simp [World.setCell]
  rw [e6] at HX6 HK6 HR6 HF6 ⊢
  rw [hsz]
  clear e6 hsz g0 g1 gf0 gf1 gl HX5 HK5 HR5 HF5
  obtain ⟨W7, e7, b7, z7⟩ := one_new W6 (.cells #[.int .i64 (R2 0), .int .i64 (R2 1), .int .i64 (R2 2), .int .i64 (R2 3), .int .i64 (R2 4), .int .i64 (R2 5), .int .i64 (R2 6), .int .i64 (R2 7)] 26)
  rw [e7]
  have HX7 := hide ((unhide HX6).trans (b7.mono (unhide HX6).size))
  have HK7 := hide (keep_below (unhide HK6) b7)
  have HR7 := hide (keep_below (unhide HR6) b7)
  have HF7 := hide (keep_below (unhide HF6) b7)
  have HS7 : Hid (W7.heap[W6.heap.size]? = some (.cells (rvA R2) 26 (0, 0))) := z7
  clear e7 b7 z7 HX6 HK6 HR6 HF6
  obtain ⟨S7, eS7⟩ : ∃ X, W6.heap.size = X := ⟨_, rfl⟩
  rw [eS7] at HS7 ⊢
  clear eS7
  obtain ⟨⟨q0', q1', q2', q3', q4'⟩, ql⟩ := block5 (unhide HK7)
  obtain ⟨⟨r0, r1, r2, r3, r4, r5, r6, r7⟩, -, rl⟩ := reg_all (unhide HR7)
  go_upto_region 10 with (go_at_call 11; refine (unhide HRc _ (unhide HX7)).mono ?_; rintro e w8 ⟨rfl, b8⟩; have HX8 := hide ((unhide HX7).trans (b8.mono (unhide HX7).size)); have HK8 := hide (keep_below (unhide HK7) b8); have HF8 := hide (keep_below (unhide HF7) b8); have HS8 := hide (keep_below (unhide HS7) b8); clear b8 q0' q1' q2' q3' q4' r0 r1 r2 r3 r4 r5 r6 r7 HX7 HK7 HR7 HF7 HS7 HRc)
  obtain ⟨W9, e9, b9, z9, y9⟩ := two_new w8 (.cells #[.int .i64 (R2 0), .int .i64 (R2 1), .int .i64 (R2 2), .int .i64 (R2 3), .int .i64 (R2 4), .int .i64 (R2 5), .int .i64 (R2 6), .int .i64 (R2 7)] 26) (.cells #[.int .i64 0, .int .i64 0] 31)
  rw [e9]
  have HX9 := hide ((unhide HX8).trans (b9.mono (unhide HX8).size))
  have HT9 : Hid (W9.heap[w8.heap.size]? = some (.cells (rvA R2) 26 (0, 0))) := z9
  obtain ⟨⟨q0', q1', q2', q3', q4'⟩, ql⟩ := block5 (keep_below (unhide HK8) b9)
  obtain ⟨g0, g1, -, -, gl⟩ := block2 (keep_below (unhide HF8) b9)
  obtain ⟨f0, f1, -, -, fl⟩ := block2 y9
  obtain ⟨⟨s0, s1, s2, s3, s4, s5, s6, s7⟩, -, sl⟩ := reg_all (keep_below (unhide HS8) b9)
  obtain ⟨⟨t0, t1, t2, t3, t4, t5, t6, t7⟩, -, tl⟩ := reg_all (unhide HT9)
  clear e9 b9 z9 y9 HX8 HK8 HF8 HS8 HT9
  have hreq := fun W => regs_same W R2
  obtain ⟨c0, -, -⟩ := unhide HLI _ (unhide HX9)
  go_wp2_with fail
  go_ret
  exact ⟨by first | rfl | simp [x4, x5, x6, c3], unhide HX9⟩

theorem halves_walk (w : World) (v : Value) (p : Pg) (h : IsP w v p) (ht : Tabs w) (hn : p.code.length ≤ maxLen) (hm : p.pipes.length ≤ maxLen) (pc : Int) (r : Nat → Int) (m n : Int) :
    Calls Tryd.prog 5 #[v, .int .i64 pc, rv r, .int .i64 m, .int .i64 n] w fun e w' => e = .returned (.bool true) ∧ Below w.heap.size w w' := by
  by_cases hv : 2000 < p.code.length ∨ 2000 < p.pipes.length
  · exact halves_vast w v p h ht hn hm pc r m n hv
  by_cases i0 : m < 0
  · exact halves_e1 w v p h ht hn hm pc r m n hv i0
  by_cases i1 : n < 0
  · exact halves_e2 w v p h ht hn hm pc r m n hv i0 i1
  by_cases i2 : 2000 < m
  · exact halves_e3 w v p h ht hn hm pc r m n hv i0 i1 i2
  by_cases i3 : 2000 < n
  · exact halves_e4 w v p h ht hn hm pc r m n hv i0 i1 i2 i3
  by_cases h0 : (runFault p pc m).1 = 0
  · obtain ⟨q1, q2, d1, d2, R1, R2, e1, e2, e3, b1, b2, b3, b4, hc⟩ := halves_math (r := r) (n := n) h0 (by omega) (by omega) (by omega) (by omega)
    by_cases c1 : (d1 : Int) + d2 = m + n
    · exact halves_1 w v p h ht hn hm pc r m n hv i0 i1 i2 i3 q1 q2 d1 d2 R1 R2 e1 e2 e3 b1 b2 b3 b4 c1
    rcases hc with hc | hc | ⟨hc, hd⟩
    · exact absurd hc c1
    · exact halves_2 w v p h ht hn hm pc r m n hv i0 i1 i2 i3 q1 q2 d1 d2 R1 R2 e1 e2 e3 b1 b2 b3 b4 c1 hc
    · exact halves_3 w v p h ht hn hm pc r m n hv i0 i1 i2 i3 q1 q2 d1 d2 R1 R2 e1 e2 e3 b1 b2 b3 b4 c1 hc hd
  · exact halves_f w v p h ht hn hm pc r m n hv i0 i1 i2 i3 h0

end Go.Proofs.YtgeinjldjpaleaaDoor
