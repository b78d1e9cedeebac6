/-
  taskmillref.Did.
-/
import Derived.Test.YtgeinjldjpaleaaDoorI
namespace Go.Proofs.YtgeinjldjpaleaaDoor
open Go.RowKit

set_option maxRecDepth 100000 in
set_option maxHeartbeats 1000000 in
theorem did6 (w : World) (x y pc : Int) (r : Nat → Int)  :
    Calls Tryd.prog 15 #[.agg #[.int .i64 6, .int .i64 x, .int .i64 y], .int .i64 pc, rv r] w fun e w' => e = .returned (.tuple #[.int .i64 x, rv r]) ∧ Below w.heap.size w w' := by
  obtain ⟨W0, e0, hB, k0, k1, k2⟩ := three_new w (.cells #[.int .i64 6, .int .i64 x, .int .i64 y] 38) (.cells #[.int .i64 (r 0), .int .i64 (r 1), .int .i64 (r 2), .int .i64 (r 3), .int .i64 (r 4), .int .i64 (r 5), .int .i64 (r 6), .int .i64 (r 7)] 26) (.cells #[.int .i64 0, .int .i64 0, .int .i64 0, .int .i64 0, .int .i64 0, .int .i64 0, .int .i64 0, .int .i64 0] 26)
  have HX := hide hB; have HE := hide e0; have HK := hide k0; have HR : Hid (W0.heap[w.heap.size + 1]? = some (.cells (rvA r) 26 (0, 0))) := k1; have HZ : Hid (W0.heap[w.heap.size + 1 + 1]? = some (.cells (rvA fun _ => 0) 26 (0, 0))) := k2
  clear hB e0 k0 k1 k2
  unfold rv rvA
  go_enter Tryd.func15, Tryd.ntmps15
  go_upto_region 1 with fail
  rw [unhide HE]
  clear HE
  obtain ⟨⟨k0, k1, k2⟩, -, kl⟩ := block3 (unhide HK)
  obtain ⟨⟨q0, q1, q2, q3, q4, q5, q6, q7⟩, -, ql⟩ := reg_all (unhide HR)
  obtain ⟨⟨z0, z1, z2, z3, z4, z5, z6, z7⟩, ⟨f0, f1, f2, f3, f4, f5, f6, f7⟩, zl⟩ := reg_all (unhide HZ)
  go_upto_region 15 with fail
  go_region
  go_wp2_with fail
  clear z0 z1 z2 z3 z4 z5 z6 z7 f0 f1 f2 f3 f4 f5 f6 f7 q0 q1 q2 q3 q4 q5 q6 q7
  obtain ⟨W2, e2, b2, y2⟩ := put8 (r) (unhide HX) (unhide HZ) (by omega)
  rw [e2]
  clear e2
  obtain ⟨⟨z0, z1, z2, z3, z4, z5, z6, z7⟩, -, -⟩ := reg_all y2
  exact bodyPost_ret (v := .tuple #[.int .i64 x, rv (r)]) (by simp [results, Tryd.results15, go_sem, rv, rvA, z0, z1, z2, z3, z4, z5, z6, z7]) rfl ⟨rfl, b2.drew⟩

set_option maxRecDepth 100000 in
set_option maxHeartbeats 1000000 in
theorem did1 (w : World) (A : Nat) (y : Int) (pc : Int) (r : Nat → Int) (hp0 : 0 ≤ pc) (hp1 : pc ≤ 2000) (hA : A < 8) :
    Calls Tryd.prog 15 #[.agg #[.int .i64 1, .int .i64 A, .int .i64 y], .int .i64 pc, rv r] w fun e w' => e = .returned (.tuple #[.int .i64 (pc + 1), rv (upd r A y)]) ∧ Below w.heap.size w w' := by
  obtain ⟨r', er⟩ : ∃ r', upd r A y = r' := ⟨_, rfl⟩
  rw [er]
  have HER := hide er
  clear er
  obtain ⟨W0, e0, hB, k0, k1, k2⟩ := three_new w (.cells #[.int .i64 1, .int .i64 A, .int .i64 y] 38) (.cells #[.int .i64 (r 0), .int .i64 (r 1), .int .i64 (r 2), .int .i64 (r 3), .int .i64 (r 4), .int .i64 (r 5), .int .i64 (r 6), .int .i64 (r 7)] 26) (.cells #[.int .i64 0, .int .i64 0, .int .i64 0, .int .i64 0, .int .i64 0, .int .i64 0, .int .i64 0, .int .i64 0] 26)
  have HX := hide hB; have HE := hide e0; have HK := hide k0; have HR : Hid (W0.heap[w.heap.size + 1]? = some (.cells (rvA r) 26 (0, 0))) := k1; have HZ : Hid (W0.heap[w.heap.size + 1 + 1]? = some (.cells (rvA fun _ => 0) 26 (0, 0))) := k2
  clear hB e0 k0 k1 k2
  unfold rv rvA
  go_enter Tryd.func15, Tryd.ntmps15
  go_upto_region 1 with fail
  rw [unhide HE]
  clear HE
  obtain ⟨⟨k0, k1, k2⟩, -, kl⟩ := block3 (unhide HK)
  obtain ⟨⟨q0, q1, q2, q3, q4, q5, q6, q7⟩, -, ql⟩ := reg_all (unhide HR)
  obtain ⟨⟨z0, z1, z2, z3, z4, z5, z6, z7⟩, ⟨f0, f1, f2, f3, f4, f5, f6, f7⟩, zl⟩ := reg_all (unhide HZ)
  obtain ⟨a0, a1⟩ := reg_cell (unhide HR) hA
  go_upto_region 3 with fail
  go_upto_region 19 with fail
  obtain ⟨W1, e1⟩ : ∃ X, W0.setCell ⟨w.heap.size + 1, A, none⟩ (.int .i64 y) = X := ⟨_, rfl⟩
  have HX1 := hide (below_set (i := A) (unhide HX) (Nat.le_succ w.heap.size) (.int .i64 y))
  have HR1 := hide (reg_set (v := y) (unhide HR) hA)
  have HZ1 := hide (keep_set (g := w.heap.size + 1) (o := A) (v := .int .i64 y) (unhide HZ) (by omega))
  rw [unhide HER] at HR1
  rw [e1] at HX1 HR1 HZ1 ⊢
  clear e1 q0 q1 q2 q3 q4 q5 q6 q7 z0 z1 z2 z3 z4 z5 z6 z7 f0 f1 f2 f3 f4 f5 f6 f7
  obtain ⟨⟨q0, q1, q2, q3, q4, q5, q6, q7⟩, -, ql⟩ := reg_all (unhide HR1)
  obtain ⟨⟨z0, z1, z2, z3, z4, z5, z6, z7⟩, ⟨f0, f1, f2, f3, f4, f5, f6, f7⟩, zl⟩ := reg_all (unhide HZ1)
  go_region
  go_wp2_with fail
  clear z0 z1 z2 z3 z4 z5 z6 z7 f0 f1 f2 f3 f4 f5 f6 f7 q0 q1 q2 q3 q4 q5 q6 q7
  obtain ⟨W2, e2, b2, y2⟩ := put8 (r') (unhide HX1) (unhide HZ1) (by omega)
  rw [e2]
  clear e2
  obtain ⟨⟨z0, z1, z2, z3, z4, z5, z6, z7⟩, -, -⟩ := reg_all y2
  exact bodyPost_ret (v := .tuple #[.int .i64 (pc + 1), rv (r')]) (by simp [results, Tryd.results15, go_sem, rv, rvA, z0, z1, z2, z3, z4, z5, z6, z7]) rfl ⟨rfl, b2.drew⟩

set_option maxRecDepth 100000 in
set_option maxHeartbeats 1000000 in
theorem did2 (w : World) (A B : Nat) (pc : Int) (r : Nat → Int) (hp0 : 0 ≤ pc) (hp1 : pc ≤ 2000) (hA : A < 8) (hB : B < 8) :
    Calls Tryd.prog 15 #[.agg #[.int .i64 2, .int .i64 A, .int .i64 B], .int .i64 pc, rv r] w fun e w' => e = .returned (.tuple #[.int .i64 (pc + 1), rv (upd r A (r B))]) ∧ Below w.heap.size w w' := by
  obtain ⟨r', er⟩ : ∃ r', upd r A (r B) = r' := ⟨_, rfl⟩
  rw [er]
  have HER := hide er
  clear er
  obtain ⟨W0, e0, hB, k0, k1, k2⟩ := three_new w (.cells #[.int .i64 2, .int .i64 A, .int .i64 B] 38) (.cells #[.int .i64 (r 0), .int .i64 (r 1), .int .i64 (r 2), .int .i64 (r 3), .int .i64 (r 4), .int .i64 (r 5), .int .i64 (r 6), .int .i64 (r 7)] 26) (.cells #[.int .i64 0, .int .i64 0, .int .i64 0, .int .i64 0, .int .i64 0, .int .i64 0, .int .i64 0, .int .i64 0] 26)
  have HX := hide hB; have HE := hide e0; have HK := hide k0; have HR : Hid (W0.heap[w.heap.size + 1]? = some (.cells (rvA r) 26 (0, 0))) := k1; have HZ : Hid (W0.heap[w.heap.size + 1 + 1]? = some (.cells (rvA fun _ => 0) 26 (0, 0))) := k2
  clear hB e0 k0 k1 k2
  unfold rv rvA
  go_enter Tryd.func15, Tryd.ntmps15
  go_upto_region 1 with fail
  rw [unhide HE]
  clear HE
  obtain ⟨⟨k0, k1, k2⟩, -, kl⟩ := block3 (unhide HK)
  obtain ⟨⟨q0, q1, q2, q3, q4, q5, q6, q7⟩, -, ql⟩ := reg_all (unhide HR)
  obtain ⟨⟨z0, z1, z2, z3, z4, z5, z6, z7⟩, ⟨f0, f1, f2, f3, f4, f5, f6, f7⟩, zl⟩ := reg_all (unhide HZ)
  obtain ⟨a0, a1⟩ := reg_cell (unhide HR) hA
  obtain ⟨b0, b1⟩ := reg_cell (unhide HR) hB
  go_upto_region 5 with fail
  go_region
  go_upto_region 19 with fail
  obtain ⟨W1, e1⟩ : ∃ X, W0.setCell ⟨w.heap.size + 1, A, none⟩ (.int .i64 (r B)) = X := ⟨_, rfl⟩
  have HX1 := hide (below_set (i := A) (unhide HX) (Nat.le_succ w.heap.size) (.int .i64 (r B)))
  have HR1 := hide (reg_set (v := (r B)) (unhide HR) hA)
  have HZ1 := hide (keep_set (g := w.heap.size + 1) (o := A) (v := .int .i64 (r B)) (unhide HZ) (by omega))
  rw [unhide HER] at HR1
  rw [e1] at HX1 HR1 HZ1 ⊢
  clear e1 q0 q1 q2 q3 q4 q5 q6 q7 z0 z1 z2 z3 z4 z5 z6 z7 f0 f1 f2 f3 f4 f5 f6 f7
  obtain ⟨⟨q0, q1, q2, q3, q4, q5, q6, q7⟩, -, ql⟩ := reg_all (unhide HR1)
  obtain ⟨⟨z0, z1, z2, z3, z4, z5, z6, z7⟩, ⟨f0, f1, f2, f3, f4, f5, f6, f7⟩, zl⟩ := reg_all (unhide HZ1)
  go_region
  go_wp2_with fail
  clear z0 z1 z2 z3 z4 z5 z6 z7 f0 f1 f2 f3 f4 f5 f6 f7 q0 q1 q2 q3 q4 q5 q6 q7
  obtain ⟨W2, e2, b2, y2⟩ := put8 (r') (unhide HX1) (unhide HZ1) (by omega)
  rw [e2]
  clear e2
  obtain ⟨⟨z0, z1, z2, z3, z4, z5, z6, z7⟩, -, -⟩ := reg_all y2
  exact bodyPost_ret (v := .tuple #[.int .i64 (pc + 1), rv (r')]) (by simp [results, Tryd.results15, go_sem, rv, rvA, z0, z1, z2, z3, z4, z5, z6, z7]) rfl ⟨rfl, b2.drew.drew⟩

set_option maxRecDepth 100000 in
set_option maxHeartbeats 1000000 in
theorem did3 (w : World) (A B : Nat) (pc : Int) (r : Nat → Int) (hp0 : 0 ≤ pc) (hp1 : pc ≤ 2000) (hA : A < 8) (hB : B < 8) :
    Calls Tryd.prog 15 #[.agg #[.int .i64 3, .int .i64 A, .int .i64 B], .int .i64 pc, rv r] w fun e w' => e = .returned (.tuple #[.int .i64 (pc + 1), rv (upd r A (wrap64 (r A + r B)))]) ∧ Below w.heap.size w w' := by
  obtain ⟨r', er⟩ : ∃ r', upd r A (wrap64 (r A + r B)) = r' := ⟨_, rfl⟩
  rw [er]
  have HER := hide er
  clear er
  obtain ⟨W0, e0, hB, k0, k1, k2⟩ := three_new w (.cells #[.int .i64 3, .int .i64 A, .int .i64 B] 38) (.cells #[.int .i64 (r 0), .int .i64 (r 1), .int .i64 (r 2), .int .i64 (r 3), .int .i64 (r 4), .int .i64 (r 5), .int .i64 (r 6), .int .i64 (r 7)] 26) (.cells #[.int .i64 0, .int .i64 0, .int .i64 0, .int .i64 0, .int .i64 0, .int .i64 0, .int .i64 0, .int .i64 0] 26)
  have HX := hide hB; have HE := hide e0; have HK := hide k0; have HR : Hid (W0.heap[w.heap.size + 1]? = some (.cells (rvA r) 26 (0, 0))) := k1; have HZ : Hid (W0.heap[w.heap.size + 1 + 1]? = some (.cells (rvA fun _ => 0) 26 (0, 0))) := k2
  clear hB e0 k0 k1 k2
  unfold rv rvA
  go_enter Tryd.func15, Tryd.ntmps15
  go_upto_region 1 with fail
  rw [unhide HE]
  clear HE
  obtain ⟨⟨k0, k1, k2⟩, -, kl⟩ := block3 (unhide HK)
  obtain ⟨⟨q0, q1, q2, q3, q4, q5, q6, q7⟩, -, ql⟩ := reg_all (unhide HR)
  obtain ⟨⟨z0, z1, z2, z3, z4, z5, z6, z7⟩, ⟨f0, f1, f2, f3, f4, f5, f6, f7⟩, zl⟩ := reg_all (unhide HZ)
  obtain ⟨a0, a1⟩ := reg_cell (unhide HR) hA
  obtain ⟨b0, b1⟩ := reg_cell (unhide HR) hB
  go_upto_region 7 with fail
  go_region
  go_upto_region 19 with fail
  obtain ⟨W1, e1⟩ : ∃ X, W0.setCell ⟨w.heap.size + 1, A, none⟩ (.int .i64 (wrap64 (r A + r B))) = X := ⟨_, rfl⟩
  have HX1 := hide (below_set (i := A) (unhide HX) (Nat.le_succ w.heap.size) (.int .i64 (wrap64 (r A + r B))))
  have HR1 := hide (reg_set (v := (wrap64 (r A + r B))) (unhide HR) hA)
  have HZ1 := hide (keep_set (g := w.heap.size + 1) (o := A) (v := .int .i64 (wrap64 (r A + r B))) (unhide HZ) (by omega))
  rw [unhide HER] at HR1
  rw [e1] at HX1 HR1 HZ1 ⊢
  clear e1 q0 q1 q2 q3 q4 q5 q6 q7 z0 z1 z2 z3 z4 z5 z6 z7 f0 f1 f2 f3 f4 f5 f6 f7
  obtain ⟨⟨q0, q1, q2, q3, q4, q5, q6, q7⟩, -, ql⟩ := reg_all (unhide HR1)
  obtain ⟨⟨z0, z1, z2, z3, z4, z5, z6, z7⟩, ⟨f0, f1, f2, f3, f4, f5, f6, f7⟩, zl⟩ := reg_all (unhide HZ1)
  go_region
  go_wp2_with fail
  clear z0 z1 z2 z3 z4 z5 z6 z7 f0 f1 f2 f3 f4 f5 f6 f7 q0 q1 q2 q3 q4 q5 q6 q7
  obtain ⟨W2, e2, b2, y2⟩ := put8 (r') (unhide HX1) (unhide HZ1) (by omega)
  rw [e2]
  clear e2
  obtain ⟨⟨z0, z1, z2, z3, z4, z5, z6, z7⟩, -, -⟩ := reg_all y2
  exact bodyPost_ret (v := .tuple #[.int .i64 (pc + 1), rv (r')]) (by simp [results, Tryd.results15, go_sem, rv, rvA, z0, z1, z2, z3, z4, z5, z6, z7]) rfl ⟨rfl, b2.drew.drew⟩

set_option maxRecDepth 100000 in
set_option maxHeartbeats 1000000 in
theorem did4 (w : World) (A B : Nat) (pc : Int) (r : Nat → Int) (hp0 : 0 ≤ pc) (hp1 : pc ≤ 2000) (hA : A < 8) (hB : B < 8) :
    Calls Tryd.prog 15 #[.agg #[.int .i64 4, .int .i64 A, .int .i64 B], .int .i64 pc, rv r] w fun e w' => e = .returned (.tuple #[.int .i64 (pc + 1), rv (upd r A (wrap64 (r A - r B)))]) ∧ Below w.heap.size w w' := by
  obtain ⟨r', er⟩ : ∃ r', upd r A (wrap64 (r A - r B)) = r' := ⟨_, rfl⟩
  rw [er]
  have HER := hide er
  clear er
  obtain ⟨W0, e0, hB, k0, k1, k2⟩ := three_new w (.cells #[.int .i64 4, .int .i64 A, .int .i64 B] 38) (.cells #[.int .i64 (r 0), .int .i64 (r 1), .int .i64 (r 2), .int .i64 (r 3), .int .i64 (r 4), .int .i64 (r 5), .int .i64 (r 6), .int .i64 (r 7)] 26) (.cells #[.int .i64 0, .int .i64 0, .int .i64 0, .int .i64 0, .int .i64 0, .int .i64 0, .int .i64 0, .int .i64 0] 26)
  have HX := hide hB; have HE := hide e0; have HK := hide k0; have HR : Hid (W0.heap[w.heap.size + 1]? = some (.cells (rvA r) 26 (0, 0))) := k1; have HZ : Hid (W0.heap[w.heap.size + 1 + 1]? = some (.cells (rvA fun _ => 0) 26 (0, 0))) := k2
  clear hB e0 k0 k1 k2
  unfold rv rvA
  go_enter Tryd.func15, Tryd.ntmps15
  go_upto_region 1 with fail
  rw [unhide HE]
  clear HE
  obtain ⟨⟨k0, k1, k2⟩, -, kl⟩ := block3 (unhide HK)
  obtain ⟨⟨q0, q1, q2, q3, q4, q5, q6, q7⟩, -, ql⟩ := reg_all (unhide HR)
  obtain ⟨⟨z0, z1, z2, z3, z4, z5, z6, z7⟩, ⟨f0, f1, f2, f3, f4, f5, f6, f7⟩, zl⟩ := reg_all (unhide HZ)
  obtain ⟨a0, a1⟩ := reg_cell (unhide HR) hA
  obtain ⟨b0, b1⟩ := reg_cell (unhide HR) hB
  go_upto_region 9 with fail
  go_region
  go_upto_region 19 with fail
  obtain ⟨W1, e1⟩ : ∃ X, W0.setCell ⟨w.heap.size + 1, A, none⟩ (.int .i64 (wrap64 (r A - r B))) = X := ⟨_, rfl⟩
  have HX1 := hide (below_set (i := A) (unhide HX) (Nat.le_succ w.heap.size) (.int .i64 (wrap64 (r A - r B))))
  have HR1 := hide (reg_set (v := (wrap64 (r A - r B))) (unhide HR) hA)
  have HZ1 := hide (keep_set (g := w.heap.size + 1) (o := A) (v := .int .i64 (wrap64 (r A - r B))) (unhide HZ) (by omega))
  rw [unhide HER] at HR1
  rw [e1] at HX1 HR1 HZ1 ⊢
  clear e1 q0 q1 q2 q3 q4 q5 q6 q7 z0 z1 z2 z3 z4 z5 z6 z7 f0 f1 f2 f3 f4 f5 f6 f7
  obtain ⟨⟨q0, q1, q2, q3, q4, q5, q6, q7⟩, -, ql⟩ := reg_all (unhide HR1)
  obtain ⟨⟨z0, z1, z2, z3, z4, z5, z6, z7⟩, ⟨f0, f1, f2, f3, f4, f5, f6, f7⟩, zl⟩ := reg_all (unhide HZ1)
  go_region
  go_wp2_with fail
  clear z0 z1 z2 z3 z4 z5 z6 z7 f0 f1 f2 f3 f4 f5 f6 f7 q0 q1 q2 q3 q4 q5 q6 q7
  obtain ⟨W2, e2, b2, y2⟩ := put8 (r') (unhide HX1) (unhide HZ1) (by omega)
  rw [e2]
  clear e2
  obtain ⟨⟨z0, z1, z2, z3, z4, z5, z6, z7⟩, -, -⟩ := reg_all y2
  exact bodyPost_ret (v := .tuple #[.int .i64 (pc + 1), rv (r')]) (by simp [results, Tryd.results15, go_sem, rv, rvA, z0, z1, z2, z3, z4, z5, z6, z7]) rfl ⟨rfl, b2.drew.drew⟩

set_option maxRecDepth 100000 in
set_option maxHeartbeats 1000000 in
theorem did5a (w : World) (A B : Nat) (pc : Int) (r : Nat → Int) (hp0 : 0 ≤ pc) (hp1 : pc ≤ 2000) (hA : A < 8) (hB : B < 8) (hl : r A < r B) :
    Calls Tryd.prog 15 #[.agg #[.int .i64 5, .int .i64 A, .int .i64 B], .int .i64 pc, rv r] w fun e w' => e = .returned (.tuple #[.int .i64 (pc + 1), rv (upd r A 1)]) ∧ Below w.heap.size w w' := by
  obtain ⟨r', er⟩ : ∃ r', upd r A 1 = r' := ⟨_, rfl⟩
  rw [er]
  have HER := hide er
  clear er
  obtain ⟨W0, e0, hB, k0, k1, k2⟩ := three_new w (.cells #[.int .i64 5, .int .i64 A, .int .i64 B] 38) (.cells #[.int .i64 (r 0), .int .i64 (r 1), .int .i64 (r 2), .int .i64 (r 3), .int .i64 (r 4), .int .i64 (r 5), .int .i64 (r 6), .int .i64 (r 7)] 26) (.cells #[.int .i64 0, .int .i64 0, .int .i64 0, .int .i64 0, .int .i64 0, .int .i64 0, .int .i64 0, .int .i64 0] 26)
  have HX := hide hB; have HE := hide e0; have HK := hide k0; have HR : Hid (W0.heap[w.heap.size + 1]? = some (.cells (rvA r) 26 (0, 0))) := k1; have HZ : Hid (W0.heap[w.heap.size + 1 + 1]? = some (.cells (rvA fun _ => 0) 26 (0, 0))) := k2
  clear hB e0 k0 k1 k2
  unfold rv rvA
  go_enter Tryd.func15, Tryd.ntmps15
  go_upto_region 1 with fail
  rw [unhide HE]
  clear HE
  obtain ⟨⟨k0, k1, k2⟩, -, kl⟩ := block3 (unhide HK)
  obtain ⟨⟨q0, q1, q2, q3, q4, q5, q6, q7⟩, -, ql⟩ := reg_all (unhide HR)
  obtain ⟨⟨z0, z1, z2, z3, z4, z5, z6, z7⟩, ⟨f0, f1, f2, f3, f4, f5, f6, f7⟩, zl⟩ := reg_all (unhide HZ)
  obtain ⟨a0, a1⟩ := reg_cell (unhide HR) hA
  obtain ⟨b0, b1⟩ := reg_cell (unhide HR) hB
  go_upto_region 11 with fail
  go_region
  go_upto_region 19 with fail
  obtain ⟨W1, e1⟩ : ∃ X, W0.setCell ⟨w.heap.size + 1, A, none⟩ (.int .i64 1) = X := ⟨_, rfl⟩
  have HX1 := hide (below_set (i := A) (unhide HX) (Nat.le_succ w.heap.size) (.int .i64 1))
  have HR1 := hide (reg_set (v := 1) (unhide HR) hA)
  have HZ1 := hide (keep_set (g := w.heap.size + 1) (o := A) (v := .int .i64 1) (unhide HZ) (by omega))
  rw [unhide HER] at HR1
  rw [e1] at HX1 HR1 HZ1 ⊢
  clear e1 q0 q1 q2 q3 q4 q5 q6 q7 z0 z1 z2 z3 z4 z5 z6 z7 f0 f1 f2 f3 f4 f5 f6 f7
  obtain ⟨⟨q0, q1, q2, q3, q4, q5, q6, q7⟩, -, ql⟩ := reg_all (unhide HR1)
  obtain ⟨⟨z0, z1, z2, z3, z4, z5, z6, z7⟩, ⟨f0, f1, f2, f3, f4, f5, f6, f7⟩, zl⟩ := reg_all (unhide HZ1)
  go_region
  go_wp2_with fail
  clear z0 z1 z2 z3 z4 z5 z6 z7 f0 f1 f2 f3 f4 f5 f6 f7 q0 q1 q2 q3 q4 q5 q6 q7
  obtain ⟨W2, e2, b2, y2⟩ := put8 (r') (unhide HX1) (unhide HZ1) (by omega)
  rw [e2]
  clear e2
  obtain ⟨⟨z0, z1, z2, z3, z4, z5, z6, z7⟩, -, -⟩ := reg_all y2
  exact bodyPost_ret (v := .tuple #[.int .i64 (pc + 1), rv (r')]) (by simp [results, Tryd.results15, go_sem, rv, rvA, z0, z1, z2, z3, z4, z5, z6, z7]) rfl ⟨rfl, b2.drew.drew⟩

set_option maxRecDepth 100000 in
set_option maxHeartbeats 1000000 in
theorem did5b (w : World) (A B : Nat) (pc : Int) (r : Nat → Int) (hp0 : 0 ≤ pc) (hp1 : pc ≤ 2000) (hA : A < 8) (hB : B < 8) (hl : ¬ r A < r B) :
    Calls Tryd.prog 15 #[.agg #[.int .i64 5, .int .i64 A, .int .i64 B], .int .i64 pc, rv r] w fun e w' => e = .returned (.tuple #[.int .i64 (pc + 1), rv (upd r A 0)]) ∧ Below w.heap.size w w' := by
  obtain ⟨r', er⟩ : ∃ r', upd r A 0 = r' := ⟨_, rfl⟩
  rw [er]
  have HER := hide er
  clear er
  obtain ⟨W0, e0, hB, k0, k1, k2⟩ := three_new w (.cells #[.int .i64 5, .int .i64 A, .int .i64 B] 38) (.cells #[.int .i64 (r 0), .int .i64 (r 1), .int .i64 (r 2), .int .i64 (r 3), .int .i64 (r 4), .int .i64 (r 5), .int .i64 (r 6), .int .i64 (r 7)] 26) (.cells #[.int .i64 0, .int .i64 0, .int .i64 0, .int .i64 0, .int .i64 0, .int .i64 0, .int .i64 0, .int .i64 0] 26)
  have HX := hide hB; have HE := hide e0; have HK := hide k0; have HR : Hid (W0.heap[w.heap.size + 1]? = some (.cells (rvA r) 26 (0, 0))) := k1; have HZ : Hid (W0.heap[w.heap.size + 1 + 1]? = some (.cells (rvA fun _ => 0) 26 (0, 0))) := k2
  clear hB e0 k0 k1 k2
  unfold rv rvA
  go_enter Tryd.func15, Tryd.ntmps15
  go_upto_region 1 with fail
  rw [unhide HE]
  clear HE
  obtain ⟨⟨k0, k1, k2⟩, -, kl⟩ := block3 (unhide HK)
  obtain ⟨⟨q0, q1, q2, q3, q4, q5, q6, q7⟩, -, ql⟩ := reg_all (unhide HR)
  obtain ⟨⟨z0, z1, z2, z3, z4, z5, z6, z7⟩, ⟨f0, f1, f2, f3, f4, f5, f6, f7⟩, zl⟩ := reg_all (unhide HZ)
  obtain ⟨a0, a1⟩ := reg_cell (unhide HR) hA
  obtain ⟨b0, b1⟩ := reg_cell (unhide HR) hB
  go_upto_region 11 with fail
  go_region
  go_upto_region 19 with fail
  obtain ⟨W1, e1⟩ : ∃ X, W0.setCell ⟨w.heap.size + 1, A, none⟩ (.int .i64 0) = X := ⟨_, rfl⟩
  have HX1 := hide (below_set (i := A) (unhide HX) (Nat.le_succ w.heap.size) (.int .i64 0))
  have HR1 := hide (reg_set (v := 0) (unhide HR) hA)
  have HZ1 := hide (keep_set (g := w.heap.size + 1) (o := A) (v := .int .i64 0) (unhide HZ) (by omega))
  rw [unhide HER] at HR1
  rw [e1] at HX1 HR1 HZ1 ⊢
  clear e1 q0 q1 q2 q3 q4 q5 q6 q7 z0 z1 z2 z3 z4 z5 z6 z7 f0 f1 f2 f3 f4 f5 f6 f7
  obtain ⟨⟨q0, q1, q2, q3, q4, q5, q6, q7⟩, -, ql⟩ := reg_all (unhide HR1)
  obtain ⟨⟨z0, z1, z2, z3, z4, z5, z6, z7⟩, ⟨f0, f1, f2, f3, f4, f5, f6, f7⟩, zl⟩ := reg_all (unhide HZ1)
  go_region
  go_wp2_with fail
  clear z0 z1 z2 z3 z4 z5 z6 z7 f0 f1 f2 f3 f4 f5 f6 f7 q0 q1 q2 q3 q4 q5 q6 q7
  obtain ⟨W2, e2, b2, y2⟩ := put8 (r') (unhide HX1) (unhide HZ1) (by omega)
  rw [e2]
  clear e2
  obtain ⟨⟨z0, z1, z2, z3, z4, z5, z6, z7⟩, -, -⟩ := reg_all y2
  exact bodyPost_ret (v := .tuple #[.int .i64 (pc + 1), rv (r')]) (by simp [results, Tryd.results15, go_sem, rv, rvA, z0, z1, z2, z3, z4, z5, z6, z7]) rfl ⟨rfl, b2.drew.drew⟩

set_option maxRecDepth 100000 in
set_option maxHeartbeats 1000000 in
theorem did7a (w : World) (A : Nat) (y : Int) (pc : Int) (r : Nat → Int) (_hp0 : 0 ≤ pc) (_hp1 : pc ≤ 2000) (hA : A < 8) (h0 : r A = 0) :
    Calls Tryd.prog 15 #[.agg #[.int .i64 7, .int .i64 A, .int .i64 y], .int .i64 pc, rv r] w fun e w' => e = .returned (.tuple #[.int .i64 y, rv r]) ∧ Below w.heap.size w w' := by
  obtain ⟨W0, e0, hB, k0, k1, k2⟩ := three_new w (.cells #[.int .i64 7, .int .i64 A, .int .i64 y] 38) (.cells #[.int .i64 (r 0), .int .i64 (r 1), .int .i64 (r 2), .int .i64 (r 3), .int .i64 (r 4), .int .i64 (r 5), .int .i64 (r 6), .int .i64 (r 7)] 26) (.cells #[.int .i64 0, .int .i64 0, .int .i64 0, .int .i64 0, .int .i64 0, .int .i64 0, .int .i64 0, .int .i64 0] 26)
  have HX := hide hB; have HE := hide e0; have HK := hide k0; have HR : Hid (W0.heap[w.heap.size + 1]? = some (.cells (rvA r) 26 (0, 0))) := k1; have HZ : Hid (W0.heap[w.heap.size + 1 + 1]? = some (.cells (rvA fun _ => 0) 26 (0, 0))) := k2
  clear hB e0 k0 k1 k2
  unfold rv rvA
  go_enter Tryd.func15, Tryd.ntmps15
  go_upto_region 1 with fail
  rw [unhide HE]
  clear HE
  obtain ⟨⟨k0, k1, k2⟩, -, kl⟩ := block3 (unhide HK)
  obtain ⟨⟨q0, q1, q2, q3, q4, q5, q6, q7⟩, -, ql⟩ := reg_all (unhide HR)
  obtain ⟨⟨z0, z1, z2, z3, z4, z5, z6, z7⟩, ⟨f0, f1, f2, f3, f4, f5, f6, f7⟩, zl⟩ := reg_all (unhide HZ)
  obtain ⟨a0, a1⟩ := reg_cell (unhide HR) hA
  rw [h0] at a0
  clear h0
  go_upto_region 18 with fail
  go_region
  go_wp2_with fail
  clear z0 z1 z2 z3 z4 z5 z6 z7 f0 f1 f2 f3 f4 f5 f6 f7 q0 q1 q2 q3 q4 q5 q6 q7
  obtain ⟨W2, e2, b2, y2⟩ := put8 (r) (unhide HX) (unhide HZ) (by omega)
  rw [e2]
  clear e2
  obtain ⟨⟨z0, z1, z2, z3, z4, z5, z6, z7⟩, -, -⟩ := reg_all y2
  exact bodyPost_ret (v := .tuple #[.int .i64 y, rv (r)]) (by simp [results, Tryd.results15, go_sem, rv, rvA, z0, z1, z2, z3, z4, z5, z6, z7]) rfl ⟨rfl, b2.drew⟩

set_option maxRecDepth 100000 in
set_option maxHeartbeats 1000000 in
theorem did7b (w : World) (A : Nat) (y : Int) (pc : Int) (r : Nat → Int) (hp0 : 0 ≤ pc) (hp1 : pc ≤ 2000) (hA : A < 8) (h0 : ¬ r A = 0) :
    Calls Tryd.prog 15 #[.agg #[.int .i64 7, .int .i64 A, .int .i64 y], .int .i64 pc, rv r] w fun e w' => e = .returned (.tuple #[.int .i64 (pc + 1), rv r]) ∧ Below w.heap.size w w' := by
  obtain ⟨W0, e0, hB, k0, k1, k2⟩ := three_new w (.cells #[.int .i64 7, .int .i64 A, .int .i64 y] 38) (.cells #[.int .i64 (r 0), .int .i64 (r 1), .int .i64 (r 2), .int .i64 (r 3), .int .i64 (r 4), .int .i64 (r 5), .int .i64 (r 6), .int .i64 (r 7)] 26) (.cells #[.int .i64 0, .int .i64 0, .int .i64 0, .int .i64 0, .int .i64 0, .int .i64 0, .int .i64 0, .int .i64 0] 26)
  have HX := hide hB; have HE := hide e0; have HK := hide k0; have HR : Hid (W0.heap[w.heap.size + 1]? = some (.cells (rvA r) 26 (0, 0))) := k1; have HZ : Hid (W0.heap[w.heap.size + 1 + 1]? = some (.cells (rvA fun _ => 0) 26 (0, 0))) := k2
  clear hB e0 k0 k1 k2
  unfold rv rvA
  go_enter Tryd.func15, Tryd.ntmps15
  go_upto_region 1 with fail
  rw [unhide HE]
  clear HE
  obtain ⟨⟨k0, k1, k2⟩, -, kl⟩ := block3 (unhide HK)
  obtain ⟨⟨q0, q1, q2, q3, q4, q5, q6, q7⟩, -, ql⟩ := reg_all (unhide HR)
  obtain ⟨⟨z0, z1, z2, z3, z4, z5, z6, z7⟩, ⟨f0, f1, f2, f3, f4, f5, f6, f7⟩, zl⟩ := reg_all (unhide HZ)
  obtain ⟨a0, a1⟩ := reg_cell (unhide HR) hA
  have h0' : (r A == 0) = false := by simpa using h0
  go_upto_region 19 with fail
  go_region
  go_wp2_with fail
  clear z0 z1 z2 z3 z4 z5 z6 z7 f0 f1 f2 f3 f4 f5 f6 f7 q0 q1 q2 q3 q4 q5 q6 q7
  obtain ⟨W2, e2, b2, y2⟩ := put8 (r) (unhide HX) (unhide HZ) (by omega)
  rw [e2]
  clear e2
  obtain ⟨⟨z0, z1, z2, z3, z4, z5, z6, z7⟩, -, -⟩ := reg_all y2
  exact bodyPost_ret (v := .tuple #[.int .i64 (pc + 1), rv (r)]) (by simp [results, Tryd.results15, go_sem, rv, rvA, z0, z1, z2, z3, z4, z5, z6, z7]) rfl ⟨rfl, b2.drew⟩

theorem did_any (w : World) (p : Pg) (i : In) (h : wrongF p i = 0) (ha : 1 ≤ i.1 ∧ i.1 ≤ 7) (pc : Int) (r : Nat → Int) (hp0 : 0 ≤ pc) (hp1 : pc ≤ 2000) :
    Calls Tryd.prog 15 #[.agg #[.int .i64 i.1, .int .i64 i.2.1, .int .i64 i.2.2], .int .i64 pc, rv r] w fun e w' => e = .returned (.tuple #[.int .i64 (stepF i pc r).1, rv (stepF i pc r).2]) ∧ Below w.heap.size w w' := by
  obtain ⟨op, x, y⟩ := i
  obtain ⟨-, hx, hy⟩ := wrong_none h
  simp only at ha hx hy ⊢
  have hop : op = 1 ∨ op = 2 ∨ op = 3 ∨ op = 4 ∨ op = 5 ∨ op = 6 ∨ op = 7 := by omega
  rcases hop with rfl | rfl | rfl | rfl | rfl | rfl | rfl
  · obtain ⟨A, rfl, hA⟩ := fits_reg (p := p) (x := x) hx
    exact did1 w A y pc r hp0 hp1 hA
  · obtain ⟨A, rfl, hA⟩ := fits_reg (p := p) (x := x) hx
    obtain ⟨B, rfl, hB⟩ := fits_reg (p := p) (x := y) hy
    exact did2 w A B pc r hp0 hp1 hA hB
  · obtain ⟨A, rfl, hA⟩ := fits_reg (p := p) (x := x) hx
    obtain ⟨B, rfl, hB⟩ := fits_reg (p := p) (x := y) hy
    exact did3 w A B pc r hp0 hp1 hA hB
  · obtain ⟨A, rfl, hA⟩ := fits_reg (p := p) (x := x) hx
    obtain ⟨B, rfl, hB⟩ := fits_reg (p := p) (x := y) hy
    exact did4 w A B pc r hp0 hp1 hA hB
  · obtain ⟨A, rfl, hA⟩ := fits_reg (p := p) (x := x) hx
    obtain ⟨B, rfl, hB⟩ := fits_reg (p := p) (x := y) hy
    by_cases hl : r A < r B
    · have e : stepF (5, (A : Int), (B : Int)) pc r = (pc + 1, upd r A 1) := by unfold stepF lessI; simp [hl]
      rw [e]
      exact did5a w A B pc r hp0 hp1 hA hB hl
    · have e : stepF (5, (A : Int), (B : Int)) pc r = (pc + 1, upd r A 0) := by unfold stepF lessI; simp [hl]
      rw [e]
      exact did5b w A B pc r hp0 hp1 hA hB hl
  · exact did6 w x y pc r
  · obtain ⟨A, rfl, hA⟩ := fits_reg (p := p) (x := x) hx
    by_cases h0 : r A = 0
    · have e : stepF (7, (A : Int), y) pc r = (y, r) := by unfold stepF; simp [h0]
      rw [e]
      exact did7a w A y pc r hp0 hp1 hA h0
    · have e : stepF (7, (A : Int), y) pc r = (pc + 1, r) := by unfold stepF; simp [h0]
      rw [e]
      exact did7b w A y pc r hp0 hp1 hA h0

end Go.Proofs.YtgeinjldjpaleaaDoor
