/-
  Registers; code.step.
-/
import Derived.Test.YtgeinjldjpaleaaDoorG
namespace Go.Proofs.YtgeinjldjpaleaaDoor
open Go.RowKit

/-- Registers, as a value and as cells. -/
def rvA (r : Nat → Int) : Array Value := #[.int .i64 (r 0), .int .i64 (r 1), .int .i64 (r 2), .int .i64 (r 3), .int .i64 (r 4), .int .i64 (r 5), .int .i64 (r 6), .int .i64 (r 7)]
def rv (r : Nat → Int) : Value := .agg (rvA r)
def upd (r : Nat → Int) (A : Nat) (v : Int) : Nat → Int := fun j => if j = A then v else r j
theorem lt8 {A : Nat} (h : A < 8) : A = 0 ∨ A = 1 ∨ A = 2 ∨ A = 3 ∨ A = 4 ∨ A = 5 ∨ A = 6 ∨ A = 7 := by omega
theorem reg_cell {w : World} {R A : Nat} {r : Nat → Int} {t : TypeId} (h : w.heap[R]? = some (.cells (rvA r) t (0, 0))) (hA : A < 8) : w.cell? ⟨R, A, none⟩ = some (.int .i64 (r A)) ∧ w.frozen? ⟨R, A, none⟩ = false := by
  rcases lt8 hA with rfl | rfl | rfl | rfl | rfl | rfl | rfl | rfl
  all_goals exact ⟨by simp only [World.cell?, h]; rfl, by simp only [World.frozen?, h]; rfl⟩
theorem reg_set {w : World} {R A : Nat} {r : Nat → Int} {t : TypeId} {v : Int} (h : w.heap[R]? = some (.cells (rvA r) t (0, 0))) (hA : A < 8) : (w.setCell ⟨R, A, none⟩ (.int .i64 v)).heap[R]? = some (.cells (rvA (upd r A v)) t (0, 0)) := by
  rcases lt8 hA with rfl | rfl | rfl | rfl | rfl | rfl | rfl | rfl
  all_goals (simp [World.setCell, Array.getElem?_modify, h]; rfl)
theorem reg_all {w : World} {R : Nat} {r : Nat → Int} {t : TypeId} (h : w.heap[R]? = some (.cells (rvA r) t (0, 0))) : (w.cell? ⟨R, 0, none⟩ = some (.int .i64 (r 0)) ∧ w.cell? ⟨R, 1, none⟩ = some (.int .i64 (r 1)) ∧ w.cell? ⟨R, 2, none⟩ = some (.int .i64 (r 2)) ∧ w.cell? ⟨R, 3, none⟩ = some (.int .i64 (r 3)) ∧ w.cell? ⟨R, 4, none⟩ = some (.int .i64 (r 4)) ∧ w.cell? ⟨R, 5, none⟩ = some (.int .i64 (r 5)) ∧ w.cell? ⟨R, 6, none⟩ = some (.int .i64 (r 6)) ∧ w.cell? ⟨R, 7, none⟩ = some (.int .i64 (r 7))) ∧ (w.frozen? ⟨R, 0, none⟩ = false ∧ w.frozen? ⟨R, 1, none⟩ = false ∧ w.frozen? ⟨R, 2, none⟩ = false ∧ w.frozen? ⟨R, 3, none⟩ = false ∧ w.frozen? ⟨R, 4, none⟩ = false ∧ w.frozen? ⟨R, 5, none⟩ = false ∧ w.frozen? ⟨R, 6, none⟩ = false ∧ w.frozen? ⟨R, 7, none⟩ = false) ∧ R < w.heap.size := by
  refine ⟨⟨?_, ?_, ?_, ?_, ?_, ?_, ?_, ?_⟩, ⟨?_, ?_, ?_, ?_, ?_, ?_, ?_, ?_⟩, (Array.getElem?_eq_some_iff.1 h).1⟩
  all_goals first | (simp only [World.cell?, h]; rfl) | (simp only [World.frozen?, h]; rfl)
theorem put8 {w W : World} {R : Nat} {z : Nat → Int} {t : TypeId} (r : Nat → Int) (h : Below w.heap.size w W) (hz : W.heap[R]? = some (.cells (rvA z) t (0, 0))) (hR : w.heap.size ≤ R) : ∃ W2, ((((((((W.setCell ⟨R, 0, none⟩ (.int .i64 (r 0))).setCell ⟨R, 1, none⟩ (.int .i64 (r 1))).setCell ⟨R, 2, none⟩ (.int .i64 (r 2))).setCell ⟨R, 3, none⟩ (.int .i64 (r 3))).setCell ⟨R, 4, none⟩ (.int .i64 (r 4))).setCell ⟨R, 5, none⟩ (.int .i64 (r 5))).setCell ⟨R, 6, none⟩ (.int .i64 (r 6))).setCell ⟨R, 7, none⟩ (.int .i64 (r 7))) = W2 ∧ Below w.heap.size w W2 ∧ W2.heap[R]? = some (.cells (rvA r) t (0, 0)) := by
  refine ⟨_, rfl, ((((((((h).setCell hR (.int .i64 (r 0))).setCell hR (.int .i64 (r 1))).setCell hR (.int .i64 (r 2))).setCell hR (.int .i64 (r 3))).setCell hR (.int .i64 (r 4))).setCell hR (.int .i64 (r 5))).setCell hR (.int .i64 (r 6))).setCell hR (.int .i64 (r 7)), ?_⟩
  have := (reg_set (v := r 7) (A := 7) (reg_set (v := r 6) (A := 6) (reg_set (v := r 5) (A := 5) (reg_set (v := r 4) (A := 4) (reg_set (v := r 3) (A := 3) (reg_set (v := r 2) (A := 2) (reg_set (v := r 1) (A := 1) (reg_set (v := r 0) (A := 0) hz (by decide)) (by decide)) (by decide)) (by decide)) (by decide)) (by decide)) (by decide)) (by decide))
  have e : ∀ z : Nat → Int, rvA (upd (upd (upd (upd (upd (upd (upd (upd z 0 (r 0)) 1 (r 1)) 2 (r 2)) 3 (r 3)) 4 (r 4)) 5 (r 5)) 6 (r 6)) 7 (r 7)) = rvA r := fun z => rfl
  rw [e] at this
  exact this

set_option maxRecDepth 100000 in
set_option maxHeartbeats 1000000 in
theorem step6 (w : World) (x y pc : Int) (r : Nat → Int)  :
    Calls Tryd.prog 27 #[.agg #[.int .i64 6, .int .i64 x, .int .i64 y], .int .i64 pc, rv r] w fun e w' => e = .returned (.tuple #[.int .i64 x, rv r]) ∧ Below w.heap.size w w' := by
  obtain ⟨W0, e0, hB, k0, k1, k2⟩ := three_new w (.cells #[.int .i64 6, .int .i64 x, .int .i64 y] 38) (.cells #[.int .i64 (r 0), .int .i64 (r 1), .int .i64 (r 2), .int .i64 (r 3), .int .i64 (r 4), .int .i64 (r 5), .int .i64 (r 6), .int .i64 (r 7)] 26) (.cells #[.int .i64 0, .int .i64 0, .int .i64 0, .int .i64 0, .int .i64 0, .int .i64 0, .int .i64 0, .int .i64 0] 26)
  have HX := hide hB; have HE := hide e0; have HK := hide k0; have HR : Hid (W0.heap[w.heap.size + 1]? = some (.cells (rvA r) 26 (0, 0))) := k1; have HZ : Hid (W0.heap[w.heap.size + 1 + 1]? = some (.cells (rvA fun _ => 0) 26 (0, 0))) := k2
  clear hB e0 k0 k1 k2
  unfold rv rvA
  go_enter Tryd.func27, Tryd.ntmps27
  go_upto_region 1 with fail
  rw [unhide HE]
  clear HE
  obtain ⟨⟨k0, k1, k2⟩, -, kl⟩ := block3 (unhide HK)
  obtain ⟨⟨q0, q1, q2, q3, q4, q5, q6, q7⟩, -, ql⟩ := reg_all (unhide HR)
  obtain ⟨⟨z0, z1, z2, z3, z4, z5, z6, z7⟩, ⟨f0, f1, f2, f3, f4, f5, f6, f7⟩, zl⟩ := reg_all (unhide HZ)
  go_upto_region 13 with fail
  go_region
  go_wp2_with fail
  clear z0 z1 z2 z3 z4 z5 z6 z7 f0 f1 f2 f3 f4 f5 f6 f7 q0 q1 q2 q3 q4 q5 q6 q7
  obtain ⟨W2, e2, b2, y2⟩ := put8 (r) (unhide HX) (unhide HZ) (by omega)
  rw [e2]
  clear e2
  obtain ⟨⟨z0, z1, z2, z3, z4, z5, z6, z7⟩, -, -⟩ := reg_all y2
  exact bodyPost_ret (v := .tuple #[.int .i64 x, rv (r)]) (by simp [results, Tryd.results27, go_sem, rv, rvA, z0, z1, z2, z3, z4, z5, z6, z7]) rfl ⟨rfl, b2.drew⟩


set_option maxRecDepth 100000 in
set_option maxHeartbeats 1000000 in
theorem step1 (w : World) (A : Nat) (y : Int) (pc : Int) (r : Nat → Int) (hp0 : 0 ≤ pc) (hp1 : pc ≤ 2000) (hA : A < 8) :
    Calls Tryd.prog 27 #[.agg #[.int .i64 1, .int .i64 A, .int .i64 y], .int .i64 pc, rv r] w fun e w' => e = .returned (.tuple #[.int .i64 (pc + 1), rv (upd r A y)]) ∧ Below w.heap.size w w' := by
  obtain ⟨r', er⟩ : ∃ r', upd r A y = r' := ⟨_, rfl⟩
  rw [er]
  have HER := hide er
  clear er
  obtain ⟨W0, e0, hB, k0, k1, k2⟩ := three_new w (.cells #[.int .i64 1, .int .i64 A, .int .i64 y] 38) (.cells #[.int .i64 (r 0), .int .i64 (r 1), .int .i64 (r 2), .int .i64 (r 3), .int .i64 (r 4), .int .i64 (r 5), .int .i64 (r 6), .int .i64 (r 7)] 26) (.cells #[.int .i64 0, .int .i64 0, .int .i64 0, .int .i64 0, .int .i64 0, .int .i64 0, .int .i64 0, .int .i64 0] 26)
  have HX := hide hB; have HE := hide e0; have HK := hide k0; have HR : Hid (W0.heap[w.heap.size + 1]? = some (.cells (rvA r) 26 (0, 0))) := k1; have HZ : Hid (W0.heap[w.heap.size + 1 + 1]? = some (.cells (rvA fun _ => 0) 26 (0, 0))) := k2
  clear hB e0 k0 k1 k2
  unfold rv rvA
  go_enter Tryd.func27, Tryd.ntmps27
  go_upto_region 1 with fail
  rw [unhide HE]
  clear HE
  obtain ⟨⟨k0, k1, k2⟩, -, kl⟩ := block3 (unhide HK)
  obtain ⟨⟨q0, q1, q2, q3, q4, q5, q6, q7⟩, -, ql⟩ := reg_all (unhide HR)
  obtain ⟨⟨z0, z1, z2, z3, z4, z5, z6, z7⟩, ⟨f0, f1, f2, f3, f4, f5, f6, f7⟩, zl⟩ := reg_all (unhide HZ)
  obtain ⟨a0, a1⟩ := reg_cell (unhide HR) hA
  go_upto_region 3 with fail
  go_upto_region 17 with fail
  obtain ⟨W1, e1⟩ : ∃ X, W0.setCell ⟨w.heap.size + 1, A, none⟩ (.int .i64 y) = X := ⟨_, rfl⟩
  have HX1 := hide (below_set (i := A) (unhide HX) (Nat.le_succ w.heap.size) (.int .i64 y))
  have HR1 := hide (reg_set (v := y) (unhide HR) hA)
  have HZ1 := hide (keep_set (g := w.heap.size + 1) (o := A) (v := .int .i64 y) (unhide HZ) (by omega))
  rw [unhide HER] at HR1
  rw [e1] at HX1 HR1 HZ1 ⊢
  clear e1 q0 q1 q2 q3 q4 q5 q6 q7 z0 z1 z2 z3 z4 z5 z6 z7 f0 f1 f2 f3 f4 f5 f6 f7
  obtain ⟨⟨q0, q1, q2, q3, q4, q5, q6, q7⟩, -, ql⟩ := reg_all (unhide HR1)
  obtain ⟨⟨z0, z1, z2, z3, z4, z5, z6, z7⟩, ⟨f0, f1, f2, f3, f4, f5, f6, f7⟩, zl⟩ := reg_all (unhide HZ1)
  go_region
  go_wp2_with fail
  clear z0 z1 z2 z3 z4 z5 z6 z7 f0 f1 f2 f3 f4 f5 f6 f7 q0 q1 q2 q3 q4 q5 q6 q7
  obtain ⟨W2, e2, b2, y2⟩ := put8 (r') (unhide HX1) (unhide HZ1) (by omega)
  rw [e2]
  clear e2
  obtain ⟨⟨z0, z1, z2, z3, z4, z5, z6, z7⟩, -, -⟩ := reg_all y2
  exact bodyPost_ret (v := .tuple #[.int .i64 (pc + 1), rv (r')]) (by simp [results, Tryd.results27, go_sem, rv, rvA, z0, z1, z2, z3, z4, z5, z6, z7]) rfl ⟨rfl, b2.drew⟩

set_option maxRecDepth 100000 in
set_option maxHeartbeats 1000000 in
theorem step2 (w : World) (A B : Nat) (pc : Int) (r : Nat → Int) (hp0 : 0 ≤ pc) (hp1 : pc ≤ 2000) (hA : A < 8) (hB : B < 8) :
    Calls Tryd.prog 27 #[.agg #[.int .i64 2, .int .i64 A, .int .i64 B], .int .i64 pc, rv r] w fun e w' => e = .returned (.tuple #[.int .i64 (pc + 1), rv (upd r A (r B))]) ∧ Below w.heap.size w w' := by
  obtain ⟨r', er⟩ : ∃ r', upd r A (r B) = r' := ⟨_, rfl⟩
  rw [er]
  have HER := hide er
  clear er
  obtain ⟨W0, e0, hB, k0, k1, k2⟩ := three_new w (.cells #[.int .i64 2, .int .i64 A, .int .i64 B] 38) (.cells #[.int .i64 (r 0), .int .i64 (r 1), .int .i64 (r 2), .int .i64 (r 3), .int .i64 (r 4), .int .i64 (r 5), .int .i64 (r 6), .int .i64 (r 7)] 26) (.cells #[.int .i64 0, .int .i64 0, .int .i64 0, .int .i64 0, .int .i64 0, .int .i64 0, .int .i64 0, .int .i64 0] 26)
  have HX := hide hB; have HE := hide e0; have HK := hide k0; have HR : Hid (W0.heap[w.heap.size + 1]? = some (.cells (rvA r) 26 (0, 0))) := k1; have HZ : Hid (W0.heap[w.heap.size + 1 + 1]? = some (.cells (rvA fun _ => 0) 26 (0, 0))) := k2
  clear hB e0 k0 k1 k2
  unfold rv rvA
  go_enter Tryd.func27, Tryd.ntmps27
  go_upto_region 1 with fail
  rw [unhide HE]
  clear HE
  obtain ⟨⟨k0, k1, k2⟩, -, kl⟩ := block3 (unhide HK)
  obtain ⟨⟨q0, q1, q2, q3, q4, q5, q6, q7⟩, -, ql⟩ := reg_all (unhide HR)
  obtain ⟨⟨z0, z1, z2, z3, z4, z5, z6, z7⟩, ⟨f0, f1, f2, f3, f4, f5, f6, f7⟩, zl⟩ := reg_all (unhide HZ)
  obtain ⟨a0, a1⟩ := reg_cell (unhide HR) hA
  obtain ⟨b0, b1⟩ := reg_cell (unhide HR) hB
  go_upto_region 5 with fail
  go_region
  go_upto_region 17 with fail
  obtain ⟨W1, e1⟩ : ∃ X, W0.setCell ⟨w.heap.size + 1, A, none⟩ (.int .i64 (r B)) = X := ⟨_, rfl⟩
  have HX1 := hide (below_set (i := A) (unhide HX) (Nat.le_succ w.heap.size) (.int .i64 (r B)))
  have HR1 := hide (reg_set (v := (r B)) (unhide HR) hA)
  have HZ1 := hide (keep_set (g := w.heap.size + 1) (o := A) (v := .int .i64 (r B)) (unhide HZ) (by omega))
  rw [unhide HER] at HR1
  rw [e1] at HX1 HR1 HZ1 ⊢
  clear e1 q0 q1 q2 q3 q4 q5 q6 q7 z0 z1 z2 z3 z4 z5 z6 z7 f0 f1 f2 f3 f4 f5 f6 f7
  obtain ⟨⟨q0, q1, q2, q3, q4, q5, q6, q7⟩, -, ql⟩ := reg_all (unhide HR1)
  obtain ⟨⟨z0, z1, z2, z3, z4, z5, z6, z7⟩, ⟨f0, f1, f2, f3, f4, f5, f6, f7⟩, zl⟩ := reg_all (unhide HZ1)
  go_region
  go_wp2_with fail
  clear z0 z1 z2 z3 z4 z5 z6 z7 f0 f1 f2 f3 f4 f5 f6 f7 q0 q1 q2 q3 q4 q5 q6 q7
  obtain ⟨W2, e2, b2, y2⟩ := put8 (r') (unhide HX1) (unhide HZ1) (by omega)
  rw [e2]
  clear e2
  obtain ⟨⟨z0, z1, z2, z3, z4, z5, z6, z7⟩, -, -⟩ := reg_all y2
  exact bodyPost_ret (v := .tuple #[.int .i64 (pc + 1), rv (r')]) (by simp [results, Tryd.results27, go_sem, rv, rvA, z0, z1, z2, z3, z4, z5, z6, z7]) rfl ⟨rfl, b2.drew.drew⟩

set_option maxRecDepth 100000 in
set_option maxHeartbeats 1000000 in
theorem step3 (w : World) (A B : Nat) (pc : Int) (r : Nat → Int) (hp0 : 0 ≤ pc) (hp1 : pc ≤ 2000) (hA : A < 8) (hB : B < 8) :
    Calls Tryd.prog 27 #[.agg #[.int .i64 3, .int .i64 A, .int .i64 B], .int .i64 pc, rv r] w fun e w' => e = .returned (.tuple #[.int .i64 (pc + 1), rv (upd r A (wrap64 (r A + r B)))]) ∧ Below w.heap.size w w' := by
  obtain ⟨r', er⟩ : ∃ r', upd r A (wrap64 (r A + r B)) = r' := ⟨_, rfl⟩
  rw [er]
  have HER := hide er
  clear er
  obtain ⟨W0, e0, hB, k0, k1, k2⟩ := three_new w (.cells #[.int .i64 3, .int .i64 A, .int .i64 B] 38) (.cells #[.int .i64 (r 0), .int .i64 (r 1), .int .i64 (r 2), .int .i64 (r 3), .int .i64 (r 4), .int .i64 (r 5), .int .i64 (r 6), .int .i64 (r 7)] 26) (.cells #[.int .i64 0, .int .i64 0, .int .i64 0, .int .i64 0, .int .i64 0, .int .i64 0, .int .i64 0, .int .i64 0] 26)
  have HX := hide hB; have HE := hide e0; have HK := hide k0; have HR : Hid (W0.heap[w.heap.size + 1]? = some (.cells (rvA r) 26 (0, 0))) := k1; have HZ : Hid (W0.heap[w.heap.size + 1 + 1]? = some (.cells (rvA fun _ => 0) 26 (0, 0))) := k2
  clear hB e0 k0 k1 k2
  unfold rv rvA
  go_enter Tryd.func27, Tryd.ntmps27
  go_upto_region 1 with fail
  rw [unhide HE]
  clear HE
  obtain ⟨⟨k0, k1, k2⟩, -, kl⟩ := block3 (unhide HK)
  obtain ⟨⟨q0, q1, q2, q3, q4, q5, q6, q7⟩, -, ql⟩ := reg_all (unhide HR)
  obtain ⟨⟨z0, z1, z2, z3, z4, z5, z6, z7⟩, ⟨f0, f1, f2, f3, f4, f5, f6, f7⟩, zl⟩ := reg_all (unhide HZ)
  obtain ⟨a0, a1⟩ := reg_cell (unhide HR) hA
  obtain ⟨b0, b1⟩ := reg_cell (unhide HR) hB
  go_upto_region 7 with fail
  go_region
  go_upto_region 17 with fail
  obtain ⟨W1, e1⟩ : ∃ X, W0.setCell ⟨w.heap.size + 1, A, none⟩ (.int .i64 (wrap64 (r A + r B))) = X := ⟨_, rfl⟩
  have HX1 := hide (below_set (i := A) (unhide HX) (Nat.le_succ w.heap.size) (.int .i64 (wrap64 (r A + r B))))
  have HR1 := hide (reg_set (v := (wrap64 (r A + r B))) (unhide HR) hA)
  have HZ1 := hide (keep_set (g := w.heap.size + 1) (o := A) (v := .int .i64 (wrap64 (r A + r B))) (unhide HZ) (by omega))
  rw [unhide HER] at HR1
  rw [e1] at HX1 HR1 HZ1 ⊢
  clear e1 q0 q1 q2 q3 q4 q5 q6 q7 z0 z1 z2 z3 z4 z5 z6 z7 f0 f1 f2 f3 f4 f5 f6 f7
  obtain ⟨⟨q0, q1, q2, q3, q4, q5, q6, q7⟩, -, ql⟩ := reg_all (unhide HR1)
  obtain ⟨⟨z0, z1, z2, z3, z4, z5, z6, z7⟩, ⟨f0, f1, f2, f3, f4, f5, f6, f7⟩, zl⟩ := reg_all (unhide HZ1)
  go_region
  go_wp2_with fail
  clear z0 z1 z2 z3 z4 z5 z6 z7 f0 f1 f2 f3 f4 f5 f6 f7 q0 q1 q2 q3 q4 q5 q6 q7
  obtain ⟨W2, e2, b2, y2⟩ := put8 (r') (unhide HX1) (unhide HZ1) (by omega)
  rw [e2]
  clear e2
  obtain ⟨⟨z0, z1, z2, z3, z4, z5, z6, z7⟩, -, -⟩ := reg_all y2
  exact bodyPost_ret (v := .tuple #[.int .i64 (pc + 1), rv (r')]) (by simp [results, Tryd.results27, go_sem, rv, rvA, z0, z1, z2, z3, z4, z5, z6, z7]) rfl ⟨rfl, b2.drew.drew⟩

set_option maxRecDepth 100000 in
set_option maxHeartbeats 1000000 in
theorem step4 (w : World) (A B : Nat) (pc : Int) (r : Nat → Int) (hp0 : 0 ≤ pc) (hp1 : pc ≤ 2000) (hA : A < 8) (hB : B < 8) :
    Calls Tryd.prog 27 #[.agg #[.int .i64 4, .int .i64 A, .int .i64 B], .int .i64 pc, rv r] w fun e w' => e = .returned (.tuple #[.int .i64 (pc + 1), rv (upd r A (wrap64 (r A - r B)))]) ∧ Below w.heap.size w w' := by
  obtain ⟨r', er⟩ : ∃ r', upd r A (wrap64 (r A - r B)) = r' := ⟨_, rfl⟩
  rw [er]
  have HER := hide er
  clear er
  obtain ⟨W0, e0, hB, k0, k1, k2⟩ := three_new w (.cells #[.int .i64 4, .int .i64 A, .int .i64 B] 38) (.cells #[.int .i64 (r 0), .int .i64 (r 1), .int .i64 (r 2), .int .i64 (r 3), .int .i64 (r 4), .int .i64 (r 5), .int .i64 (r 6), .int .i64 (r 7)] 26) (.cells #[.int .i64 0, .int .i64 0, .int .i64 0, .int .i64 0, .int .i64 0, .int .i64 0, .int .i64 0, .int .i64 0] 26)
  have HX := hide hB; have HE := hide e0; have HK := hide k0; have HR : Hid (W0.heap[w.heap.size + 1]? = some (.cells (rvA r) 26 (0, 0))) := k1; have HZ : Hid (W0.heap[w.heap.size + 1 + 1]? = some (.cells (rvA fun _ => 0) 26 (0, 0))) := k2
  clear hB e0 k0 k1 k2
  unfold rv rvA
  go_enter Tryd.func27, Tryd.ntmps27
  go_upto_region 1 with fail
  rw [unhide HE]
  clear HE
  obtain ⟨⟨k0, k1, k2⟩, -, kl⟩ := block3 (unhide HK)
  obtain ⟨⟨q0, q1, q2, q3, q4, q5, q6, q7⟩, -, ql⟩ := reg_all (unhide HR)
  obtain ⟨⟨z0, z1, z2, z3, z4, z5, z6, z7⟩, ⟨f0, f1, f2, f3, f4, f5, f6, f7⟩, zl⟩ := reg_all (unhide HZ)
  obtain ⟨a0, a1⟩ := reg_cell (unhide HR) hA
  obtain ⟨b0, b1⟩ := reg_cell (unhide HR) hB
  go_upto_region 9 with fail
  go_region
  go_upto_region 17 with fail
  obtain ⟨W1, e1⟩ : ∃ X, W0.setCell ⟨w.heap.size + 1, A, none⟩ (.int .i64 (wrap64 (r A - r B))) = X := ⟨_, rfl⟩
  have HX1 := hide (below_set (i := A) (unhide HX) (Nat.le_succ w.heap.size) (.int .i64 (wrap64 (r A - r B))))
  have HR1 := hide (reg_set (v := (wrap64 (r A - r B))) (unhide HR) hA)
  have HZ1 := hide (keep_set (g := w.heap.size + 1) (o := A) (v := .int .i64 (wrap64 (r A - r B))) (unhide HZ) (by omega))
  rw [unhide HER] at HR1
  rw [e1] at HX1 HR1 HZ1 ⊢
  clear e1 q0 q1 q2 q3 q4 q5 q6 q7 z0 z1 z2 z3 z4 z5 z6 z7 f0 f1 f2 f3 f4 f5 f6 f7
  obtain ⟨⟨q0, q1, q2, q3, q4, q5, q6, q7⟩, -, ql⟩ := reg_all (unhide HR1)
  obtain ⟨⟨z0, z1, z2, z3, z4, z5, z6, z7⟩, ⟨f0, f1, f2, f3, f4, f5, f6, f7⟩, zl⟩ := reg_all (unhide HZ1)
  go_region
  go_wp2_with fail
  clear z0 z1 z2 z3 z4 z5 z6 z7 f0 f1 f2 f3 f4 f5 f6 f7 q0 q1 q2 q3 q4 q5 q6 q7
  obtain ⟨W2, e2, b2, y2⟩ := put8 (r') (unhide HX1) (unhide HZ1) (by omega)
  rw [e2]
  clear e2
  obtain ⟨⟨z0, z1, z2, z3, z4, z5, z6, z7⟩, -, -⟩ := reg_all y2
  exact bodyPost_ret (v := .tuple #[.int .i64 (pc + 1), rv (r')]) (by simp [results, Tryd.results27, go_sem, rv, rvA, z0, z1, z2, z3, z4, z5, z6, z7]) rfl ⟨rfl, b2.drew.drew⟩

set_option maxRecDepth 100000 in
set_option maxHeartbeats 1000000 in
theorem step5 (w : World) (A B : Nat) (pc : Int) (r : Nat → Int) (hp0 : 0 ≤ pc) (hp1 : pc ≤ 2000) (hA : A < 8) (hB : B < 8) :
    Calls Tryd.prog 27 #[.agg #[.int .i64 5, .int .i64 A, .int .i64 B], .int .i64 pc, rv r] w fun e w' => e = .returned (.tuple #[.int .i64 (pc + 1), rv (upd r A (lessI (r A) (r B)))]) ∧ Below w.heap.size w w' := by
  obtain ⟨r', er⟩ : ∃ r', upd r A (lessI (r A) (r B)) = r' := ⟨_, rfl⟩
  rw [er]
  have HER := hide er
  clear er
  obtain ⟨W0, e0, hB, k0, k1, k2⟩ := three_new w (.cells #[.int .i64 5, .int .i64 A, .int .i64 B] 38) (.cells #[.int .i64 (r 0), .int .i64 (r 1), .int .i64 (r 2), .int .i64 (r 3), .int .i64 (r 4), .int .i64 (r 5), .int .i64 (r 6), .int .i64 (r 7)] 26) (.cells #[.int .i64 0, .int .i64 0, .int .i64 0, .int .i64 0, .int .i64 0, .int .i64 0, .int .i64 0, .int .i64 0] 26)
  have HX := hide hB; have HE := hide e0; have HK := hide k0; have HR : Hid (W0.heap[w.heap.size + 1]? = some (.cells (rvA r) 26 (0, 0))) := k1; have HZ : Hid (W0.heap[w.heap.size + 1 + 1]? = some (.cells (rvA fun _ => 0) 26 (0, 0))) := k2
  clear hB e0 k0 k1 k2
  unfold rv rvA
  go_enter Tryd.func27, Tryd.ntmps27
  go_upto_region 1 with fail
  rw [unhide HE]
  clear HE
  obtain ⟨⟨k0, k1, k2⟩, -, kl⟩ := block3 (unhide HK)
  obtain ⟨⟨q0, q1, q2, q3, q4, q5, q6, q7⟩, -, ql⟩ := reg_all (unhide HR)
  obtain ⟨⟨z0, z1, z2, z3, z4, z5, z6, z7⟩, ⟨f0, f1, f2, f3, f4, f5, f6, f7⟩, zl⟩ := reg_all (unhide HZ)
  obtain ⟨a0, a1⟩ := reg_cell (unhide HR) hA
  obtain ⟨b0, b1⟩ := reg_cell (unhide HR) hB
  go_upto_region 11 with fail
  have gA : (A : Int) < 8 := by omega
  have gB : (B : Int) < 8 := by omega
  have gA0 : (0 : Int) ≤ (A : Int) := by omega
  have gB0 : (0 : Int) ≤ (B : Int) := by omega
  have HLS := hide fun W => less_any W (r A) (r B)
  have HSS : Hid (∀ W : World, W.heap[w.heap.size]? = some (.cells #[.int .i64 5, .int .i64 A, .int .i64 B] 38 (0, 0)) → (fun W => W.cell? ⟨w.heap.size, 0, none⟩ = some (.int .i64 5) ∧ W.cell? ⟨w.heap.size, 1, none⟩ = some (.int .i64 A) ∧ W.cell? ⟨w.heap.size, 2, none⟩ = some (.int .i64 B)) W) := fun W h => (block3 h).1
  refine wp_region_held_drew (S := (fun W => W.cell? ⟨w.heap.size, 0, none⟩ = some (.int .i64 5) ∧ W.cell? ⟨w.heap.size, 1, none⟩ = some (.int .i64 A) ∧ W.cell? ⟨w.heap.size, 2, none⟩ = some (.int .i64 B))) (by kernel_rfl) (unhide HSS _ (unhide HK)) (fun hHeld => ?_)
  refine wpAnyH_take (i := 0) (oi := { dst := some 52, op := Op.fieldAddr 38 (Operand.tmp 3) 1, type := 0, pos := "code.go:90", after := #[], guard := none }) (v := ?v0) rfl (by kernel_rfl) (by kernel_rfl) (by kernel_rfl) (fun _ _ _ h => h) (Or.inl ⟨by rfl, ?y0⟩) (by assumption) ?r0
  case y0 => (intro w hSw; (try dsimp only at hSw); go_simp; try with_reducible rfl)
  try simp only [Act.put, List.setIfInBounds_toArray, List.set_cons_zero, List.set_cons_succ]
  refine wpAnyH_take (i := 1) (oi := { dst := some 53, op := Op.load 3 (Operand.tmp 52), type := 3, pos := "code.go:90", after := #[{ on := 0, ground := Ground.data }], guard := none }) (v := ?v1) rfl (by kernel_rfl) (by kernel_rfl) (by kernel_rfl) (fun _ _ _ h => h) (Or.inl ⟨by rfl, ?y1⟩) (by assumption) ?r1
  case y1 => (intro w hSw; (try dsimp only at hSw); go_simp; try with_reducible rfl)
  try simp only [Act.put, List.setIfInBounds_toArray, List.set_cons_zero, List.set_cons_succ]
  refine wpAnyH_take (i := 2) (oi := { dst := some 54, op := Op.fieldAddr 38 (Operand.tmp 3) 1, type := 0, pos := "code.go:90", after := #[], guard := none }) (v := ?v2) rfl (by kernel_rfl) (by kernel_rfl) (by kernel_rfl) (fun _ _ _ h => h) (Or.inl ⟨by rfl, ?y2⟩) (by assumption) ?r2
  case y2 => (intro w hSw; (try dsimp only at hSw); go_simp; try with_reducible rfl)
  try simp only [Act.put, List.setIfInBounds_toArray, List.set_cons_zero, List.set_cons_succ]
  refine wpAnyH_take (i := 3) (oi := { dst := some 55, op := Op.load 3 (Operand.tmp 54), type := 3, pos := "code.go:90", after := #[{ on := 2, ground := Ground.data }], guard := none }) (v := ?v3) rfl (by kernel_rfl) (by kernel_rfl) (by kernel_rfl) (fun _ _ _ h => h) (Or.inl ⟨by rfl, ?y3⟩) (by assumption) ?r3
  case y3 => (intro w hSw; (try dsimp only at hSw); go_simp; try with_reducible rfl)
  try simp only [Act.put, List.setIfInBounds_toArray, List.set_cons_zero, List.set_cons_succ]
  refine wpAnyH_take (i := 4) (oi := { dst := some 56, op := Op.indexAddr 26 (Operand.tmp 5) (Operand.tmp 55), type := 0, pos := "code.go:90", after := #[{ on := 3, ground := Ground.data }], guard := none }) (v := ?v4) rfl (by kernel_rfl) (by kernel_rfl) (by kernel_rfl) (fun _ _ _ h => h) (Or.inl ⟨by rfl, ?y4⟩) (by assumption) ?r4
  case y4 => (intro w hSw; (try dsimp only at hSw); go_simp; try with_reducible rfl)
  try simp only [Act.put, List.setIfInBounds_toArray, List.set_cons_zero, List.set_cons_succ]
  refine wpAnyH_take (i := 6) (oi := { dst := some 58, op := Op.fieldAddr 38 (Operand.tmp 3) 2, type := 0, pos := "code.go:90", after := #[], guard := none }) (v := ?v6) rfl (by kernel_rfl) (by kernel_rfl) (by kernel_rfl) (fun _ _ _ h => h) (Or.inl ⟨by rfl, ?y6⟩) (by assumption) ?r6
  case y6 => (intro w hSw; (try dsimp only at hSw); go_simp; try with_reducible rfl)
  try simp only [Act.put, List.setIfInBounds_toArray, List.set_cons_zero, List.set_cons_succ]
  refine wpAnyH_take (i := 7) (oi := { dst := some 59, op := Op.load 3 (Operand.tmp 58), type := 3, pos := "code.go:90", after := #[{ on := 6, ground := Ground.data }], guard := none }) (v := ?v7) rfl (by kernel_rfl) (by kernel_rfl) (by kernel_rfl) (fun _ _ _ h => h) (Or.inl ⟨by rfl, ?y7⟩) (by assumption) ?r7
  case y7 => (intro w hSw; (try dsimp only at hSw); go_simp; try with_reducible rfl)
  try simp only [Act.put, List.setIfInBounds_toArray, List.set_cons_zero, List.set_cons_succ]
  refine wpAnyH_take (i := 8) (oi := { dst := some 60, op := Op.indexAddr 26 (Operand.tmp 5) (Operand.tmp 59), type := 0, pos := "code.go:90", after := #[{ on := 7, ground := Ground.data }], guard := none }) (v := ?v8) rfl (by kernel_rfl) (by kernel_rfl) (by kernel_rfl) (fun _ _ _ h => h) (Or.inl ⟨by rfl, ?y8⟩) (by assumption) ?r8
  case y8 => (intro w hSw; (try dsimp only at hSw); go_simp; try with_reducible rfl)
  try simp only [Act.put, List.setIfInBounds_toArray, List.set_cons_zero, List.set_cons_succ]
  refine wpAnyH_ready (rs := [5, 9]) (by kernel_rfl) (by simp) ?_
  refine AllReadyH.cons (o := { dst := some 57, op := Op.load 3 (Operand.tmp 56), type := 3, pos := "code.go:90", after := #[{ on := 4, ground := Ground.data }], guard := none }) rfl (fun K hK => ?_) (AllReadyH.cons (o := { dst := some 61, op := Op.load 3 (Operand.tmp 60), type := 3, pos := "code.go:90", after := #[{ on := 8, ground := Ground.data }], guard := none }) rfl (fun K hK => ?_) AllReadyH.nil)
  · go_simp
    skip
    refine hK.out _ _ (unhide HSS _ (unhide HK)) (fun hHeld => ?_)
    clear hK K
    try simp only [Act.put, List.setIfInBounds_toArray, List.set_cons_zero, List.set_cons_succ]
    refine wpAnyH_ready (rs := [9]) (by kernel_rfl) (by simp) ?_
    refine AllReadyH.cons (o := { dst := some 61, op := Op.load 3 (Operand.tmp 60), type := 3, pos := "code.go:90", after := #[{ on := 8, ground := Ground.data }], guard := none }) rfl (fun K hK => ?_) AllReadyH.nil
    go_simp
    skip
    refine hK.out _ _ (unhide HSS _ (unhide HK)) (fun hHeld => ?_)
    clear hK K
    try simp only [Act.put, List.setIfInBounds_toArray, List.set_cons_zero, List.set_cons_succ]
    refine wpAnyH_ready (rs := [10]) (by kernel_rfl) (by simp) ?_
    refine AllReadyH.cons (o := { dst := some 62, op := Op.call { callee := Callee.value (Operand.func 41), args := #[Operand.tmp 57, Operand.tmp 61], argTypes := #[3, 3] }, type := 3, pos := "code.go:90", after := #[{ on := 5, ground := Ground.data }, { on := 9, ground := Ground.data }], guard := none }) rfl (fun K hK => ?_) AllReadyH.nil
    go_simp
    refine (unhide HLS _).mono ?_; rintro e w5 ⟨rfl, rfl⟩; go_simp
    refine hK.out _ _ (unhide HSS _ (unhide HK)) (fun hHeld => ?_)
    clear hK K
    try simp only [Act.put, List.setIfInBounds_toArray, List.set_cons_zero, List.set_cons_succ]
    refine wpAnyH_take (i := 11) (oi := { dst := some 63, op := Op.indexAddr 26 (Operand.tmp 5) (Operand.tmp 53), type := 0, pos := "code.go:90", after := #[{ on := 1, ground := Ground.data }, { on := 0, ground := Ground.phase }, { on := 1, ground := Ground.phase }, { on := 2, ground := Ground.phase }, { on := 3, ground := Ground.phase }, { on := 4, ground := Ground.phase }, { on := 5, ground := Ground.phase }, { on := 6, ground := Ground.phase }, { on := 7, ground := Ground.phase }, { on := 8, ground := Ground.phase }, { on := 9, ground := Ground.phase }, { on := 10, ground := Ground.phase }], guard := none }) (v := ?v11) rfl (by kernel_rfl) (by kernel_rfl) (by kernel_rfl) (fun _ _ _ h => h) (Or.inl ⟨by rfl, ?y11⟩) (by assumption) ?r11
    case y11 => (intro w hSw; (try dsimp only at hSw); go_simp; try with_reducible rfl)
    try simp only [Act.put, List.setIfInBounds_toArray, List.set_cons_zero, List.set_cons_succ]
    refine wpAnyH_ready (rs := [12]) (by kernel_rfl) (by simp) ?_
    refine AllReadyH.cons (o := { dst := none, op := Op.store 3 (Operand.tmp 63) (Operand.tmp 62), type := 0, pos := "code.go:90", after := #[{ on := 11, ground := Ground.data }, { on := 10, ground := Ground.data }, { on := 10, ground := Ground.chain }, { on := 0, ground := Ground.phase }, { on := 1, ground := Ground.phase }, { on := 2, ground := Ground.phase }, { on := 3, ground := Ground.phase }, { on := 4, ground := Ground.phase }, { on := 5, ground := Ground.phase }, { on := 6, ground := Ground.phase }, { on := 7, ground := Ground.phase }, { on := 8, ground := Ground.phase }, { on := 9, ground := Ground.phase }, { on := 10, ground := Ground.phase }], guard := none }) rfl (fun K hK => ?_) AllReadyH.nil
    go_simp
    skip
    refine hK.out _ _ (unhide HSS _ (keep_set (unhide HK) (by omega))) (fun hHeld => ?_)
    clear hK K
    try simp only [Act.put, List.setIfInBounds_toArray, List.set_cons_zero, List.set_cons_succ]
    refine wpAnyH_done (by kernel_rfl) ?_ _
    go_upto_region 17 with fail
    obtain ⟨W1, e1⟩ : ∃ X, W0.setCell ⟨w.heap.size + 1, A, none⟩ (.int .i64 (lessI (r A) (r B))) = X := ⟨_, rfl⟩
    have HX1 := hide (below_set (i := A) (unhide HX) (Nat.le_succ w.heap.size) (.int .i64 (lessI (r A) (r B))))
    have HR1 := hide (reg_set (v := (lessI (r A) (r B))) (unhide HR) hA)
    have HZ1 := hide (keep_set (g := w.heap.size + 1) (o := A) (v := .int .i64 (lessI (r A) (r B))) (unhide HZ) (by omega))
    rw [unhide HER] at HR1
    rw [e1] at HX1 HR1 HZ1 ⊢
    clear e1 q0 q1 q2 q3 q4 q5 q6 q7 z0 z1 z2 z3 z4 z5 z6 z7 f0 f1 f2 f3 f4 f5 f6 f7
    obtain ⟨⟨q0, q1, q2, q3, q4, q5, q6, q7⟩, -, ql⟩ := reg_all (unhide HR1)
    obtain ⟨⟨z0, z1, z2, z3, z4, z5, z6, z7⟩, ⟨f0, f1, f2, f3, f4, f5, f6, f7⟩, zl⟩ := reg_all (unhide HZ1)
    go_region
    go_wp2_with fail
    clear z0 z1 z2 z3 z4 z5 z6 z7 f0 f1 f2 f3 f4 f5 f6 f7 q0 q1 q2 q3 q4 q5 q6 q7
    obtain ⟨W2, e2, b2, y2⟩ := put8 (r') (unhide HX1) (unhide HZ1) (by omega)
    rw [e2]
    clear e2
    obtain ⟨⟨z0, z1, z2, z3, z4, z5, z6, z7⟩, -, -⟩ := reg_all y2
    exact bodyPost_ret (v := .tuple #[.int .i64 (pc + 1), rv (r')]) (by simp [results, Tryd.results27, go_sem, rv, rvA, z0, z1, z2, z3, z4, z5, z6, z7]) rfl ⟨rfl, b2.drew.drew⟩
  · go_simp
    skip
    refine hK.out _ _ (unhide HSS _ (unhide HK)) (fun hHeld => ?_)
    clear hK K
    try simp only [Act.put, List.setIfInBounds_toArray, List.set_cons_zero, List.set_cons_succ]
    refine wpAnyH_ready (rs := [5]) (by kernel_rfl) (by simp) ?_
    refine AllReadyH.cons (o := { dst := some 57, op := Op.load 3 (Operand.tmp 56), type := 3, pos := "code.go:90", after := #[{ on := 4, ground := Ground.data }], guard := none }) rfl (fun K hK => ?_) AllReadyH.nil
    go_simp
    skip
    refine hK.out _ _ (unhide HSS _ (unhide HK)) (fun hHeld => ?_)
    clear hK K
    try simp only [Act.put, List.setIfInBounds_toArray, List.set_cons_zero, List.set_cons_succ]
    refine wpAnyH_ready (rs := [10]) (by kernel_rfl) (by simp) ?_
    refine AllReadyH.cons (o := { dst := some 62, op := Op.call { callee := Callee.value (Operand.func 41), args := #[Operand.tmp 57, Operand.tmp 61], argTypes := #[3, 3] }, type := 3, pos := "code.go:90", after := #[{ on := 5, ground := Ground.data }, { on := 9, ground := Ground.data }], guard := none }) rfl (fun K hK => ?_) AllReadyH.nil
    go_simp
    refine (unhide HLS _).mono ?_; rintro e w5 ⟨rfl, rfl⟩; go_simp
    refine hK.out _ _ (unhide HSS _ (unhide HK)) (fun hHeld => ?_)
    clear hK K
    try simp only [Act.put, List.setIfInBounds_toArray, List.set_cons_zero, List.set_cons_succ]
    refine wpAnyH_take (i := 11) (oi := { dst := some 63, op := Op.indexAddr 26 (Operand.tmp 5) (Operand.tmp 53), type := 0, pos := "code.go:90", after := #[{ on := 1, ground := Ground.data }, { on := 0, ground := Ground.phase }, { on := 1, ground := Ground.phase }, { on := 2, ground := Ground.phase }, { on := 3, ground := Ground.phase }, { on := 4, ground := Ground.phase }, { on := 5, ground := Ground.phase }, { on := 6, ground := Ground.phase }, { on := 7, ground := Ground.phase }, { on := 8, ground := Ground.phase }, { on := 9, ground := Ground.phase }, { on := 10, ground := Ground.phase }], guard := none }) (v := ?v11b) rfl (by kernel_rfl) (by kernel_rfl) (by kernel_rfl) (fun _ _ _ h => h) (Or.inl ⟨by rfl, ?y11b⟩) (by assumption) ?r11b
    case y11b => (intro w hSw; (try dsimp only at hSw); go_simp; try with_reducible rfl)
    try simp only [Act.put, List.setIfInBounds_toArray, List.set_cons_zero, List.set_cons_succ]
    refine wpAnyH_ready (rs := [12]) (by kernel_rfl) (by simp) ?_
    refine AllReadyH.cons (o := { dst := none, op := Op.store 3 (Operand.tmp 63) (Operand.tmp 62), type := 0, pos := "code.go:90", after := #[{ on := 11, ground := Ground.data }, { on := 10, ground := Ground.data }, { on := 10, ground := Ground.chain }, { on := 0, ground := Ground.phase }, { on := 1, ground := Ground.phase }, { on := 2, ground := Ground.phase }, { on := 3, ground := Ground.phase }, { on := 4, ground := Ground.phase }, { on := 5, ground := Ground.phase }, { on := 6, ground := Ground.phase }, { on := 7, ground := Ground.phase }, { on := 8, ground := Ground.phase }, { on := 9, ground := Ground.phase }, { on := 10, ground := Ground.phase }], guard := none }) rfl (fun K hK => ?_) AllReadyH.nil
    go_simp
    skip
    refine hK.out _ _ (unhide HSS _ (keep_set (unhide HK) (by omega))) (fun hHeld => ?_)
    clear hK K
    try simp only [Act.put, List.setIfInBounds_toArray, List.set_cons_zero, List.set_cons_succ]
    refine wpAnyH_done (by kernel_rfl) ?_ _
    go_upto_region 17 with fail
    obtain ⟨W1, e1⟩ : ∃ X, W0.setCell ⟨w.heap.size + 1, A, none⟩ (.int .i64 (lessI (r A) (r B))) = X := ⟨_, rfl⟩
    have HX1 := hide (below_set (i := A) (unhide HX) (Nat.le_succ w.heap.size) (.int .i64 (lessI (r A) (r B))))
    have HR1 := hide (reg_set (v := (lessI (r A) (r B))) (unhide HR) hA)
    have HZ1 := hide (keep_set (g := w.heap.size + 1) (o := A) (v := .int .i64 (lessI (r A) (r B))) (unhide HZ) (by omega))
    rw [unhide HER] at HR1
    rw [e1] at HX1 HR1 HZ1 ⊢
    clear e1 q0 q1 q2 q3 q4 q5 q6 q7 z0 z1 z2 z3 z4 z5 z6 z7 f0 f1 f2 f3 f4 f5 f6 f7
    obtain ⟨⟨q0, q1, q2, q3, q4, q5, q6, q7⟩, -, ql⟩ := reg_all (unhide HR1)
    obtain ⟨⟨z0, z1, z2, z3, z4, z5, z6, z7⟩, ⟨f0, f1, f2, f3, f4, f5, f6, f7⟩, zl⟩ := reg_all (unhide HZ1)
    go_region
    go_wp2_with fail
    clear z0 z1 z2 z3 z4 z5 z6 z7 f0 f1 f2 f3 f4 f5 f6 f7 q0 q1 q2 q3 q4 q5 q6 q7
    obtain ⟨W2, e2, b2, y2⟩ := put8 (r') (unhide HX1) (unhide HZ1) (by omega)
    rw [e2]
    clear e2
    obtain ⟨⟨z0, z1, z2, z3, z4, z5, z6, z7⟩, -, -⟩ := reg_all y2
    exact bodyPost_ret (v := .tuple #[.int .i64 (pc + 1), rv (r')]) (by simp [results, Tryd.results27, go_sem, rv, rvA, z0, z1, z2, z3, z4, z5, z6, z7]) rfl ⟨rfl, b2.drew.drew⟩

set_option maxRecDepth 100000 in
set_option maxHeartbeats 1000000 in
theorem step7a (w : World) (A : Nat) (y : Int) (pc : Int) (r : Nat → Int) (_hp0 : 0 ≤ pc) (_hp1 : pc ≤ 2000) (hA : A < 8) (h0 : r A = 0) :
    Calls Tryd.prog 27 #[.agg #[.int .i64 7, .int .i64 A, .int .i64 y], .int .i64 pc, rv r] w fun e w' => e = .returned (.tuple #[.int .i64 y, rv r]) ∧ Below w.heap.size w w' := by
  obtain ⟨W0, e0, hB, k0, k1, k2⟩ := three_new w (.cells #[.int .i64 7, .int .i64 A, .int .i64 y] 38) (.cells #[.int .i64 (r 0), .int .i64 (r 1), .int .i64 (r 2), .int .i64 (r 3), .int .i64 (r 4), .int .i64 (r 5), .int .i64 (r 6), .int .i64 (r 7)] 26) (.cells #[.int .i64 0, .int .i64 0, .int .i64 0, .int .i64 0, .int .i64 0, .int .i64 0, .int .i64 0, .int .i64 0] 26)
  have HX := hide hB; have HE := hide e0; have HK := hide k0; have HR : Hid (W0.heap[w.heap.size + 1]? = some (.cells (rvA r) 26 (0, 0))) := k1; have HZ : Hid (W0.heap[w.heap.size + 1 + 1]? = some (.cells (rvA fun _ => 0) 26 (0, 0))) := k2
  clear hB e0 k0 k1 k2
  unfold rv rvA
  go_enter Tryd.func27, Tryd.ntmps27
  go_upto_region 1 with fail
  rw [unhide HE]
  clear HE
  obtain ⟨⟨k0, k1, k2⟩, -, kl⟩ := block3 (unhide HK)
  obtain ⟨⟨q0, q1, q2, q3, q4, q5, q6, q7⟩, -, ql⟩ := reg_all (unhide HR)
  obtain ⟨⟨z0, z1, z2, z3, z4, z5, z6, z7⟩, ⟨f0, f1, f2, f3, f4, f5, f6, f7⟩, zl⟩ := reg_all (unhide HZ)
  obtain ⟨a0, a1⟩ := reg_cell (unhide HR) hA
  rw [h0] at a0
  clear h0
  go_upto_region 16 with fail
  go_region
  go_wp2_with fail
  clear z0 z1 z2 z3 z4 z5 z6 z7 f0 f1 f2 f3 f4 f5 f6 f7 q0 q1 q2 q3 q4 q5 q6 q7
  obtain ⟨W2, e2, b2, y2⟩ := put8 (r) (unhide HX) (unhide HZ) (by omega)
  rw [e2]
  clear e2
  obtain ⟨⟨z0, z1, z2, z3, z4, z5, z6, z7⟩, -, -⟩ := reg_all y2
  exact bodyPost_ret (v := .tuple #[.int .i64 y, rv (r)]) (by simp [results, Tryd.results27, go_sem, rv, rvA, z0, z1, z2, z3, z4, z5, z6, z7]) rfl ⟨rfl, b2.drew⟩

set_option maxRecDepth 100000 in
set_option maxHeartbeats 1000000 in
theorem step7b (w : World) (A : Nat) (y : Int) (pc : Int) (r : Nat → Int) (hp0 : 0 ≤ pc) (hp1 : pc ≤ 2000) (hA : A < 8) (h0 : ¬ r A = 0) :
    Calls Tryd.prog 27 #[.agg #[.int .i64 7, .int .i64 A, .int .i64 y], .int .i64 pc, rv r] w fun e w' => e = .returned (.tuple #[.int .i64 (pc + 1), rv r]) ∧ Below w.heap.size w w' := by
  obtain ⟨W0, e0, hB, k0, k1, k2⟩ := three_new w (.cells #[.int .i64 7, .int .i64 A, .int .i64 y] 38) (.cells #[.int .i64 (r 0), .int .i64 (r 1), .int .i64 (r 2), .int .i64 (r 3), .int .i64 (r 4), .int .i64 (r 5), .int .i64 (r 6), .int .i64 (r 7)] 26) (.cells #[.int .i64 0, .int .i64 0, .int .i64 0, .int .i64 0, .int .i64 0, .int .i64 0, .int .i64 0, .int .i64 0] 26)
  have HX := hide hB; have HE := hide e0; have HK := hide k0; have HR : Hid (W0.heap[w.heap.size + 1]? = some (.cells (rvA r) 26 (0, 0))) := k1; have HZ : Hid (W0.heap[w.heap.size + 1 + 1]? = some (.cells (rvA fun _ => 0) 26 (0, 0))) := k2
  clear hB e0 k0 k1 k2
  unfold rv rvA
  go_enter Tryd.func27, Tryd.ntmps27
  go_upto_region 1 with fail
  rw [unhide HE]
  clear HE
  obtain ⟨⟨k0, k1, k2⟩, -, kl⟩ := block3 (unhide HK)
  obtain ⟨⟨q0, q1, q2, q3, q4, q5, q6, q7⟩, -, ql⟩ := reg_all (unhide HR)
  obtain ⟨⟨z0, z1, z2, z3, z4, z5, z6, z7⟩, ⟨f0, f1, f2, f3, f4, f5, f6, f7⟩, zl⟩ := reg_all (unhide HZ)
  obtain ⟨a0, a1⟩ := reg_cell (unhide HR) hA
  have h0' : (r A == 0) = false := by simpa using h0
  go_upto_region 17 with fail
  go_region
  go_wp2_with fail
  clear z0 z1 z2 z3 z4 z5 z6 z7 f0 f1 f2 f3 f4 f5 f6 f7 q0 q1 q2 q3 q4 q5 q6 q7
  obtain ⟨W2, e2, b2, y2⟩ := put8 (r) (unhide HX) (unhide HZ) (by omega)
  rw [e2]
  clear e2
  obtain ⟨⟨z0, z1, z2, z3, z4, z5, z6, z7⟩, -, -⟩ := reg_all y2
  exact bodyPost_ret (v := .tuple #[.int .i64 (pc + 1), rv (r)]) (by simp [results, Tryd.results27, go_sem, rv, rvA, z0, z1, z2, z3, z4, z5, z6, z7]) rfl ⟨rfl, b2.drew⟩

end Go.Proofs.YtgeinjldjpaleaaDoor
