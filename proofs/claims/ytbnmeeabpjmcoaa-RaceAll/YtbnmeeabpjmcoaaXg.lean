/-
  taskmilllaw.raceBegun; taskmillref.Access and F.
-/
import Derived.Test.YtbnmeeabpjmcoaaXf
import Derived.ChangeKeysEq
namespace Go.Proofs.Ytbnmeeabpjmcoaa
open Go.RowKit

theorem arr2_eq (w : World) (t c t' c' : Int) : (Op.equalIn 10000 55 (.agg #[.int .i64 t, .int .i64 c]) (.agg #[.int .i64 t', .int .i64 c'])).run Try.prog w = .ok (t == t' && c == c') w := by
  obtain ⟨i0, hi, h0, h1, h2⟩ := info_parts Try.info3
  have hu : Try.prog.underlying 55 = some (.array 2 3) := by kernel_rfl
  have hc : Try.prog.cellsOf 3 = 1 := by kernel_rfl
  have hd : ∀ (d : Nat) (a b : Int), (Op.equalIn (d + 1) 3 (.int .i64 a) (.int .i64 b)).run Try.prog w = .ok (a == b) w := fun d a b => by
    simp [Op.equalIn, run_underlying Try.underlying3]
  have he : ∀ a b : Int, (Op.equalIn 9999 3 (.int .i64 a) (.int .i64 b)).run Try.prog w = .ok (a == b) w := fun a b => hd 9998 a b
  have hp : ∀ (xs : Array Value) (j : Nat) (v : Value), xs[j]? = some v → (part 3 xs j).run Try.prog w = .ok v w := fun xs j v hv => by
    simp [part, sizeOf, typeInfo, hi, h1, hv]
  rw [show (10000 : Nat) = 9999 + 1 from rfl, run_equalIn_array w 9999 _ _ hu hi, hc]
  simp only [show List.range 2 = [0, 1] from rfl, Op.eqItems, Sem.run_bind, Nat.zero_mul, Nat.one_mul]
  rw [hp _ 0 (.int .i64 t) rfl]
  simp only [Result.andThen_ok]
  rw [hp _ 0 (.int .i64 t') rfl]
  simp only [Result.andThen_ok, he]
  cases t == t'
  · simp
  · simp only [Bool.not_true, Bool.false_eq_true, if_false, Sem.run_bind]
    rw [hp _ 1 (.int .i64 c) rfl]
    simp only [Result.andThen_ok]
    rw [hp _ 1 (.int .i64 c') rfl]
    simp only [Result.andThen_ok, he]
    cases c == c' <;> simp

set_option maxRecDepth 100000 in
set_option maxHeartbeats 4000000 in
theorem fault_any (w : World) (c t : Int) : Calls Try.prog 18 #[.int .i64 c, .int .i64 t] w fun e w' => e = .returned (.agg #[.int .i64 c, .int .i64 t]) ∧ Below w.heap.size w w' := by
  have HQ := hide (new_block w (.cells #[.int .i64 0, .int .i64 0] 28))
  have HX := hide ((Below.refl w.heap.size w).alloc (Nat.le_refl _) (.cells #[.int .i64 0, .int .i64 0] 28))
  obtain ⟨W0, e0⟩ : ∃ X, w.alloc (.cells #[.int .i64 0, .int .i64 0] 28) = X := ⟨_, rfl⟩
  rw [e0] at HQ HX
  have HE := hide e0
  clear e0
  go_enter Try.func18, Try.ntmps18
  go_upto_region 1 with fail
  rw [unhide HE]
  clear HE
  obtain ⟨q0, q1, f0, f1, ql⟩ := block2 (unhide HQ)
  go_wp2_with fail
  exact bodyPost_ret (v := .agg #[.int .i64 c, .int .i64 t]) (by simp [results, Try.results18, go_sem, q0, q1]) rfl ⟨rfl, below_set2 (unhide HX) (Nat.le_refl _) _ _⟩

set_option maxRecDepth 100000 in
set_option maxHeartbeats 4000000 in
theorem access_any (w : World) (tk op ob vl : Int) : Calls Try.prog 28 #[.agg #[.int .i64 tk, .int .i64 op, .int .i64 ob, .int .i64 vl]] w fun e w' => e = .returned (.bool (op == 12 || op == 13)) ∧ Below w.heap.size w w' := by
  have HX := hide ((Below.refl w.heap.size w).alloc (Nat.le_refl _) (.cells #[.int .i64 tk, .int .i64 op, .int .i64 ob, .int .i64 vl] 41))
  have HQ := hide (new_block w (.cells #[.int .i64 tk, .int .i64 op, .int .i64 ob, .int .i64 vl] 41))
  obtain ⟨W0, e0⟩ : ∃ X, w.alloc (.cells #[.int .i64 tk, .int .i64 op, .int .i64 ob, .int .i64 vl] 41) = X := ⟨_, rfl⟩
  rw [e0] at HX HQ
  have HE := hide e0
  clear e0
  obtain ⟨⟨q0, q1, q2, q3⟩, ⟨f0, f1, f2, f3⟩, ql⟩ := block4 (unhide HQ)
  by_cases c1 : op = 12
  · subst c1
    go_enter Try.func28, Try.ntmps28
    go_upto_region 1 with fail
    rw [unhide HE]
    clear HE
    go_wp2_with fail
    go_ret
    exact ⟨rfl, unhide HX⟩
  · have x1 : (op == 12) = false := by simpa using c1
    have HR : Hid ((op == 12 || op == 13) = (op == 13)) := by show _ = _; simp [x1]
    go_enter Try.func28, Try.ntmps28
    go_upto_region 1 with fail
    rw [unhide HE]
    clear HE
    go_wp2_with fail
    go_ret
    exact ⟨by rw [unhide HR]; rfl, unhide HX⟩

def rL : List Ev := [⟨1, 13, 0, 0⟩, ⟨2, 13, 0, 0⟩]
def rB : Obj := .cells #[.int .i64 1, .int .i64 13, .int .i64 0, .int .i64 0, .int .i64 2, .int .i64 13, .int .i64 0, .int .i64 0] 41 (0, 0)
theorem rL_is {w : World} {b : Nat} (h : w.heap[b]? = some rB) : IsL KE w (.slice (some ⟨b, 0, none⟩) 2 2) rL := by
  refine Lies.isl ke (fun j i u hj hu => ?_) rfl (Nat.le_refl _)
  have hj4 : j < 2 := hj
  have hi4 : i < 4 := by have := (List.getElem?_eq_some_iff.1 hu).1; simpa [KE] using this
  unfold rB at h
  simp only [World.cell?, h]
  rw [← hu]
  have ej : j = 0 ∨ j = 1 := by omega
  have ei : i = 0 ∨ i = 1 ∨ i = 2 ∨ i = 3 := by omega
  rcases ej with rfl | rfl <;> rcases ei with rfl | rfl | rfl | rfl <;> rfl
theorem rL_good : GoodT [] rL := good_of (by decide)
theorem rL_pairs : pairsL [] rL 2 = [(0, 1)] := by decide

set_option maxRecDepth 100000 in
set_option maxHeartbeats 4000000 in
theorem raceBegun_any (w : World) : Calls Try.prog 22 #[] w fun e w' => e = .returned (.bool true) ∧ Below w.heap.size w w' := by
  have HX1 := hide ((Below.refl w.heap.size w).alloc (Nat.le_refl _) rB)
  have HZ1 := hide (rL_is (new_block w rB))
  have HE := hide (show w.alloc (.cells #[.int .i64 1, .int .i64 13, .int .i64 0, .int .i64 0, .int .i64 2, .int .i64 13, .int .i64 0, .int .i64 0] 41 (0, 0)) = w.alloc rB from rfl)
  have HAL := hide (all_good (w.alloc rB) (some ⟨w.heap.size, 0, none⟩) 2 2 none 0 0 rL [] (unhide HZ1) (isl_nil _) rL_good)
  have x1 : ∀ w, (Op.equalIn 10000 55 (.agg #[.int .i64 0, .int .i64 1]) (.agg #[.int .i64 0, .int .i64 1])).run Try.prog w = .ok true w := fun w => by rw [arr2_eq]; simp
  obtain ⟨W1, e1⟩ : ∃ X, w.alloc rB = X := ⟨_, rfl⟩
  rw [e1] at HX1 HE HAL
  clear HZ1 e1
  go_enter Try.func22, Try.ntmps22
  go_upto_region 2 with (rw [unhide HE]; go_at_call 23; (with_reducible refine Calls.mono (unhide HAL) ?_); rintro e w3 ⟨h3, hb3⟩; unfold AllIs at h3; rw [show rL.length = 2 from rfl, rL_pairs, if_neg (by decide)] at h3; obtain ⟨a, c, rfl, hi3⟩ := h3; have HX3 := hide (Below.next (unhide HX1) hb3 (Nat.le_refl _)); have HI3 := hide hi3; clear hb3 hi3)
  have HX4 := hide ((unhide HX3).alloc (unhide HX3).size (.cells #[.int .i64 0, .int .i64 0] 28 (0, 0))); have HF4 := hide (new_block w3 (.cells #[.int .i64 0, .int .i64 0] 28 (0, 0))); have HI4 := hide ((unhide HI3).below ((Below.refl _ _).alloc (Nat.le_refl _) (.cells #[.int .i64 0, .int .i64 0] 28 (0, 0))))
  obtain ⟨W4, e4⟩ : ∃ X, w3.alloc (.cells #[.int .i64 0, .int .i64 0] 28 (0, 0)) = X := ⟨_, rfl⟩
  rw [e4] at HX4 HF4 HI4 ⊢
  clear e4
  obtain ⟨q0, q1, f0, f1, ql⟩ := block2 (unhide HF4)
  obtain ⟨pb, po, epb, hpb, hpl⟩ := (unhide HI4).opens kp rfl (by decide)
  subst epb
  have p0 := hpl 0 0 (.int .i64 0) (by decide) rfl
  have p1 := hpl 0 1 (.int .i64 1) (by decide) rfl
  simp only [Nat.zero_mul, Nat.add_zero] at p0 p1
  go_wp2_with fail
  go_ret
  exact ⟨rfl, unhide HX4⟩
end Go.Proofs.Ytbnmeeabpjmcoaa
