/-
  taskmillref.SameClock, SameOff.
-/
import Derived.Test.YtidpmcanfedbdaaSa
import Derived.ChangeKeysEq
namespace Go.Proofs.Ytidpmcanfedbdaa
open Go.RowKit

theorem arr_eq (w : World) (t c t' c' : Int) : (Op.equalIn 10000 52 (.agg #[.int .i64 t, .int .i64 c]) (.agg #[.int .i64 t', .int .i64 c'])).run Try.prog w = .ok (t == t' && c == c') w := by
  obtain ⟨i0, hi, h0, h1, h2⟩ := info_parts Try.info3
  have hu : Try.prog.underlying 52 = some (.array 2 3) := by kernel_rfl
  have hc : Try.prog.cellsOf 3 = 1 := by kernel_rfl
  have hd : ∀ (d : Nat) (a b : Int), (Op.equalIn (d + 1) 3 (.int .i64 a) (.int .i64 b)).run Try.prog w = .ok (a == b) w := fun d a b => by
    simp [Op.equalIn, run_underlying Try.underlying3]
  have he : ∀ a b : Int, (Op.equalIn 9999 3 (.int .i64 a) (.int .i64 b)).run Try.prog w = .ok (a == b) w := fun a b => hd 9998 a b
  have hp : ∀ (xs : Array Value) (j : Nat) (v : Value), xs[j]? = some v → (part 3 xs j).run Try.prog w = .ok v w := fun xs j v hv => by
    simp [part, sizeOf, typeInfo, hi, h1, hv]
  rw [show (10000 : Nat) = 9999 + 1 from rfl, run_equalIn_array w 9999 _ _ hu hi, hc]
  simp only [show List.range 2 = [0, 1] from rfl, Op.eqItems, Sem.run_bind, Nat.zero_mul, Nat.one_mul]
  rw [hp _ 0 (.int .i64 t) rfl]
  simp only [Result.andThen_ok]
  rw [hp _ 0 (.int .i64 t') rfl]
  simp only [Result.andThen_ok, he]
  cases t == t'
  · simp
  · simp only [Bool.not_true, Bool.false_eq_true, if_false, Sem.run_bind]
    rw [hp _ 1 (.int .i64 c) rfl]
    simp only [Result.andThen_ok]
    rw [hp _ 1 (.int .i64 c') rfl]
    simp only [Result.andThen_ok, he]
    cases c == c' <;> simp

set_option maxRecDepth 100000 in
set_option maxHeartbeats 2000000 in
theorem sameOff_same (w : World) (v v' : Value) (xs : List (Int × Int)) (h : IsL KO w v xs) (h' : IsL KO w v' xs) (hn : xs.length ≤ 100000) :
    Calls Try.prog 22 #[v, v'] w fun e w' => e = .returned (.bool true) ∧ Below w.heap.size w w' := by
  obtain ⟨a0, c0, rfl⟩ := h.form
  obtain ⟨a1, c1, rfl⟩ := h'.form
  have H0 := hide (h.opens ko rfl); have H1 := hide (h'.opens ko rfl)
  obtain ⟨n, en⟩ : ∃ n, xs.length = n := ⟨_, rfl⟩
  rw [en] at H0 H1 hn ⊢
  have HN := hide en
  clear h h' en
  go_enter Try.func22, Try.ntmps22
  go_wp2
  go_loopw [5] (fun i wr => ∃ j : Nat, j ≤ n ∧ i = .int .i64 j ∧ Below w.heap.size w wr) (fun i _ => n - (intOf i).toNat)
  case atStart => exact ⟨0, Nat.zero_le _, rfl, Below.refl _ _⟩
  case round =>
    obtain ⟨j, hj, rfl, hnx⟩ := hrel
    by_cases hlt : j < n
    · obtain ⟨b0, o0, rfl, hb0, l0⟩ := unhide H0 (by omega)
      obtain ⟨b1, o1, rfl, hb1, l1⟩ := unhide H1 (by omega)
      obtain ⟨⟨t, c⟩, hx⟩ : ∃ x, xs.getD j (0, 0) = x := ⟨_, rfl⟩
      obtain ⟨k0, k1⟩ := (l0.below hnx hb0).off (j := j) (by rw [unhide HN]; exact hlt) hx
      obtain ⟨q0, q1⟩ := (l1.below hnx hb1).off (j := j) (by rw [unhide HN]; exact hlt) hx
      have i0 : (0 : Int) ≤ (j : Int) := by omega
      have i1 : (j : Int) < (n : Int) := by omega
      have x1 : ∀ w, (Op.equalIn 10000 52 (.agg #[.int .i64 t, .int .i64 c]) (.agg #[.int .i64 t, .int .i64 c])).run Try.prog w = .ok true w := fun w => by rw [arr_eq]; simp
      have HX := hide hnx
      clear hnx hx H0 H1 l0 l1
      go_wp2
      go_quiet (fail)
      go_wp2
      go_roundw
      case rel => exact ⟨j + 1, by omega, by go_num, below_drewN (unhide HX) _⟩
      case measure => simp [intOf]; omega
    · have HX := hide hnx
      clear hnx
      go_wp2
      go_ret
      exact ⟨rfl, unhide HX⟩

set_option maxRecDepth 100000 in
set_option maxHeartbeats 2000000 in
theorem sameClock_same (w : World) (v v' : Value) (now next : Int) (xs : List Al) (h : IsC w v now next xs) (h' : IsC w v' now next xs) (hn : xs.length ≤ 100000) :
    Calls Try.prog 16 #[v, v'] w fun e w' => e = .returned (.bool true) ∧ Below w.heap.size w w' := by
  obtain ⟨a0, c0, rfl, hL⟩ := h.form
  obtain ⟨a1, c1, rfl, hM⟩ := h'.form
  have H0 := hide (hL.opens ka rfl); have H1 := hide (hM.opens ka rfl)
  obtain ⟨n, en⟩ : ∃ n, xs.length = n := ⟨_, rfl⟩
  rw [en] at H0 H1 hn ⊢
  have HN := hide en
  have x5 : (now == now) = true := by simp
  have x6 : (next == next) = true := by simp
  clear h h' en hL hM
  obtain ⟨W0, e0, hB, k0, k1⟩ := two_new w (.cells #[.int .i64 now, .int .i64 next, .slice a0 n c0] 24) (.cells #[.int .i64 now, .int .i64 next, .slice a1 n c1] 24)
  have HX := hide hB; have HP := hide k0; have HQ := hide k1; have HE := hide e0
  clear hB k0 k1 e0
  go_enter Try.func16, Try.ntmps16
  go_upto_region 1 with fail
  rw [unhide HE]
  clear HE
  obtain ⟨⟨p0, p1, p2⟩, -, pl⟩ := block3 (unhide HP)
  obtain ⟨⟨q0, q1, q2⟩, -, ql⟩ := block3 (unhide HQ)
  go_wp2_with fail
  go_loopw [5] (fun i wr => ∃ j : Nat, j ≤ n ∧ i = .int .i64 j ∧ Below W0.heap.size W0 wr) (fun i _ => n - (intOf i).toNat)
  case atStart => exact ⟨0, Nat.zero_le _, rfl, Below.refl _ _⟩
  case round =>
    obtain ⟨j, hj, rfl, hnx⟩ := hrel
    have HX2 := hide hnx
    have HP2 := hide (keep_below (unhide HP) hnx); have HQ2 := hide (keep_below (unhide HQ) hnx)
    have HXA := hide (Below.next (unhide HX) hnx (Nat.le_refl _))
    clear hnx p0 p1 p2 pl q0 q1 q2 ql
    obtain ⟨⟨p0, p1, p2⟩, -, pl⟩ := block3 (unhide HP2)
    obtain ⟨⟨q0, q1, q2⟩, -, ql⟩ := block3 (unhide HQ2)
    by_cases hlt : j < n
    · obtain ⟨b0, o0, rfl, hb0, l0⟩ := unhide H0 (by omega)
      obtain ⟨b1, o1, rfl, hb1, l1⟩ := unhide H1 (by omega)
      obtain ⟨⟨t, c, u, y⟩, hx⟩ : ∃ x, xs.getD j (0, 0, 0, 0) = x := ⟨_, rfl⟩
      obtain ⟨k0, k1, k2, k3⟩ := (l0.below (unhide HXA) hb0).alarm (j := j) (by rw [unhide HN]; exact hlt) hx
      obtain ⟨m0, m1, m2, m3⟩ := (l1.below (unhide HXA) hb1).alarm (j := j) (by rw [unhide HN]; exact hlt) hx
      have i0 : (0 : Int) ≤ (j : Int) := by omega
      have i1 : (j : Int) < (n : Int) := by omega
      have x1 : (t == t) = true := by simp
      have x2 : (c == c) = true := by simp
      have x3 : (u == u) = true := by simp
      have x4 : (y == y) = true := by simp
      clear hx H0 H1 l0 l1
      go_wp2_with fail
      go_quiet (fail)
      go_wp2_with fail
      go_roundw
      case rel => exact ⟨j + 1, by omega, by go_num, below_drewN (unhide HX2) _⟩
      case measure => simp [intOf]; omega
    · have i1 : ¬ (j : Int) < (n : Int) := by omega
      go_wp2_with fail
      go_ret
      exact ⟨rfl, unhide HXA⟩

end Go.Proofs.Ytidpmcanfedbdaa
