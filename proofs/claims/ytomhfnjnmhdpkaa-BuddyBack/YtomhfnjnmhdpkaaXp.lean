/-
  taskmillref.IsPower.
-/
import Derived.Test.YtomhfnjnmhdpkaaMb
import Derived.Test.YtomhfnjnmhdpkaaS
namespace Go.Proofs.Ytomhfnjnmhdpkaa
open Go.RowKit

theorem pow_mono {i j : Nat} (h : i ≤ j) : (2 : Int) ^ i ≤ (2 : Int) ^ j := by
  have : 2 ^ i ≤ 2 ^ j := Nat.pow_le_pow_right (by decide) h
  have h3 : ((2 ^ i : Nat) : Int) ≤ ((2 ^ j : Nat) : Int) := Int.ofNat_le.2 this
  simpa using h3
def meas (v : Value) : Nat := if 0 < intOf v then (9223372036854775808 - intOf v).toNat else 0
theorem meas_pos {x : Int} (h : 0 < x) : meas (.int .i64 x) = (9223372036854775808 - x).toNat := if_pos h
theorem meas_neg {x : Int} (h : ¬ 0 < x) : meas (.int .i64 x) = 0 := if_neg h
theorem p62 : ((2 : Nat) : Int) ^ 62 = 4611686018427387904 := by decide +kernel
theorem p61 : ((2 : Nat) : Int) ^ 61 = 2305843009213693952 := by decide +kernel

set_option maxRecDepth 100000 in
set_option maxHeartbeats 4000000 in
theorem isPower_any (w : World) (n : Int) :
    Calls Try.prog 30 #[.int .i64 n] w fun e w' => e = .returned (.bool (pw n)) ∧ w' = w := by
  go_enter Try.func30, Try.ntmps30
  go_wp2
  go_loopw [3] (fun s wr => ∃ (j : Nat) (x : Int), s = .int .i64 x ∧ j ≤ 63 ∧ Hid ((j < 63 ∧ x = (2 : Int) ^ j) ∨ (j = 63 ∧ x = -9223372036854775808)) ∧ Hid (∀ i, i < j → ¬ n = (2 : Int) ^ i) ∧ Hid (wr = w)) (fun s _ => meas s)
  case atStart => exact ⟨0, 1, rfl, by omega, hide (Or.inl ⟨by omega, rfl⟩), hide (fun i hi => absurd hi (Nat.not_lt_zero _)), hide rfl⟩
  case round =>
    obtain ⟨j, x, rfl, hj, HJ, HN, HW⟩ := hrel
    rcases unhide HJ with ⟨hj2, hx⟩ | ⟨hj2, hx⟩
    · have hx1 : 1 ≤ x := by rw [hx]; have : (0 : Int) < 2 ^ j := Int.pow_pos (by decide); omega
      have hx2 : x ≤ 4611686018427387904 := by
        rw [hx]
        have := pow_mono (show j ≤ 62 by omega)
        have h62 := p62
        exact Int.le_trans this (Int.le_of_eq h62)
      have hx0 : 0 < x := by omega
      have HXJ := hide hx
      clear hx HJ
      by_cases he : x = n
      · have hb : (x == n) = true := by simpa using he
        have HPN : Hid (pw n = true) := (pw_iff n).2 ⟨j, hj2, by rw [← he]; exact unhide HXJ⟩
        go_wp2_with fail
        go_ret
        exact ⟨by rw [unhide HPN] <;> rfl, unhide HW⟩
      · have hb : (x == n) = false := by simpa using he
        have HN2 : Hid (∀ i, i < j + 1 → ¬ n = (2 : Int) ^ i) := fun i hi => by
          rcases Nat.lt_or_eq_of_le (Nat.le_of_lt_succ hi) with h | h
          · exact unhide HN i h
          · rw [h, ← unhide HXJ]; exact fun h => he h.symm
        by_cases h62 : j = 62
        · have hx3 : x = 4611686018427387904 := by rw [unhide HXJ, h62]; exact p62
          obtain ⟨M, hM⟩ : ∃ M : Int, M = -9223372036854775808 := ⟨_, rfl⟩
          have hw : IntKind.i64.wrap (x * 2) = M := by rw [hx3, hM]; rfl
          have HM := hide hM
          clear hx3 hM
          go_wp2_with fail
          go_roundw
          case rel => exact ⟨j + 1, M, by go_num, by omega, hide (Or.inr ⟨by omega, unhide HM⟩), HN2, HW⟩
          case measure =>
            have h1 := unhide HM
            show meas (.int .i64 M) < meas (.int .i64 x)
            rw [meas_neg (by omega), meas_pos hx0]
            omega
        · have hx4 : x ≤ 2305843009213693952 := by
            rw [unhide HXJ]
            exact Int.le_trans (pow_mono (show j ≤ 61 by omega)) (Int.le_of_eq p61)
          have hw : IntKind.i64.wrap (x * 2) = x * 2 := wrapi (by omega) (by omega)
          have HJ2 : Hid ((j + 1 < 63 ∧ x * 2 = (2 : Int) ^ (j + 1)) ∨ (j + 1 = 63 ∧ x * 2 = -9223372036854775808)) := Or.inl ⟨by omega, by rw [unhide HXJ, Int.pow_succ]⟩
          go_wp2_with fail
          go_roundw
          case rel => exact ⟨j + 1, x * 2, by go_num, by omega, HJ2, HN2, HW⟩
          case measure =>
            show meas (.int .i64 (x * 2)) < meas (.int .i64 x)
            rw [meas_pos (by omega), meas_pos hx0]
            omega
    · have hx0 : ¬ 0 < x := by omega
      have HPN : Hid (pw n = false) := by
        cases e : pw n with
        | false => exact rfl
        | true =>
          obtain ⟨i, hi, hn⟩ := (pw_iff n).1 e
          exact absurd hn (unhide HN i (by omega))
      clear hx HJ
      go_wp2_with fail
      go_ret
      exact ⟨by rw [unhide HPN] <;> rfl, unhide HW⟩

end Go.Proofs.Ytomhfnjnmhdpkaa
