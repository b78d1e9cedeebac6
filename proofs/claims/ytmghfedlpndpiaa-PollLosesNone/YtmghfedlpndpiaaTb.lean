/-
  taskmillref.Ints.
-/
import Derived.Test.YtmghfedlpndpiaaTa
namespace Go.Proofs.Ytmghfedlpndpiaa
open Go.RowKit

set_option maxRecDepth 100000 in
set_option maxHeartbeats 1000000 in
theorem ints_same (w : World) (v v' : Value) (xs : List Int) (h : IsL KI w v xs) (h' : IsL KI w v' xs) (hn : xs.length ≤ maxLen) :
    Calls Try.prog 17 #[v, v'] w fun e w' => e = .returned (.bool true) ∧ Below w.heap.size w w' := by
  obtain ⟨a0, c0, rfl⟩ := h.form
  obtain ⟨a1, c1, rfl⟩ := h'.form
  have H0 := hide (h.opens ki rfl); have H1 := hide (h'.opens ki rfl)
  obtain ⟨n, en⟩ : ∃ n, xs.length = n := ⟨_, rfl⟩
  rw [en] at H0 H1 hn ⊢
  have HN := hide en
  unfold maxLen at hn
  clear h h' en
  go_enter Try.func17, Try.ntmps17
  go_wp2
  go_loopw [5] (fun i wr => ∃ j : Nat, j ≤ n ∧ i = .int .i64 j ∧ Below w.heap.size w wr) (fun i _ => n - (intOf i).toNat)
  case atStart => exact ⟨0, Nat.zero_le _, rfl, Below.refl _ _⟩
  case round =>
    obtain ⟨j, hj, rfl, hnx⟩ := hrel
    by_cases hlt : j < n
    · obtain ⟨b0, o0, rfl, hb0, l0⟩ := unhide H0 (by omega)
      obtain ⟨b1, o1, rfl, hb1, l1⟩ := unhide H1 (by omega)
      have k0 := (l0.below hnx hb0).ints (j := j) (by rw [unhide HN]; exact hlt)
      have k1 := (l1.below hnx hb1).ints (j := j) (by rw [unhide HN]; exact hlt)
      obtain ⟨x, hx⟩ : ∃ x, xs.getD j 0 = x := ⟨_, rfl⟩
      rw [hx] at k0 k1
      have i0 : (0 : Int) ≤ (j : Int) := by omega
      have i1 : (j : Int) < (n : Int) := by omega
      have x1 : (x == x) = true := by simp
      have HX := hide hnx
      clear hnx hx H0 H1 l0 l1
      go_wp2
      go_quiet (fail)
      go_wp2
      go_roundw
      case rel => exact ⟨j + 1, by omega, by go_num, below_drewN (unhide HX) _⟩
      case measure => simp [intOf]; omega
    · have HX := hide hnx
      clear hnx
      go_wp2
      go_ret
      exact ⟨rfl, unhide HX⟩

end Go.Proofs.Ytmghfedlpndpiaa
