/-
  taskmillref.InLine.
-/
import Derived.Test.YtpogcfdmkeebmaaQ
import Derived.Test.YtpogcfdmkeebmaaT
namespace Go.Proofs.Ytpogcfdmkeebmaa
open Go.RowKit

theorem isl_take {w : World} {b off n c : Nat} {xs : List Po} (h : Lies KP w b off xs) (hl : xs.length = n) (hc : n ≤ c) {j : Nat} (hj : j ≤ n) : IsL KP w (.slice (some ⟨b, off, none⟩) j c) (xs.take j) := by
  refine Lies.isl kp (fun i k u hi hu => ?_) (by rw [List.length_take]; omega) (by omega)
  rw [List.length_take] at hi
  refine h i k u (by omega) ?_
  rw [← hu]
  congr 2
  rw [List.getD_eq_getElem?_getD, List.getD_eq_getElem?_getD, List.getElem?_take_of_lt (by omega)]

set_option maxRecDepth 100000 in
set_option maxHeartbeats 1000000 in
theorem inLine_any (w : World) (v : Value) (xs : List Po) (x : Int) (h : IsL KP w v xs) (hn : xs.length ≤ maxLen) :
    Calls Try.prog 28 #[v, .int .i64 x] w fun e w' => ∃ j : Int, e = .returned (.int .i64 j) ∧ (0 ≤ j ↔ xs.any (isOfP x) = true) ∧ w' = w := by
  obtain ⟨a0, c0, rfl⟩ := h.form
  have H0 := hide (h.opens kp rfl)
  have HA := hide (any_pAt xs (isOfP x))
  obtain ⟨n, en⟩ : ∃ n, xs.length = n := ⟨_, rfl⟩
  rw [en] at H0 HA hn ⊢
  have HN := hide en
  unfold maxLen at hn
  clear h en
  go_enter Try.func28, Try.ntmps28
  go_wp2
  go_loopw [5] (fun i wr => ∃ j : Nat, j ≤ n ∧ i = .int .i64 j ∧ wr = w ∧ ∀ i, i < j → (pAt xs i).1 ≠ x) (fun i _ => n - (intOf i).toNat)
  case atStart => exact ⟨0, Nat.zero_le _, rfl, rfl, fun i hi => by omega⟩
  case round =>
    obtain ⟨j, hj, rfl, rfl, hne⟩ := hrel
    have HNE := hide hne
    clear hne
    by_cases hlt : j < n
    · obtain ⟨b0, o0, rfl, hb0, l0⟩ := unhide H0 (by omega)
      obtain ⟨⟨t, c, u⟩, hx⟩ : ∃ y, pAt xs j = y := ⟨_, rfl⟩
      obtain ⟨k0, k1, k2⟩ := l0.post (j := j) (by rw [unhide HN]; exact hlt) hx
      have HZ : Hid ((pAt xs j).1 = t) := congrArg Prod.fst hx
      have i0 : (0 : Int) ≤ (j : Int) := by omega
      have i1 : (j : Int) < (n : Int) := by omega
      clear hx l0 H0
      by_cases hz : t = x
      · subst hz
        have hz1 : (t == t) = true := by simp
        go_wp2
        go_ret
        exact ⟨_, rfl, iff_of_true (by omega) ((unhide HA).2 ⟨j, hlt, by unfold isOfP; rw [unhide HZ]; simp⟩), rfl⟩
      · have hz1 : (t == x) = false := by simpa using hz
        go_wp2
        go_roundw
        case rel => exact ⟨j + 1, by omega, by go_num, by first | rfl | trivial, fun i hi => by
          by_cases e : i = j
          · subst e; rw [unhide HZ]; exact hz
          · exact unhide HNE i (by omega)⟩
        case measure => simp [intOf]; omega
    · go_wp2
      go_ret
      refine ⟨_, rfl, iff_of_false (by decide) (fun hq => ?_), rfl⟩
      obtain ⟨i, hi, he⟩ := (unhide HA).1 hq
      exact absurd (by simpa [isOfP] using he) (unhide HNE i (by omega))
end Go.Proofs.Ytpogcfdmkeebmaa
