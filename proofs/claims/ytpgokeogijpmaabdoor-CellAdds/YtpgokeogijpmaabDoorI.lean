/-
  taskmillref.OpsFault for whatever comes in; taskmillref.Ints of two lists that read alike.
-/
import Derived.Test.YtpgokeogijpmaabDoorH
namespace Go.Proofs.YtpgokeogijpmaabDoor
open Go.RowKit

set_option maxRecDepth 100000 in
set_option maxHeartbeats 1000000 in
theorem ints_zero (w : World) (a0 a1 : Option Addr) (c0 c1 : Nat) :
    Calls Tryd.prog 7 #[.slice a0 0 c0, .slice a1 0 c1] w fun e w' => e = .returned (.bool true) ∧ Below w.heap.size w w' := by
  go_enter Tryd.func7, Tryd.ntmps7
  go_wp2
  go_loopw [5] (fun i wr => i = .int .i64 0 ∧ wr = w) (fun i _ => 0)
  case atStart => exact ⟨rfl, rfl⟩
  case round =>
    obtain ⟨rfl, rfl⟩ := hrel
    go_wp2
    go_ret
    exact ⟨rfl, Below.refl _ _⟩

set_option maxRecDepth 100000 in
set_option maxHeartbeats 1000000 in
theorem ints_some (w : World) (n b0 o0 c0 b1 o1 c1 : Nat) (hn : n ≤ maxLen) (Z : Nat → Int) (hb0 : b0 < w.heap.size) (hb1 : b1 < w.heap.size)
    (h0 : ∀ j, j < n → w.cell? ⟨b0, o0 + j, none⟩ = some (.int .i64 (Z j))) (h1 : ∀ j, j < n → w.cell? ⟨b1, o1 + j, none⟩ = some (.int .i64 (Z j))) :
    Calls Tryd.prog 7 #[.slice (some ⟨b0, o0, none⟩) n c0, .slice (some ⟨b1, o1, none⟩) n c1] w fun e w' => e = .returned (.bool true) ∧ Below w.heap.size w w' := by
  unfold maxLen at hn
  have H0 := hide h0; have H1 := hide h1
  clear h0 h1
  go_enter Tryd.func7, Tryd.ntmps7
  go_wp2
  go_loopw [5] (fun i wr => ∃ j : Nat, j ≤ n ∧ i = .int .i64 j ∧ Below w.heap.size w wr) (fun i _ => n - (intOf i).toNat)
  case atStart => exact ⟨0, Nat.zero_le _, rfl, Below.refl _ _⟩
  case round =>
    obtain ⟨j, hj, rfl, hnx⟩ := hrel
    by_cases hlt : j < n
    · have k0 := (hnx.cell (p := ⟨b0, o0 + j, none⟩) hb0).trans (unhide H0 j hlt)
      have k1 := (hnx.cell (p := ⟨b1, o1 + j, none⟩) hb1).trans (unhide H1 j hlt)
      have i0 : (0 : Int) ≤ (j : Int) := by omega
      have i1 : (j : Int) < (n : Int) := by omega
      have HX := hide hnx
      clear hnx
      go_wp2
      go_quiet (fail)
      go_wp2
      go_roundw
      case rel => exact ⟨j + 1, by omega, by go_num, below_drewN (unhide HX) _⟩
      case measure => simp [intOf]; omega
    · have HX := hide hnx
      clear hnx
      go_wp2
      go_ret
      exact ⟨rfl, unhide HX⟩

theorem ints_same (w : World) (v v' : Value) (zs : List Int) (h : IsInts w v zs) (h' : IsInts w v' zs) (hn : zs.length ≤ maxLen) :
    Calls Tryd.prog 7 #[v, v'] w fun e w' => e = .returned (.bool true) ∧ Below w.heap.size w w' := by
  by_cases h0 : 0 < zs.length
  · obtain ⟨b, off, c, rfl, hb, hc⟩ := h.at h0
    obtain ⟨b', off', c', rfl, hb', hc'⟩ := h'.at h0
    exact ints_some w zs.length b off c b' off' c' hn _ hb hb' hc hc'
  · obtain ⟨a0, c0, rfl⟩ := Rd.form h
    obtain ⟨a1, c1, rfl⟩ := Rd.form h'
    have e0 : zs.length = 0 := by omega
    rw [e0]
    exact ints_zero w a0 a1 c0 c1
end Go.Proofs.YtpgokeogijpmaabDoor
