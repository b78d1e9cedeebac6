/-
  taskmillref.Done, taskmilllaw.sameOps, taskmillref.Ran, by their contracts.
-/
import Derived.Test.YtpgokeogijpmaaaDoorRead
namespace Go.Proofs.YtpgokeogijpmaaaDoor
open Go.RowKit
attribute [local go_sem ↓] Go.wp_at_zero Go.wp_at_succ

set_option maxRecDepth 100000 in
set_option maxHeartbeats 1000000 in
theorem refDone (w : World) (c k p a b : Int) (hk : 1 ≤ k ∧ k ≤ 5) :
    Calls Tryd.prog 32 #[.int .i64 c, .agg #[.int .i64 k, .int .i64 p, .int .i64 a, .int .i64 b]] w fun e w' => e = .returned (.tuple #[.int .i64 (thenOf c k a b), .int .i64 (toldOf c k a)]) ∧ Below w.heap.size w w' := by
  have h : k = 1 ∨ k = 2 ∨ k = 3 ∨ k = 4 ∨ k = 5 := by omega
  rcases h with rfl | rfl | rfl | rfl | rfl
  · go_enter Tryd.func32, Tryd.ntmps32
    go_wp2
    go_ret2
    exact ⟨rfl, (Below.refl _ _).alloc (Nat.le_refl _) _⟩
  · go_enter Tryd.func32, Tryd.ntmps32
    go_wp2
    go_ret2
    exact ⟨rfl, (Below.refl _ _).alloc (Nat.le_refl _) _⟩
  · go_enter Tryd.func32, Tryd.ntmps32
    go_wp2
    go_quiet (fail)
    go_wp2
    go_ret2
    exact ⟨rfl, below_drewN ((Below.refl _ _).alloc (Nat.le_refl _) _) _⟩
  · go_enter Tryd.func32, Tryd.ntmps32
    go_wp2
    go_ret2
    exact ⟨rfl, (Below.refl _ _).alloc (Nat.le_refl _) _⟩
  · by_cases h : c = a
    · subst h
      go_enter Tryd.func32, Tryd.ntmps32
      go_wp2
      all_goals go_ret2
      all_goals exact ⟨ret_pair (by simp [thenOf]) (by simp [toldOf]), (Below.refl _ _).alloc (Nat.le_refl _) _⟩
    · go_enter Tryd.func32, Tryd.ntmps32
      go_wp2
      all_goals go_ret2
      all_goals exact ⟨ret_pair (by simp [thenOf, h]) (by simp [toldOf, h]), (Below.refl _ _).alloc (Nat.le_refl _) _⟩

set_option maxRecDepth 100000 in
set_option maxHeartbeats 1000000 in
theorem same_zero (w : World) (a0 a1 : Option Addr) (c0 c1 : Nat) :
    Calls Tryd.prog 16 #[.slice a0 0 c0, .slice a1 0 c1] w fun e w' => e = .returned (.bool true) ∧ Below w.heap.size w w' := by
  go_enter Tryd.func16, Tryd.ntmps16
  go_wp2
  go_loopw [5] (fun i wr => i = .int .i64 0 ∧ wr = w) (fun i _ => 0)
  case atStart => exact ⟨rfl, rfl⟩
  case round =>
    obtain ⟨rfl, rfl⟩ := hrel
    go_wp2
    go_ret
    exact ⟨rfl, Below.refl _ _⟩

set_option maxRecDepth 100000 in
set_option maxHeartbeats 1000000 in
theorem same_some (w : World) (n b0 o0 c0 b1 o1 c1 : Nat) (hn : n ≤ maxLen) (K P A B : Nat → Int) (hb0 : b0 < w.heap.size) (hb1 : b1 < w.heap.size)
    (hK : ∀ j, j < n → w.cell? ⟨b0, o0 + j * 4, none⟩ = some (.int .i64 (K j))) (hP : ∀ j, j < n → w.cell? ⟨b0, o0 + j * 4 + 1, none⟩ = some (.int .i64 (P j)))
    (hA : ∀ j, j < n → w.cell? ⟨b0, o0 + j * 4 + 2, none⟩ = some (.int .i64 (A j))) (hB : ∀ j, j < n → w.cell? ⟨b0, o0 + j * 4 + 3, none⟩ = some (.int .i64 (B j)))
    (hK' : ∀ j, j < n → w.cell? ⟨b1, o1 + j * 4, none⟩ = some (.int .i64 (K j))) (hP' : ∀ j, j < n → w.cell? ⟨b1, o1 + j * 4 + 1, none⟩ = some (.int .i64 (P j)))
    (hA' : ∀ j, j < n → w.cell? ⟨b1, o1 + j * 4 + 2, none⟩ = some (.int .i64 (A j))) (hB' : ∀ j, j < n → w.cell? ⟨b1, o1 + j * 4 + 3, none⟩ = some (.int .i64 (B j))) :
    Calls Tryd.prog 16 #[.slice (some ⟨b0, o0, none⟩) n c0, .slice (some ⟨b1, o1, none⟩) n c1] w fun e w' => e = .returned (.bool true) ∧ Below w.heap.size w w' := by
  unfold maxLen at hn
  have HK := hide hK; have HP := hide hP; have HA := hide hA; have HB := hide hB; have HK' := hide hK'; have HP' := hide hP'; have HA' := hide hA'; have HB' := hide hB'
  clear hK hP hA hB hK' hP' hA' hB'
  go_enter Tryd.func16, Tryd.ntmps16
  go_wp2
  go_loopw [5] (fun i wr => ∃ j : Nat, j ≤ n ∧ i = .int .i64 j ∧ Below w.heap.size w wr) (fun i _ => n - (intOf i).toNat)
  case atStart => exact ⟨0, Nat.zero_le _, rfl, Below.refl _ _⟩
  case round =>
    obtain ⟨j, hj, rfl, hnx⟩ := hrel
    by_cases hlt : j < n
    · have k0 := (hnx.cell (p := ⟨b0, o0 + j * 4, none⟩) hb0).trans (unhide HK j hlt)
      have k1 := (hnx.cell (p := ⟨b0, o0 + j * 4 + 1, none⟩) hb0).trans (unhide HP j hlt)
      have k2 := (hnx.cell (p := ⟨b0, o0 + j * 4 + 2, none⟩) hb0).trans (unhide HA j hlt)
      have k3 := (hnx.cell (p := ⟨b0, o0 + j * 4 + 3, none⟩) hb0).trans (unhide HB j hlt)
      have l0 := (hnx.cell (p := ⟨b1, o1 + j * 4, none⟩) hb1).trans (unhide HK' j hlt)
      have l1 := (hnx.cell (p := ⟨b1, o1 + j * 4 + 1, none⟩) hb1).trans (unhide HP' j hlt)
      have l2 := (hnx.cell (p := ⟨b1, o1 + j * 4 + 2, none⟩) hb1).trans (unhide HA' j hlt)
      have l3 := (hnx.cell (p := ⟨b1, o1 + j * 4 + 3, none⟩) hb1).trans (unhide HB' j hlt)
      have i0 : (0 : Int) ≤ (j : Int) := by omega
      have i1 : (j : Int) < (n : Int) := by omega
      have HX := hide hnx
      clear hnx
      go_wp2
      go_quiet (fail)
      go_wp2
      go_roundw
      case rel => exact ⟨j + 1, by omega, by go_num, below_drewN (unhide HX) _⟩
      case measure => simp [intOf]; omega
    · have HX := hide hnx
      clear hnx
      go_wp2
      go_ret
      exact ⟨rfl, unhide HX⟩

theorem same_ops (w : World) (v v' : Value) (os : List Op4) (h : IsOps w v os) (h' : IsOps w v' os) (hn : os.length ≤ maxLen) :
    Calls Tryd.prog 16 #[v, v'] w fun e w' => e = .returned (.bool true) ∧ Below w.heap.size w w' := by
  by_cases h0 : 0 < os.length
  · obtain ⟨b, off, c, rfl, hb, hK, hP, hA, hB⟩ := h.at h0
    obtain ⟨b', off', c', rfl, hb', hK', hP', hA', hB'⟩ := h'.at h0
    exact same_some w os.length b off c b' off' c' hn _ _ _ _ hb hb' hK hP hA hB hK' hP' hA' hB'
  · obtain ⟨a0, c0, rfl⟩ := Rd.form h
    obtain ⟨a1, c1, rfl⟩ := Rd.form h'
    have e0 : os.length = 0 := by omega
    rw [e0]
    exact same_zero w a0 a1 c0 c1
end Go.Proofs.YtpgokeogijpmaaaDoor
