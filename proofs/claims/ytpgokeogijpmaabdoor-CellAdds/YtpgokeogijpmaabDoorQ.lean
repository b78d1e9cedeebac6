/-
  cell.checkTasks for whatever comes in; cell.countOps; cell.checkEnds.
-/
import Derived.Test.YtpgokeogijpmaabDoorP
namespace Go.Proofs.YtpgokeogijpmaabDoor
open Go.RowKit

set_option maxRecDepth 100000 in
set_option maxHeartbeats 1000000 in
theorem tasks_zero (w : World) (v0 : Value) (a1 : Option Addr) (c1 : Nat) :
    Calls Tryd.prog 19 #[v0, .slice a1 0 c1] w fun e w' => e = .returned (.agg #[.int .i64 0, .int .i64 0]) ∧ Below w.heap.size w w' := by
  go_enter Tryd.func19, Tryd.ntmps19
  go_wp2
  go_loopw [10] (fun i wr => i = .int .i64 0 ∧ wr = w.alloc (.cells #[.int .i64 0, .int .i64 0] 31)) (fun _ _ => 0)
  case atStart => exact ⟨rfl, rfl⟩
  case round =>
    obtain ⟨rfl, rfl⟩ := hrel
    go_wp2
    refine bodyPost_ret (v := .agg #[.int .i64 0, .int .i64 0]) (by simp [results, Tryd.results19, go_sem]) rfl ⟨rfl, ?_⟩
    exact (Below.refl _ _).alloc (Nat.le_refl _) _

theorem tasks_any (w : World) (a0 : Option Addr) (m c0 : Nat) (v1 : Value) (tss : List (List Op4)) (ht : IsTasks w v1 tss) (hm : m ≤ maxLen) (hn : tss.length ≤ maxLen) (hlen : ∀ j, j < tss.length → (tss.getD j []).length ≤ maxLen) :
    Calls Tryd.prog 19 #[.slice a0 m c0, v1] w fun e w' => e = .returned (faultV (tfault m tss)) ∧ Below w.heap.size w w' := by
  by_cases h0 : 0 < tss.length
  · obtain ⟨b, off, c, V, rfl, hb, hc, hops⟩ := ht.at h0
    exact tasks_some w a0 m c0 tss.length b off c V _ hn hb hc (fun j hj W hW => check_any W a0 m c0 _ _ (Rd.below (hops j hj) hW) hm (hlen j hj))
  · obtain ⟨a1, c1, rfl⟩ := ht.form
    have e0 : tss.length = 0 := by omega
    unfold tfault
    rw [e0]
    exact tasks_zero w _ a1 c1

/-- How many ops the first k tasks have. -/
def opsTo (L : Nat → Nat) : Nat → Nat
  | 0 => 0
  | k + 1 => opsTo L k + L k
def opsOf (tss : List (List Op4)) : Nat := opsTo (fun j => (tss.getD j []).length) tss.length

theorem opsTo_mono {L : Nat → Nat} {j n : Nat} (h : j ≤ n) : opsTo L j ≤ opsTo L n := by
  induction h with
  | refl => exact Nat.le_refl _
  | step _ ih => exact Nat.le_trans ih (by rw [opsTo]; omega)

set_option maxRecDepth 100000 in
set_option maxHeartbeats 1000000 in
theorem count_some (w : World) (n tb tof tc : Nat) (A : Nat → Option Addr) (L C : Nat → Nat) (hn : n ≤ maxLen) (hV : ∀ j, j < n → w.cell? ⟨tb, tof + j, none⟩ = some (.slice (A j) (L j) (C j))) (hs : opsTo L n ≤ maxLen) :
    Calls Tryd.prog 15 #[.slice (some ⟨tb, tof, none⟩) n tc] w fun e w' => e = .returned (.int .i64 (opsTo L n)) ∧ w' = w := by
  unfold maxLen at hn hs
  have HV := hide hV
  clear hV
  go_enter Tryd.func15, Tryd.ntmps15
  go_wp2
  go_loop [3, 8] (fun s i => ∃ j : Nat, j ≤ n ∧ i = .int .i64 j ∧ s = .int .i64 (opsTo L j)) (fun _ i => n - (intOf i).toNat)
  case atStart => exact ⟨0, Nat.zero_le _, rfl, rfl⟩
  case round =>
    obtain ⟨j, hj, rfl, rfl⟩ := hrel
    by_cases hlt : j < n
    · have c1 := unhide HV j hlt
      have hmono := opsTo_mono (L := L) (j := j + 1) (n := n) (by omega)
      have HE := hide (show opsTo L (j + 1) = opsTo L j + L j from rfl)
      rw [unhide HE] at hmono
      go_wp2
      go_round
      case rel => exact ⟨j + 1, by omega, by go_num, by rw [unhide HE]; go_num⟩
      case measure => simp [intOf]; omega
    · obtain rfl : j = n := by omega
      go_wp2
      go_ret
      exact ⟨rfl, rfl⟩

set_option maxRecDepth 100000 in
set_option maxHeartbeats 1000000 in
theorem count_zero (w : World) (a1 : Option Addr) (c1 : Nat) : Calls Tryd.prog 15 #[.slice a1 0 c1] w fun e w' => e = .returned (.int .i64 0) ∧ w' = w := by
  go_enter Tryd.func15, Tryd.ntmps15
  go_wp2
  go_loop [3, 8] (fun s i => i = .int .i64 0 ∧ s = .int .i64 0) (fun _ _ => 0)
  case atStart => exact ⟨rfl, rfl⟩
  case round =>
    obtain ⟨rfl, rfl⟩ := hrel
    go_wp2
    go_ret
    exact ⟨rfl, rfl⟩

theorem opsTo_congr {L L' : Nat → Nat} : ∀ n, (∀ j, j < n → L j = L' j) → opsTo L n = opsTo L' n
  | 0, _ => rfl
  | n + 1, h => by rw [opsTo, opsTo, opsTo_congr n (fun j hj => h j (by omega)), h n (by omega)]

theorem count_any (w : World) (v1 : Value) (tss : List (List Op4)) (ht : IsTasks w v1 tss) (hn : tss.length ≤ maxLen) (hs : opsOf tss ≤ maxLen) :
    Calls Tryd.prog 15 #[v1] w fun e w' => e = .returned (.int .i64 (opsOf tss)) ∧ w' = w := by
  by_cases h0 : 0 < tss.length
  · obtain ⟨b, off, c, V, rfl, hb, hc, hops⟩ := ht.at h0
    have hf : ∀ j, ∃ (a : Option Addr) (x : Nat), j < tss.length → V j = .slice a (tss.getD j []).length x := fun j => by
      by_cases hj : j < tss.length
      · obtain ⟨a, x, h⟩ := Rd.form (hops j hj)
        exact ⟨a, x, fun _ => h⟩
      · exact ⟨none, 0, fun h => absurd h hj⟩
    exact count_some w tss.length b off c (fun j => (hf j).choose) (fun j => (tss.getD j []).length) (fun j => (hf j).choose_spec.choose) hn (fun j hj => (hc j hj).trans (congrArg some ((hf j).choose_spec.choose_spec hj))) hs
  · obtain ⟨a1, c1, rfl⟩ := ht.form
    have e0 : tss.length = 0 := by omega
    unfold opsOf
    rw [e0]
    exact count_zero w a1 c1

set_option maxRecDepth 100000 in
set_option maxHeartbeats 1000000 in
theorem checkEnds_ok (w : World) (a0 : Option Addr) (m c0 : Nat) (v1 : Value) (tss : List (List Op4)) (ht : IsTasks w v1 tss) (hm : m ≤ maxLen) (hn : tss.length ≤ 4) (hf : tfault m tss = (0, 0)) (hs : opsOf tss ≤ 12) (hlen : ∀ j, j < tss.length → (tss.getD j []).length ≤ maxLen) :
    Calls Tryd.prog 14 #[.slice a0 m c0, v1] w fun e w' => e = .returned (.agg #[.int .i64 0, .int .i64 0]) ∧ Below w.heap.size w w' := by
  have HT : Hid (∀ W, Below w.heap.size w W → Calls Tryd.prog 19 #[.slice a0 m c0, v1] W fun e w' => e = .returned (.agg #[.int .i64 0, .int .i64 0]) ∧ Below W.heap.size W w') := fun W hW => by
    have := tasks_any W a0 m c0 v1 tss (ht.below hW) hm (by unfold maxLen; omega) hlen
    rw [hf] at this
    exact this
  have HC : Hid (∀ W, Below w.heap.size w W → Calls Tryd.prog 15 #[v1] W fun e w' => e = .returned (.int .i64 (opsOf tss)) ∧ w' = W) := fun W hW =>
    count_any W v1 tss (ht.below hW) (by unfold maxLen; omega) (by unfold maxLen; omega)
  obtain ⟨a1, c1, rfl⟩ := ht.form
  obtain ⟨N, hN⟩ : ∃ N, opsOf tss = N := ⟨_, rfl⟩
  rw [hN] at HC hs
  have h4 : ¬ (4 : Int) < (tss.length : Int) := by omega
  have h12 : ¬ (12 : Int) < (N : Int) := by omega
  clear hf hlen ht hN
  go_enter Tryd.func14, Tryd.ntmps14
  go_wp2_with (first
    | (go_at_call 19; refine (unhide HT _ ?_).mono ?_; exact (Below.refl _ _).alloc (Nat.le_refl _) _; rintro e w1 ⟨rfl, hb1⟩; have hX1 := hb1; simp only [World.size_alloc] at hX1; have hs1 := hX1.size; simp only [World.size_alloc] at hs1; obtain ⟨q0, q1, g0, g1⟩ := res_one hX1; have HX1 := hide hX1; have p0 := fun o => (World.cell?_alloc_past (w := w1) o w.heap.size 0 (by omega)).trans q0; have p1 := fun o => (World.cell?_alloc_past (w := w1) o w.heap.size 1 (by omega)).trans q1; have e0 := fun o => (World.frozen?_alloc_old w1 o ⟨w.heap.size, 0, none⟩ (by simp; omega)).trans g0; have e1 := fun o => (World.frozen?_alloc_old w1 o ⟨w.heap.size, 1, none⟩ (by simp; omega)).trans g1; clear hb1 hX1 q0 q1 g0 g1)
    | (go_at_call 15; refine (unhide HC _ ?_).mono ?_; exact (below_one (unhide HX1)).alloc (by omega) _; rintro e w2 ⟨rfl, rfl⟩))
  refine bodyPost_ret (v := .agg #[.int .i64 0, .int .i64 0]) (by simp [results, Tryd.results14, go_sem, p0, p1]) rfl ⟨rfl, ?_⟩
  exact (((below_one (unhide HX1)).alloc (by omega) _).setCell (Nat.le_refl _) _).setCell (Nat.le_refl _) _
end Go.Proofs.YtpgokeogijpmaabDoor
