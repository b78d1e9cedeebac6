/-
  taskmillref.F and taskmillref.OpsFault, by their contracts.
-/
import Derived.Test.YtpgokeogijpmaaaDoorG
namespace Go.Proofs.YtpgokeogijpmaaaDoor
open Go.RowKit

set_option maxRecDepth 100000 in
set_option maxHeartbeats 400000 in
theorem f_any (w : World) (a b : Int) :
    Calls Tryd.prog 20 #[.int .i64 a, .int .i64 b] w fun e w' => e = .returned (.agg #[.int .i64 a, .int .i64 b]) ∧ Below w.heap.size w w' := by
  go_enter Tryd.func20, Tryd.ntmps20
  go_wp2
  exact bodyPost_ret (v := .agg #[.int .i64 a, .int .i64 b]) (by simp [results, Tryd.results20, go_sem]) rfl ⟨rfl, ((Below.refl _ _).alloc (Nat.le_refl _) _)⟩

theorem res_one {w wr : World} {x y : Value} (h : Below (w.heap.size + 1) (w.alloc (.cells #[x, y] 27)) wr) :
    wr.cell? ⟨w.heap.size, 0, none⟩ = some x ∧ wr.cell? ⟨w.heap.size, 1, none⟩ = some y ∧ wr.frozen? ⟨w.heap.size, 0, none⟩ = false ∧ wr.frozen? ⟨w.heap.size, 1, none⟩ = false := by
  refine ⟨?_, ?_, ?_, ?_⟩
  · rw [h.cell (p := ⟨w.heap.size, 0, none⟩) (by simp)]; simp
  · rw [h.cell (p := ⟨w.heap.size, 1, none⟩) (by simp)]; simp
  · rw [h.frozen (p := ⟨w.heap.size, 0, none⟩) (by simp)]; simp
  · rw [h.frozen (p := ⟨w.heap.size, 1, none⟩) (by simp)]; simp
theorem below_one {w w3 : World} {o : Obj} (h : Below (w.heap.size + 1) (w.alloc o) w3) : Below w.heap.size w w3 :=
  ((Below.refl w.heap.size w).alloc (Nat.le_refl _) o).trans (h.mono (by omega))

set_option maxRecDepth 100000 in
set_option maxHeartbeats 400000 in
theorem opsf_many (w : World) (a0 a1 : Option Addr) (m n c0 c1 : Nat) (hmn : 32 < m ∨ 5000 < n) (hm : m ≤ maxLen) (hn : n ≤ maxLen) :
    Calls Tryd.prog 13 #[.slice a0 m c0, .slice a1 n c1] w fun e w' => e = .returned (.agg #[.int .i64 2, .int .i64 0]) ∧ Below w.heap.size w w' := by
  unfold maxLen at hm hn
  by_cases h1 : (32 : Int) < (m : Int)
  · go_enter Tryd.func13, Tryd.ntmps13
    go_wp2_with (go_at_call 20; refine (f_any _ _ _).mono ?_; rintro e w3 ⟨rfl, hb3⟩; have hX3 := hb3; simp only [World.size_alloc] at hX3; obtain ⟨q0, q1, g0, g1⟩ := res_one hX3; have HX3 := hide hX3; clear hb3 hX3)
    exact bodyPost_ret (v := .agg #[.int .i64 2, .int .i64 0]) (by simp [results, Tryd.results13, go_sem, q0, q1]) rfl ⟨rfl, ((below_one (unhide HX3)).setCell (Nat.le_refl _) _).setCell (Nat.le_refl _) _⟩
  · have h2 : (5000 : Int) < (n : Int) := by omega
    go_enter Tryd.func13, Tryd.ntmps13
    go_wp2_with (go_at_call 20; refine (f_any _ _ _).mono ?_; rintro e w3 ⟨rfl, hb3⟩; have hX3 := hb3; simp only [World.size_alloc] at hX3; obtain ⟨q0, q1, g0, g1⟩ := res_one hX3; have HX3 := hide hX3; clear hb3 hX3)
    exact bodyPost_ret (v := .agg #[.int .i64 2, .int .i64 0]) (by simp [results, Tryd.results13, go_sem, q0, q1]) rfl ⟨rfl, ((below_one (unhide HX3)).setCell (Nat.le_refl _) _).setCell (Nat.le_refl _) _⟩

theorem here_is {W : Nat → Int} {n j : Nat} {c : Int} (hj : j < n) (h : W j = c) (hc : c ≠ 0) : faultFrom W (n - j) j = (c, (j : Int)) := by
  rw [faultFrom_here hj (by rw [h]; exact hc), h]
theorem wrong_kind {m k p a b : Int} (h : k < 1 ∨ 5 < k) : wrongOf m k p a b = 4 := by unfold wrongOf; rw [if_neg (by omega)]
theorem wrong_form {m k p a b : Int} (h1 : 1 ≤ k) (h5 : k ≤ 5) (h : k = 1 ∧ a ≠ 0 ∨ k ≠ 5 ∧ b ≠ 0) : wrongOf m k p a b = 5 := by unfold wrongOf; rw [if_pos ⟨h1, h5⟩, if_pos h]
theorem wrong_range {m k p a b : Int} (h1 : 1 ≤ k) (h5 : k ≤ 5) (h : ¬ (k = 1 ∧ a ≠ 0 ∨ k ≠ 5 ∧ b ≠ 0)) (hp : p < 0 ∨ m ≤ p) : wrongOf m k p a b = 3 := by unfold wrongOf; rw [if_pos ⟨h1, h5⟩, if_neg h, if_pos hp]
theorem wrong_not {m k p a b : Int} (h1 : 1 ≤ k) (h5 : k ≤ 5) (h : ¬ (k = 1 ∧ a ≠ 0 ∨ k ≠ 5 ∧ b ≠ 0)) (hp : ¬ (p < 0 ∨ m ≤ p)) : wrongOf m k p a b = 0 := by unfold wrongOf; rw [if_pos ⟨h1, h5⟩, if_neg h, if_neg hp]

set_option maxRecDepth 100000 in
set_option maxHeartbeats 1000000 in
theorem opsf_some (w : World) (a0 : Option Addr) (m n c0 c1 ob oo : Nat) (hm : m ≤ 32) (hn : n ≤ 5000) (K P A B W : Nat → Int) (hob : ob < w.heap.size) (hW : Hid (∀ j, W j = wrongOf m (K j) (P j) (A j) (B j)))
    (hK : ∀ j, j < n → w.cell? ⟨ob, oo + j * 4, none⟩ = some (.int .i64 (K j))) (hP : ∀ j, j < n → w.cell? ⟨ob, oo + j * 4 + 1, none⟩ = some (.int .i64 (P j)))
    (hA : ∀ j, j < n → w.cell? ⟨ob, oo + j * 4 + 2, none⟩ = some (.int .i64 (A j))) (hB : ∀ j, j < n → w.cell? ⟨ob, oo + j * 4 + 3, none⟩ = some (.int .i64 (B j))) :
    Calls Tryd.prog 13 #[.slice a0 m c0, .slice (some ⟨ob, oo, none⟩) n c1] w fun e w' => e = .returned (.agg #[.int .i64 (faultFrom W n 0).1, .int .i64 (faultFrom W n 0).2]) ∧ Below w.heap.size w w' := by
  have h1 : ¬ (32 : Int) < (m : Int) := by omega
  have h2 : ¬ (5000 : Int) < (n : Int) := by omega
  have HK := hide hK; have HP := hide hP; have HA := hide hA; have HB := hide hB
  clear hK hP hA hB
  go_enter Tryd.func13, Tryd.ntmps13
  go_wp2
  go_loopw [5] (fun i wr => ∃ j : Nat, j ≤ n ∧ i = .int .i64 j ∧ faultFrom W n 0 = faultFrom W (n - j) j ∧ Below (w.heap.size + 1) (w.alloc (.cells #[.int .i64 0, .int .i64 0] 27)) wr)
    (fun i _ => n - (intOf i).toNat)
  case atStart => exact ⟨0, Nat.zero_le _, rfl, rfl, Below.refl _ _⟩
  case round =>
    obtain ⟨j, hj, rfl, hfrom, hnx⟩ := hrel
    have HF := hide hfrom
    clear hfrom
    by_cases hlt : j < n
    · have e0 : ∀ i, wr.cell? ⟨ob, i, none⟩ = w.cell? ⟨ob, i, none⟩ := fun i => by
        rw [hnx.cell (p := ⟨ob, i, none⟩) (by simp; omega), World.cell?_alloc_past _ _ _ hob]
      have k0 := (e0 _).trans (unhide HK j hlt)
      have k1 := (e0 _).trans (unhide HP j hlt)
      have k2 := (e0 _).trans (unhide HA j hlt)
      have k3 := (e0 _).trans (unhide HB j hlt)
      have hz : wr.heap.size ≥ w.heap.size + 1 := by have := hnx.size; simp at this; omega
      have HX := hide hnx
      clear e0
      obtain ⟨r0, r1, f0, f1⟩ := res_one hnx
      clear hnx
      go_wp2_with (go_at_call 20; refine (f_any _ _ _).mono ?_; rintro e w3 ⟨rfl, hb3⟩; have hX3 := below_step (unhide HX) hb3 (by omega); obtain ⟨q0, q1, g0, g1⟩ := res_one hX3; have HX3 := hide hX3; clear hb3 hX3 r0 r1 f0 f1 k0 k1 k2 k3)
      all_goals try simp only [bne_iff_ne, ne_eq, bne_eq_false_iff_eq] at *
      all_goals first
        | (go_roundw
           case rel => exact ⟨j + 1, by omega, by go_num, (unhide HF).trans (faultFrom_next hlt ((unhide hW j).trans (wrong_not (by omega) (by omega) (by omega) (by omega)))), (unhide HX).alloc (by omega) _⟩
           case measure => simp [intOf]; omega)
        | (refine bodyPost_ret (v := .agg #[.int .i64 4, .int .i64 j]) (by simp [results, Tryd.results13, go_sem, q0, q1]) rfl ⟨ret_fault ((unhide HF).trans (here_is hlt ((unhide hW j).trans (wrong_kind (by omega))) (by decide))), ((below_one (unhide HX3)).setCell (Nat.le_refl _) _).setCell (Nat.le_refl _) _⟩)
        | (refine bodyPost_ret (v := .agg #[.int .i64 5, .int .i64 j]) (by simp [results, Tryd.results13, go_sem, q0, q1]) rfl ⟨ret_fault ((unhide HF).trans (here_is hlt ((unhide hW j).trans (wrong_form (by omega) (by omega) (by omega))) (by decide))), ((below_one (unhide HX3)).setCell (Nat.le_refl _) _).setCell (Nat.le_refl _) _⟩)
        | (refine bodyPost_ret (v := .agg #[.int .i64 3, .int .i64 j]) (by simp [results, Tryd.results13, go_sem, q0, q1]) rfl ⟨ret_fault ((unhide HF).trans (here_is hlt ((unhide hW j).trans (wrong_range (by omega) (by omega) (by omega) (by omega))) (by decide))), ((below_one (unhide HX3)).setCell (Nat.le_refl _) _).setCell (Nat.le_refl _) _⟩)
    · obtain ⟨r0, r1, f0, f1⟩ := res_one hnx
      have HX := hide hnx
      clear hnx
      go_wp2
      refine bodyPost_ret (v := .agg #[.int .i64 0, .int .i64 0]) (by simp [results, Tryd.results13, go_sem, r0, r1]) rfl ⟨ret_fault ((unhide HF).trans (faultFrom_none (by omega))), ?_⟩
      exact ((below_one (unhide HX)).setCell (Nat.le_refl _) _).setCell (Nat.le_refl _) _
end Go.Proofs.YtpgokeogijpmaaaDoor
