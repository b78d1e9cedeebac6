/-
  cell.Check, by its contract.
-/
import Derived.Test.YtpgokeogijpmaabDoorE
namespace Go.Proofs.YtpgokeogijpmaabDoor
open Go.RowKit

/-- The first place whose code is not 0, of so many from i on; (0, 0) where there is none. -/
def faultFrom (W : Nat → Int) : Nat → Nat → Int × Int
  | 0, _ => (0, 0)
  | f + 1, i => if W i = 0 then faultFrom W f (i + 1) else (W i, i)
def faultOf (m n : Nat) (W : Nat → Int) : Int × Int := if 32 < m ∨ 5000 < n then (2, 0) else faultFrom W n 0

theorem faultFrom_next {W : Nat → Int} {n j : Nat} (hj : j < n) (h : W j = 0) : faultFrom W (n - j) j = faultFrom W (n - (j + 1)) (j + 1) := by
  have e : n - j = (n - (j + 1)) + 1 := by omega
  rw [e, faultFrom, if_pos h]
theorem faultFrom_here {W : Nat → Int} {n j : Nat} (hj : j < n) (h : W j ≠ 0) : faultFrom W (n - j) j = (W j, (j : Int)) := by
  have e : n - j = (n - (j + 1)) + 1 := by omega
  rw [e, faultFrom, if_neg h]
theorem faultFrom_none {W : Nat → Int} {n j : Nat} (hj : n ≤ j) : faultFrom W (n - j) j = (0, 0) := by
  have e : n - j = 0 := by omega
  rw [e, faultFrom]

theorem ret_fault {a b : Int} {x : Int × Int} (h : x = (a, b)) : Ending.returned (.agg #[.int .i64 a, .int .i64 b]) = .returned (.agg #[.int .i64 x.1, .int .i64 x.2]) := by rw [h]

set_option maxRecDepth 100000 in
set_option maxHeartbeats 400000 in
theorem check_many (w : World) (a0 a1 : Option Addr) (m n c0 c1 : Nat) (hmn : 32 < m ∨ 5000 < n) (hm : m ≤ maxLen) (hn : n ≤ maxLen) :
    Calls Tryd.prog 29 #[.slice a0 m c0, .slice a1 n c1] w fun e w' => e = .returned (.agg #[.int .i64 2, .int .i64 0]) ∧ Below w.heap.size w w' := by
  unfold maxLen at hm hn
  by_cases h1 : (32 : Int) < (m : Int)
  · go_enter Tryd.func29, Tryd.ntmps29
    go_wp2
    exact bodyPost_ret (v := .agg #[.int .i64 2, .int .i64 0]) (by simp [results, Tryd.results29, go_sem]) rfl ⟨rfl, ((Below.refl _ _).alloc (Nat.le_refl _) _)⟩
  · have h2 : (5000 : Int) < (n : Int) := by omega
    go_enter Tryd.func29, Tryd.ntmps29
    go_wp2
    exact bodyPost_ret (v := .agg #[.int .i64 2, .int .i64 0]) (by simp [results, Tryd.results29, go_sem]) rfl ⟨rfl, ((Below.refl _ _).alloc (Nat.le_refl _) _)⟩

theorem hide {p : Prop} (h : p) : Hid p := h
theorem unhide {p : Prop} (h : Hid p) : p := h

theorem map_there {w wr : World} {o : Obj} (h : Below (w.heap.size + 2) ((w.alloc o).alloc (.map ents 5)) wr) : wr.heap[w.heap.size + 1]? = some (.map ents 5) := by
  rw [h.block _ (by omega)]
  have := (MapKept.heap_alloc (w.alloc o) (.map ents 5)).1
  simpa using this

theorem below_step {B : Nat} {a wr w3 : World} {o : Obj} (h : Below B a wr) (h3 : Below (wr.alloc o).heap.size (wr.alloc o) w3) (hB : B ≤ wr.heap.size) : Below B a w3 :=
  (h.alloc hB o).trans (h3.mono (by simp; omega))

theorem below_two {w w3 : World} {o o' : Obj} (h : Below (w.heap.size + 2) ((w.alloc o).alloc o') w3) : Below w.heap.size w w3 :=
  ((((Below.refl w.heap.size w).alloc (Nat.le_refl _) o).alloc (by simp) o')).trans (h.mono (by omega))

theorem res_there {w wr : World} {x y : Value} {o : Obj} (h : Below (w.heap.size + 2) ((w.alloc (.cells #[x, y] 31)).alloc o) wr) :
    wr.cell? ⟨w.heap.size, 0, none⟩ = some x ∧ wr.cell? ⟨w.heap.size, 1, none⟩ = some y ∧ wr.frozen? ⟨w.heap.size, 0, none⟩ = false ∧ wr.frozen? ⟨w.heap.size, 1, none⟩ = false := by
  refine ⟨?_, ?_, ?_, ?_⟩
  · rw [h.cell (p := ⟨w.heap.size, 0, none⟩) (by simp)]; simp
  · rw [h.cell (p := ⟨w.heap.size, 1, none⟩) (by simp)]; simp
  · rw [h.frozen (p := ⟨w.heap.size, 0, none⟩) (by simp)]; simp
  · rw [h.frozen (p := ⟨w.heap.size, 1, none⟩) (by simp)]; simp

set_option maxRecDepth 100000 in
set_option maxHeartbeats 1000000 in
theorem check_some (w : World) (a0 : Option Addr) (m n c0 c1 ob oo : Nat) (hm : m ≤ 32) (hn : n ≤ 5000) (K P A B W : Nat → Int) (hob : ob < w.heap.size) (hW : Hid (∀ j, W j = wrongOf m (K j) (P j) (A j) (B j)))
    (hK : ∀ j, j < n → w.cell? ⟨ob, oo + j * 4, none⟩ = some (.int .i64 (K j))) (hP : ∀ j, j < n → w.cell? ⟨ob, oo + j * 4 + 1, none⟩ = some (.int .i64 (P j)))
    (hA : ∀ j, j < n → w.cell? ⟨ob, oo + j * 4 + 2, none⟩ = some (.int .i64 (A j))) (hB : ∀ j, j < n → w.cell? ⟨ob, oo + j * 4 + 3, none⟩ = some (.int .i64 (B j))) :
    Calls Tryd.prog 29 #[.slice a0 m c0, .slice (some ⟨ob, oo, none⟩) n c1] w fun e w' => e = .returned (.agg #[.int .i64 (faultFrom W n 0).1, .int .i64 (faultFrom W n 0).2]) ∧ Below w.heap.size w w' := by
  have h1 : ¬ (32 : Int) < (m : Int) := by omega
  have h2 : ¬ (5000 : Int) < (n : Int) := by omega
  have HK := hide hK; have HP := hide hP; have HA := hide hA; have HB := hide hB
  clear hK hP hA hB
  go_enter Tryd.func29, Tryd.ntmps29
  go_wp2_with (go_at_call 11; refine (deeds_any _).mono ?_; rintro e w1 ⟨rfl, rfl⟩)
  go_loopw [21] (fun i wr => ∃ j : Nat, j ≤ n ∧ i = .int .i64 j ∧ faultFrom W n 0 = faultFrom W (n - j) j ∧ Below (w.heap.size + 2) ((w.alloc (.cells #[.int .i64 0, .int .i64 0] 31)).alloc (.map ents 5)) wr)
    (fun i _ => n - (intOf i).toNat)
  case atStart => exact ⟨0, Nat.zero_le _, rfl, rfl, Below.refl _ _⟩
  case round =>
    obtain ⟨j, hj, rfl, hfrom, hnx⟩ := hrel
    have HF := hide hfrom
    clear hfrom
    by_cases hlt : j < n
    · have e0 : ∀ i, wr.cell? ⟨ob, i, none⟩ = w.cell? ⟨ob, i, none⟩ := fun i => by
        rw [hnx.cell (p := ⟨ob, i, none⟩) (by simp; omega), World.cell?_alloc_past _ _ _ (by simp; omega), World.cell?_alloc_past _ _ _ hob]
      have k0 := (e0 _).trans (unhide HK j hlt)
      have k1 := (e0 _).trans (unhide HP j hlt)
      have k2 := (e0 _).trans (unhide HA j hlt)
      have k3 := (e0 _).trans (unhide HB j hlt)
      have hz : wr.heap.size ≥ w.heap.size + 2 := by have := hnx.size; simp at this; omega
      have hmap := map_there hnx
      have HM := hide (fun o => ((MapKept.heap_alloc wr o).2 (w.heap.size + 1) (by omega)).trans hmap)
      have HX := hide hnx
      clear e0 hmap
      obtain ⟨r0, r1, f0, f1⟩ := res_there hnx
      clear hnx
      by_cases hz0 : wrongOf m (K j) (P j) (A j) (B j) = 0
      · go_wp2_with (go_at_call 42; refine (wrong_any _ (w.heap.size + 1) (unhide HM _) _ _ _ _ _).mono ?_; rintro e w3 ⟨rfl, hb3⟩; have HX3 := hide (below_step (unhide HX) hb3 (by omega)); clear hb3)
        go_roundw
        case rel => exact ⟨j + 1, by omega, by go_num, (unhide HF).trans (faultFrom_next hlt ((unhide hW j).trans hz0)), unhide HX3⟩
        case measure => simp [intOf]; omega
      · have hz1 : (wrongOf m (K j) (P j) (A j) (B j) != 0) = true := by simpa using hz0
        go_wp2_with (go_at_call 42; refine (wrong_any _ (w.heap.size + 1) (unhide HM _) _ _ _ _ _).mono ?_; rintro e w3 ⟨rfl, hb3⟩; have hX3 := below_step (unhide HX) hb3 (by omega); obtain ⟨q0, q1, g0, g1⟩ := res_there hX3; have HX3 := hide hX3; clear hb3 hX3 r0 r1 f0 f1 k0 k1 k2 k3)
        refine bodyPost_ret (v := .agg #[.int .i64 (wrongOf m (K j) (P j) (A j) (B j)), .int .i64 j]) (by simp [results, Tryd.results29, go_sem, q0, q1]) rfl ⟨ret_fault ?_, ?_⟩
        · rw [unhide HF, faultFrom_here hlt (by rw [unhide hW j]; exact hz0), unhide hW j]
        · exact ((below_two (unhide HX3)).setCell (Nat.le_refl _) _).setCell (Nat.le_refl _) _
    · obtain ⟨r0, r1, f0, f1⟩ := res_there hnx
      have HX := hide hnx
      clear hnx
      go_wp2
      refine bodyPost_ret (v := .agg #[.int .i64 0, .int .i64 0]) (by simp [results, Tryd.results29, go_sem, r0, r1]) rfl ⟨ret_fault ((unhide HF).trans (faultFrom_none (by omega))), ?_⟩
      exact ((below_two (unhide HX)).setCell (Nat.le_refl _) _).setCell (Nat.le_refl _) _
end Go.Proofs.YtpgokeogijpmaabDoor
