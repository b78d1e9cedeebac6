/-
  Tasks as lists of lists; cell.checkTasks and cell.countOps.
-/
import Derived.Test.YtpgokeogijpmaabDoorO
namespace Go.Proofs.YtpgokeogijpmaabDoor
open Go.RowKit

/-- The slice v reads as the tasks tss. -/
def IsTasks (w : World) (v : Value) (tss : List (List Op4)) : Prop :=
  ∃ V : Nat → Value, Rd w 1 v tss.length ((List.range tss.length).map V) ∧ ∀ j, j < tss.length → IsOps w (V j) (tss.getD j [])

theorem IsTasks.below {w w' : World} {v : Value} {tss : List (List Op4)} (h : IsTasks w v tss) (hb : Below w.heap.size w w') : IsTasks w' v tss := by
  obtain ⟨V, h1, h2⟩ := h
  exact ⟨V, h1.below hb, fun j hj => Rd.below (h2 j hj) hb⟩

theorem IsTasks.at {w : World} {v : Value} {tss : List (List Op4)} (h : IsTasks w v tss) (hn : 0 < tss.length) : ∃ (b off c : Nat) (V : Nat → Value), v = .slice (some ⟨b, off, none⟩) tss.length c ∧ b < w.heap.size ∧
    (∀ j, j < tss.length → w.cell? ⟨b, off + j, none⟩ = some (V j)) ∧ ∀ j, j < tss.length → IsOps w (V j) (tss.getD j []) := by
  obtain ⟨V, h1, h2⟩ := h
  obtain ⟨b, off, c, hv, hb, hc⟩ := Rd.at h1 hn (by decide)
  exact ⟨b, off, c, V, hv, hb, fun j hj => hc j _ (by simp [hj]), h2⟩

theorem IsTasks.form {w : World} {v : Value} {tss : List (List Op4)} (h : IsTasks w v tss) : ∃ a c, v = .slice a tss.length c := by
  obtain ⟨V, h1, _⟩ := h
  exact Rd.form h1

/-- The first fault of so many, from i on. -/
def tfaultFrom (F : Nat → Int × Int) : Nat → Nat → Int × Int
  | 0, _ => (0, 0)
  | f + 1, i => if (F i).1 = 0 then tfaultFrom F f (i + 1) else F i
/-- What Check says of tasks, one after the other. -/
def tfault (m : Nat) (tss : List (List Op4)) : Int × Int := tfaultFrom (fun j => fault m (tss.getD j [])) tss.length 0

theorem tfaultFrom_next {F : Nat → Int × Int} {n j : Nat} (hj : j < n) (h : (F j).1 = 0) : tfaultFrom F (n - j) j = tfaultFrom F (n - (j + 1)) (j + 1) := by
  have e : n - j = (n - (j + 1)) + 1 := by omega
  rw [e, tfaultFrom, if_pos h]
theorem tfaultFrom_here {F : Nat → Int × Int} {n j : Nat} (hj : j < n) (h : (F j).1 ≠ 0) : tfaultFrom F (n - j) j = F j := by
  have e : n - j = (n - (j + 1)) + 1 := by omega
  rw [e, tfaultFrom, if_neg h]
theorem tfaultFrom_none {F : Nat → Int × Int} {n j : Nat} (hj : n ≤ j) : tfaultFrom F (n - j) j = (0, 0) := by
  have e : n - j = 0 := by omega
  rw [e, tfaultFrom]

set_option maxRecDepth 100000 in
set_option maxHeartbeats 1000000 in
theorem tasks_some (w : World) (a0 : Option Addr) (m c0 n tb tof tc : Nat) (V : Nat → Value) (F : Nat → Int × Int) (hn : n ≤ maxLen) (htb : tb < w.heap.size) (hV : ∀ j, j < n → w.cell? ⟨tb, tof + j, none⟩ = some (V j))
    (hF : ∀ j, j < n → ∀ W, Below w.heap.size w W → Calls Tryd.prog 29 #[.slice a0 m c0, V j] W fun e w' => e = .returned (.agg #[.int .i64 (F j).1, .int .i64 (F j).2]) ∧ Below W.heap.size W w') :
    Calls Tryd.prog 19 #[.slice a0 m c0, .slice (some ⟨tb, tof, none⟩) n tc] w fun e w' => e = .returned (.agg #[.int .i64 (tfaultFrom F n 0).1, .int .i64 (tfaultFrom F n 0).2]) ∧ Below w.heap.size w w' := by
  unfold maxLen at hn
  have HV := hide hV; have HF := hide hF
  clear hV hF
  go_enter Tryd.func19, Tryd.ntmps19
  go_wp2
  go_loopw [10] (fun i wr => ∃ j : Nat, j ≤ n ∧ i = .int .i64 j ∧ tfaultFrom F n 0 = tfaultFrom F (n - j) j ∧ Below (w.heap.size + 1) (w.alloc (.cells #[.int .i64 0, .int .i64 0] 31)) wr)
    (fun i _ => n - (intOf i).toNat)
  case atStart => exact ⟨0, Nat.zero_le _, rfl, rfl, Below.refl _ _⟩
  case round =>
    obtain ⟨j, hj, rfl, hfrom, hnx⟩ := hrel
    have HFR := hide hfrom
    clear hfrom
    have hz : w.heap.size + 1 ≤ wr.heap.size := by have := hnx.size; simp at this; omega
    by_cases hlt : j < n
    · have hBw := below_one hnx
      have c1 := (hBw.cell (p := ⟨tb, tof + j, none⟩) htb).trans (unhide HV j hlt)
      have HCK := hide (unhide HF j hlt wr hBw)
      have HNX := hide hnx
      clear hnx hBw
      obtain ⟨vj, hvj⟩ : ∃ x, V j = x := ⟨_, rfl⟩
      obtain ⟨x, y, hxy⟩ : ∃ x y, F j = (x, y) := ⟨_, _, rfl⟩
      have HXY := hide hxy
      rw [hvj] at c1 HCK
      rw [hxy] at HCK
      clear hvj hxy
      by_cases hx : x = 0
      · subst hx
        go_wp2_with (go_at_call 29; refine (unhide HCK).mono ?_; rintro e w3 ⟨rfl, hb3⟩; have HX3 := hide ((unhide HNX).trans (hb3.mono hz)); have HS3 := hide hb3.size; clear hb3)
        go_roundw
        case rel =>
          refine ⟨j + 1, by omega, by go_num, (unhide HFR).trans (tfaultFrom_next hlt (by rw [unhide HXY])), (unhide HX3).alloc (by have := unhide HS3; omega) _⟩
        case measure => simp [intOf]; omega
      · have hx1 : (x != 0) = true := by simpa using hx
        go_wp2_with (go_at_call 29; refine (unhide HCK).mono ?_; rintro e w3 ⟨rfl, hb3⟩; have hX3 := (unhide HNX).trans (hb3.mono hz); obtain ⟨q0, q1, g0, g1⟩ := res_one hX3; have HX3 := hide hX3; have hs3 := hb3.size; have p0 := fun o => (World.cell?_alloc_past (w := w3) o w.heap.size 0 (by omega)).trans q0; have p1 := fun o => (World.cell?_alloc_past (w := w3) o w.heap.size 1 (by omega)).trans q1; have e0 := fun o => (World.frozen?_alloc_old w3 o ⟨w.heap.size, 0, none⟩ (by simp; omega)).trans g0; have e1 := fun o => (World.frozen?_alloc_old w3 o ⟨w.heap.size, 1, none⟩ (by simp; omega)).trans g1; clear hb3 hX3 q0 q1 g0 g1)
        refine bodyPost_ret (v := .agg #[.int .i64 x, .int .i64 y]) (by simp [results, Tryd.results19, go_sem, p0, p1]) rfl ⟨ret_fault ?_, ?_⟩
        · rw [unhide HFR, tfaultFrom_here hlt (by rw [unhide HXY]; exact hx), unhide HXY]
        · exact (((below_one (unhide HX3)).alloc (by omega) _).setCell (Nat.le_refl _) _).setCell (Nat.le_refl _) _
    · obtain ⟨r0, r1, f0, f1⟩ := res_one hnx
      have HX := hide hnx
      clear hnx
      go_wp2
      refine bodyPost_ret (v := .agg #[.int .i64 0, .int .i64 0]) (by simp [results, Tryd.results19, go_sem, r0, r1]) rfl ⟨ret_fault ((unhide HFR).trans (tfaultFrom_none (by omega))), ?_⟩
      exact ((below_one (unhide HX)).setCell (Nat.le_refl _) _).setCell (Nat.le_refl _) _
end Go.Proofs.YtpgokeogijpmaabDoor
