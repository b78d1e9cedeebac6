/-
  cell.Run where Check finds a fault.
-/
import Derived.Test.YtpgokeogijpmaaaDoorI
import Derived.RegionTactic
namespace Go.Proofs.YtpgokeogijpmaaaDoor
open Go.RowKit

set_option maxRecDepth 100000 in
set_option maxHeartbeats 1000000 in
theorem run_fault (w : World) (a0 : Option Addr) (m c0 : Nat) (v1 : Value) (os : List Op4) (hops : IsOps w v1 os) (hm : m ≤ maxLen) (hn : os.length ≤ maxLen) (x y : Int) (hx : x ≠ 0) (hf : fault m os = (x, y)) :
    Calls Tryd.prog 12 #[.slice a0 m c0, v1] w fun e w' => e = .returned (.tuple #[.slice none 0 0, .slice none 0 0, .agg #[.int .i64 x, .int .i64 y]]) ∧ Below w.heap.size w w' := by
  obtain ⟨a1, c1, rfl⟩ := Rd.form hops
  have hx1 : (x != 0) = true := by simpa using hx
  have HC : Hid (∀ W, Below w.heap.size w W → Calls Tryd.prog 11 #[.slice a0 m c0, .slice a1 os.length c1] W fun e w' => e = .returned (.agg #[.int .i64 x, .int .i64 y]) ∧ Below W.heap.size W w') := fun W hW => by
    have := check_any W a0 m c0 _ os (Rd.below hops hW) hm hn
    rw [hf] at this
    exact this
  clear hops hf
  go_enter Tryd.func12, Tryd.ntmps12
  go_wp2_with (go_at_call 11; refine (unhide HC _ ?_).mono ?_; exact (Below.refl _ _).alloc (Nat.le_refl _) _; rintro e w1 ⟨rfl, hb1⟩; have hX1 := hb1; simp only [World.size_alloc] at hX1; obtain ⟨q0, q1, g0, g1⟩ := res_one hX1; have hs := hX1.size; simp only [World.size_alloc] at hs; have HX1 := hide hX1; clear hb1 hX1)
  have p0 : ∀ o, (w1.alloc o).cell? ⟨w.heap.size, 0, none⟩ = some (.int .i64 0) := fun o => (World.cell?_alloc_past _ _ _ (by omega)).trans q0
  have p1 : ∀ o, (w1.alloc o).cell? ⟨w.heap.size, 1, none⟩ = some (.int .i64 0) := fun o => (World.cell?_alloc_past _ _ _ (by omega)).trans q1
  have e0 : ∀ o, (w1.alloc o).frozen? ⟨w.heap.size, 0, none⟩ = false := fun o => (World.frozen?_alloc_old _ _ _ (by simp; omega)).trans g0
  have e1 : ∀ o, (w1.alloc o).frozen? ⟨w.heap.size, 1, none⟩ = false := fun o => (World.frozen?_alloc_old _ _ _ (by simp; omega)).trans g1
  clear q0 q1 g0 g1
  go_region
  all_goals try go_wp2
  all_goals refine bodyPost_ret (v := .tuple #[.slice none 0 0, .slice none 0 0, .agg #[.int .i64 x, .int .i64 y]]) (by simp [results, Tryd.results12, go_sem, p0, p1]) rfl ⟨rfl, ?_⟩
  all_goals exact ((((below_one (unhide HX1)).alloc (by omega) _).setCell (Nat.le_refl _) _).setCell (Nat.le_refl _) _).drew
end Go.Proofs.YtpgokeogijpmaaaDoor
