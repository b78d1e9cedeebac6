/-
  Registers compared.
-/
import Derived.Test.YtgeinjldjpaleaaDoorH
import Derived.ChangeKeysEq
namespace Go.Proofs.YtgeinjldjpaleaaDoor
open Go.RowKit
theorem info3 : ∃ i, Tryd.prog.info? 3 = some i := by
  obtain ⟨i, hi, -⟩ := info_parts (show (Tryd.prog.info? 3).map (fun i => (i.zero, i.size, i.bytes)) = some (some (.int .i64 0), 1, 8) by kernel_rfl)
  exact ⟨i, hi⟩
theorem items_same (w : World) (xs : Array Value) : ∀ is : List Nat, (∀ i, i ∈ is → ∃ z, xs[i]? = some (Value.int .i64 z)) → (Op.eqItems 9999 3 1 xs xs is).run Tryd.prog w = .ok true w
  | [], _ => by simp [Op.eqItems]
  | i :: is, h => by
    obtain ⟨z, hz⟩ := h i (List.mem_cons_self ..)
    have hp : (part 3 xs (i * 1)).run Tryd.prog w = .ok (.int .i64 z) w := by
      simp [part, go_sem, hz]
    have he : (Op.equalIn 9999 3 (.int .i64 z) (.int .i64 z)).run Tryd.prog w = .ok true w := by
      obtain ⟨d, hd⟩ : ∃ d, d + 1 = 9999 := ⟨9998, rfl⟩
      rw [← hd]
      unfold Op.equalIn
      simp [run_underlying Tryd.underlying3]
    simp only [Op.eqItems, Sem.run_bind, hp, he, Result.andThen_ok]
    simpa using items_same w xs is (fun j hj => h j (List.mem_cons_of_mem _ hj))
theorem regs_same (w : World) (r : Nat → Int) : (Op.equalIn 10000 26 (.agg #[.int .i64 (r 0), .int .i64 (r 1), .int .i64 (r 2), .int .i64 (r 3), .int .i64 (r 4), .int .i64 (r 5), .int .i64 (r 6), .int .i64 (r 7)]) (.agg #[.int .i64 (r 0), .int .i64 (r 1), .int .i64 (r 2), .int .i64 (r 3), .int .i64 (r 4), .int .i64 (r 5), .int .i64 (r 6), .int .i64 (r 7)])).run Tryd.prog w = .ok true w := by
  obtain ⟨i, hi⟩ := info3
  rw [run_equalIn_array w 9999 _ _ Tryd.underlying26 hi, show Tryd.prog.cellsOf 3 = 1 by kernel_rfl]
  refine items_same w _ _ (fun i hi => ?_)
  have h8 : i < 8 := List.mem_range.1 hi
  rcases lt8 h8 with rfl | rfl | rfl | rfl | rfl | rfl | rfl | rfl
  all_goals exact ⟨_, rfl⟩
end Go.Proofs.YtgeinjldjpaleaaDoor
