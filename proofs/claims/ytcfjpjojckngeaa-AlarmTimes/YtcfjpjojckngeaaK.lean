/-
  taskmilllaw.alarmBegun; the variables of taskmilllaw.AlarmAdds.
-/
import Derived.Test.YtcfjpjojckngeaaJ
namespace Go.Proofs.Ytcfjpjojckngeaa
open Go.RowKit

theorem ts_lit3 (w : World) (a b c : Tm) : IsTs (w.alloc (.cells #[.int .i64 a.1, .int .i64 a.2, .int .i64 b.1, .int .i64 b.2, .int .i64 c.1, .int .i64 c.2] 24)) (.slice (some ⟨w.heap.size, 0, none⟩) 3 3) [a, b, c] := by
  have hh := new_block w (.cells #[.int .i64 a.1, .int .i64 a.2, .int .i64 b.1, .int .i64 b.2, .int .i64 c.1, .int .i64 c.2] 24)
  refine Cells.ts (ts := [a, b, c]) (fun j hj => ?_) 3
  have : j = 0 ∨ j = 1 ∨ j = 2 := by simp at hj; omega
  rcases this with rfl | rfl | rfl
  all_goals
    constructor
    · simp only [World.cell?, hh]; rfl
    · simp only [World.cell?, hh]; rfl

theorem begun_made : madeL [(3, 1), (1, 2), (2, 3)] = [(1, 2), (3, 1), (2, 3)] := by decide
theorem begun_fault : madeF [(3, 1), (1, 2), (2, 3)] = (0, 0) := by decide

set_option maxRecDepth 100000 in
set_option maxHeartbeats 1000000 in
theorem begun_any (w : World) : Calls Try.prog 8 #[] w fun e w' => e = .returned (.bool true) ∧ Below w.heap.size w w' := by
  have HM := hide (made_ok _ (some ⟨w.heap.size, 0, none⟩) 3 3 [(3, 1), (1, 2), (2, 3)] rfl (ts_lit3 w (3, 1) (1, 2) (2, 3)) begun_fault)
  rw [begun_made] at HM
  go_enter Try.func8, Try.ntmps8
  go_upto_region 2 with (go_at_call 19; refine (unhide HM).mono ?_; rintro e w1 ⟨a1, c1, rfl, ho1, hb1⟩; have HO1 := hide ho1; have HB1 := hide (((Below.refl w.heap.size w).alloc (Nat.le_refl _) _).trans (hb1.mono (by simp))); clear ho1 hb1)
  have TB := hide (new_block w1 (.cells #[.int .i64 0, .int .i64 0] 28))
  have XB := hide ((unhide HB1).alloc (unhide HB1).size (.cells #[.int .i64 0, .int .i64 0] 28))
  have HI := hide (IsTs.below (unhide HO1).ts ((Below.refl _ _).alloc (Nat.le_refl _) (.cells #[.int .i64 0, .int .i64 0] 28)))
  obtain ⟨T, hT⟩ : ∃ T, w1.heap.size = T := ⟨_, rfl⟩
  obtain ⟨W2, hW2⟩ : ∃ W, w1.alloc (.cells #[.int .i64 0, .int .i64 0] 28) = W := ⟨_, rfl⟩
  rw [hT, hW2] at TB
  rw [hW2] at XB HI
  rw [hT, hW2]
  clear hT hW2
  obtain ⟨t0, t1, _, _, _⟩ := block2 (unhide TB)
  go_wp2_with (go_at_call 13; refine (same_any _ _ _ [(1, 2), (3, 1), (2, 3)] (IsTs.below (unhide HI) ((Below.refl _ _).alloc (Nat.le_refl _) _)) (ts_lit3 _ (1, 2) (3, 1) (2, 3)) (by simp [maxLen])).mono ?_; rintro e w5 ⟨rfl, hb5⟩; have HB5 := hide ((unhide XB).trans ((((Below.refl _ _).alloc (Nat.le_refl _) _).trans (hb5.mono (by simp))).mono (unhide XB).size)); clear hb5)
  go_ret
  exact ⟨rfl, unhide HB5⟩

/-- The law's variables: t, c, f, w; w5 is the world ahead of w's. -/
structure AddVars (w w5 : World) (x y : Int) (s6 s9 : Nat) (c0 c1 f0 f1 g0 g1 : Int) (W : World) : Prop where
  b3 : w5.heap[w.heap.size]? = some (.cells #[.int .i64 x, .int .i64 y] 24 (0, 0))
  b6 : w5.heap[s6]? = some (.cells #[.int .i64 c0, .int .i64 c1] 28 (0, 0))
  b9 : w5.heap[s9]? = some (.cells #[.int .i64 f0, .int .i64 f1] 28 (0, 0))
  b10 : W.heap[w5.heap.size]? = some (.cells #[.int .i64 g0, .int .i64 g1] 28 (0, 0))
  old : Below w.heap.size w w5
  below : Below w5.heap.size w5 W

section
variable {w w5 : World} {x y : Int} {s6 s9 : Nat} {c0 c1 f0 f1 g0 g1 : Int} {W : World}
theorem AddVars.keep (h : AddVars w w5 x y s6 s9 c0 c1 f0 f1 g0 g1 W) {W' : World} (hb : Below W.heap.size W W') : AddVars w w5 x y s6 s9 c0 c1 f0 f1 g0 g1 W' :=
  ⟨h.b3, h.b6, h.b9, keep_below h.b10 hb, h.old, h.below.trans (hb.mono h.below.size)⟩
theorem block2_set {w : World} {R : Nat} {x y x' y' : Value} {t : TypeId} (h : w.heap[R]? = some (.cells #[x, y] t (0, 0))) : ((w.setCell ⟨R, 0, none⟩ x').setCell ⟨R, 1, none⟩ y').heap[R]? = some (.cells #[x', y'] t (0, 0)) := by
  simp [World.setCell, Array.getElem?_modify, h]
theorem AddVars.set (h : AddVars w w5 x y s6 s9 c0 c1 f0 f1 g0 g1 W) (a b : Int) : AddVars w w5 x y s6 s9 c0 c1 f0 f1 a b ((W.setCell ⟨w5.heap.size, 0, none⟩ (.int .i64 a)).setCell ⟨w5.heap.size, 1, none⟩ (.int .i64 b)) :=
  ⟨h.b3, h.b6, h.b9, block2_set h.b10, h.old, (h.below.setCell (p := ⟨w5.heap.size, 0, none⟩) (Nat.le_refl _) _).setCell (p := ⟨w5.heap.size, 1, none⟩) (Nat.le_refl _) _⟩
theorem AddVars.all (h : AddVars w w5 x y s6 s9 c0 c1 f0 f1 g0 g1 W) : Below w.heap.size w W := h.old.trans (h.below.mono h.old.size)
theorem AddVars.cells (h : AddVars w w5 x y s6 s9 c0 c1 f0 f1 g0 g1 W) :
    (W.cell? ⟨w.heap.size, 0, none⟩ = some (.int .i64 x) ∧ W.cell? ⟨w.heap.size, 1, none⟩ = some (.int .i64 y)) ∧ (W.cell? ⟨s6, 0, none⟩ = some (.int .i64 c0) ∧ W.cell? ⟨s6, 1, none⟩ = some (.int .i64 c1)) ∧ (W.cell? ⟨s9, 0, none⟩ = some (.int .i64 f0) ∧ W.cell? ⟨s9, 1, none⟩ = some (.int .i64 f1)) ∧
    (W.cell? ⟨w5.heap.size, 0, none⟩ = some (.int .i64 g0) ∧ W.cell? ⟨w5.heap.size, 1, none⟩ = some (.int .i64 g1)) ∧ (W.frozen? ⟨w5.heap.size, 0, none⟩ = false ∧ W.frozen? ⟨w5.heap.size, 1, none⟩ = false) :=
  have b3 := block2 (keep_below h.b3 h.below)
  have b6 := block2 (keep_below h.b6 h.below)
  have b9 := block2 (keep_below h.b9 h.below)
  have b10 := block2 h.b10
  ⟨⟨b3.1, b3.2.1⟩, ⟨b6.1, b6.2.1⟩, ⟨b9.1, b9.2.1⟩, ⟨b10.1, b10.2.1⟩, b10.2.2.1, b10.2.2.2.1⟩
end

/-- How they come to be. -/
theorem add_vars {w w3 w4 w5 : World} {x y c0 c1 f0 f1 g0 g1 : Int} (h3 : Below (w.heap.size + 1) (w.alloc (.cells #[.int .i64 x, .int .i64 y] 24)) w3)
    (h4 : Below (w3.alloc (.cells #[.int .i64 c0, .int .i64 c1] 28)).heap.size (w3.alloc (.cells #[.int .i64 c0, .int .i64 c1] 28)) w4)
    (h5 : Below (w4.alloc (.cells #[.int .i64 f0, .int .i64 f1] 28)).heap.size (w4.alloc (.cells #[.int .i64 f0, .int .i64 f1] 28)) w5) :
    AddVars w w5 x y w3.heap.size w4.heap.size c0 c1 f0 f1 g0 g1 (w5.alloc (.cells #[.int .i64 g0, .int .i64 g1] 28)) := by
  have b3 : w3.heap[w.heap.size]? = some (.cells #[.int .i64 x, .int .i64 y] 24) := (h3.block _ (by omega)).trans (new_block w _)
  have up4 : ∀ {k : Nat} {o : Obj}, w3.heap[k]? = some o → w4.heap[k]? = some o := fun h => keep_below (keep_alloc h _) h4
  have up5 : ∀ {k : Nat} {o : Obj}, w4.heap[k]? = some o → w5.heap[k]? = some o := fun h => keep_below (keep_alloc h _) h5
  exact ⟨up5 (up4 b3), up5 (keep_below (new_block w3 _) h4), keep_below (new_block w4 _) h5, new_block w5 _, below1 (next1a (next1a h3 h4) h5), (Below.refl _ _).alloc (Nat.le_refl _) _⟩
theorem arg1 {w W : World} {x y : Value} (h : Below (w.heap.size + 1) (w.alloc (.cells #[x, y] 24)) W) : W.cell? ⟨w.heap.size, 0, none⟩ = some x ∧ W.cell? ⟨w.heap.size, 1, none⟩ = some y ∧ w.heap.size < W.heap.size := by
  have hh := block2 ((h.block _ (by omega)).trans (new_block w (.cells #[x, y] 24)))
  exact ⟨hh.1, hh.2.1, hh.2.2.2.2⟩
end Go.Proofs.Ytcfjpjojckngeaa
