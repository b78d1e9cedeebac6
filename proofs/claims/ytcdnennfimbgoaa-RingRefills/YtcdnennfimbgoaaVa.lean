/-
  The variables of taskmilllaw.RingRefills.
-/
import Derived.Test.YtcdnennfimbgoaaS
import Derived.Test.YtcdnennfimbgoaaZe
namespace Go.Proofs.Ytcdnennfimbgoaa
open Go.RowKit

/-- The law's variables: q, p, f, w; w5 is the world ahead of w's. -/
structure RefVars (w w5 : World) (nx : Int) (v : Value) (s7 : Nat) (p0 p1 f0 f1 : Value) (x y : Int) (W : World) : Prop where
  b3 : w5.heap[w.heap.size]? = some (.cells #[.int .i64 nx, v] 24 (0, 0))
  b7 : w5.heap[s7]? = some (.cells #[p0, p1] 24 (0, 0))
  b9 : w5.heap[s7 + 1]? = some (.cells #[f0, f1] 28 (0, 0))
  b10 : W.heap[w5.heap.size]? = some (.cells #[.int .i64 x, .int .i64 y] 28 (0, 0))
  old : Below w.heap.size w w5
  below : Below w5.heap.size w5 W

section
variable {w w5 : World} {nx : Int} {v : Value} {s7 : Nat} {p0 p1 f0 f1 : Value} {x y : Int} {W : World}

theorem RefVars.keep (h : RefVars w w5 nx v s7 p0 p1 f0 f1 x y W) {W' : World} (hb : Below W.heap.size W W') : RefVars w w5 nx v s7 p0 p1 f0 f1 x y W' :=
  ⟨h.b3, h.b7, h.b9, keep_below h.b10 hb, h.old, h.below.trans (hb.mono h.below.size)⟩
theorem RefVars.set (h : RefVars w w5 nx v s7 p0 p1 f0 f1 x y W) (a b : Int) : RefVars w w5 nx v s7 p0 p1 f0 f1 a b ((W.setCell ⟨w5.heap.size, 0, none⟩ (.int .i64 a)).setCell ⟨w5.heap.size, 1, none⟩ (.int .i64 b)) :=
  ⟨h.b3, h.b7, h.b9, block2_set h.b10, h.old, (h.below.setCell (p := ⟨w5.heap.size, 0, none⟩) (Nat.le_refl _) _).setCell (p := ⟨w5.heap.size, 1, none⟩) (Nat.le_refl _) _⟩
theorem RefVars.all (h : RefVars w w5 nx v s7 p0 p1 f0 f1 x y W) : Below w.heap.size w W := h.old.trans (h.below.mono h.old.size)
/-- What the walk wants to know of them. -/
theorem RefVars.cells (h : RefVars w w5 nx v s7 p0 p1 f0 f1 x y W) :
    (W.cell? ⟨w.heap.size, 0, none⟩ = some (.int .i64 nx) ∧ W.cell? ⟨w.heap.size, 1, none⟩ = some v) ∧ (W.cell? ⟨s7, 0, none⟩ = some p0 ∧ W.cell? ⟨s7, 1, none⟩ = some p1) ∧ (W.cell? ⟨s7 + 1, 0, none⟩ = some f0 ∧ W.cell? ⟨s7 + 1, 1, none⟩ = some f1) ∧
    (W.cell? ⟨w5.heap.size, 0, none⟩ = some (.int .i64 x) ∧ W.cell? ⟨w5.heap.size, 1, none⟩ = some (.int .i64 y)) ∧ (W.frozen? ⟨w5.heap.size, 0, none⟩ = false ∧ W.frozen? ⟨w5.heap.size, 1, none⟩ = false) :=
  have b3 := block2 (keep_below h.b3 h.below)
  have b7 := block2 (keep_below h.b7 h.below)
  have b9 := block2 (keep_below h.b9 h.below)
  have b10 := block2 h.b10
  ⟨⟨b3.1, b3.2.1⟩, ⟨b7.1, b7.2.1⟩, ⟨b9.1, b9.2.1⟩, ⟨b10.1, b10.2.1⟩, b10.2.2.1, b10.2.2.2.1⟩
end

/-- How they come to be. -/
theorem ref_vars {w w4 w5 : World} {nx : Int} {v : Value} {x y : Int} {p0 p1 f0 f1 : Value} (h4 : Below (w.heap.size + 1) (w.alloc (.cells #[.int .i64 nx, v] 24)) w4)
    (h5 : Below ((w4.alloc (.cells #[p0, p1] 24)).alloc (.cells #[f0, f1] 28)).heap.size ((w4.alloc (.cells #[p0, p1] 24)).alloc (.cells #[f0, f1] 28)) w5) :
    RefVars w w5 nx v w4.heap.size p0 p1 f0 f1 x y (w5.alloc (.cells #[.int .i64 x, .int .i64 y] 28)) := by
  have b3 : w4.heap[w.heap.size]? = some (.cells #[.int .i64 nx, v] 24) := (h4.block _ (by omega)).trans (new_block w _)
  have q5 := next1b h4 h5
  exact ⟨keep_below (keep_alloc (keep_alloc b3 _) _) h5, keep_below (keep_alloc (new_block w4 _) _) h5, keep_below (new_block2 w4 _ _) h5, new_block w5 _, below1 q5, (Below.refl _ _).alloc (Nat.le_refl _) _⟩

set_option maxRecDepth 100000 in
set_option maxHeartbeats 1000000 in
theorem refills_long (w : World) (nx p : Int) (a ag : Option Addr) (m c n cg : Nat) (hm : m ≤ maxLen) (hn : n ≤ maxLen) (hl : 2000 < m ∨ 6000 < n) :
    Calls Try.prog 5 #[.agg #[.int .i64 nx, .slice a m c], .slice ag n cg, .int .i64 p] w fun e w' => e = .returned (.bool true) ∧ Below w.heap.size w w' := by
  have hnot : ∀ (x : Bool) (w : World), (Op.unary .not (.bool x)).run Try.prog w = .ok (.bool (!x)) w := fun _ _ => rfl
  unfold maxLen at hm hn
  by_cases h1 : 2000 < m
  · have h2 : (2000 : Int) < (m : Int) := by omega
    clear hl
    go_enter Try.func5, Try.ntmps5
    go_wp2_with (go_at_call 9; refine (begun_any _).mono ?_; rintro e w1 ⟨rfl, hb1⟩; have hx1 := hb1.mono (show w.heap.size + 1 ≤ _ by simp); obtain ⟨x0, x1, s1⟩ := arg1 hx1; have HX1 := hide hx1; clear hb1 hx1)
    go_ret
    exact ⟨rfl, below1 (unhide HX1)⟩
  · have h2 : ¬ (2000 : Int) < (m : Int) := by omega
    have h3 : (6000 : Int) < (n : Int) := by omega
    clear hl
    go_enter Try.func5, Try.ntmps5
    go_wp2_with (go_at_call 9; refine (begun_any _).mono ?_; rintro e w1 ⟨rfl, hb1⟩; have hx1 := hb1.mono (show w.heap.size + 1 ≤ _ by simp); obtain ⟨x0, x1, s1⟩ := arg1 hx1; have HX1 := hide hx1; clear hb1 hx1)
    go_ret
    exact ⟨rfl, below1 (unhide HX1)⟩
end Go.Proofs.Ytcdnennfimbgoaa
