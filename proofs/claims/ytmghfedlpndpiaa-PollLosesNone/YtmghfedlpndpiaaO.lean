/-
  A variable of seven cells that is stored.
-/
import Derived.Test.YtmghfedlpndpiaaN
import Derived.Test.YtmghfedlpndpiaaM
namespace Go.Proofs.Ytmghfedlpndpiaa
open Go.RowKit

def put7 (w : World) (R : Nat) (y0 y1 y2 y3 y4 y5 y6 : Value) : World := ((((((w.setCell ⟨R, 0, none⟩ y0).setCell ⟨R, 1, none⟩ y1).setCell ⟨R, 2, none⟩ y2).setCell ⟨R, 3, none⟩ y3).setCell ⟨R, 4, none⟩ y4).setCell ⟨R, 5, none⟩ y5).setCell ⟨R, 6, none⟩ y6
theorem put7_keep {w : World} {R k : Nat} {y0 y1 y2 y3 y4 y5 y6 : Value} (h : k ≠ R) : (put7 w R y0 y1 y2 y3 y4 y5 y6).heap[k]? = w.heap[k]? := by
  unfold put7
  repeat rw [Below.heap_setCell _ _ _ _ (by simpa using h)]
theorem put7_below {B R : Nat} {w w' : World} (h : Below B w w') (hR : B ≤ R) {y0 y1 y2 y3 y4 y5 y6 : Value} : Below B w (put7 w' R y0 y1 y2 y3 y4 y5 y6) := (((((((h.setCell hR y0).setCell hR y1).setCell hR y2).setCell hR y3).setCell hR y4).setCell hR y5).setCell hR y6)
theorem put7_new {w : World} {R : Nat} {x0 x1 x2 x3 x4 x5 x6 y0 y1 y2 y3 y4 y5 y6 : Value} {t : TypeId} (h0 : w.heap[R]? = some (.cells #[x0, x1, x2, x3, x4, x5, x6] t (0, 0))) : (put7 w R y0 y1 y2 y3 y4 y5 y6).heap[R]? = some (.cells #[y0, y1, y2, y3, y4, y5, y6] t (0, 0)) := by
  have h1 := set_block7 (i := 0) (y := y0) h0
  have h2 := set_block7 (i := 1) (y := y1) h1
  have h3 := set_block7 (i := 2) (y := y2) h2
  have h4 := set_block7 (i := 3) (y := y3) h3
  have h5 := set_block7 (i := 4) (y := y4) h4
  have h6 := set_block7 (i := 5) (y := y5) h5
  have h7 := set_block7 (i := 6) (y := y6) h6
  exact h7

end Go.Proofs.Ytmghfedlpndpiaa
