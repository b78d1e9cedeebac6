/-
  Variables that are stored; a number and a list (groups, semaphores, gates); a once.
-/
import Derived.Test.YtpogcfdmkeebmaaE
namespace Go.Proofs.Ytpogcfdmkeebmaa
open Go.RowKit

theorem post_first {w : World} {b off : Nat} {xs : List Po} (h : Lies KP w b off xs) (hn : 0 < xs.length) {t v : Int} {c : Bool} (he : pAt xs 0 = (t, c, v)) :
    w.cell? ⟨b, off, none⟩ = some (.int .i64 t) ∧ w.cell? ⟨b, off + 1, none⟩ = some (.bool c) ∧ w.cell? ⟨b, off + 2, none⟩ = some (.int .i64 v) := by
  have := h.post hn he
  simpa using this
theorem set_block3 {w : World} {R i : Nat} {x0 x1 x2 y : Value} {t : TypeId} (h : w.heap[R]? = some (.cells #[x0, x1, x2] t (0, 0))) : (w.setCell ⟨R, i, none⟩ y).heap[R]? = some (.cells (#[x0, x1, x2].setIfInBounds i y) t (0, 0)) := by
  simp [World.setCell, Array.getElem?_modify, h]
theorem set2b {w : World} {R i : Nat} {x0 x1 y : Value} {t : TypeId} (h : w.heap[R]? = some (.cells #[x0, x1] t (0, 0))) : (w.setCell ⟨R, i, none⟩ y).heap[R]? = some (.cells (#[x0, x1].setIfInBounds i y) t (0, 0)) := by
  simp [World.setCell, Array.getElem?_modify, h]
/-- A variable of three cells that is stored. -/
def putL (w : World) (R : Nat) (y0 y1 y2 : Value) : World := ((w.setCell ⟨R, 0, none⟩ y0).setCell ⟨R, 1, none⟩ y1).setCell ⟨R, 2, none⟩ y2
theorem putL_keep {w : World} {R k : Nat} {y0 y1 y2 : Value} (h : k ≠ R) : (putL w R y0 y1 y2).heap[k]? = w.heap[k]? := by
  unfold putL
  repeat rw [Below.heap_setCell _ _ _ _ (by simpa using h)]
theorem putL_keeps {w : World} {R k : Nat} {x : Obj} (h : w.heap[k]? = some x) (hk : k ≠ R) {y0 y1 y2 : Value} : (putL w R y0 y1 y2).heap[k]? = some x := (putL_keep hk).trans h
theorem putL_below {B R : Nat} {w w' : World} (h : Below B w w') (hR : B ≤ R) {y0 y1 y2 : Value} : Below B w (putL w' R y0 y1 y2) := ((h.setCell hR y0).setCell hR y1).setCell hR y2
theorem putL_new {w : World} {R : Nat} {x0 x1 x2 y0 y1 y2 : Value} {t : TypeId} (h : w.heap[R]? = some (.cells #[x0, x1, x2] t (0, 0))) : (putL w R y0 y1 y2).heap[R]? = some (.cells #[y0, y1, y2] t (0, 0)) := by
  have h1 := set_block3 (i := 0) (y := y0) h
  have h2 := set_block3 (i := 1) (y := y1) h1
  have h3 := set_block3 (i := 2) (y := y2) h2
  exact h3
theorem putL_own {α : Type} {K : Kind α} {base R : Nat} {w : World} {v : Value} {xs : List α} (h : Own K base w v xs) {x0 x1 x2 : Value} {t : TypeId} (hR : w.heap[R]? = some (.cells #[x0, x1, x2] t (0, 0))) (ht : t ≠ K.e) {y0 y1 y2 : Value} : Own K base (putL w R y0 y1 y2) v xs := h.keep fun k hk => putL_keep (Own.ne h hR ht k hk)

theorem put2_own {α : Type} {K : Kind α} {base R : Nat} {w : World} {v : Value} {xs : List α} (h : Own K base w v xs) {x0 x1 : Value} {t : TypeId} (hR : w.heap[R]? = some (.cells #[x0, x1] t (0, 0))) (ht : t ≠ K.e) {y0 y1 : Value} : Own K base (put2 w R y0 y1) v xs := h.keep fun k hk => put2_keep (Own.ne h hR ht k hk)
theorem put2_keeps {w : World} {R k : Nat} {x : Obj} (h : w.heap[k]? = some x) (hk : k ≠ R) {y0 y1 : Value} : (put2 w R y0 y1).heap[k]? = some x := (put2_keep hk).trans h
theorem But.set2 {M R : Nat} {w W : World} (h : But M w W) (hR : w.heap.size ≤ R) (x y : Value) : But M w ((W.setCell ⟨R, 0, none⟩ x).setCell ⟨R, 1, none⟩ y) := by
  exact ⟨h.os, h.tape, h.output, Nat.le_trans h.size (by simp [World.setCell]), fun k hk hg => (put2_keep (w := W) (y0 := x) (y1 := y) (by omega)).trans (h.block k hk hg)⟩
/-- The slice v reads as the list xs, and lies in the block o, if in any. -/
def At {α : Type} (K : Kind α) (o : Option Nat) (w : World) (v : Value) (xs : List α) : Prop := IsL K w v xs ∧ ∀ k, v.ownBlock = some k → o = some k
theorem at_own {α : Type} {K : Kind α} {w : World} {v : Value} {xs : List α} (h : IsL K w v xs) : At K v.ownBlock w v xs := ⟨h, fun _ hk => hk⟩
theorem At.below {α : Type} {K : Kind α} {o : Option Nat} {w w' : World} {v : Value} {xs : List α} (h : At K o w v xs) (hb : Below w.heap.size w w') : At K o w' v xs := ⟨h.1.below hb, h.2⟩
theorem IsL.keep {α : Type} {K : Kind α} (hK : K.Ok) {w w' : World} {v : Value} {xs : List α} (h : IsL K w v xs) (hk : ∀ k, v.ownBlock = some k → w'.heap[k]? = w.heap[k]?) : IsL K w' v xs := by
  by_cases h0 : 0 < xs.length
  · obtain ⟨b, off, c, rfl, hb, hli⟩ := h.at hK h0
    exact (hli.keep (hk b rfl)).isl hK rfl h.fits
  · have e : xs = [] := List.eq_nil_of_length_eq_zero (by omega)
    subst e
    obtain ⟨a, c, rfl⟩ := h.form
    cases a with
    | none =>
      obtain ⟨⟨_, ⟨h1, _⟩ | ⟨ad, cap, h1, _⟩⟩, h2⟩ := h
      · cases h1
        exact isl_nil w'
      · cases h1
    | some ad => exact IsL.none_left rfl
theorem At.keep {α : Type} {K : Kind α} (hK : K.Ok) {o : Option Nat} {w w' : World} {v : Value} {xs : List α} (h : At K o w v xs) (hk : ∀ k, o = some k → w'.heap[k]? = w.heap[k]?) : At K o w' v xs := ⟨h.1.keep hK fun k hk' => hk k (h.2 k hk'), h.2⟩
theorem At.new {α : Type} {K : Kind α} {o : Option Nat} {base : Nat} {w : World} {v : Value} {xs : List α} (h : At K o w v xs) (hb : ∀ k, o = some k → base ≤ k) : New K base w v xs := ⟨h.1, fun k hk => hb k (h.2 k hk)⟩

section
variable {α : Type} {K : Kind α}
/-- The value v reads as the number c and the list xs. -/
def IsG (K : Kind α) (w : World) (v : Value) (c : Int) (xs : List α) : Prop := ∃ vl, v = .agg #[.int .i64 c, vl] ∧ IsL K w vl xs
theorem IsG.below {w w' : World} {v : Value} {c : Int} {xs : List α} (h : IsG K w v c xs) (hb : Below w.heap.size w w') : IsG K w' v c xs := by
  obtain ⟨vl, rfl, h1⟩ := h
  exact ⟨vl, rfl, h1.below hb⟩
theorem IsG.form {w : World} {v : Value} {c : Int} {xs : List α} (h : IsG K w v c xs) : ∃ a d, v = .agg #[.int .i64 c, .slice a xs.length d] ∧ IsL K w (.slice a xs.length d) xs := by
  obtain ⟨vl, rfl, h1⟩ := h
  obtain ⟨a, d, rfl⟩ := h1.form
  exact ⟨a, d, rfl, h1⟩
theorem zero_g (w : World) (c : Int) : IsG K w (.agg #[.int .i64 c, .slice none 0 0]) c [] := ⟨_, rfl, isl_nil w⟩
/-- The value v reads as the number c and the list xs, which lies from the block base on. -/
def NewG (K : Kind α) (base : Nat) (w : World) (v : Value) (c : Int) (xs : List α) : Prop := ∃ vl, v = .agg #[.int .i64 c, vl] ∧ New K base w vl xs
theorem NewG.g {base : Nat} {w : World} {v : Value} {c : Int} {xs : List α} (h : NewG K base w v c xs) : IsG K w v c xs := by
  obtain ⟨vl, rfl, h1⟩ := h
  exact ⟨vl, rfl, h1.1⟩
theorem NewG.below {base : Nat} {w w' : World} {v : Value} {c : Int} {xs : List α} (h : NewG K base w v c xs) (hb : Below w.heap.size w w') : NewG K base w' v c xs := by
  obtain ⟨vl, rfl, h1⟩ := h
  exact ⟨vl, rfl, h1.below hb⟩
theorem NewG.base {base base' : Nat} {w : World} {v : Value} {c : Int} {xs : List α} (h : NewG K base w v c xs) (hb : base' ≤ base) : NewG K base' w v c xs := by
  obtain ⟨vl, rfl, h1⟩ := h
  exact ⟨vl, rfl, h1.base hb⟩
theorem NewG.form {base : Nat} {w : World} {v : Value} {c : Int} {xs : List α} (h : NewG K base w v c xs) : ∃ a d, v = .agg #[.int .i64 c, .slice a xs.length d] ∧ New K base w (.slice a xs.length d) xs := by
  obtain ⟨vl, rfl, h1⟩ := h
  obtain ⟨a, d, rfl⟩ := h1.1.form
  exact ⟨a, d, rfl, h1⟩
theorem zero_newg (base : Nat) (w : World) (c : Int) : NewG K base w (.agg #[.int .i64 c, .slice none 0 0]) c [] := ⟨_, rfl, new_nil _ _⟩
/-- The value v reads as the number c and the list xs, which lies in the block o, if in any. -/
def AtG (K : Kind α) (o : Option Nat) (w : World) (v : Value) (c : Int) (xs : List α) : Prop := ∃ vl, v = .agg #[.int .i64 c, vl] ∧ At K o w vl xs
theorem AtG.form {o : Option Nat} {w : World} {v : Value} {c : Int} {xs : List α} (h : AtG K o w v c xs) : ∃ a d, v = .agg #[.int .i64 c, .slice a xs.length d] ∧ At K o w (.slice a xs.length d) xs := by
  obtain ⟨vl, rfl, h1⟩ := h
  obtain ⟨a, d, rfl⟩ := h1.1.form
  exact ⟨a, d, rfl, h1⟩
theorem AtG.g {o : Option Nat} {w : World} {v : Value} {c : Int} {xs : List α} (h : AtG K o w v c xs) : IsG K w v c xs := by
  obtain ⟨vl, rfl, h1⟩ := h
  exact ⟨vl, rfl, h1.1⟩
theorem IsG.at {w : World} {v : Value} {c : Int} {xs : List α} (h : IsG K w v c xs) : ∃ o, AtG K o w v c xs := by
  obtain ⟨vl, rfl, h1⟩ := h
  exact ⟨_, vl, rfl, at_own h1⟩
/-- The value v is the number c and the list xs, a row of its own. -/
def OwnG (K : Kind α) (base : Nat) (w : World) (v : Value) (c : Int) (xs : List α) : Prop := ∃ vl, v = .agg #[.int .i64 c, vl] ∧ Own K base w vl xs
theorem OwnG.new {base : Nat} {w : World} {v : Value} {c : Int} {xs : List α} (h : OwnG K base w v c xs) : NewG K base w v c xs := by
  obtain ⟨vl, rfl, h1⟩ := h
  exact ⟨vl, rfl, h1.new⟩
theorem OwnG.form {base : Nat} {w : World} {v : Value} {c : Int} {xs : List α} (h : OwnG K base w v c xs) : ∃ a d, v = .agg #[.int .i64 c, .slice a xs.length d] ∧ Own K base w (.slice a xs.length d) xs := by
  obtain ⟨vl, rfl, h1⟩ := h
  obtain ⟨a, d, rfl⟩ := h1.form
  exact ⟨a, d, rfl, h1⟩
end

/-- The value v reads as the once of By, Done and Line. -/
def IsO (w : World) (v : Value) (b : Int) (d : Bool) (xs : List Int) : Prop := ∃ vl, v = .agg #[.int .i64 b, .bool d, vl] ∧ IsL KI w vl xs
theorem IsO.below {w w' : World} {v : Value} {b : Int} {d : Bool} {xs : List Int} (h : IsO w v b d xs) (hb : Below w.heap.size w w') : IsO w' v b d xs := by
  obtain ⟨vl, rfl, h1⟩ := h
  exact ⟨vl, rfl, h1.below hb⟩
theorem IsO.form {w : World} {v : Value} {b : Int} {d : Bool} {xs : List Int} (h : IsO w v b d xs) : ∃ a c, v = .agg #[.int .i64 b, .bool d, .slice a xs.length c] ∧ IsL KI w (.slice a xs.length c) xs := by
  obtain ⟨vl, rfl, h1⟩ := h
  obtain ⟨a, c, rfl⟩ := h1.form
  exact ⟨a, c, rfl, h1⟩
theorem zero_o (w : World) (b : Int) (d : Bool) : IsO w (.agg #[.int .i64 b, .bool d, .slice none 0 0]) b d [] := ⟨_, rfl, isl_nil w⟩
def NewO (base : Nat) (w : World) (v : Value) (b : Int) (d : Bool) (xs : List Int) : Prop := ∃ vl, v = .agg #[.int .i64 b, .bool d, vl] ∧ New KI base w vl xs
theorem NewO.form {base : Nat} {w : World} {v : Value} {b : Int} {d : Bool} {xs : List Int} (h : NewO base w v b d xs) : ∃ a c, v = .agg #[.int .i64 b, .bool d, .slice a xs.length c] ∧ New KI base w (.slice a xs.length c) xs := by
  obtain ⟨vl, rfl, h1⟩ := h
  obtain ⟨a, c, rfl⟩ := h1.1.form
  exact ⟨a, c, rfl, h1⟩
theorem NewO.o {base : Nat} {w : World} {v : Value} {b : Int} {d : Bool} {xs : List Int} (h : NewO base w v b d xs) : IsO w v b d xs := by
  obtain ⟨vl, rfl, h1⟩ := h
  exact ⟨vl, rfl, h1.1⟩
theorem zero_newo (base : Nat) (w : World) (b : Int) (d : Bool) : NewO base w (.agg #[.int .i64 b, .bool d, .slice none 0 0]) b d [] := ⟨_, rfl, new_nil _ _⟩
end Go.Proofs.Ytpogcfdmkeebmaa
