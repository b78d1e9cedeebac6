/-
  Locks as they are read; lock.admits.
-/
import Derived.Test.YtdpcbmekplcllaaE
namespace Go.Proofs.Ytdpcbmekplcllaa
open Go.RowKit

theorem post_first {w : World} {b off : Nat} {xs : List Po} (h : Lies KP w b off xs) (hn : 0 < xs.length) {t v : Int} {c : Bool} (he : pAt xs 0 = (t, c, v)) :
    w.cell? ⟨b, off, none⟩ = some (.int .i64 t) ∧ w.cell? ⟨b, off + 1, none⟩ = some (.bool c) ∧ w.cell? ⟨b, off + 2, none⟩ = some (.int .i64 v) := by
  have := h.post hn he
  simpa using this
theorem set_block3 {w : World} {R i : Nat} {x0 x1 x2 y : Value} {t : TypeId} (h : w.heap[R]? = some (.cells #[x0, x1, x2] t (0, 0))) : (w.setCell ⟨R, i, none⟩ y).heap[R]? = some (.cells (#[x0, x1, x2].setIfInBounds i y) t (0, 0)) := by
  simp [World.setCell, Array.getElem?_modify, h]
theorem set2b {w : World} {R i : Nat} {x0 x1 y : Value} {t : TypeId} (h : w.heap[R]? = some (.cells #[x0, x1] t (0, 0))) : (w.setCell ⟨R, i, none⟩ y).heap[R]? = some (.cells (#[x0, x1].setIfInBounds i y) t (0, 0)) := by
  simp [World.setCell, Array.getElem?_modify, h]
/-- A variable of three cells that is stored. -/
def putL (w : World) (R : Nat) (y0 y1 y2 : Value) : World := ((w.setCell ⟨R, 0, none⟩ y0).setCell ⟨R, 1, none⟩ y1).setCell ⟨R, 2, none⟩ y2
theorem putL_keep {w : World} {R k : Nat} {y0 y1 y2 : Value} (h : k ≠ R) : (putL w R y0 y1 y2).heap[k]? = w.heap[k]? := by
  unfold putL
  repeat rw [Below.heap_setCell _ _ _ _ (by simpa using h)]
theorem putL_keeps {w : World} {R k : Nat} {x : Obj} (h : w.heap[k]? = some x) (hk : k ≠ R) {y0 y1 y2 : Value} : (putL w R y0 y1 y2).heap[k]? = some x := (putL_keep hk).trans h
theorem putL_below {B R : Nat} {w w' : World} (h : Below B w w') (hR : B ≤ R) {y0 y1 y2 : Value} : Below B w (putL w' R y0 y1 y2) := ((h.setCell hR y0).setCell hR y1).setCell hR y2
theorem putL_new {w : World} {R : Nat} {x0 x1 x2 y0 y1 y2 : Value} {t : TypeId} (h : w.heap[R]? = some (.cells #[x0, x1, x2] t (0, 0))) : (putL w R y0 y1 y2).heap[R]? = some (.cells #[y0, y1, y2] t (0, 0)) := by
  have h1 := set_block3 (i := 0) (y := y0) h
  have h2 := set_block3 (i := 1) (y := y1) h1
  have h3 := set_block3 (i := 2) (y := y2) h2
  exact h3
theorem putL_own {α : Type} {K : Kind α} {base R : Nat} {w : World} {v : Value} {xs : List α} (h : Own K base w v xs) {x0 x1 x2 : Value} {t : TypeId} (hR : w.heap[R]? = some (.cells #[x0, x1, x2] t (0, 0))) (ht : t ≠ K.e) {y0 y1 y2 : Value} : Own K base (putL w R y0 y1 y2) v xs := h.keep fun k hk => putL_keep (Own.ne h hR ht k hk)

/-- A lock. -/
structure Lk where
  readers : Int
  writer : Bool
  line : List Po
def zeroL : Lk := ⟨0, false, []⟩
/-- The value v reads as the lock P. -/
def IsLock (w : World) (v : Value) (P : Lk) : Prop := ∃ vl, v = .agg #[.int .i64 P.readers, .bool P.writer, vl] ∧ IsL KP w vl P.line
theorem IsLock.below {w w' : World} {v : Value} {P : Lk} (h : IsLock w v P) (hb : Below w.heap.size w w') : IsLock w' v P := by
  obtain ⟨vl, rfl, h1⟩ := h
  exact ⟨vl, rfl, h1.below hb⟩
theorem IsLock.form {w : World} {v : Value} {P : Lk} (h : IsLock w v P) : ∃ a c, v = .agg #[.int .i64 P.readers, .bool P.writer, .slice a P.line.length c] ∧ IsL KP w (.slice a P.line.length c) P.line := by
  obtain ⟨vl, rfl, h1⟩ := h
  obtain ⟨a, c, rfl⟩ := h1.form
  exact ⟨a, c, rfl, h1⟩
theorem zero_lock (w : World) : IsLock w (.agg #[.int .i64 0, .bool false, .slice none 0 0]) zeroL := ⟨_, rfl, isl_nil w⟩
/-- The value v reads as the lock P, whose line lies from the block base on. -/
def NewLock (base : Nat) (w : World) (v : Value) (P : Lk) : Prop := ∃ vl, v = .agg #[.int .i64 P.readers, .bool P.writer, vl] ∧ New KP base w vl P.line
theorem NewLock.lock {base : Nat} {w : World} {v : Value} {P : Lk} (h : NewLock base w v P) : IsLock w v P := by
  obtain ⟨vl, rfl, h1⟩ := h
  exact ⟨vl, rfl, h1.1⟩
theorem NewLock.below {base : Nat} {w w' : World} {v : Value} {P : Lk} (h : NewLock base w v P) (hb : Below w.heap.size w w') : NewLock base w' v P := by
  obtain ⟨vl, rfl, h1⟩ := h
  exact ⟨vl, rfl, h1.below hb⟩
theorem NewLock.base {base base' : Nat} {w : World} {v : Value} {P : Lk} (h : NewLock base w v P) (hb : base' ≤ base) : NewLock base' w v P := by
  obtain ⟨vl, rfl, h1⟩ := h
  exact ⟨vl, rfl, h1.base hb⟩
theorem NewLock.keep {base : Nat} {w w' : World} {v : Value} {P : Lk} (h : NewLock base w v P) (hk : ∀ k, base ≤ k → k < w.heap.size → w'.heap[k]? = w.heap[k]?) : NewLock base w' v P := by
  obtain ⟨vl, rfl, h1⟩ := h
  exact ⟨vl, rfl, h1.keep kp hk⟩
theorem NewLock.form {base : Nat} {w : World} {v : Value} {P : Lk} (h : NewLock base w v P) : ∃ a c, v = .agg #[.int .i64 P.readers, .bool P.writer, .slice a P.line.length c] ∧ New KP base w (.slice a P.line.length c) P.line := by
  obtain ⟨vl, rfl, h1⟩ := h
  obtain ⟨a, c, rfl⟩ := h1.1.form
  exact ⟨a, c, rfl, h1⟩
theorem zero_newlock (base : Nat) (w : World) : NewLock base w (.agg #[.int .i64 0, .bool false, .slice none 0 0]) zeroL := ⟨_, rfl, new_nil _ _⟩
/-- The slice v reads as the list xs, and lies in the block o, if in any. -/
def At {α : Type} (K : Kind α) (o : Option Nat) (w : World) (v : Value) (xs : List α) : Prop := IsL K w v xs ∧ ∀ k, v.ownBlock = some k → o = some k
theorem at_own {α : Type} {K : Kind α} {w : World} {v : Value} {xs : List α} (h : IsL K w v xs) : At K v.ownBlock w v xs := ⟨h, fun _ hk => hk⟩
theorem At.below {α : Type} {K : Kind α} {o : Option Nat} {w w' : World} {v : Value} {xs : List α} (h : At K o w v xs) (hb : Below w.heap.size w w') : At K o w' v xs := ⟨h.1.below hb, h.2⟩
theorem IsL.keep {α : Type} {K : Kind α} (hK : K.Ok) {w w' : World} {v : Value} {xs : List α} (h : IsL K w v xs) (hk : ∀ k, v.ownBlock = some k → w'.heap[k]? = w.heap[k]?) : IsL K w' v xs := by
  by_cases h0 : 0 < xs.length
  · obtain ⟨b, off, c, rfl, hb, hli⟩ := h.at hK h0
    exact (hli.keep (hk b rfl)).isl hK rfl h.fits
  · have e : xs = [] := List.eq_nil_of_length_eq_zero (by omega)
    subst e
    obtain ⟨a, c, rfl⟩ := h.form
    cases a with
    | none =>
      obtain ⟨⟨_, ⟨h1, _⟩ | ⟨ad, cap, h1, _⟩⟩, h2⟩ := h
      · cases h1
        exact isl_nil w'
      · cases h1
    | some ad => exact IsL.none_left rfl
theorem At.keep {α : Type} {K : Kind α} (hK : K.Ok) {o : Option Nat} {w w' : World} {v : Value} {xs : List α} (h : At K o w v xs) (hk : ∀ k, o = some k → w'.heap[k]? = w.heap[k]?) : At K o w' v xs := ⟨h.1.keep hK fun k hk' => hk k (h.2 k hk'), h.2⟩
theorem At.new {α : Type} {K : Kind α} {o : Option Nat} {base : Nat} {w : World} {v : Value} {xs : List α} (h : At K o w v xs) (hb : ∀ k, o = some k → base ≤ k) : New K base w v xs := ⟨h.1, fun k hk => hb k (h.2 k hk)⟩
/-- The value v reads as the lock P, whose line lies in the block o, if in any. -/
def AtLock (o : Option Nat) (w : World) (v : Value) (P : Lk) : Prop := ∃ vl, v = .agg #[.int .i64 P.readers, .bool P.writer, vl] ∧ At KP o w vl P.line
theorem AtLock.form {o : Option Nat} {w : World} {v : Value} {P : Lk} (h : AtLock o w v P) : ∃ a c, v = .agg #[.int .i64 P.readers, .bool P.writer, .slice a P.line.length c] ∧ At KP o w (.slice a P.line.length c) P.line := by
  obtain ⟨vl, rfl, h1⟩ := h
  obtain ⟨a, c, rfl⟩ := h1.1.form
  exact ⟨a, c, rfl, h1⟩
theorem AtLock.lock {o : Option Nat} {w : World} {v : Value} {P : Lk} (h : AtLock o w v P) : IsLock w v P := by
  obtain ⟨vl, rfl, h1⟩ := h
  exact ⟨vl, rfl, h1.1⟩
theorem IsLock.at {w : World} {v : Value} {P : Lk} (h : IsLock w v P) : ∃ o, AtLock o w v P := by
  obtain ⟨vl, rfl, h1⟩ := h
  exact ⟨_, vl, rfl, at_own h1⟩
/-- The value v is the lock P, whose line is a row of its own. -/
def OwnLock (base : Nat) (w : World) (v : Value) (P : Lk) : Prop := ∃ vl, v = .agg #[.int .i64 P.readers, .bool P.writer, vl] ∧ Own KP base w vl P.line
theorem OwnLock.new {base : Nat} {w : World} {v : Value} {P : Lk} (h : OwnLock base w v P) : NewLock base w v P := by
  obtain ⟨vl, rfl, h1⟩ := h
  exact ⟨vl, rfl, h1.new⟩
theorem OwnLock.form {base : Nat} {w : World} {v : Value} {P : Lk} (h : OwnLock base w v P) : ∃ a c, v = .agg #[.int .i64 P.readers, .bool P.writer, .slice a P.line.length c] ∧ Own KP base w (.slice a P.line.length c) P.line := by
  obtain ⟨vl, rfl, h1⟩ := h
  obtain ⟨a, c, rfl⟩ := h1.form
  exact ⟨a, c, rfl, h1⟩

/-- Is there somebody who waits, and whom the lock lets in? -/
def lets (r : Int) (wr : Bool) : List Po → Bool
  | [] => false
  | x :: _ => !wr && (!x.2.1 || r == 0)
/-- The lock when all who can be are let in; who. -/
def admR (r : Int) (wr : Bool) : List Po → Lk × List Int
  | [] => (⟨r, wr, []⟩, [])
  | x :: l => if lets r wr (x :: l) = true then ((admR (if x.2.1 = true then r else r + 1) (if x.2.1 = true then true else wr) l).1, x.1 :: (admR (if x.2.1 = true then r else r + 1) (if x.2.1 = true then true else wr) l).2) else (⟨r, wr, x :: l⟩, [])
theorem admR_stay {r : Int} {wr : Bool} {l : List Po} (h : lets r wr l = false) : admR r wr l = (⟨r, wr, l⟩, []) := by
  cases l with
  | nil => rfl
  | cons x l => unfold admR; rw [if_neg (by rw [h]; simp)]
theorem admR_go {r : Int} {wr : Bool} {t : Int} {c : Bool} {u : Int} {l : List Po} (h : lets r wr ((t, c, u) :: l) = true) : admR r wr ((t, c, u) :: l) = ((admR (if c = true then r else r + 1) (if c = true then true else wr) l).1, t :: (admR (if c = true then r else r + 1) (if c = true then true else wr) l).2) := by
  rw [admR, if_pos h]

set_option maxRecDepth 100000 in
set_option maxHeartbeats 400000 in
theorem admits_any (w : World) (v : Value) (P : Lk) (h : IsLock w v P) :
    Calls Try.prog 35 #[v] w fun e w' => e = .returned (.bool (lets P.readers P.writer P.line)) ∧ Below w.heap.size w w' := by
  obtain ⟨r, wr, line⟩ := P
  obtain ⟨a, c, rfl, hL⟩ := h.form
  simp only at hL ⊢
  clear h
  cases line with
  | nil =>
    simp only [List.length_nil]
    go_enter Try.func35, Try.ntmps35
    go_wp2
    go_ret
    exact ⟨rfl, (Below.refl _ _).alloc (Nat.le_refl _) _⟩
  | cons x l =>
    obtain ⟨b, off, rfl, hb, hl⟩ := hL.opens kp rfl (by simp)
    obtain ⟨t, q, u⟩ := x
    have e : lets r wr ((t, q, u) :: l) = (!wr && (!q || (r == 0))) := rfl
    rw [e]
    obtain ⟨n, en⟩ : ∃ n, ((t, q, u) :: l).length = n := ⟨_, rfl⟩
    have i1 : 0 < n := by rw [← en]; simp
    have i2 : (0 : Int) < (n : Int) := by omega
    have HPF := hide (post_first hl (by simp) rfl)
    rw [en]
    have HB := hide ((Below.refl w.heap.size w).alloc (Nat.le_refl _) (.cells #[.int .i64 r, .bool wr, .slice (some ⟨b, off, none⟩) n c] 24))
    have HK := hide (new_block w (.cells #[.int .i64 r, .bool wr, .slice (some ⟨b, off, none⟩) n c] 24))
    obtain ⟨z, hz⟩ : ∃ z, (r == 0) = z := ⟨_, rfl⟩
    rw [hz]
    clear hL hl e en
    go_enter Try.func35, Try.ntmps35
    go_upto_region 1 with fail
    obtain ⟨W0, e0⟩ : ∃ W, w.alloc (.cells #[.int .i64 r, .bool wr, .slice (some ⟨b, off, none⟩) n c] 24) = W := ⟨_, rfl⟩
    rw [e0] at HB HK ⊢
    clear e0
    obtain ⟨⟨p0, p1, p2⟩, -, pl⟩ := block3 (unhide HK)
    have k1 : W0.cell? ⟨b, off + 1, none⟩ = some (.bool q) := ((unhide HB).cell (p := ⟨b, off + 1, none⟩) hb).trans (unhide HPF).2.1
    cases wr <;> cases q <;> cases z
    all_goals
      go_wp2
      go_ret
      exact ⟨rfl, unhide HB⟩
end Go.Proofs.Ytdpcbmekplcllaa
