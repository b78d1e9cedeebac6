/-
  Clocks: their cells, as values and in blocks.
-/
import Derived.Test.YtbnmeeabpjmcoaaD
namespace Go.Proofs.Ytbnmeeabpjmcoaa
open Go.RowKit

/-- A clock's cells. -/
def ckL (c : Nat → Int) : List Value := (List.range 64).map fun i => .int .i64 (c i)
theorem ckL_len (c : Nat → Int) : (ckL c).length = 64 := by unfold ckL; simp
theorem ckL_get (c : Nat → Int) {i : Nat} (h : i < 64) : (ckL c)[i]? = some (.int .i64 (c i)) := by unfold ckL; simp [h]
theorem ckL_one (c : Nat → Int) : ∀ u ∈ ckL c, u.oneCell' = true := by
  intro u hu
  unfold ckL at hu
  obtain ⟨i, _, rfl⟩ := List.mem_map.1 hu
  rfl
theorem ckL_all (c : Nat → Int) : (ckL c).toArray.all (·.oneCell') = true := all_oneCell_toArray (ckL_one c)
theorem ckL_ext {c d : Nat → Int} (h : ∀ i, i < 64 → c i = d i) : ckL c = ckL d := by
  unfold ckL
  apply List.map_congr_left
  intro i hi
  rw [h i (List.mem_range.1 hi)]
def ck0 : Nat → Int := fun _ => 0
theorem ck0_list : ckL ck0 = List.replicate 64 (.int .i64 0) := rfl
theorem ck0_arr : (Value.int .i64 0 :: Value.int .i64 0 :: Value.int .i64 0 :: Value.int .i64 0 :: Value.int .i64 0 :: Value.int .i64 0 :: Value.int .i64 0 :: Value.int .i64 0 :: Value.int .i64 0 :: Value.int .i64 0 :: Value.int .i64 0 :: Value.int .i64 0 :: Value.int .i64 0 :: Value.int .i64 0 :: Value.int .i64 0 :: Value.int .i64 0 :: Value.int .i64 0 :: Value.int .i64 0 :: Value.int .i64 0 :: Value.int .i64 0 :: Value.int .i64 0 :: Value.int .i64 0 :: Value.int .i64 0 :: Value.int .i64 0 :: Value.int .i64 0 :: Value.int .i64 0 :: Value.int .i64 0 :: Value.int .i64 0 :: Value.int .i64 0 :: Value.int .i64 0 :: Value.int .i64 0 :: Value.int .i64 0 :: Value.int .i64 0 :: Value.int .i64 0 :: Value.int .i64 0 :: Value.int .i64 0 :: Value.int .i64 0 :: Value.int .i64 0 :: Value.int .i64 0 :: Value.int .i64 0 :: Value.int .i64 0 :: Value.int .i64 0 :: Value.int .i64 0 :: Value.int .i64 0 :: Value.int .i64 0 :: Value.int .i64 0 :: Value.int .i64 0 :: Value.int .i64 0 :: Value.int .i64 0 :: Value.int .i64 0 :: Value.int .i64 0 :: Value.int .i64 0 :: Value.int .i64 0 :: Value.int .i64 0 :: Value.int .i64 0 :: Value.int .i64 0 :: Value.int .i64 0 :: Value.int .i64 0 :: Value.int .i64 0 :: Value.int .i64 0 :: Value.int .i64 0 :: Value.int .i64 0 :: Value.int .i64 0 :: Value.int .i64 0 :: []).toArray = (ckL ck0).toArray := rfl
attribute [irreducible] ckL
/-- A clock, as a value. -/
abbrev ckV (c : Nat → Int) : Value := .agg (ckL c).toArray
theorem Try.und65 : Try.prog.underlying 65 = some (.array 64 3) := by kernel_rfl
theorem Try.size65 : (Try.prog.info? 65).map (·.size) = some 64 := by kernel_rfl
theorem load_mid (w : World) (b o : Nat) (c : Nat → Int) (h : w.rangeAt b o (ckL c)) : (Instr.loadAt 65 (.pointer (some ⟨b, o, none⟩))).run Try.prog w = .ok (ckV c) w :=
  run_loadAt_mid w b o _ (ckL c) _ h Try.und65 rfl (by rw [ckL_len]; exact Try.size65)
theorem store_mid (w : World) (b o : Nat) (c : Nat → Int) (h : w.there b o 64) : (Instr.storeAt 65 (.pointer (some ⟨b, o, none⟩)) (ckV c)).run Try.prog w = .ok () (w.setCells b o (ckL c)) :=
  run_storeAt_mid w b o _ (ckL c).toArray (by simpa [ckL_len] using h) (by simpa [ckL_len] using Try.size65) (ckL_all c)
theorem range_block {w : World} {b : Nat} {l r : List Value} {c : Nat → Int} {t : TypeId} {f : Nat × Nat} (h : w.heap[b]? = some (.cells (l ++ ckL c ++ r).toArray t f)) : w.rangeAt b l.length (ckL c) := fun j v hv => by
  have hj : j < (ckL c).length := (List.getElem?_eq_some_iff.1 hv).1
  simp only [World.cell?, h]
  show (l ++ ckL c ++ r).toArray[l.length + j]? = some v
  rw [List.getElem?_toArray, List.getElem?_append_left (by rw [List.length_append]; omega), List.getElem?_append_right (by omega), Nat.add_sub_cancel_left]
  exact hv
theorem there_block {w : World} {b : Nat} {A : Array Value} {t : TypeId} (h : w.heap[b]? = some (.cells A t (0, 0))) {o n : Nat} (ho : o + n ≤ A.size) : w.there b o n := fun j hj => by
  constructor
  · simp only [World.cell?, h]
    show (A[o + j]?).isSome = true
    rw [Array.getElem?_eq_getElem (by omega)]; rfl
  · simp [World.frozen?, h]
/-- What a store of cells leaves in its block. -/
theorem setCells_block (b : Nat) {t : TypeId} {f : Nat × Nat} : ∀ (vs l m r : List Value) (w : World), w.heap[b]? = some (.cells (l ++ m ++ r).toArray t f) → m.length = vs.length → (w.setCells b l.length vs).heap[b]? = some (.cells (l ++ vs ++ r).toArray t f)
  | [], l, m, r, w, h, hm => by
    have e : m = [] := List.eq_nil_of_length_eq_zero hm
    subst e
    exact h
  | v :: vs, l, m, r, w, h, hm => by
    cases m with
    | nil => simp at hm
    | cons x m =>
      have h1 : (w.setCell ⟨b, l.length, none⟩ v).heap[b]? = some (.cells ((l ++ [v]) ++ m ++ r).toArray t f) := by
        simp [World.setCell, Array.getElem?_modify, h]
      have := setCells_block b vs (l ++ [v]) m r (w.setCell ⟨b, l.length, none⟩ v) h1 (by simpa using hm)
      rw [List.length_append] at this
      rw [World.setCells]
      simpa using this
theorem setCells_keep (b : Nat) : ∀ (vs : List Value) (o : Nat) (w : World) (k : Nat), k ≠ b → (w.setCells b o vs).heap[k]? = w.heap[k]?
  | [], _, _, _, _ => rfl
  | v :: vs, o, w, k, h => by
    rw [World.setCells, setCells_keep b vs _ _ k h]
    exact Below.heap_setCell _ _ _ _ (by simpa using h)
theorem setCells_size (b : Nat) : ∀ (vs : List Value) (o : Nat) (w : World), (w.setCells b o vs).heap.size = w.heap.size
  | [], _, _ => rfl
  | v :: vs, o, w => by
    rw [World.setCells, setCells_size b vs]
    simp [World.setCell]
theorem below_setCells {B b : Nat} {w0 : World} (hb : B ≤ b) : ∀ (vs : List Value) (o : Nat) (w : World), Below B w0 w → Below B w0 (w.setCells b o vs)
  | [], _, _, h => h
  | v :: vs, o, w, h => by
    rw [World.setCells]
    exact below_setCells hb vs _ _ (h.setCell hb v)
end Go.Proofs.Ytbnmeeabpjmcoaa
