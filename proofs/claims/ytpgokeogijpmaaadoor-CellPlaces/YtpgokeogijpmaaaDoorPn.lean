/-
  Neighbours that change places: in memory.
-/
import Derived.Test.YtpgokeogijpmaaaDoorPm
import Derived.Deep.MidRow
namespace Go.Proofs.YtpgokeogijpmaaaDoor
open Go.RowKit

theorem below_setCells {B : Nat} {w : World} {g : Nat} (hg : B ≤ g) : ∀ (vs : List Value) (o : Nat) (W : World), Below B w W → Below B w (W.setCells g o vs)
  | [], _, _, h => h
  | v :: r, o, _, h => below_setCells hg r (o + 1) _ (h.setCell (p := ⟨g, o, none⟩) hg v)

theorem op_cells_length (o : Op4) : o.cells.length = 4 := rfl

theorem swap_at1 {os : List Op4} {k : Nat} (hk : k + 1 < os.length) : opAtD (swapAt os k) (k + 1) = opAtD os k := by
  rw [swapAt, opAtD, List.getD_eq_getElem?_getD, List.getElem?_set_self (by simp; omega)]; rfl

theorem swap_at0 {os : List Op4} {k : Nat} (hk : k + 1 < os.length) : opAtD (swapAt os k) k = opAtD os (k + 1) := by
  rw [swapAt, opAtD, List.getD_eq_getElem?_getD, List.getElem?_set_ne (by omega), List.getElem?_set_self (by omega)]; rfl

theorem swap_at {os : List Op4} {k q : Nat} (h0 : q ≠ k) (h1 : q ≠ k + 1) : opAtD (swapAt os k) q = opAtD os q := by
  rw [swapAt, opAtD, List.getD_eq_getElem?_getD, List.getElem?_set_ne (by omega), List.getElem?_set_ne (by omega), ← List.getD_eq_getElem?_getD]; rfl

theorem swap_cells {w : World} {g off cap k : Nat} {os : List Op4} (h : IsOps w (.slice (some ⟨g, off, none⟩) os.length cap) os) (ht : w.there g off (os.length * 4)) (hk : k + 1 < os.length) :
    IsOps ((w.setCells g (off + k * 4) (opAtD os (k + 1)).cells).setCells g (off + (k + 1) * 4) (opAtD os k).cells) (.slice (some ⟨g, off, none⟩) os.length cap) (swapAt os k) := by
  have hc : ∀ j u, (opsCells os)[j]? = some u → w.cell? ⟨g, off + j, none⟩ = some u := by
    obtain ⟨_, ⟨h1, _⟩ | ⟨ad, cap', h1, h2⟩⟩ := h
    · cases h1
    · cases h1
      intro j u hj
      rw [← Addr.add_mid]
      exact h2 j u hj
  refine ⟨opsCells_length _, Or.inr ⟨⟨g, off, none⟩, cap, by rw [swap_length], fun j u hj => ?_⟩⟩
  rw [Addr.add_mid]
  have hlen : j < (swapAt os k).length * 4 := by rw [← opsCells_length]; exact (List.getElem?_eq_some_iff.1 hj).1
  rw [swap_length] at hlen
  obtain ⟨q, r, hr, rfl⟩ : ∃ q r, r < 4 ∧ j = q * 4 + r := ⟨j / 4, j % 4, by omega, by omega⟩
  rw [opsCells_get _ _ _ (by rw [swap_length]; omega) hr] at hj
  have there1 : ∀ j, j < (opAtD os k).cells.length → ((w.setCells g (off + k * 4) (opAtD os (k + 1)).cells).cell? ⟨g, off + (k + 1) * 4 + j, none⟩).isSome = true := fun j hj => by
    rw [op_cells_length] at hj
    have := World.isSome_setCells g (opAtD os (k + 1)).cells (off + k * 4) w ⟨g, off + ((k + 1) * 4 + j), none⟩ (ht ((k + 1) * 4 + j) (by omega)).1
    rw [Nat.add_assoc]
    exact this
  have there0 : ∀ j, j < (opAtD os (k + 1)).cells.length → (w.cell? ⟨g, off + k * 4 + j, none⟩).isSome = true := fun j hj => by
    rw [op_cells_length] at hj
    have := (ht (k * 4 + j) (by omega)).1
    rw [Nat.add_assoc]
    exact this
  by_cases h1 : q = k + 1
  · subst h1
    rw [swap_at1 hk] at hj
    have := World.cell?_setCells_in g (opAtD os k).cells (off + (k + 1) * 4) _ there1 r hr
    rw [Nat.add_assoc] at this
    rw [this, ← hj]
    exact (List.getElem?_eq_getElem _).symm
  · rw [World.cell?_setCells_out _ _ _ _ _ (fun _ _ => by simp only [op_cells_length]; omega)]
    by_cases h0 : q = k
    · subst h0
      rw [swap_at0 hk] at hj
      have := World.cell?_setCells_in g (opAtD os (q + 1)).cells (off + q * 4) _ there0 r hr
      rw [Nat.add_assoc] at this
      rw [this, ← hj]
      exact (List.getElem?_eq_getElem _).symm
    · rw [World.cell?_setCells_out _ _ _ _ _ (fun _ _ => by simp only [op_cells_length]; omega)]
      rw [swap_at h0 h1] at hj
      exact hc _ _ (by rw [opsCells_get _ _ _ (by omega) hr]; exact hj)

/-- A row of its own is there, and may be written. -/
theorem there_own {w : World} {g n t : Nat} {cur : Array Value} (h : w.heap[g]? = some (.cells cur t (0, 0))) (hn : n ≤ cur.size) : w.there g 0 n := by
  intro j hj
  constructor
  · simp only [World.cell?, h]
    rw [Nat.zero_add]
    simp [Array.getElem?_eq_getElem (by omega : j < cur.size)]
  · simp [World.frozen?, h]

theorem there_part {w : World} {g off n o m : Nat} (h : w.there g off n) (hm : o + m ≤ n) : w.there g (off + o) m := fun j hj => by
  have := h (o + j) (by omega)
  rw [Nat.add_assoc]
  exact this
theorem there_setCell {w : World} {b' o' n : Nat} (h : w.there b' o' n) (b o : Nat) (v : Value) : (w.setCell ⟨b, o, none⟩ v).there b' o' n := World.there_setCells h b o [v]

theorem there_4 {w : World} {b' o' n : Nat} (h : w.there b' o' n) (b o0 o1 o2 o3 : Nat) (v0 v1 v2 v3 : Value) : ((((w.setCell ⟨b, o0, none⟩ v0).setCell ⟨b, o1, none⟩ v1).setCell ⟨b, o2, none⟩ v2).setCell ⟨b, o3, none⟩ v3).there b' o' n :=
  there_setCell (there_setCell (there_setCell (there_setCell h _ _ _) _ _ _) _ _ _) _ _ _

theorem below_4 {B : Nat} {w W : World} {b : Nat} (hb : B ≤ b) (h : Below B w W) (o0 o1 o2 o3 : Nat) (v0 v1 v2 v3 : Value) : Below B w ((((W.setCell ⟨b, o0, none⟩ v0).setCell ⟨b, o1, none⟩ v1).setCell ⟨b, o2, none⟩ v2).setCell ⟨b, o3, none⟩ v3) :=
  (((h.setCell (p := ⟨b, o0, none⟩) hb v0).setCell (p := ⟨b, o1, none⟩) hb v1).setCell (p := ⟨b, o2, none⟩) hb v2).setCell (p := ⟨b, o3, none⟩) hb v3

/-- What a cell holds. -/
@[irreducible] def cellOf (w : World) (g o : Nat) : Value := (w.cell? ⟨g, o, none⟩).getD undef

theorem cell_there {w : World} {g o : Nat} (h : (w.cell? ⟨g, o, none⟩).isSome = true) : w.cell? ⟨g, o, none⟩ = some (cellOf w g o) := by
  obtain ⟨u, hu⟩ := Option.isSome_iff_exists.1 h
  rw [cellOf, hu, Option.getD_some]

/-- Four cells that may be written. -/
theorem four_there {w : World} {g o : Nat} (h : w.there g o 4) : (w.cell? ⟨g, o, none⟩ = some (cellOf w g o) ∧ w.frozen? ⟨g, o, none⟩ = false) ∧ (w.cell? ⟨g, o + 1, none⟩ = some (cellOf w g (o + 1)) ∧ w.frozen? ⟨g, o + 1, none⟩ = false) ∧
    (w.cell? ⟨g, o + 2, none⟩ = some (cellOf w g (o + 2)) ∧ w.frozen? ⟨g, o + 2, none⟩ = false) ∧ (w.cell? ⟨g, o + 3, none⟩ = some (cellOf w g (o + 3)) ∧ w.frozen? ⟨g, o + 3, none⟩ = false) :=
  ⟨⟨cell_there (h 0 (by omega)).1, (h 0 (by omega)).2⟩, ⟨cell_there (h 1 (by omega)).1, (h 1 (by omega)).2⟩, ⟨cell_there (h 2 (by omega)).1, (h 2 (by omega)).2⟩, ⟨cell_there (h 3 (by omega)).1, (h 3 (by omega)).2⟩⟩
theorem there_drew {w : World} {b o n : Nat} (h : w.there b o n) : w.drew.there b o n := fun j hj => h j hj

def put4 (w : World) (g o : Nat) (a : Op4) : World := (((w.setCell ⟨g, o, none⟩ (.int .i64 a.k)).setCell ⟨g, o + 1, none⟩ (.int .i64 a.p)).setCell ⟨g, o + 2, none⟩ (.int .i64 a.a)).setCell ⟨g, o + 3, none⟩ (.int .i64 a.b)

theorem put4_eq (w : World) (g o : Nat) (a : Op4) : put4 w g o a = w.setCells g o a.cells := rfl

/-- Neighbours have changed places. -/
theorem swap_way {wc w3 : World} {g off cap k : Nat} {os : List Op4} {a b : Op4} (hb : Below wc.heap.size wc w3) (hg : wc.heap.size ≤ g) (h : IsOps w3 (.slice (some ⟨g, off, none⟩) os.length cap) os) (ht : w3.there g off (os.length * 4)) (hk : k + 1 < os.length) (ea : opAtD os k = a) (eb : opAtD os (k + 1) = b) :
    Below wc.heap.size wc (put4 (put4 w3 g (off + k * 4) b) g (off + (k + 1) * 4) a).drew ∧ IsOps (put4 (put4 w3 g (off + k * 4) b) g (off + (k + 1) * 4) a).drew (.slice (some ⟨g, off, none⟩) os.length cap) (swapAt os k) := by
  refine ⟨(below_4 hg (below_4 hg hb _ _ _ _ _ _ _ _) _ _ _ _ _ _ _ _).drew, ?_⟩
  have := swap_cells h ht hk
  rw [ea, eb, ← put4_eq, ← put4_eq] at this
  exact Rd.below this (Below.refl _ _).drew
end Go.Proofs.YtpgokeogijpmaaaDoor
