/-
  Ops as lists; cell.Check for whatever comes in.
-/
import Derived.Test.YtpgokeogijpmaabDoorF
namespace Go.Proofs.YtpgokeogijpmaabDoor
open Go.RowKit

/-- An op: its kind, its cell, A and B. -/
structure Op4 where
  k : Int
  p : Int
  a : Int
  b : Int

def Op4.cells (o : Op4) : List Value := [.int .i64 o.k, .int .i64 o.p, .int .i64 o.a, .int .i64 o.b]
def Op4.zero : Op4 := ⟨0, 0, 0, 0⟩
def opAtD (os : List Op4) (j : Nat) : Op4 := os.getD j Op4.zero
def opsCells (os : List Op4) : List Value := os.flatMap Op4.cells

theorem opsCells_length (os : List Op4) : (opsCells os).length = os.length * 4 := by
  induction os with
  | nil => rfl
  | cons o os ih =>
    have e : opsCells (o :: os) = o.cells ++ opsCells os := by simp [opsCells]
    rw [e, List.length_append, ih, List.length_cons]
    simp [Op4.cells]; omega

theorem opsCells_get : ∀ (os : List Op4) (j i : Nat), j < os.length → i < 4 → (opsCells os)[j * 4 + i]? = (opAtD os j).cells[i]?
  | [], j, i, h, _ => by simp at h
  | o :: os, 0, i, _, hi => by
    have e : opsCells (o :: os) = o.cells ++ opsCells os := by simp [opsCells]
    rw [e, List.getElem?_append_left (by simp [Op4.cells]; omega)]
    simp [opAtD]
  | o :: os, j + 1, i, h, hi => by
    have e : opsCells (o :: os) = o.cells ++ opsCells os := by simp [opsCells]
    have e4 : o.cells.length = 4 := rfl
    rw [e, List.getElem?_append_right (by rw [e4]; omega), e4, show (j + 1) * 4 + i - 4 = j * 4 + i from by omega, opsCells_get os j i (by simpa using h) hi]
    simp [opAtD]

theorem opsCells_one (os : List Op4) : ∀ u ∈ opsCells os, u.oneCell' = true := by
  intro u hu
  obtain ⟨o, _, ho⟩ := List.mem_flatMap.1 hu
  simp only [Op4.cells, List.mem_cons, List.not_mem_nil, or_false] at ho
  rcases ho with rfl | rfl | rfl | rfl <;> rfl

/-- The slice v reads as the ops os. -/
def IsOps (w : World) (v : Value) (os : List Op4) : Prop := Rd w 4 v os.length (opsCells os)
/-- The slice v reads as the numbers zs. -/
def IsInts (w : World) (v : Value) (zs : List Int) : Prop := Rd w 1 v zs.length (zs.map (Value.int .i64))

theorem Rd.form {w : World} {size n : Nat} {v : Value} {xs : List Value} (h : Rd w size v n xs) : ∃ a c, v = .slice a n c := by
  obtain ⟨_, ⟨rfl, rfl⟩ | ⟨ad, cap, rfl, _⟩⟩ := h
  · exact ⟨_, _, rfl⟩
  · exact ⟨_, _, rfl⟩

theorem Rd.at {w : World} {size n : Nat} {v : Value} {xs : List Value} (h : Rd w size v n xs) (hn : 0 < n) (hs : 0 < size) :
    ∃ b off c, v = .slice (some ⟨b, off, none⟩) n c ∧ b < w.heap.size ∧ ∀ j u, xs[j]? = some u → w.cell? ⟨b, off + j, none⟩ = some u := by
  obtain ⟨hl, ⟨rfl, rfl⟩ | ⟨⟨b, off, spot⟩, cap, rfl, hc⟩⟩ := h
  · omega
  · have hp : 0 < xs.length := by rw [hl]; exact Nat.mul_pos hn hs
    have h0 := hc 0 xs[0] (List.getElem?_eq_getElem hp)
    have hspot : spot = none := by simpa [Addr.add] using World.cell?_spot h0
    subst hspot
    refine ⟨b, off, cap, rfl, World.block_lt_of_cell? w _ h0, fun j u hj => ?_⟩
    rw [← WideShapes.add_plain]
    exact hc j u hj

theorem IsOps.at {w : World} {v : Value} {os : List Op4} (h : IsOps w v os) (hn : 0 < os.length) : ∃ b off c, v = .slice (some ⟨b, off, none⟩) os.length c ∧ b < w.heap.size ∧
    (∀ j, j < os.length → w.cell? ⟨b, off + j * 4, none⟩ = some (.int .i64 (opAtD os j).k)) ∧ (∀ j, j < os.length → w.cell? ⟨b, off + j * 4 + 1, none⟩ = some (.int .i64 (opAtD os j).p)) ∧
    (∀ j, j < os.length → w.cell? ⟨b, off + j * 4 + 2, none⟩ = some (.int .i64 (opAtD os j).a)) ∧ (∀ j, j < os.length → w.cell? ⟨b, off + j * 4 + 3, none⟩ = some (.int .i64 (opAtD os j).b)) := by
  obtain ⟨b, off, c, hv, hb, hc⟩ := Rd.at h hn (by decide)
  refine ⟨b, off, c, hv, hb, fun j hj => ?_, fun j hj => ?_, fun j hj => ?_, fun j hj => ?_⟩
  · exact hc (j * 4) _ (opsCells_get os j 0 hj (by decide))
  · rw [Nat.add_assoc]; exact hc (j * 4 + 1) _ (opsCells_get os j 1 hj (by decide))
  · rw [Nat.add_assoc]; exact hc (j * 4 + 2) _ (opsCells_get os j 2 hj (by decide))
  · rw [Nat.add_assoc]; exact hc (j * 4 + 3) _ (opsCells_get os j 3 hj (by decide))

theorem IsInts.at {w : World} {v : Value} {zs : List Int} (h : IsInts w v zs) (hn : 0 < zs.length) : ∃ b off c, v = .slice (some ⟨b, off, none⟩) zs.length c ∧ b < w.heap.size ∧
    ∀ j, j < zs.length → w.cell? ⟨b, off + j, none⟩ = some (.int .i64 (zs.getD j 0)) := by
  obtain ⟨b, off, c, hv, hb, hc⟩ := Rd.at h hn (by decide)
  refine ⟨b, off, c, hv, hb, fun j hj => hc j _ ?_⟩
  rw [List.getElem?_map, List.getElem?_eq_getElem hj]
  simp [List.getElem?_eq_getElem hj]

theorem ints_one (zs : List Int) : ∀ u ∈ zs.map (Value.int .i64), u.oneCell' = true := by
  intro u hu
  obtain ⟨_, _, rfl⟩ := List.mem_map.1 hu
  rfl

/-- What is wrong with each op, for a memory of so many cells. -/
def wAt (m : Nat) (os : List Op4) (j : Nat) : Int := wrongOf m (opAtD os j).k (opAtD os j).p (opAtD os j).a (opAtD os j).b
/-- What Check says. -/
def fault (m : Nat) (os : List Op4) : Int × Int := faultOf m os.length (wAt m os)
def faultV (x : Int × Int) : Value := .agg #[.int .i64 x.1, .int .i64 x.2]

set_option maxRecDepth 100000 in
set_option maxHeartbeats 1000000 in
theorem check_zero (w : World) (a0 a1 : Option Addr) (m c0 c1 : Nat) (hm : m ≤ 32) :
    Calls Tryd.prog 29 #[.slice a0 m c0, .slice a1 0 c1] w fun e w' => e = .returned (.agg #[.int .i64 0, .int .i64 0]) ∧ Below w.heap.size w w' := by
  have h1 : ¬ (32 : Int) < (m : Int) := by omega
  go_enter Tryd.func29, Tryd.ntmps29
  go_wp2_with (go_at_call 11; refine (deeds_any _).mono ?_; rintro e w1 ⟨rfl, rfl⟩)
  go_loopw [21] (fun i wr => i = .int .i64 0 ∧ wr = ((w.alloc (.cells #[.int .i64 0, .int .i64 0] 31)).alloc (.map ents 5)))
    (fun i _ => 0)
  case atStart => exact ⟨rfl, rfl⟩
  case round =>
    obtain ⟨rfl, rfl⟩ := hrel
    go_wp2
    refine bodyPost_ret (v := .agg #[.int .i64 0, .int .i64 0]) (by simp [results, Tryd.results29, go_sem]) rfl ⟨rfl, ?_⟩
    exact (((Below.refl _ _).alloc (Nat.le_refl _) _).alloc (by simp) _)

theorem check_any (w : World) (a0 : Option Addr) (m c0 : Nat) (v1 : Value) (os : List Op4) (hops : IsOps w v1 os) (hm : m ≤ maxLen) (hn : os.length ≤ maxLen) :
    Calls Tryd.prog 29 #[.slice a0 m c0, v1] w fun e w' => e = .returned (faultV (fault m os)) ∧ Below w.heap.size w w' := by
  by_cases h : 32 < m ∨ 5000 < os.length
  · obtain ⟨a1, c1, rfl⟩ := Rd.form hops
    have e : fault m os = (2, 0) := by unfold fault faultOf; rw [if_pos h]
    rw [e]
    exact check_many w a0 a1 m os.length c0 c1 h hm hn
  · have e : fault m os = faultFrom (wAt m os) os.length 0 := by unfold fault faultOf; rw [if_neg h]
    rw [e]
    by_cases h0 : 0 < os.length
    · obtain ⟨b, off, c, rfl, hb, hK, hP, hA, hB⟩ := hops.at h0
      exact check_some w a0 m os.length c0 c b off (by omega) (by omega) _ _ _ _ _ hb (fun _ => rfl) hK hP hA hB
    · obtain ⟨a1, c1, rfl⟩ := Rd.form hops
      have e0 : os.length = 0 := by omega
      rw [e0]
      exact check_zero w a0 a1 m c0 c1 (by omega)
end Go.Proofs.YtpgokeogijpmaabDoor
