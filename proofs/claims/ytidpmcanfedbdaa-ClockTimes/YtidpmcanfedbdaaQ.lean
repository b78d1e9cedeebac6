/-
  Parts of rows of one's own; clock.putOff.
-/
import Derived.Test.YtidpmcanfedbdaaPc
namespace Go.Proofs.Ytidpmcanfedbdaa
open Go.RowKit

/-- The list L holds ys from the place o on. -/
def Incl (L : List Value) (o : Nat) (ys : List Value) : Prop := ∀ k v, ys[k]? = some v → L[o + k]? = some v
theorem incl_append {L P Q : List Value} {o : Nat} : Incl L o (P ++ Q) ↔ Incl L o P ∧ Incl L (o + P.length) Q := by
  constructor
  · intro h
    refine ⟨fun k v hk => h k v ?_, fun k v hk => ?_⟩
    · rw [List.getElem?_append_left (List.getElem?_eq_some_iff.1 hk).1]; exact hk
    · have := h (P.length + k) v (by rw [List.getElem?_append_right (by omega), Nat.add_sub_cancel_left]; exact hk)
      rw [Nat.add_assoc]; exact this
  · rintro ⟨h1, h2⟩ k v hk
    by_cases hl : k < P.length
    · rw [List.getElem?_append_left hl] at hk; exact h1 k v hk
    · rw [List.getElem?_append_right (by omega)] at hk
      have := h2 _ v hk
      rw [Nat.add_assoc, show P.length + (k - P.length) = k by omega] at this
      exact this
theorem incl_here (P Q R : List Value) : Incl (P ++ (Q ++ R)) P.length Q := fun k v hk => by
  rw [List.getElem?_append_right (by omega), Nat.add_sub_cancel_left, List.getElem?_append_left (List.getElem?_eq_some_iff.1 hk).1]
  exact hk
theorem incl_past {P L : List Value} {o d : Nat} {ys : List Value} (h : Incl L (d + o) ys) : Incl (P ++ L.drop d) (P.length + o) ys := fun k v hk => by
  rw [List.getElem?_append_right (by omega), List.getElem?_drop, show d + (P.length + o + k - P.length) = d + o + k by omega]
  exact h k v hk
theorem incl_isl {w : World} {g off : Nat} {cur : Array Value} {e : TypeId} {f : Nat × Nat} (hh : w.heap[g]? = some (.cells cur e f)) {xs : List Al} {n c : Nat} (hn : xs.length = n) (hc : n ≤ c) : IsL KA w (.slice (some ⟨g, off, none⟩) n c) xs ↔ Incl cur.toList off (xs.flatMap KA.f) := by
  subst hn
  constructor
  · rintro ⟨⟨_, ⟨h1, _⟩ | ⟨ad, cap, h1, h2⟩⟩, _⟩
    · cases h1
    · cases h1
      intro k v hk
      have := h2 k v hk
      rw [WideShapes.add_plain] at this
      simp only [World.cell?, hh] at this
      simpa using this
  · intro h
    refine ⟨⟨flat_length ka xs, Or.inr ⟨_, _, rfl, fun k v hk => ?_⟩⟩, fits_of hc⟩
    rw [WideShapes.add_plain]
    simp only [World.cell?, hh]
    simpa using h k v hk
theorem set4_splice {A : List Value} {a : Nat} (h : a + 4 ≤ A.length) (x y z v : Value) : (((A.set a x).set (a + 1) y).set (a + 2) z).set (a + 3) v = A.take a ++ ([x, y, z, v] ++ A.drop (a + 4)) := by
  obtain ⟨P, hP⟩ : ∃ P, A.take a = P := ⟨_, rfl⟩
  have lP : P.length = a := by rw [← hP, List.length_take]; omega
  obtain ⟨r0, r1, r2, r3, Q, hQ⟩ : ∃ r0 r1 r2 r3 Q, A.drop a = r0 :: r1 :: r2 :: r3 :: Q := by
    have hl : (A.drop a).length = A.length - a := List.length_drop
    match hd : A.drop a with
    | r0 :: r1 :: r2 :: r3 :: Q => exact ⟨r0, r1, r2, r3, Q, rfl⟩
    | [] => rw [hd] at hl; simp at hl; omega
    | [_] => rw [hd] at hl; simp at hl; omega
    | [_, _] => rw [hd] at hl; simp at hl; omega
    | [_, _, _] => rw [hd] at hl; simp at hl; omega
  have eA : A = P ++ (r0 :: r1 :: r2 :: r3 :: Q) := by rw [← hP, ← hQ, List.take_append_drop]
  have eQ : A.drop (a + 4) = Q := by rw [← List.drop_drop, hQ]; rfl
  rw [eQ, hP, eA]
  subst lP
  rw [List.set_append_right _ _ (Nat.le_refl _), List.set_append_right _ _ (by omega), List.set_append_right _ _ (by omega), List.set_append_right _ _ (by omega)]
  simp

/-- The slice v reads as the list xs, and lies in a row of the call's own, from the block base on. -/
def Prt (base : Nat) (w : World) (v : Value) (xs : List Al) : Prop := IsL KA w v xs ∧ ∀ k, v.ownBlock = some k → base ≤ k ∧ ∃ cur, w.heap[k]? = some (.cells cur 42 (0, 0))
theorem Own.prt {base : Nat} {w : World} {v : Value} {xs : List Al} (h : Own KA base w v xs) : Prt base w v xs := by
  refine ⟨h.isl, fun k hk => ?_⟩
  obtain ⟨_, ⟨h1, _⟩ | ⟨g, cap, cur, h1, hg, hh, _⟩⟩ := h
  · rw [h1] at hk; cases hk
  · rw [h1] at hk
    cases hk
    exact ⟨hg, cur, hh⟩
theorem Prt.below {base : Nat} {w w' : World} {v : Value} {xs : List Al} (h : Prt base w v xs) (hb : Below w.heap.size w w') : Prt base w' v xs :=
  ⟨h.1.below hb, fun k hk => ⟨(h.2 k hk).1, (h.2 k hk).2.imp fun _ hc => keep_below hc hb⟩⟩
theorem Prt.keep {base : Nat} {w w' : World} {v : Value} {xs : List Al} (h : Prt base w v xs) (hb : ∀ k, v.ownBlock = some k → w'.heap[k]? = w.heap[k]?) : Prt base w' v xs :=
  ⟨h.1.keep ka hb, fun k hk => ⟨(h.2 k hk).1, (h.2 k hk).2.imp fun _ hc => (hb k hk).trans hc⟩⟩
theorem Prt.new {base : Nat} {w : World} {v : Value} {xs : List Al} (h : Prt base w v xs) : New KA base w v xs := ⟨h.1, fun k hk => (h.2 k hk).1⟩
theorem Prt.form {base : Nat} {w : World} {v : Value} {xs : List Al} (h : Prt base w v xs) : ∃ a c, v = .slice a xs.length c := h.1.form
theorem Prt.lt {base : Nat} {w : World} {v : Value} {xs : List Al} (h : Prt base w v xs) : ∀ k, v.ownBlock = some k → base ≤ k ∧ k < w.heap.size := fun k hk => ⟨(h.2 k hk).1, (h.2 k hk).2.elim fun _ hc => size_of hc⟩
theorem Prt.base {base base' : Nat} {w : World} {v : Value} {xs : List Al} (h : Prt base w v xs) (hb : base' ≤ base) : Prt base' w v xs := ⟨h.1, fun k hk => ⟨Nat.le_trans hb (h.2 k hk).1, (h.2 k hk).2⟩⟩
theorem Prt.ne {base : Nat} {w : World} {v : Value} {xs : List Al} (h : Prt base w v xs) {R : Nat} {arr : Array Value} {t : TypeId} {f : Nat × Nat} (hR : w.heap[R]? = some (.cells arr t f)) (ht : t ≠ 42) : ∀ k, v.ownBlock = some k → k ≠ R := fun k hk => by
  obtain ⟨_, cur, hc⟩ := h.2 k hk
  rintro rfl
  rw [hc] at hR
  cases hR
  exact ht rfl

/-- The first alarm goes, and another one comes to its place. -/
theorem putoff_cells {w : World} {g off n c p : Nat} {x : Al} {xs : List Al} {cur : Array Value} (_hh : w.heap[g]? = some (.cells cur 42 (0, 0))) (hi : Incl cur.toList off ((x :: xs).flatMap KA.f)) (hn : xs.length + 1 = n) (hp : p ≤ xs.length) (_hc : n ≤ c) (A B : List Value) (y : Al)
    (hA : A = cur.toList.take off ++ (xs.take p).flatMap KA.f ++ cur.toList.drop (off + ((xs.take p).flatMap KA.f).length)) (hB : B = A.take (off + p * 4) ++ (KA.f y ++ A.drop (off + p * 4 + 4))) :
    off + n * 4 ≤ cur.size ∧ A.length = cur.size ∧ Incl B off ((putAt xs p y).flatMap KA.f) := by
  have hf : (KA.f x).length = 4 := ka.len x
  have hfy : (KA.f y).length = 4 := ka.len y
  have hl : ((x :: xs).flatMap KA.f).length = n * 4 := by rw [flat_len, List.length_cons, hn]
  have hsz : off + n * 4 ≤ cur.size := by
    have h1 := hi (n * 4 - 1) (((x :: xs).flatMap KA.f)[n * 4 - 1]'(by omega)) (List.getElem?_eq_getElem _)
    have h2 := (List.getElem?_eq_some_iff.1 h1).1
    rw [Array.length_toList] at h2
    omega
  have hS : ((xs.take p).flatMap KA.f).length = p * 4 := by rw [flat_len, List.length_take, Nat.min_eq_left hp]
  have lA : A.length = cur.size := by
    rw [hA, List.length_append, List.length_append, hS, List.length_take, List.length_drop, Array.length_toList]; omega
  refine ⟨hsz, lA, ?_⟩
  have lT : (cur.toList.take off).length = off := by rw [List.length_take, Array.length_toList]; omega
  have eA1 : A.take (off + p * 4) = cur.toList.take off ++ (xs.take p).flatMap KA.f := by
    rw [hA, show off + p * 4 = (cur.toList.take off ++ (xs.take p).flatMap KA.f).length by rw [List.length_append, lT, hS], List.take_left]
  have eA2 : A.drop (off + p * 4 + 4) = cur.toList.drop (off + p * 4 + 4) := by
    rw [← List.drop_drop, hA, show off + p * 4 = (cur.toList.take off ++ (xs.take p).flatMap KA.f).length by rw [List.length_append, lT, hS], List.drop_left, List.drop_drop, List.length_append, lT]
  have hsrc : Incl cur.toList (off + 4 + p * 4) ((xs.drop p).flatMap KA.f) := by
    rw [List.flatMap_cons, incl_append, hf] at hi
    have h2 := hi.2
    rw [show xs.flatMap KA.f = (xs.take p).flatMap KA.f ++ (xs.drop p).flatMap KA.f by rw [← List.flatMap_append, List.take_append_drop], incl_append, hS] at h2
    exact h2.2
  unfold putAt
  rw [List.flatMap_append, List.flatMap_cons, incl_append, incl_append, hS, hfy, hB, eA1, eA2]
  refine ⟨?_, ?_, ?_⟩
  · have := incl_here (cur.toList.take off) ((xs.take p).flatMap KA.f) (KA.f y ++ cur.toList.drop (off + p * 4 + 4))
    rw [lT, ← List.append_assoc] at this
    exact this
  · have := incl_here (cur.toList.take off ++ (xs.take p).flatMap KA.f) (KA.f y) (cur.toList.drop (off + p * 4 + 4))
    rw [List.length_append, lT, hS] at this
    exact this
  · have := incl_past (P := cur.toList.take off ++ (xs.take p).flatMap KA.f ++ KA.f y) (L := cur.toList) (o := 0) (d := off + p * 4 + 4) (ys := (xs.drop p).flatMap KA.f) (by rw [Nat.add_zero, show off + p * 4 + 4 = off + 4 + p * 4 by omega]; exact hsrc)
    rw [List.length_append, List.length_append, lT, hS, hfy, Nat.add_zero, List.append_assoc] at this
    exact this

end Go.Proofs.Ytidpmcanfedbdaa
