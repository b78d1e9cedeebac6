/-
  Lists as they are read, rows of one's own, new lists: of numbers, of blocks.
-/
import Derived.Test.YtomhfnjnmhdpkaaProg
import Derived.WalkKit
import Derived.WalkSpells
import Derived.WalkLawsBesides
import Derived.Maps.Own
import Derived.Maps.AppendAt
import Derived.Deep.QuietTactic
import Derived.BigQuiet
import Derived.WalkSmall
import Derived.Deep.RegionHeld3
import Derived.Deep.DrawnRows
import Derived.Deep.MidRow
import Derived.Deep.RegionLaw
import Derived.Deep.DeepCutAuto
import Derived.Deep.CutRange
import Derived.Laws.AppendOwnNone
import Derived.Deep.WholeRow
namespace Go.Proofs.Ytomhfnjnmhdpkaa
open Go.RowKit

theorem hide {p : Prop} (h : p) : Hid p := h
theorem unhide {p : Prop} (h : Hid p) : p := h

/-- The slice v reads as the cells xs, n elements of so many cells each. -/
def Rd (w : World) (size : Nat) (v : Value) (n : Nat) (xs : List Value) : Prop :=
  xs.length = n * size ∧ ((v = .slice none 0 0 ∧ n = 0) ∨ ∃ ad cap, v = .slice (some ad) n cap ∧ ∀ j u, xs[j]? = some u → w.cell? (ad.add j) = some u)

theorem Rd.below {w w' : World} {size n : Nat} {v : Value} {xs : List Value} (h : Rd w size v n xs) (hb : Below w.heap.size w w') : Rd w' size v n xs := by
  refine ⟨h.1, h.2.imp id ?_⟩
  rintro ⟨ad, cap, hv, hc⟩
  refine ⟨ad, cap, hv, fun j u hj => ?_⟩
  have := hc j u hj
  rw [hb.cell (World.block_lt_of_cell? w _ this)]
  exact this

theorem Rd.of_owns {w : World} {base e size n : Nat} {v : Value} {xs : List Value} (h : w.ownsRow base e size v n xs) : Rd w size v n xs := by
  refine ⟨h.1, h.2.imp id ?_⟩
  rintro ⟨g, cap, cur, hv, hg, hh, hn, hcap, hsz, hx⟩
  refine ⟨⟨g, 0, none⟩, cap, hv, fun j u hj => ?_⟩
  rw [WideShapes.add_plain]
  simp only [World.cell?, hh]
  subst hx
  rw [List.getElem?_take] at hj
  split at hj
  · simpa using hj
  · cases hj

theorem Rd.form {w : World} {size n : Nat} {v : Value} {xs : List Value} (h : Rd w size v n xs) : ∃ a c, v = .slice a n c := by
  obtain ⟨_, ⟨rfl, rfl⟩ | ⟨ad, cap, rfl, _⟩⟩ := h
  · exact ⟨_, _, rfl⟩
  · exact ⟨_, _, rfl⟩

theorem Rd.at {w : World} {size n : Nat} {v : Value} {xs : List Value} (h : Rd w size v n xs) (hn : 0 < n) (hs : 0 < size) :
    ∃ b off c, v = .slice (some ⟨b, off, none⟩) n c ∧ b < w.heap.size ∧ ∀ j u, xs[j]? = some u → w.cell? ⟨b, off + j, none⟩ = some u := by
  obtain ⟨hl, ⟨rfl, rfl⟩ | ⟨⟨b, off, spot⟩, cap, rfl, hc⟩⟩ := h
  · omega
  · have hp : 0 < xs.length := by rw [hl]; exact Nat.mul_pos hn hs
    have h0 := hc 0 xs[0] (List.getElem?_eq_getElem hp)
    have hspot : spot = none := by simpa [Addr.add] using World.cell?_spot h0
    subst hspot
    refine ⟨b, off, cap, rfl, World.block_lt_of_cell? w _ h0, fun j u hj => ?_⟩
    rw [← WideShapes.add_plain]
    exact hc j u hj

/-- What a list's elements are: their cells, how many, the types of an element and of the list, its bytes, and an element. -/
structure Kind (α : Type) where
  f : α → List Value
  k : Nat
  e : TypeId
  t : TypeId
  bytes : Nat
  d : α
structure Kind.Ok {α : Type} (K : Kind α) : Prop where
  len : ∀ x, (K.f x).length = K.k
  one : ∀ x u, u ∈ K.f x → u.oneCell' = true
  pos : 0 < K.k
  bpos : 0 < K.bytes
  und : Try.prog.underlying K.t = some (.slice K.e)
  info : ∃ i z, Try.prog.info? K.e = some i ∧ i.zero = some z ∧ i.size = K.k ∧ i.bytes = K.bytes ∧ z.cells.size = K.k

section
variable {α : Type} {K : Kind α}

theorem flat_length (hK : K.Ok) : ∀ xs : List α, (xs.flatMap K.f).length = xs.length * K.k
  | [] => by simp
  | x :: r => by rw [List.flatMap_cons, List.length_append, hK.len, flat_length hK r, List.length_cons, Nat.add_mul]; omega
theorem flat_get (hK : K.Ok) : ∀ (xs : List α) (j i : Nat), j < xs.length → i < K.k → (xs.flatMap K.f)[j * K.k + i]? = (K.f (xs.getD j K.d))[i]?
  | [], _, _, h, _ => by simp at h
  | x :: r, 0, i, _, hi => by
    rw [List.flatMap_cons, Nat.zero_mul, Nat.zero_add, List.getElem?_append_left (by rw [hK.len]; exact hi)]
    rfl
  | x :: r, j + 1, i, h, hi => by
    have h0 := flat_get hK r j i (by simpa using h) hi
    rw [List.flatMap_cons, Nat.add_mul, Nat.one_mul, show j * K.k + K.k + i = K.k + (j * K.k + i) by omega, List.getElem?_append_right (by rw [hK.len]; omega), hK.len, show K.k + (j * K.k + i) - K.k = j * K.k + i by omega, h0]
    simp
theorem flat_one (hK : K.Ok) (xs : List α) : ∀ u ∈ xs.flatMap K.f, u.oneCell' = true := by
  intro u hu
  obtain ⟨x, _, hx⟩ := List.mem_flatMap.1 hu
  exact hK.one x u hx

/-- A slice's length is at most its capacity. -/
def Fits (v : Value) : Prop := ∀ a n c, v = .slice a n c → n ≤ c
theorem fits_of {a : Option Addr} {n c : Nat} (h : n ≤ c) : Fits (.slice a n c) := fun a' n' c' e => by cases e; exact h
theorem fits_owns {w : World} {base e size n : Nat} {v : Value} {xs : List Value} (h : w.ownsRow base e size v n xs) : Fits v := fun a m c e => by
  obtain ⟨_, ⟨h1, _⟩ | ⟨g, cap, cur, h1, _, _, h2, _⟩⟩ := h
  · rw [h1] at e; cases e; omega
  · rw [h1] at e; cases e; exact h2

/-- The slice v reads as the list xs. -/
def IsL (K : Kind α) (w : World) (v : Value) (xs : List α) : Prop := Rd w K.k v xs.length (xs.flatMap K.f) ∧ Fits v
theorem IsL.below {w w' : World} {v : Value} {xs : List α} (h : IsL K w v xs) (hb : Below w.heap.size w w') : IsL K w' v xs := ⟨Rd.below h.1 hb, h.2⟩
theorem IsL.form {w : World} {v : Value} {xs : List α} (h : IsL K w v xs) : ∃ a c, v = .slice a xs.length c := Rd.form h.1
theorem isl_nil (w : World) : IsL K w (.slice none 0 0) [] := ⟨⟨by simp, Or.inl ⟨rfl, rfl⟩⟩, fits_of (Nat.le_refl _)⟩
theorem IsL.len {w : World} {a : Option Addr} {n c : Nat} {xs : List α} (h : IsL K w (.slice a n c) xs) : xs.length = n := by
  obtain ⟨a', c', hv⟩ := h.form
  cases hv
  rfl
theorem IsL.fits {w : World} {a : Option Addr} {n c : Nat} {xs : List α} (h : IsL K w (.slice a n c) xs) : n ≤ c := h.2 _ _ _ rfl

/-- A list in a block, from a place on. -/
def Lies (K : Kind α) (w : World) (b off : Nat) (xs : List α) : Prop := ∀ j i u, j < xs.length → (K.f (xs.getD j K.d))[i]? = some u → w.cell? ⟨b, off + j * K.k + i, none⟩ = some u

theorem IsL.at (hK : K.Ok) {w : World} {v : Value} {xs : List α} (h : IsL K w v xs) (hn : 0 < xs.length) : ∃ b off c, v = .slice (some ⟨b, off, none⟩) xs.length c ∧ b < w.heap.size ∧ Lies K w b off xs := by
  obtain ⟨b, off, c, hv, hb, hc⟩ := Rd.at h.1 hn hK.pos
  refine ⟨b, off, c, hv, hb, fun j i u hj hu => ?_⟩
  have hi : i < K.k := by rw [← hK.len (xs.getD j K.d)]; exact (List.getElem?_eq_some_iff.1 hu).1
  rw [Nat.add_assoc]
  exact hc _ _ (by rw [flat_get hK xs j i hj hi]; exact hu)
theorem IsL.opens (hK : K.Ok) {w : World} {a : Option Addr} {n c : Nat} {xs : List α} (h : IsL K w (.slice a n c) xs) (hl : xs.length = n) : 0 < n → ∃ b off, a = some ⟨b, off, none⟩ ∧ b < w.heap.size ∧ Lies K w b off xs := fun hn => by
  obtain ⟨b, off, c', hv, hb, hc⟩ := h.at hK (by omega)
  cases hv
  exact ⟨b, off, rfl, hb, hc⟩
theorem Lies.keep {w w' : World} {b off : Nat} {xs : List α} (h : Lies K w b off xs) (hb : w'.heap[b]? = w.heap[b]?) : Lies K w' b off xs := fun j i u hj hu => by
  rw [World.cell?_of_block (w := w) (a := ⟨b, off + j * K.k + i, none⟩) hb]
  exact h j i u hj hu
theorem Lies.below {w w' : World} {b off B : Nat} {xs : List α} (h : Lies K w b off xs) (hb : Below B w w') (hB : b < B) : Lies K w' b off xs := h.keep (hb.block b hB)
theorem Lies.isl (hK : K.Ok) {w : World} {b off : Nat} {xs : List α} (h : Lies K w b off xs) {n c : Nat} (hn : xs.length = n) (hc : n ≤ c) : IsL K w (.slice (some ⟨b, off, none⟩) n c) xs := by
  subst hn
  refine ⟨⟨flat_length hK xs, Or.inr ⟨_, _, rfl, fun j u hj => ?_⟩⟩, fits_of hc⟩
  rw [WideShapes.add_plain]
  have hlen : j < xs.length * K.k := by rw [← flat_length hK]; exact (List.getElem?_eq_some_iff.1 hj).1
  have hq : j / K.k < xs.length := (Nat.div_lt_iff_lt_mul hK.pos).2 hlen
  have hr : j % K.k < K.k := Nat.mod_lt _ hK.pos
  have e : j / K.k * K.k + j % K.k = j := by rw [Nat.mul_comm]; exact Nat.div_add_mod j K.k
  have h1 := flat_get hK xs (j / K.k) (j % K.k) hq hr
  rw [e, hj] at h1
  have h2 := h (j / K.k) (j % K.k) u hq h1.symm
  rw [Nat.add_assoc, e] at h2
  exact h2
theorem Lies.drop {w : World} {b off : Nat} {xs : List α} (h : Lies K w b off xs) (p : Nat) : Lies K w b (off + p * K.k) (xs.drop p) := fun j i u hj hu => by
  rw [List.length_drop] at hj
  have h1 := h (p + j) i u (by omega) (by rw [← hu]; simp [List.getElem?_drop])
  rw [show off + p * K.k + j * K.k + i = off + (p + j) * K.k + i by rw [Nat.add_mul]; omega]
  exact h1
theorem IsL.none_left {w : World} {ad : Addr} {c : Nat} {xs : List α} (h : xs.length = 0) : IsL K w (.slice (some ad) 0 c) xs := by
  have e := List.eq_nil_of_length_eq_zero h
  subst e
  exact ⟨⟨by simp, Or.inr ⟨_, _, rfl, fun j u hj => by simp at hj⟩⟩, fits_of (Nat.zero_le _)⟩
/-- What is cut off ahead is gone. -/
theorem IsL.drop_if (hK : K.Ok) {w : World} {b off n c : Nat} {xs : List α} (h : IsL K w (.slice (some ⟨b, off, none⟩) n c) xs) {p : Nat} (hp : p ≤ n) {A : Option Addr} (hA : A = if c = p then some ⟨b, off, none⟩ else some ⟨b, off + p * K.k, none⟩) : IsL K w (.slice A (n - p) (c - p)) (xs.drop p) := by
  have hl := h.len
  have hc := h.fits
  by_cases e : c = p
  · rw [if_pos e] at hA
    subst hA
    have : n - p = 0 := by omega
    rw [this]
    exact IsL.none_left (by rw [List.length_drop]; omega)
  · rw [if_neg e] at hA
    subst hA
    by_cases h0 : 0 < xs.length
    · obtain ⟨b', off', c', hv, hb, hli⟩ := h.at hK h0
      cases hv
      exact (hli.drop p).isl hK (by rw [List.length_drop]) (by omega)
    · have : n - p = 0 := by omega
      rw [this]
      exact IsL.none_left (by rw [List.length_drop]; omega)

/-- The slice v is a row of its own, from the block base on, of the list xs. -/
def Own (K : Kind α) (base : Nat) (w : World) (v : Value) (xs : List α) : Prop := w.ownsRow base K.e K.k v xs.length (xs.flatMap K.f)
theorem Own.isl {base : Nat} {w : World} {v : Value} {xs : List α} (h : Own K base w v xs) : IsL K w v xs := ⟨Rd.of_owns h, fits_owns h⟩
theorem Own.keep {base : Nat} {w w' : World} {v : Value} {xs : List α} (h : Own K base w v xs) (hk : ∀ k, v.ownBlock = some k → w'.heap[k]? = w.heap[k]?) : Own K base w' v xs := by
  refine ⟨h.1, h.2.imp id ?_⟩
  rintro ⟨g, cap, cur, hv, hg, hh, r⟩
  exact ⟨g, cap, cur, hv, hg, (hk g (by rw [hv]; rfl)).trans hh, r⟩
theorem Own.base {base base' : Nat} {w : World} {v : Value} {xs : List α} (h : Own K base w v xs) (hb : base' ≤ base) : Own K base' w v xs := by
  refine ⟨h.1, h.2.imp id ?_⟩
  rintro ⟨g, cap, cur, hv, hg, r⟩
  exact ⟨g, cap, cur, hv, Nat.le_trans hb hg, r⟩
theorem Own.lt {base : Nat} {w : World} {v : Value} {xs : List α} (h : Own K base w v xs) : ∀ k, v.ownBlock = some k → base ≤ k ∧ k < w.heap.size := by
  obtain ⟨_, ⟨rfl, _⟩ | ⟨g, cap, cur, rfl, hg, hh, _⟩⟩ := h
  · intro k hk; cases hk
  · intro k hk
    cases hk
    exact ⟨hg, (Array.getElem?_eq_some_iff.1 hh).1⟩
theorem Own.below {base : Nat} {w w' : World} {v : Value} {xs : List α} (h : Own K base w v xs) (hb : Below w.heap.size w w') : Own K base w' v xs := h.keep fun k hk => hb.block k (h.lt k hk).2
theorem Own.form {base : Nat} {w : World} {v : Value} {xs : List α} (h : Own K base w v xs) : ∃ a c, v = .slice a xs.length c := Rd.form (Rd.of_owns h)
theorem own_nil (base : Nat) (w : World) : Own K base w (.slice none 0 0) [] := World.ownsRow_nil _ _ _ _
theorem own_empty (w : World) : Own K w.heap.size (w.alloc (.cells #[] K.e)) (.slice (some ⟨w.heap.size, 0, none⟩) 0 0) [] :=
  ⟨by simp, Or.inr ⟨w.heap.size, 0, #[], rfl, Nat.le_refl _, (MapKept.heap_alloc w _).1, Nat.le_refl _, Nat.zero_le _, by simp, by simp⟩⟩
theorem own_nil_append {base : Nat} {w : World} {v : Value} {xs : List α} (h : Own K base w v ([] ++ xs)) : Own K base w v xs := h

/-- The slice v reads as the list xs, which lies from the block base on. -/
def New (K : Kind α) (base : Nat) (w : World) (v : Value) (xs : List α) : Prop := IsL K w v xs ∧ ∀ k, v.ownBlock = some k → base ≤ k
theorem Own.new {base : Nat} {w : World} {v : Value} {xs : List α} (h : Own K base w v xs) : New K base w v xs := ⟨h.isl, fun k hk => (h.lt k hk).1⟩
theorem New.base {base base' : Nat} {w : World} {v : Value} {xs : List α} (h : New K base w v xs) (hb : base' ≤ base) : New K base' w v xs := ⟨h.1, fun k hk => Nat.le_trans hb (h.2 k hk)⟩
theorem New.below {base : Nat} {w w' : World} {v : Value} {xs : List α} (h : New K base w v xs) (hb : Below w.heap.size w w') : New K base w' v xs := ⟨h.1.below hb, h.2⟩
theorem new_nil (base : Nat) (w : World) : New K base w (.slice none 0 0) [] := ⟨isl_nil w, fun k hk => by cases hk⟩
theorem New.keep (hK : K.Ok) {base : Nat} {w w' : World} {v : Value} {xs : List α} (h : New K base w v xs) (hk : ∀ k, base ≤ k → k < w.heap.size → w'.heap[k]? = w.heap[k]?) : New K base w' v xs := by
  refine ⟨?_, h.2⟩
  by_cases h0 : 0 < xs.length
  · obtain ⟨b, off, c, rfl, hb, hli⟩ := h.1.at hK h0
    exact (hli.keep (hk b (h.2 b rfl) hb)).isl hK rfl h.1.fits
  · have e : xs = [] := List.eq_nil_of_length_eq_zero (by omega)
    subst e
    obtain ⟨a, c, rfl⟩ := h.1.form
    cases a with
    | none =>
      obtain ⟨⟨_, ⟨h1, _⟩ | ⟨ad, cap, h1, _⟩⟩, h2⟩ := h.1
      · cases h1
        exact isl_nil w'
      · cases h1
    | some ad => exact IsL.none_left rfl

theorem grownBy_refl (w : World) (row : Option Nat) : w.grownBy w row := ⟨rfl, rfl, rfl, Nat.le_refl _, fun _ _ _ => rfl⟩

/-- append to a row of its own. -/
theorem append_wp (hK : K.Ok) {w : World} {o : Oper} {a : Act} {Q : Exit → Act → World → Prop} {Kn : Act → World → Prop} (s x : Operand)
    (ho : o.op = .call { callee := .builtin .append, args := #[s, x], argTypes := #[K.t, K.t] }) (base : Nat) (v : Value) (xs : List α) (hs : a.eval s = v) (hown : Own K base w v xs)
    (xv : Value) (ys : List α) (hx : a.eval x = xv) (hr : IsL K w xv ys) (n : Nat) (hn : xs.length + ys.length = n) (hbytes : n * K.bytes ≤ 140737488355328) (hbase : base ≤ w.heap.size)
    (h : ∀ a' c' w', Own K base w' (.slice a' n c') (xs ++ ys) → w.grownBy w' v.ownBlock → Kn (a.put o.dst (.slice a' n c')) w') : Oper.wp Try.prog o a w Kn Q := by
  subst hn
  have hlen : xs.length + ys.length ≤ maxLen := by
    have h1 := Nat.mul_le_mul_left (xs.length + ys.length) hK.bpos
    unfold maxLen
    omega
  obtain ⟨i0, z, hi, hz0, hz1, hz2, hz3⟩ := hK.info
  obtain ⟨hl, ⟨rfl, h0⟩ | ⟨ad, c, rfl, hc⟩⟩ := hr.1
  · have e : ys = [] := List.eq_nil_of_length_eq_zero h0
    subst e
    have hrun := run_append_owned_none (P := Try.prog) (w := w) base K.t o.type K.e i0 K.k hK.und hi v xs.length _ hown
    obtain ⟨a', c', rfl⟩ := Rd.form (Rd.of_owns hown)
    unfold Oper.wp
    simp [execOp, ho, resolve, invoke, builtin, hs, hx, hrun, Result.andThen]
    exact h a' c' w (by rw [List.append_nil]; exact hown) (grownBy_refl w _)
  · refine wp_append_own w s x K.t ho base K.e i0 z K.k K.bytes hK.und hi hz0 hz1 hz2 hz3 hK.pos v xs.length _ hs hown ad ys.length c _ hx hl hc (flat_one hK ys) hlen hbytes hbase fun v' w' ho' hg _ => ?_
    rw [← List.flatMap_append] at ho'
    have ho2 : Own K base w' v' (xs ++ ys) := by rw [Own, List.length_append]; exact ho'
    obtain ⟨a', c', rfl⟩ := Rd.form (Rd.of_owns ho')
    exact h a' c' w' ho2 hg
theorem wpList_append (hK : K.Ok) {w : World} {ops : Array Oper} {rest : List Oper} {o : Oper} {a : Act} {Q : Exit → Act → World → Prop} (hw : Region.wanted o (yielded ops a.tmps) = true) (s x : Operand)
    (ho : o.op = .call { callee := .builtin .append, args := #[s, x], argTypes := #[K.t, K.t] }) (base : Nat) (v : Value) (xs : List α) (hs : a.eval s = v) (hown : Own K base w v xs)
    (xv : Value) (ys : List α) (hx : a.eval x = xv) (hr : IsL K w xv ys) (n : Nat) (hn : xs.length + ys.length = n) (hbytes : n * K.bytes ≤ 140737488355328) (hbase : base ≤ w.heap.size)
    (h : ∀ a' c' w', Own K base w' (.slice a' n c') (xs ++ ys) → w.grownBy w' v.ownBlock → wpList Try.prog ops Q rest (a.put o.dst (.slice a' n c')) w') : wpList Try.prog ops Q (o :: rest) a w :=
  Go.BigFrame.wpList_want hw fun _ hKn => append_wp hK s x ho base v xs hs hown xv ys hx hr n hn hbytes hbase fun a' c' w' h1 h2 => hKn _ _ (h a' c' w' h1 h2)
/-- The same at a step of a region that draws its order. -/
theorem step_append (hK : K.Ok) {w : World} {ops : Array Oper} {o : Oper} {a : Act} {Kn : Act → World → Prop} {Q : Exit → Act → World → Prop} {E : Prop} (hw : Region.wanted o (yielded ops a.tmps) = true) (s x : Operand)
    (ho : o.op = .call { callee := .builtin .append, args := #[s, x], argTypes := #[K.t, K.t] }) (base : Nat) (v : Value) (xs : List α) (hs : a.eval s = v) (hown : Own K base w v xs)
    (xv : Value) (ys : List α) (hx : a.eval x = xv) (hr : IsL K w xv ys) (n : Nat) (hn : xs.length + ys.length = n) (hbytes : n * K.bytes ≤ 140737488355328) (hbase : base ≤ w.heap.size)
    (h : ∀ a' c' w', Own K base w' (.slice a' n c') (xs ++ ys) → w.grownBy w' v.ownBlock → Kn (a.put o.dst (.slice a' n c')) w') :
    if Region.wanted o (yielded ops a.tmps) = true then Oper.wp Try.prog o a w Kn Q else E := by
  rw [if_pos hw]
  exact append_wp hK s x ho base v xs hs hown xv ys hx hr n hn hbytes hbase h
end

/-- Numbers. -/
def KI : Kind Int := ⟨fun z => [.int .i64 z], 1, 3, 45, 8, 0⟩

/-- A block: Start and Size. -/
abbrev Bl := Int × Int
def KB : Kind Bl := ⟨fun p => [.int .i64 p.1, .int .i64 p.2], 2, 38, 22, 16, (0, 0)⟩

theorem Try.info38 : (Try.prog.info? 38).map (fun i => (i.zero, i.size, i.bytes)) = some (some (.agg #[.int .i64 0, .int .i64 0]), 2, 16) := by kernel_rfl
theorem Try.info3 : (Try.prog.info? 3).map (fun i => (i.zero, i.size, i.bytes)) = some (some (.int .i64 0), 1, 8) := by kernel_rfl

theorem ki : KI.Ok := by
  refine ⟨fun _ => rfl, fun x u hu => ?_, by decide, by decide, Try.underlying45, ?_⟩
  · simp only [KI, List.mem_singleton] at hu; subst hu; rfl
  · obtain ⟨i0, hi, h0, h1, h2⟩ := info_parts Try.info3
    exact ⟨i0, _, hi, h0, h1, h2, rfl⟩

theorem kb : KB.Ok := by
  refine ⟨fun _ => rfl, fun x u hu => ?_, by decide, by decide, Try.underlying22, ?_⟩
  · simp only [KB, List.mem_cons, List.not_mem_nil, or_false] at hu; rcases hu with rfl | rfl <;> rfl
  · obtain ⟨i0, hi, h0, h1, h2⟩ := info_parts Try.info38
    exact ⟨i0, _, hi, h0, h1, h2, rfl⟩

theorem Lies.ints {w : World} {b off : Nat} {xs : List Int} (h : Lies KI w b off xs) {j : Nat} (hj : j < xs.length) : w.cell? ⟨b, off + j, none⟩ = some (.int .i64 (xs.getD j 0)) := by
  have := h j 0 _ hj rfl
  simp only [KI, Nat.mul_one, Nat.add_zero] at this
  exact this

theorem Lies.block {w : World} {b off : Nat} {xs : List Bl} (h : Lies KB w b off xs) {j : Nat} (hj : j < xs.length) {t c : Int} (he : xs.getD j (0, 0) = (t, c)) :
    w.cell? ⟨b, off + j * 2, none⟩ = some (.int .i64 t) ∧ w.cell? ⟨b, off + j * 2 + 1, none⟩ = some (.int .i64 c) := by
  have e : xs.getD j KB.d = (t, c) := he
  refine ⟨h j 0 _ hj ?_, h j 1 _ hj ?_⟩ <;> rw [e] <;> rfl

theorem Below.next {B : Nat} {w w1 w2 : World} (h : Below B w w1) (h2 : Below w1.heap.size w1 w2) (hs : B ≤ w.heap.size) : Below B w w2 := h.trans (h2.mono (Nat.le_trans hs h.size))
end Go.Proofs.Ytomhfnjnmhdpkaa
