/-
  Lists of timers as they are read, rows of one's own, and the functions that copy and compare them.
-/
import Derived.Test.YtcfjpjojckngeaaProg
import Derived.WalkKit
import Derived.WalkSpells
import Derived.WalkLawsBesides
import Derived.Maps.Own
import Derived.Maps.AppendAt
import Derived.Deep.QuietTactic
import Derived.BigQuiet
import Derived.WalkSmall
import Derived.Deep.RegionHeld3
import Derived.Deep.DrawnRows
import Derived.Deep.MidRow
import Derived.Deep.DeepCutAuto
import Derived.Deep.CutRange
import Derived.Laws.AppendOwnNone
namespace Go.Proofs.Ytcfjpjojckngeaa
open Go.RowKit

theorem hide {p : Prop} (h : p) : Hid p := h
theorem unhide {p : Prop} (h : Hid p) : p := h

/-- A timer: When and Task. -/
abbrev Tm := Int × Int
def tcell (t : Tm) : List Value := [.int .i64 t.1, .int .i64 t.2]
def flat : List Tm → List Value
  | [] => []
  | t :: r => .int .i64 t.1 :: .int .i64 t.2 :: flat r
def tAt (ts : List Tm) (j : Nat) : Tm := ts.getD j (0, 0)

theorem flat_length : ∀ ts : List Tm, (flat ts).length = ts.length * 2
  | [] => rfl
  | _ :: r => by simp only [flat, List.length_cons, flat_length r]; omega
theorem flat_append : ∀ a b : List Tm, flat (a ++ b) = flat a ++ flat b
  | [], _ => rfl
  | _ :: r, b => by simp only [flat, List.cons_append, flat_append r b]
theorem flat_get : ∀ (ts : List Tm) (j : Nat), j < ts.length → (flat ts)[j * 2]? = some (.int .i64 (tAt ts j).1) ∧ (flat ts)[j * 2 + 1]? = some (.int .i64 (tAt ts j).2)
  | [], _, h => by simp at h
  | t :: r, 0, _ => ⟨rfl, rfl⟩
  | t :: r, j + 1, h => by
    have := flat_get r j (by simpa using h)
    rw [show (j + 1) * 2 = j * 2 + 1 + 1 by omega]
    simp only [flat, List.getElem?_cons_succ]
    exact this
theorem flat_one (ts : List Tm) : ∀ u ∈ flat ts, u.oneCell' = true := by
  induction ts with
  | nil => intro u hu; simp [flat] at hu
  | cons t r ih =>
    intro u hu
    simp only [flat, List.mem_cons] at hu
    rcases hu with rfl | rfl | hu
    · rfl
    · rfl
    · exact ih u hu
theorem flat_set : ∀ (ts : List Tm) (i : Nat) (a : Tm), flat (ts.set i a) = ((flat ts).set (i * 2) (.int .i64 a.1)).set (i * 2 + 1) (.int .i64 a.2)
  | [], _, _ => rfl
  | t :: r, 0, a => rfl
  | t :: r, i + 1, a => by
    rw [show (i + 1) * 2 = i * 2 + 1 + 1 by omega]
    simp only [flat, List.set_cons_succ, flat_set r i a]
theorem flat_take : ∀ (ts : List Tm) (k : Nat), flat (ts.take k) = (flat ts).take (k * 2)
  | [], _ => by simp [flat]
  | t :: r, 0 => rfl
  | t :: r, k + 1 => by
    rw [show (k + 1) * 2 = k * 2 + 1 + 1 by omega]
    simp only [flat, List.take_succ_cons, flat_take r k]

/-- The slice v reads as the cells xs, n elements of so many cells each. -/
def Rd (w : World) (size : Nat) (v : Value) (n : Nat) (xs : List Value) : Prop :=
  xs.length = n * size ∧ ((v = .slice none 0 0 ∧ n = 0) ∨ ∃ ad cap, v = .slice (some ad) n cap ∧ ∀ j u, xs[j]? = some u → w.cell? (ad.add j) = some u)

theorem Rd.below {w w' : World} {size n : Nat} {v : Value} {xs : List Value} (h : Rd w size v n xs) (hb : Below w.heap.size w w') : Rd w' size v n xs := by
  refine ⟨h.1, h.2.imp id ?_⟩
  rintro ⟨ad, cap, hv, hc⟩
  refine ⟨ad, cap, hv, fun j u hj => ?_⟩
  have := hc j u hj
  rw [hb.cell (World.block_lt_of_cell? w _ this)]
  exact this

theorem Rd.of_owns {w : World} {base e size n : Nat} {v : Value} {xs : List Value} (h : w.ownsRow base e size v n xs) : Rd w size v n xs := by
  refine ⟨h.1, h.2.imp id ?_⟩
  rintro ⟨g, cap, cur, hv, hg, hh, hn, hcap, hsz, hx⟩
  refine ⟨⟨g, 0, none⟩, cap, hv, fun j u hj => ?_⟩
  rw [WideShapes.add_plain]
  simp only [World.cell?, hh]
  subst hx
  rw [List.getElem?_take] at hj
  split at hj
  · simpa using hj
  · cases hj

theorem Rd.form {w : World} {size n : Nat} {v : Value} {xs : List Value} (h : Rd w size v n xs) : ∃ a c, v = .slice a n c := by
  obtain ⟨_, ⟨rfl, rfl⟩ | ⟨ad, cap, rfl, _⟩⟩ := h
  · exact ⟨_, _, rfl⟩
  · exact ⟨_, _, rfl⟩

theorem Rd.at {w : World} {size n : Nat} {v : Value} {xs : List Value} (h : Rd w size v n xs) (hn : 0 < n) (hs : 0 < size) :
    ∃ b off c, v = .slice (some ⟨b, off, none⟩) n c ∧ b < w.heap.size ∧ ∀ j u, xs[j]? = some u → w.cell? ⟨b, off + j, none⟩ = some u := by
  obtain ⟨hl, ⟨rfl, rfl⟩ | ⟨⟨b, off, spot⟩, cap, rfl, hc⟩⟩ := h
  · omega
  · have hp : 0 < xs.length := by rw [hl]; exact Nat.mul_pos hn hs
    have h0 := hc 0 xs[0] (List.getElem?_eq_getElem hp)
    have hspot : spot = none := by simpa [Addr.add] using World.cell?_spot h0
    subst hspot
    refine ⟨b, off, cap, rfl, World.block_lt_of_cell? w _ h0, fun j u hj => ?_⟩
    rw [← WideShapes.add_plain]
    exact hc j u hj

/-- The slice v reads as the timers ts. -/
def IsTs (w : World) (v : Value) (ts : List Tm) : Prop := Rd w 2 v ts.length (flat ts)
theorem IsTs.below {w w' : World} {v : Value} {ts : List Tm} (h : IsTs w v ts) (hb : Below w.heap.size w w') : IsTs w' v ts := Rd.below h hb

/-- Timers in a block, from a place on. -/
def Cells (w : World) (b off : Nat) (ts : List Tm) : Prop := ∀ j, j < ts.length → w.cell? ⟨b, off + j * 2, none⟩ = some (.int .i64 (tAt ts j).1) ∧ w.cell? ⟨b, off + j * 2 + 1, none⟩ = some (.int .i64 (tAt ts j).2)

theorem IsTs.at {w : World} {v : Value} {ts : List Tm} (h : IsTs w v ts) (hn : 0 < ts.length) : ∃ b off c, v = .slice (some ⟨b, off, none⟩) ts.length c ∧ b < w.heap.size ∧ Cells w b off ts := by
  obtain ⟨b, off, c, hv, hb, hc⟩ := Rd.at h hn (by decide)
  refine ⟨b, off, c, hv, hb, fun j hj => ⟨hc _ _ (flat_get ts j hj).1, ?_⟩⟩
  rw [Nat.add_assoc]
  exact hc _ _ (flat_get ts j hj).2

theorem Cells.ts {w : World} {b off : Nat} {ts : List Tm} (h : Cells w b off ts) (c : Nat) : IsTs w (.slice (some ⟨b, off, none⟩) ts.length c) ts := by
  refine ⟨flat_length ts, Or.inr ⟨_, _, rfl, fun j u hj => ?_⟩⟩
  rw [WideShapes.add_plain]
  have hlen : j < ts.length * 2 := by rw [← flat_length]; exact (List.getElem?_eq_some_iff.1 hj).1
  have hq : j / 2 < ts.length := by omega
  obtain ⟨h0, h1⟩ := h (j / 2) hq
  obtain ⟨g0, g1⟩ := flat_get ts (j / 2) hq
  by_cases hr : j % 2 = 0
  · have e : j / 2 * 2 = j := by omega
    rw [e] at h0 g0
    rw [h0, ← g0, hj]
  · have e : j / 2 * 2 + 1 = j := by omega
    rw [Nat.add_assoc, e] at h1
    rw [e] at g1
    rw [h1, ← g1, hj]

theorem Cells.keep {w w' : World} {b off : Nat} {ts : List Tm} (h : Cells w b off ts) (hb : w'.heap[b]? = w.heap[b]?) : Cells w' b off ts := fun j hj => by
  rw [World.cell?_of_block (w := w) (a := ⟨b, off + j * 2, none⟩) hb, World.cell?_of_block (w := w) (a := ⟨b, off + j * 2 + 1, none⟩) hb]
  exact h j hj
theorem Cells.below {w w' : World} {b off : Nat} {ts : List Tm} {B : Nat} (h : Cells w b off ts) (hb : Below B w w') (hB : b < B) : Cells w' b off ts := h.keep (hb.block b hB)

/-- A slice's length is at most its capacity. -/
def Fits (v : Value) : Prop := ∀ a n c, v = .slice a n c → n ≤ c

/-- The slice v is a row of its own, from the block base on, of the timers ts. -/
def Own (base : Nat) (w : World) (v : Value) (ts : List Tm) : Prop := w.ownsRow base 24 2 v ts.length (flat ts)
theorem Own.ts {base : Nat} {w : World} {v : Value} {ts : List Tm} (h : Own base w v ts) : IsTs w v ts := Rd.of_owns h
theorem Own.fits {base : Nat} {w : World} {v : Value} {ts : List Tm} (h : Own base w v ts) : Fits v := fun a n c e => by
  obtain ⟨_, ⟨h1, _⟩ | ⟨g, cap, cur, h1, _, _, h2, _⟩⟩ := h
  · rw [h1] at e; cases e; omega
  · rw [h1] at e; cases e; exact h2
theorem Own.keep {base : Nat} {w w' : World} {v : Value} {ts : List Tm} (h : Own base w v ts) (hk : ∀ k, base ≤ k → k < w.heap.size → w'.heap[k]? = w.heap[k]?) : Own base w' v ts := by
  refine ⟨h.1, h.2.imp id ?_⟩
  rintro ⟨g, cap, cur, hv, hg, hh, r⟩
  exact ⟨g, cap, cur, hv, hg, (hk g hg (Array.getElem?_eq_some_iff.1 hh).1).trans hh, r⟩
theorem Own.base {base base' : Nat} {w : World} {v : Value} {ts : List Tm} (h : Own base w v ts) (hb : base' ≤ base) : Own base' w v ts := by
  refine ⟨h.1, h.2.imp id ?_⟩
  rintro ⟨g, cap, cur, hv, hg, r⟩
  exact ⟨g, cap, cur, hv, Nat.le_trans hb hg, r⟩
theorem Own.below {base : Nat} {w w' : World} {v : Value} {ts : List Tm} (h : Own base w v ts) (hb : Below w.heap.size w w') : Own base w' v ts := h.keep fun k _ hk => hb.block k hk
theorem own_nil (base : Nat) (w : World) : Own base w (.slice none 0 0) [] := World.ownsRow_nil _ _ _ _

/-- A row in the block g: timers, room for c. -/
def Row (w : World) (g c : Nat) (ts : List Tm) : Prop := ∃ cur, w.heap[g]? = some (.cells cur 24 (0, 0)) ∧ ts.length ≤ c ∧ c ≤ maxLen ∧ cur.size = c * 2 ∧ cur.toList.take (ts.length * 2) = flat ts

theorem Row.own {w : World} {g c base : Nat} {ts : List Tm} (h : Row w g c ts) (hb : base ≤ g) : Own base w (.slice (some ⟨g, 0, none⟩) ts.length c) ts := by
  obtain ⟨cur, h1, h2, h3, h4, h5⟩ := h
  exact ⟨flat_length ts, Or.inr ⟨g, c, cur, rfl, hb, h1, h2, h3, h4, h5⟩⟩
theorem Own.row {base : Nat} {w : World} {v : Value} {ts : List Tm} (h : Own base w v ts) (hn : 0 < ts.length) : ∃ g c, v = .slice (some ⟨g, 0, none⟩) ts.length c ∧ base ≤ g ∧ Row w g c ts := by
  obtain ⟨_, ⟨h1, h2⟩ | ⟨g, cap, cur, h1, h2, h3, h4, h5, h6, h7⟩⟩ := h
  · omega
  · exact ⟨g, cap, h1, h2, cur, h3, h4, h5, h6, h7⟩
theorem Row.lt {w : World} {g c : Nat} {ts : List Tm} (h : Row w g c ts) : g < w.heap.size := by
  obtain ⟨cur, h1, _⟩ := h
  exact (Array.getElem?_eq_some_iff.1 h1).1
theorem Row.keep {w w' : World} {g c : Nat} {ts : List Tm} (h : Row w g c ts) (hb : w'.heap[g]? = w.heap[g]?) : Row w' g c ts := by
  obtain ⟨cur, h1, r⟩ := h
  exact ⟨cur, hb.trans h1, r⟩
theorem Row.below {w w' : World} {g c B : Nat} {ts : List Tm} (h : Row w g c ts) (hb : Below B w w') (hB : g < B) : Row w' g c ts := h.keep (hb.block g hB)
theorem Row.cells {w : World} {g c : Nat} {ts : List Tm} (h : Row w g c ts) : Cells w g 0 ts := by
  obtain ⟨cur, h1, h2, h3, h4, h5⟩ := h
  intro j hj
  obtain ⟨g0, g1⟩ := flat_get ts j hj
  rw [← h5, List.getElem?_take, if_pos (by omega)] at g0 g1
  constructor
  · simp only [World.cell?, h1]
    simpa using g0
  · simp only [World.cell?, h1]
    simpa using g1
theorem Row.free {w : World} {g c : Nat} {ts : List Tm} (h : Row w g c ts) (o : Nat) : w.frozen? ⟨g, o, none⟩ = false := by
  obtain ⟨cur, h1, _⟩ := h
  simp [World.frozen?, h1]
theorem Row.fits {w : World} {g c : Nat} {ts : List Tm} (h : Row w g c ts) : ts.length ≤ c := by
  obtain ⟨cur, _, h2, _⟩ := h
  exact h2

/-- A timer is put at a place of a block. -/
def put2 (w : World) (g o : Nat) (a : Tm) : World := (w.setCell ⟨g, o, none⟩ (.int .i64 a.1)).setCell ⟨g, o + 1, none⟩ (.int .i64 a.2)

theorem Row.put {w : World} {g c : Nat} {ts : List Tm} (h : Row w g c ts) (i : Nat) (a : Tm) : Row (put2 w g (i * 2) a) g c (ts.set i a) := by
  obtain ⟨cur, h1, h2, h3, h4, h5⟩ := h
  refine ⟨(cur.setIfInBounds (i * 2) (.int .i64 a.1)).setIfInBounds (i * 2 + 1) (.int .i64 a.2), ?_, by simpa using h2, h3, by simpa using h4, ?_⟩
  · simp [put2, World.setCell, Array.getElem?_modify, h1]
  · rw [flat_set, ← h5]
    simp [List.take_set]

/-- All blocks but g are as they were. -/
structure But (g : Nat) (w w' : World) : Prop where
  os : w'.os = w.os
  tape : w'.tape = w.tape
  output : w'.output = w.output
  size : w.heap.size ≤ w'.heap.size
  block : ∀ k, k < w.heap.size → k ≠ g → w'.heap[k]? = w.heap[k]?
theorem But.refl (g : Nat) (w : World) : But g w w := ⟨rfl, rfl, rfl, Nat.le_refl _, fun _ _ _ => rfl⟩
theorem But.trans {g : Nat} {a b c : World} (h : But g a b) (k : But g b c) : But g a c :=
  ⟨k.os.trans h.os, k.tape.trans h.tape, k.output.trans h.output, Nat.le_trans h.size k.size, fun i hi hg => (k.block i (Nat.lt_of_lt_of_le hi h.size) hg).trans (h.block i hi hg)⟩
theorem But.of_below {g : Nat} {w w' : World} (h : Below w.heap.size w w') : But g w w' := ⟨h.os, h.tape, h.output, h.size, fun k hk _ => h.block k hk⟩
theorem But.call {g : Nat} {a b c : World} (h : But g a b) (k : Below b.heap.size b c) : But g a c := h.trans (But.of_below k)
theorem But.drew {g : Nat} {a b : World} (h : But g a b) : But g a b.drew := h.call (Below.refl _ _).drew
theorem But.put {g : Nat} {a b : World} (h : But g a b) (o : Nat) (t : Tm) : But g a (put2 b g o t) := by
  have hb := ((Below.refl 0 b).setCell (p := ⟨g, o, none⟩) (Nat.zero_le _) (.int .i64 t.1)).setCell (p := ⟨g, o + 1, none⟩) (Nat.zero_le _) (.int .i64 t.2)
  refine h.trans ⟨hb.os, hb.tape, hb.output, hb.size, fun k hk hg => ?_⟩
  rw [put2, Below.heap_setCell _ _ _ _ (by simpa using hg), Below.heap_setCell _ _ _ _ (by simpa using hg)]
theorem But.below {g B : Nat} {w w' : World} (h : But g w w') (hB : B ≤ g) (hs : B ≤ w.heap.size) : Below B w w' := ⟨h.os, h.tape, h.output, h.size, fun k hk => h.block k (by omega) (by omega)⟩

theorem Try.info24 : (Try.prog.info? 24).map (fun i => (i.zero, i.size, i.bytes)) = some (some (.agg #[.int .i64 0, .int .i64 0]), 2, 16) := by kernel_rfl

theorem grownBy_refl (w : World) (row : Option Nat) : w.grownBy w row := ⟨rfl, rfl, rfl, Nat.le_refl _, fun _ _ _ => rfl⟩

/-- append, of timers, to a row of its own. -/
theorem wpList_append_ts {w : World} {ops : Array Oper} {rest : List Oper} {o : Oper} {a : Act} {Q : Exit → Act → World → Prop} (hw : Region.wanted o (yielded ops a.tmps) = true) (s x : Operand)
    (ho : o.op = .call { callee := .builtin .append, args := #[s, x], argTypes := #[22, 22] }) (base : Nat) (v : Value) (xs : List Tm) (hs : a.eval s = v) (hown : Own base w v xs)
    (xv : Value) (ys : List Tm) (hx : a.eval x = xv) (hr : IsTs w xv ys) (n : Nat) (hn : xs.length + ys.length = n) (hbytes : n * 16 ≤ 140737488355328) (hbase : base ≤ w.heap.size)
    (h : ∀ a' c' w', Own base w' (.slice a' n c') (xs ++ ys) → w.grownBy w' v.ownBlock → wpList Try.prog ops Q rest (a.put o.dst (.slice a' n c')) w') : wpList Try.prog ops Q (o :: rest) a w := by
  subst hn
  obtain ⟨i0, hi, hz0, hz1, hz2⟩ := info_parts Try.info24
  refine Go.BigFrame.wpList_want hw fun K hK => ?_
  obtain ⟨hl, ⟨rfl, h0⟩ | ⟨ad, c, rfl, hc⟩⟩ := hr
  · have e : ys = [] := List.eq_nil_of_length_eq_zero h0
    subst e
    have hrun := run_append_owned_none (P := Try.prog) (w := w) base 22 o.type 24 i0 2 Try.underlying22 hi v xs.length (flat xs) hown
    obtain ⟨a', c', rfl⟩ := Rd.form (Rd.of_owns hown)
    unfold Oper.wp
    simp [execOp, ho, resolve, invoke, builtin, hs, hx, hrun, Result.andThen]
    exact hK _ _ (h a' c' w (by rw [List.append_nil]; exact hown) (grownBy_refl w _))
  · refine wp_append_own w s x 22 ho base 24 i0 (.agg #[.int .i64 0, .int .i64 0]) 2 16 Try.underlying22 hi hz0 hz1 hz2 rfl (by decide) v xs.length _ hs hown ad ys.length c _ hx hl hc (flat_one ys) (by unfold maxLen; omega) hbytes hbase fun v' w' ho' hg _ => hK _ _ ?_
    rw [← flat_append] at ho'
    have ho2 : Own base w' v' (xs ++ ys) := by rw [Own, List.length_append]; exact ho'
    obtain ⟨a', c', rfl⟩ := Rd.form (Rd.of_owns ho')
    exact h a' c' w' ho2 hg

/-- The same at a step of a region that draws its order. -/
theorem step_append_ts {w : World} {ops : Array Oper} {o : Oper} {a : Act} {K : Act → World → Prop} {Q : Exit → Act → World → Prop} {E : Prop} (hw : Region.wanted o (yielded ops a.tmps) = true) (s x : Operand)
    (ho : o.op = .call { callee := .builtin .append, args := #[s, x], argTypes := #[22, 22] }) (base : Nat) (v : Value) (xs : List Tm) (hs : a.eval s = v) (hown : Own base w v xs)
    (xv : Value) (ys : List Tm) (hx : a.eval x = xv) (hr : IsTs w xv ys) (n : Nat) (hn : xs.length + ys.length = n) (hbytes : n * 16 ≤ 140737488355328) (hbase : base ≤ w.heap.size)
    (h : ∀ a' c' w', Own base w' (.slice a' n c') (xs ++ ys) → w.grownBy w' v.ownBlock → K (a.put o.dst (.slice a' n c')) w') :
    if Region.wanted o (yielded ops a.tmps) = true then Oper.wp Try.prog o a w K Q else E := by
  subst hn
  rw [if_pos hw]
  obtain ⟨i0, hi, hz0, hz1, hz2⟩ := info_parts Try.info24
  obtain ⟨hl, ⟨rfl, h0⟩ | ⟨ad, c, rfl, hc⟩⟩ := hr
  · have e : ys = [] := List.eq_nil_of_length_eq_zero h0
    subst e
    have hrun := run_append_owned_none (P := Try.prog) (w := w) base 22 o.type 24 i0 2 Try.underlying22 hi v xs.length (flat xs) hown
    obtain ⟨a', c', rfl⟩ := Rd.form (Rd.of_owns hown)
    unfold Oper.wp
    simp [execOp, ho, resolve, invoke, builtin, hs, hx, hrun, Result.andThen]
    exact h a' c' w (by rw [List.append_nil]; exact hown) (grownBy_refl w _)
  · refine wp_append_own w s x 22 ho base 24 i0 (.agg #[.int .i64 0, .int .i64 0]) 2 16 Try.underlying22 hi hz0 hz1 hz2 rfl (by decide) v xs.length _ hs hown ad ys.length c _ hx hl hc (flat_one ys) (by unfold maxLen; omega) hbytes hbase fun v' w' ho' hg _ => ?_
    rw [← flat_append] at ho'
    have ho2 : Own base w' v' (xs ++ ys) := by rw [Own, List.length_append]; exact ho'
    obtain ⟨a', c', rfl⟩ := Rd.form (Rd.of_owns ho')
    exact h a' c' w' ho2 hg

theorem own_empty (w : World) : Own w.heap.size (w.alloc (.cells #[] 24)) (.slice (some ⟨w.heap.size, 0, none⟩) 0 0) [] :=
  ⟨by simp [flat], Or.inr ⟨w.heap.size, 0, #[], rfl, Nat.le_refl _, (MapKept.heap_alloc w _).1, Nat.le_refl _, Nat.zero_le _, by simp, by simp [flat]⟩⟩

theorem own_nil_append {base : Nat} {w : World} {a : Option Addr} {c n : Nat} {ts : List Tm} (h : Own base w (.slice a n c) ([] ++ ts)) : Own base w (.slice a n c) ts := h

set_option maxRecDepth 100000 in
set_option maxHeartbeats 400000 in
theorem fresh_any (w : World) (v : Value) (ts : List Tm) (hr : IsTs w v ts) (hn : ts.length * 16 ≤ 140737488355328) :
    Calls Try.prog 27 #[v] w fun e w' => ∃ a' c', e = .returned (.slice a' ts.length c') ∧ Own w.heap.size w' (.slice a' ts.length c') ts ∧ Below w.heap.size w w' := by
  obtain ⟨a, c, rfl⟩ := Rd.form hr
  have HR := hide (IsTs.below hr ((Below.refl _ _).alloc (Nat.le_refl _) (.cells #[] 24)))
  clear hr
  go_enter Try.func27, Try.ntmps27
  go_wp2_with (at_builtin; refine wpList_append_ts rfl (.tmp 3) (.tmp 4) rfl w.heap.size _ [] rfl (own_empty w) _ ts rfl (unhide HR) ts.length (by simp) hn (by simp) ?_; intro a' c' w1 ho hg; have HO := hide (own_nil_append ho); have HB := hide (((Below.refl w.heap.size w).alloc (Nat.le_refl _) _).grown hg (by simp) (fun k hk => by cases hk; exact Nat.le_refl _)); clear ho hg)
  go_ret
  exact ⟨a', c', rfl, unhide HO, unhide HB⟩

set_option maxRecDepth 100000 in
set_option maxHeartbeats 400000 in
theorem own_any (w : World) (v : Value) (ts : List Tm) (hr : IsTs w v ts) (hn : ts.length * 16 ≤ 140737488355328) :
    Calls Try.prog 9 #[v] w fun e w' => ∃ a' c', e = .returned (.slice a' ts.length c') ∧ Own w.heap.size w' (.slice a' ts.length c') ts ∧ Below w.heap.size w w' := by
  obtain ⟨a, c, rfl⟩ := Rd.form hr
  have HR := hide hr
  clear hr
  go_enter Try.func9, Try.ntmps9
  go_wp2_with (at_builtin; refine wpList_append_ts rfl (.const (.slice none 0 0)) (.tmp 3) rfl w.heap.size _ [] rfl (own_nil _ _) _ ts rfl (unhide HR) ts.length (by simp) hn (Nat.le_refl _) ?_; intro a' c' w1 ho hg; have HO := hide (own_nil_append ho); have HB := hide ((Below.refl w.heap.size w).grown hg (Nat.le_refl _) (fun k hk => by cases hk)); clear ho hg)
  go_ret
  exact ⟨a', c', rfl, unhide HO, unhide HB⟩

set_option maxRecDepth 100000 in
set_option maxHeartbeats 1000000 in
theorem same_zero (w : World) (a0 a1 : Option Addr) (c0 c1 : Nat) :
    Calls Try.prog 13 #[.slice a0 0 c0, .slice a1 0 c1] w fun e w' => e = .returned (.bool true) ∧ Below w.heap.size w w' := by
  go_enter Try.func13, Try.ntmps13
  go_wp2
  go_loopw [5] (fun i wr => i = .int .i64 0 ∧ wr = w) (fun i _ => 0)
  case atStart => exact ⟨rfl, rfl⟩
  case round =>
    obtain ⟨rfl, rfl⟩ := hrel
    go_wp2
    go_ret
    exact ⟨rfl, Below.refl _ _⟩

set_option maxRecDepth 100000 in
set_option maxHeartbeats 1000000 in
theorem same_some (w : World) (n b0 o0 c0 b1 o1 c1 : Nat) (hn : n ≤ maxLen) (ts : List Tm) (hl : ts.length = n) (hb0 : b0 < w.heap.size) (hb1 : b1 < w.heap.size) (h0 : Cells w b0 o0 ts) (h1 : Cells w b1 o1 ts) :
    Calls Try.prog 13 #[.slice (some ⟨b0, o0, none⟩) n c0, .slice (some ⟨b1, o1, none⟩) n c1] w fun e w' => e = .returned (.bool true) ∧ Below w.heap.size w w' := by
  unfold maxLen at hn
  have H0 := hide h0; have H1 := hide h1; have HN := hide hl
  clear h0 h1 hl
  go_enter Try.func13, Try.ntmps13
  go_wp2
  go_loopw [5] (fun i wr => ∃ j : Nat, j ≤ n ∧ i = .int .i64 j ∧ Below w.heap.size w wr) (fun i _ => n - (intOf i).toNat)
  case atStart => exact ⟨0, Nat.zero_le _, rfl, Below.refl _ _⟩
  case round =>
    obtain ⟨j, hj, rfl, hnx⟩ := hrel
    by_cases hlt : j < n
    · obtain ⟨k0, k1⟩ := (unhide H0).below hnx hb0 j (by rw [unhide HN]; exact hlt)
      obtain ⟨l0, l1⟩ := (unhide H1).below hnx hb1 j (by rw [unhide HN]; exact hlt)
      obtain ⟨x, hx⟩ : ∃ x, (tAt ts j).1 = x := ⟨_, rfl⟩
      obtain ⟨y, hy⟩ : ∃ y, (tAt ts j).2 = y := ⟨_, rfl⟩
      rw [hx] at k0 l0
      rw [hy] at k1 l1
      clear hx hy
      have i0 : (0 : Int) ≤ (j : Int) := by omega
      have i1 : (j : Int) < (n : Int) := by omega
      have x1 : (x == x) = true := by simp
      have y1 : (y == y) = true := by simp
      have HX := hide hnx
      clear hnx
      go_wp2
      go_quiet (fail)
      go_wp2
      go_roundw
      case rel => exact ⟨j + 1, by omega, by go_num, below_drewN (unhide HX) _⟩
      case measure => simp [intOf]; omega
    · have HX := hide hnx
      clear hnx
      go_wp2
      go_ret
      exact ⟨rfl, unhide HX⟩

theorem same_any (w : World) (v v' : Value) (ts : List Tm) (h : IsTs w v ts) (h' : IsTs w v' ts) (hn : ts.length ≤ maxLen) :
    Calls Try.prog 13 #[v, v'] w fun e w' => e = .returned (.bool true) ∧ Below w.heap.size w w' := by
  by_cases h0 : 0 < ts.length
  · obtain ⟨b, off, c, rfl, hb, hc⟩ := h.at h0
    obtain ⟨b', off', c', rfl, hb', hc'⟩ := h'.at h0
    exact same_some w ts.length b off c b' off' c' hn ts rfl hb hb' hc hc'
  · obtain ⟨a0, c0, rfl⟩ := Rd.form h
    obtain ⟨a1, c1, rfl⟩ := Rd.form h'
    have e0 : ts.length = 0 := by omega
    rw [e0]
    exact same_zero w a0 a1 c0 c1
end Go.Proofs.Ytcfjpjojckngeaa
