/-
  Lines as they lie and as they are read; rows of one's own; append of lines.
-/
import Derived.Test.YtjlcfdhghohccaaB
namespace Go.Proofs.Ytjlcfdhghohccaa
open Go.RowKit

/-- A line as it lies: its address, its slice. -/
abbrev Rl := Int × Value
/-- A line: its address, its tasks. -/
abbrev Ln := Int × List Int
def flatL : List Rl → List Value
  | [] => []
  | t :: r => .int .i64 t.1 :: t.2 :: flatL r
def rAt (rs : List Rl) (j : Nat) : Rl := rs.getD j (0, .slice none 0 0)
def lAt (ls : List Ln) (j : Nat) : Ln := ls.getD j (0, [])

theorem flatL_length : ∀ ts : List Rl, (flatL ts).length = ts.length * 2
  | [] => rfl
  | _ :: r => by simp only [flatL, List.length_cons, flatL_length r]; omega
theorem flatL_append : ∀ a b : List Rl, flatL (a ++ b) = flatL a ++ flatL b
  | [], _ => rfl
  | _ :: r, b => by simp only [flatL, List.cons_append, flatL_append r b]
theorem flatL_get : ∀ (ts : List Rl) (j : Nat), j < ts.length → (flatL ts)[j * 2]? = some (.int .i64 (rAt ts j).1) ∧ (flatL ts)[j * 2 + 1]? = some (rAt ts j).2
  | [], _, h => by simp at h
  | t :: r, 0, _ => ⟨rfl, rfl⟩
  | t :: r, j + 1, h => by
    have := flatL_get r j (by simpa using h)
    rw [show (j + 1) * 2 = j * 2 + 1 + 1 by omega]
    simp only [flatL, List.getElem?_cons_succ]
    exact this

theorem rAt_append {a b : List Rl} {j : Nat} : rAt (a ++ b) j = if j < a.length then rAt a j else rAt b (j - a.length) := by
  unfold rAt
  by_cases h : j < a.length
  · rw [if_pos h]; simp [List.getElem?_append_left h]
  · rw [if_neg h]; simp [List.getElem?_append_right (Nat.le_of_not_lt h)]
theorem lAt_append {a b : List Ln} {j : Nat} : lAt (a ++ b) j = if j < a.length then lAt a j else lAt b (j - a.length) := by
  unfold lAt
  by_cases h : j < a.length
  · rw [if_pos h]; simp [List.getElem?_append_left h]
  · rw [if_neg h]; simp [List.getElem?_append_right (Nat.le_of_not_lt h)]
theorem lAt_drop {a : List Ln} {i j : Nat} : lAt (a.drop i) j = lAt a (i + j) := by simp [lAt, List.getElem?_drop]
theorem lAt_take {a : List Ln} {i j : Nat} (h : j < i) : lAt (a.take i) j = lAt a j := by simp [lAt, h]
theorem lAt_get {a : List Ln} {j : Nat} (h : j < a.length) : lAt a j = a[j] := by simp [lAt, h]
theorem take_next {a : List Ln} {j : Nat} (h : j < a.length) : a.take (j + 1) = a.take j ++ [lAt a j] := by rw [lAt_get h, List.take_succ_eq_append_getElem h]

/-- The lines as they lie read as the lines ls. -/
structure Reads (w : World) (rs : List Rl) (ls : List Ln) : Prop where
  len : rs.length = ls.length
  at' : ∀ j, j < ls.length → (rAt rs j).1 = (lAt ls j).1 ∧ IsInts w (rAt rs j).2 (lAt ls j).2
theorem Reads.below {w w' : World} {rs : List Rl} {ls : List Ln} (h : Reads w rs ls) (hb : Below w.heap.size w w') : Reads w' rs ls := ⟨h.len, fun j hj => ⟨(h.at' j hj).1, (h.at' j hj).2.below hb⟩⟩
theorem Reads.nil (w : World) : Reads w [] [] := ⟨rfl, fun j hj => by simp at hj⟩
theorem Reads.append {w : World} {a b : List Rl} {c d : List Ln} (h : Reads w a c) (k : Reads w b d) : Reads w (a ++ b) (c ++ d) := by
  refine ⟨by rw [List.length_append, List.length_append, h.len, k.len], fun j hj => ?_⟩
  rw [rAt_append, lAt_append, h.len]
  rw [List.length_append] at hj
  by_cases e : j < c.length
  · rw [if_pos e, if_pos e]; exact h.at' j e
  · rw [if_neg e, if_neg e]; exact k.at' _ (by omega)
theorem Reads.one {w : World} {x : Int} {v : Value} {zs : List Int} (h : IsInts w v zs) : Reads w [(x, v)] [(x, zs)] :=
  ⟨rfl, fun j hj => by
    have : j = 0 := by simp at hj; omega
    subst this
    exact ⟨rfl, h⟩⟩

/-- The slice v reads as the lines ls. -/
def IsLs (w : World) (v : Value) (ls : List Ln) : Prop := (∃ rs, Rd w 2 v ls.length (flatL rs) ∧ Reads w rs ls) ∧ Fits v
theorem IsLs.below {w w' : World} {v : Value} {ls : List Ln} (h : IsLs w v ls) (hb : Below w.heap.size w w') : IsLs w' v ls := by
  obtain ⟨⟨rs, h1, h2⟩, h3⟩ := h
  exact ⟨⟨rs, h1.below hb, h2.below hb⟩, h3⟩
theorem IsLs.form {w : World} {v : Value} {ls : List Ln} (h : IsLs w v ls) : ∃ a c, v = .slice a ls.length c := by
  obtain ⟨⟨rs, h1, h2⟩, h3⟩ := h
  exact Rd.form h1
theorem ls_nil (w : World) : IsLs w (.slice none 0 0) [] := ⟨⟨[], ⟨rfl, Or.inl ⟨rfl, rfl⟩⟩, Reads.nil w⟩, fits_of (Nat.le_refl _)⟩
theorem IsLs.fits {w : World} {a : Option Addr} {n c : Nat} {ls : List Ln} (h : IsLs w (.slice a n c) ls) : n ≤ c := h.2 _ _ _ rfl

/-- Lines in a block, from a place on. -/
def LCells (w : World) (b off : Nat) (ls : List Ln) : Prop := ∀ j, j < ls.length → w.cell? ⟨b, off + j * 2, none⟩ = some (.int .i64 (lAt ls j).1) ∧ ∃ a c, w.cell? ⟨b, off + j * 2 + 1, none⟩ = some (.slice a (lAt ls j).2.length c) ∧ IsInts w (.slice a (lAt ls j).2.length c) (lAt ls j).2

theorem IsLs.at {w : World} {v : Value} {ls : List Ln} (h : IsLs w v ls) (hn : 0 < ls.length) : ∃ b off c, v = .slice (some ⟨b, off, none⟩) ls.length c ∧ b < w.heap.size ∧ LCells w b off ls := by
  obtain ⟨⟨rs, h1, h2⟩, h3⟩ := h
  obtain ⟨b, off, c, hv, hb, hc⟩ := Rd.at h1 hn (by decide)
  refine ⟨b, off, c, hv, hb, fun j hj => ?_⟩
  have hg := flatL_get rs j (by rw [h2.len]; exact hj)
  have hr := h2.at' j hj
  obtain ⟨a, d, hv2⟩ := hr.2.form
  refine ⟨?_, a, d, ?_, ?_⟩
  · rw [← hr.1]; exact hc _ _ hg.1
  · rw [Nat.add_assoc, ← hv2]; exact hc _ _ hg.2
  · rw [← hv2]; exact hr.2
theorem LCells.below {w w' : World} {b off : Nat} {ls : List Ln} (h : LCells w b off ls) (hb : Below w.heap.size w w') (hB : b < w.heap.size) : LCells w' b off ls := fun j hj => by
  obtain ⟨h1, a, c, h2, h3⟩ := h j hj
  exact ⟨by rw [hb.cell (p := ⟨b, off + j * 2, none⟩) hB]; exact h1, a, c, by rw [hb.cell (p := ⟨b, off + j * 2 + 1, none⟩) hB]; exact h2, h3.below hb⟩
theorem LCells.drop {w : World} {b off : Nat} {ls : List Ln} (h : LCells w b off ls) (i : Nat) : LCells w b (off + i * 2) (ls.drop i) := fun j hj => by
  rw [List.length_drop] at hj
  have := h (i + j) (by omega)
  rw [lAt_drop]
  rw [show off + i * 2 + j * 2 = off + (i + j) * 2 by omega]
  exact this
theorem LCells.take {w : World} {b off : Nat} {ls : List Ln} (h : LCells w b off ls) (i : Nat) : LCells w b off (ls.take i) := fun j hj => by
  rw [List.length_take] at hj
  rw [lAt_take (by omega)]
  exact h j (by omega)
/-- The lines of a block, as they lie. -/
def rawOf (w : World) (b off : Nat) (ls : List Ln) : List Rl := (List.range ls.length).map fun j => ((lAt ls j).1, (w.cell? ⟨b, off + j * 2 + 1, none⟩).getD (.slice none 0 0))
theorem rawOf_at {w : World} {b off : Nat} {ls : List Ln} {j : Nat} (h : j < ls.length) : rAt (rawOf w b off ls) j = ((lAt ls j).1, (w.cell? ⟨b, off + j * 2 + 1, none⟩).getD (.slice none 0 0)) := by
  simp [rAt, rawOf, h]
theorem LCells.ls {w : World} {b off : Nat} {ls : List Ln} (h : LCells w b off ls) (c : Nat) (hcap : ls.length ≤ c) : IsLs w (.slice (some ⟨b, off, none⟩) ls.length c) ls := by
  have hlen : (rawOf w b off ls).length = ls.length := by simp [rawOf]
  refine ⟨⟨rawOf w b off ls, ⟨by rw [flatL_length, hlen], Or.inr ⟨_, _, rfl, fun j u hj => ?_⟩⟩, hlen, fun j hj => ?_⟩, fits_of hcap⟩
  · rw [WideShapes.add_plain]
    have hl : j < ls.length * 2 := by rw [← hlen, ← flatL_length]; exact (List.getElem?_eq_some_iff.1 hj).1
    have hq : j / 2 < ls.length := by omega
    obtain ⟨h0, a, d, h1, _⟩ := h (j / 2) hq
    obtain ⟨g0, g1⟩ := flatL_get (rawOf w b off ls) (j / 2) (by rw [hlen]; exact hq)
    rw [rawOf_at hq] at g0 g1
    by_cases hr : j % 2 = 0
    · have e : j / 2 * 2 = j := by omega
      rw [e] at h0 g0
      rw [h0, ← g0, hj]
    · have e : j / 2 * 2 + 1 = j := by omega
      rw [h1] at g1
      rw [Nat.add_assoc, e] at h1
      rw [e] at g1
      rw [h1, ← hj, g1]
      rfl
  · obtain ⟨_, a, d, h1, h2⟩ := h j hj
    rw [rawOf_at hj, h1]
    exact ⟨rfl, h2⟩

/-- The slice v is a row of its own, from the block base on, of lines as they lie. -/
def OwnL (base : Nat) (w : World) (v : Value) (rs : List Rl) : Prop := w.ownsRow base 55 2 v rs.length (flatL rs)
theorem OwnL.rd {base : Nat} {w : World} {v : Value} {rs : List Rl} (h : OwnL base w v rs) : Rd w 2 v rs.length (flatL rs) := Rd.of_owns h
theorem OwnL.ls {base : Nat} {w : World} {v : Value} {rs : List Rl} {ls : List Ln} (h : OwnL base w v rs) (k : Reads w rs ls) : IsLs w v ls := ⟨⟨rs, by rw [← k.len]; exact h.rd, k⟩, fits_owns h⟩
theorem OwnL.keep {base : Nat} {w w' : World} {v : Value} {ts : List Rl} (h : OwnL base w v ts) (hk : ∀ k, base ≤ k → k < w.heap.size → w'.heap[k]? = w.heap[k]?) : OwnL base w' v ts := by
  refine ⟨h.1, h.2.imp id ?_⟩
  rintro ⟨g, cap, cur, hv, hg, hh, r⟩
  exact ⟨g, cap, cur, hv, hg, (hk g hg (Array.getElem?_eq_some_iff.1 hh).1).trans hh, r⟩
theorem OwnL.base {base base' : Nat} {w : World} {v : Value} {ts : List Rl} (h : OwnL base w v ts) (hb : base' ≤ base) : OwnL base' w v ts := by
  refine ⟨h.1, h.2.imp id ?_⟩
  rintro ⟨g, cap, cur, hv, hg, r⟩
  exact ⟨g, cap, cur, hv, Nat.le_trans hb hg, r⟩
theorem OwnL.below {base : Nat} {w w' : World} {v : Value} {ts : List Rl} (h : OwnL base w v ts) (hb : Below w.heap.size w w') : OwnL base w' v ts := h.keep fun k _ hk => hb.block k hk
theorem ownL_nil (base : Nat) (w : World) : OwnL base w (.slice none 0 0) [] := World.ownsRow_nil _ _ _ _
theorem OwnL.lt {base : Nat} {w : World} {v : Value} {ts : List Rl} (h : OwnL base w v ts) : ∀ k, v.ownBlock = some k → base ≤ k ∧ k < w.heap.size := by
  obtain ⟨_, ⟨rfl, _⟩ | ⟨g, cap, cur, rfl, hg, hh, _⟩⟩ := h
  · intro k hk; cases hk
  · intro k hk
    cases hk
    exact ⟨hg, (Array.getElem?_eq_some_iff.1 hh).1⟩

theorem Try.info55 : (Try.prog.info? 55).map (fun i => (i.zero, i.size, i.bytes)) = some (some (.agg #[.int .i64 0, .slice none 0 0]), 2, 32) := by kernel_rfl
theorem grownBy_refl (w : World) (row : Option Nat) : w.grownBy w row := ⟨rfl, rfl, rfl, Nat.le_refl _, fun _ _ _ => rfl⟩

/-- The cells of lines as they lie are single cells. -/
def Ones (rs : List Rl) : Prop := ∀ u ∈ flatL rs, u.oneCell' = true
theorem ones_one {x : Int} {a : Option Addr} {n c : Nat} : Ones [(x, .slice a n c)] := by
  intro u hu
  simp only [flatL, List.mem_cons, List.not_mem_nil, or_false] at hu
  rcases hu with rfl | rfl <;> rfl

/-- append, of lines, to a row of its own. -/
theorem wpList_append_ls {w : World} {ops : Array Oper} {rest : List Oper} {o : Oper} {a : Act} {Q : Exit → Act → World → Prop} (hw : Region.wanted o (yielded ops a.tmps) = true) (s x : Operand)
    (ho : o.op = .call { callee := .builtin .append, args := #[s, x], argTypes := #[22, 22] }) (base : Nat) (v : Value) (xs : List Rl) (hs : a.eval s = v) (hown : OwnL base w v xs)
    (xv : Value) (ys : List Rl) (hx : a.eval x = xv) (hr : Rd w 2 xv ys.length (flatL ys)) (hone : Ones ys) (n : Nat) (hn : xs.length + ys.length = n) (hbytes : n * 32 ≤ 140737488355328) (hbase : base ≤ w.heap.size)
    (h : ∀ a' c' w', OwnL base w' (.slice a' n c') (xs ++ ys) → w.grownBy w' v.ownBlock → wpList Try.prog ops Q rest (a.put o.dst (.slice a' n c')) w') : wpList Try.prog ops Q (o :: rest) a w := by
  subst hn
  obtain ⟨i0, hi, hz0, hz1, hz2⟩ := info_parts Try.info55
  refine Go.BigFrame.wpList_want hw fun K hK => ?_
  obtain ⟨hl, ⟨rfl, h0⟩ | ⟨ad, c, rfl, hc⟩⟩ := hr
  · have e : ys = [] := List.eq_nil_of_length_eq_zero h0
    subst e
    have hrun := run_append_owned_none (P := Try.prog) (w := w) base 22 o.type 55 i0 2 Try.underlying22 hi v xs.length (flatL xs) hown
    obtain ⟨a', c', rfl⟩ := Rd.form (Rd.of_owns hown)
    unfold Oper.wp
    simp [execOp, ho, resolve, invoke, builtin, hs, hx, hrun, Result.andThen]
    exact hK _ _ (h a' c' w (by rw [List.append_nil]; exact hown) (grownBy_refl w _))
  · refine wp_append_own w s x 22 ho base 55 i0 (.agg #[.int .i64 0, .slice none 0 0]) 2 32 Try.underlying22 hi hz0 hz1 hz2 rfl (by decide) v xs.length _ hs hown ad ys.length c _ hx hl hc hone (by unfold maxLen; omega) hbytes hbase fun v' w' ho' hg _ => hK _ _ ?_
    rw [← flatL_append] at ho'
    have ho2 : OwnL base w' v' (xs ++ ys) := by rw [OwnL, List.length_append]; exact ho'
    obtain ⟨a', c', rfl⟩ := Rd.form (Rd.of_owns ho')
    exact h a' c' w' ho2 hg

/-- The same at a step of a region that draws its order. -/
theorem step_append_ls {w : World} {ops : Array Oper} {o : Oper} {a : Act} {K : Act → World → Prop} {Q : Exit → Act → World → Prop} {E : Prop} (hw : Region.wanted o (yielded ops a.tmps) = true) (s x : Operand)
    (ho : o.op = .call { callee := .builtin .append, args := #[s, x], argTypes := #[22, 22] }) (base : Nat) (v : Value) (xs : List Rl) (hs : a.eval s = v) (hown : OwnL base w v xs)
    (xv : Value) (ys : List Rl) (hx : a.eval x = xv) (hr : Rd w 2 xv ys.length (flatL ys)) (hone : Ones ys) (n : Nat) (hn : xs.length + ys.length = n) (hbytes : n * 32 ≤ 140737488355328) (hbase : base ≤ w.heap.size)
    (h : ∀ a' c' w', OwnL base w' (.slice a' n c') (xs ++ ys) → w.grownBy w' v.ownBlock → K (a.put o.dst (.slice a' n c')) w') :
    if Region.wanted o (yielded ops a.tmps) = true then Oper.wp Try.prog o a w K Q else E := by
  subst hn
  rw [if_pos hw]
  obtain ⟨i0, hi, hz0, hz1, hz2⟩ := info_parts Try.info55
  obtain ⟨hl, ⟨rfl, h0⟩ | ⟨ad, c, rfl, hc⟩⟩ := hr
  · have e : ys = [] := List.eq_nil_of_length_eq_zero h0
    subst e
    have hrun := run_append_owned_none (P := Try.prog) (w := w) base 22 o.type 55 i0 2 Try.underlying22 hi v xs.length (flatL xs) hown
    obtain ⟨a', c', rfl⟩ := Rd.form (Rd.of_owns hown)
    unfold Oper.wp
    simp [execOp, ho, resolve, invoke, builtin, hs, hx, hrun, Result.andThen]
    exact h a' c' w (by rw [List.append_nil]; exact hown) (grownBy_refl w _)
  · refine wp_append_own w s x 22 ho base 55 i0 (.agg #[.int .i64 0, .slice none 0 0]) 2 32 Try.underlying22 hi hz0 hz1 hz2 rfl (by decide) v xs.length _ hs hown ad ys.length c _ hx hl hc hone (by unfold maxLen; omega) hbytes hbase fun v' w' ho' hg _ => ?_
    rw [← flatL_append] at ho'
    have ho2 : OwnL base w' v' (xs ++ ys) := by rw [OwnL, List.length_append]; exact ho'
    obtain ⟨a', c', rfl⟩ := Rd.form (Rd.of_owns ho')
    exact h a' c' w' ho2 hg
/-- A new block with one line. -/
theorem rd_new (w : World) (x : Int) (v : Value) : Rd (w.alloc (.cells #[.int .i64 x, v] 55)) 2 (.slice (some ⟨w.heap.size, 0, none⟩) 1 1) [(x, v)].length (flatL [(x, v)]) := by
  refine ⟨rfl, Or.inr ⟨_, _, rfl, fun j u hj => ?_⟩⟩
  have hh := (MapKept.heap_alloc w (.cells #[.int .i64 x, v] 55)).1
  rw [WideShapes.add_plain]
  simp only [World.cell?, hh]
  match j, hj with
  | 0, hj => simpa [flatL] using hj
  | 1, hj => simpa [flatL] using hj
  | j + 2, hj => simp [flatL] at hj
end Go.Proofs.Ytjlcfdhghohccaa
