/-
  Rows of numbers of one's own; append of numbers; what is steady; lists of lines.
-/
import Derived.Test.YtjlcfdhghohccaaC
namespace Go.Proofs.Ytjlcfdhghohccaa
open Go.RowKit

/-- The slice v is a row of its own, from the block base on, of the numbers zs. -/
def Own (base : Nat) (w : World) (v : Value) (zs : List Int) : Prop := w.ownsRow base 3 1 v zs.length (zs.map (Value.int .i64))
theorem Own.ints {base : Nat} {w : World} {v : Value} {zs : List Int} (h : Own base w v zs) : IsInts w v zs := ⟨Rd.of_owns h, fits_owns h⟩
theorem Own.keep {base : Nat} {w w' : World} {v : Value} {ts : List Int} (h : Own base w v ts) (hk : ∀ k, base ≤ k → k < w.heap.size → w'.heap[k]? = w.heap[k]?) : Own base w' v ts := by
  refine ⟨h.1, h.2.imp id ?_⟩
  rintro ⟨g, cap, cur, hv, hg, hh, r⟩
  exact ⟨g, cap, cur, hv, hg, (hk g hg (Array.getElem?_eq_some_iff.1 hh).1).trans hh, r⟩
theorem Own.base {base base' : Nat} {w : World} {v : Value} {ts : List Int} (h : Own base w v ts) (hb : base' ≤ base) : Own base' w v ts := by
  refine ⟨h.1, h.2.imp id ?_⟩
  rintro ⟨g, cap, cur, hv, hg, r⟩
  exact ⟨g, cap, cur, hv, Nat.le_trans hb hg, r⟩
theorem Own.below {base : Nat} {w w' : World} {v : Value} {ts : List Int} (h : Own base w v ts) (hb : Below w.heap.size w w') : Own base w' v ts := h.keep fun k _ hk => hb.block k hk
theorem own_nil (base : Nat) (w : World) : Own base w (.slice none 0 0) [] := World.ownsRow_nil _ _ _ _
theorem Own.lt {base : Nat} {w : World} {v : Value} {ts : List Int} (h : Own base w v ts) : ∀ k, v.ownBlock = some k → base ≤ k ∧ k < w.heap.size := by
  obtain ⟨_, ⟨rfl, _⟩ | ⟨g, cap, cur, rfl, hg, hh, _⟩⟩ := h
  · intro k hk; cases hk
  · intro k hk
    cases hk
    exact ⟨hg, (Array.getElem?_eq_some_iff.1 hh).1⟩
theorem Own.form {base : Nat} {w : World} {v : Value} {ts : List Int} (h : Own base w v ts) : ∃ a c, v = .slice a ts.length c := Rd.form (Rd.of_owns h)

/-- append, of numbers, to a row of its own. -/
theorem wpList_append_ints {w : World} {ops : Array Oper} {rest : List Oper} {o : Oper} {a : Act} {Q : Exit → Act → World → Prop} (hw : Region.wanted o (yielded ops a.tmps) = true) (s x : Operand)
    (ho : o.op = .call { callee := .builtin .append, args := #[s, x], argTypes := #[34, 34] }) (base : Nat) (v : Value) (xs : List Int) (hs : a.eval s = v) (hown : Own base w v xs)
    (xv : Value) (ys : List Int) (hx : a.eval x = xv) (hr : IsInts w xv ys) (n : Nat) (hn : xs.length + ys.length = n) (hbytes : n * 8 ≤ 140737488355328) (hbase : base ≤ w.heap.size)
    (h : ∀ a' c' w', Own base w' (.slice a' n c') (xs ++ ys) → w.grownBy w' v.ownBlock → wpList Try.prog ops Q rest (a.put o.dst (.slice a' n c')) w') : wpList Try.prog ops Q (o :: rest) a w := by
  subst hn
  obtain ⟨i0, hi, hz0, hz1, hz2⟩ := info_parts Try.info3
  refine Go.BigFrame.wpList_want hw fun K hK => ?_
  obtain ⟨hl, ⟨rfl, h0⟩ | ⟨ad, c, rfl, hc⟩⟩ := hr.1
  · have e : ys = [] := List.eq_nil_of_length_eq_zero h0
    subst e
    have hrun := run_append_owned_none (P := Try.prog) (w := w) base 34 o.type 3 i0 1 Try.underlying34 hi v xs.length _ hown
    obtain ⟨a', c', rfl⟩ := Rd.form (Rd.of_owns hown)
    unfold Oper.wp
    simp [execOp, ho, resolve, invoke, builtin, hs, hx, hrun, Result.andThen]
    exact hK _ _ (h a' c' w (by rw [List.append_nil]; exact hown) (grownBy_refl w _))
  · refine wp_append_own w s x 34 ho base 3 i0 (.int .i64 0) 1 8 Try.underlying34 hi hz0 hz1 hz2 rfl (by decide) v xs.length _ hs hown ad ys.length c _ hx hl hc (ints_one ys) (by unfold maxLen; omega) hbytes hbase fun v' w' ho' hg _ => hK _ _ ?_
    rw [← List.map_append] at ho'
    have ho2 : Own base w' v' (xs ++ ys) := by rw [Own, List.length_append]; exact ho'
    obtain ⟨a', c', rfl⟩ := Rd.form (Rd.of_owns ho')
    exact h a' c' w' ho2 hg
/-- The same at a step of a region that draws its order. -/
theorem step_append_ints {w : World} {ops : Array Oper} {o : Oper} {a : Act} {K : Act → World → Prop} {Q : Exit → Act → World → Prop} {E : Prop} (hw : Region.wanted o (yielded ops a.tmps) = true) (s x : Operand)
    (ho : o.op = .call { callee := .builtin .append, args := #[s, x], argTypes := #[34, 34] }) (base : Nat) (v : Value) (xs : List Int) (hs : a.eval s = v) (hown : Own base w v xs)
    (xv : Value) (ys : List Int) (hx : a.eval x = xv) (hr : IsInts w xv ys) (n : Nat) (hn : xs.length + ys.length = n) (hbytes : n * 8 ≤ 140737488355328) (hbase : base ≤ w.heap.size)
    (h : ∀ a' c' w', Own base w' (.slice a' n c') (xs ++ ys) → w.grownBy w' v.ownBlock → K (a.put o.dst (.slice a' n c')) w') :
    if Region.wanted o (yielded ops a.tmps) = true then Oper.wp Try.prog o a w K Q else E := by
  subst hn
  rw [if_pos hw]
  obtain ⟨i0, hi, hz0, hz1, hz2⟩ := info_parts Try.info3
  obtain ⟨hl, ⟨rfl, h0⟩ | ⟨ad, c, rfl, hc⟩⟩ := hr.1
  · have e : ys = [] := List.eq_nil_of_length_eq_zero h0
    subst e
    have hrun := run_append_owned_none (P := Try.prog) (w := w) base 34 o.type 3 i0 1 Try.underlying34 hi v xs.length _ hown
    obtain ⟨a', c', rfl⟩ := Rd.form (Rd.of_owns hown)
    unfold Oper.wp
    simp [execOp, ho, resolve, invoke, builtin, hs, hx, hrun, Result.andThen]
    exact h a' c' w (by rw [List.append_nil]; exact hown) (grownBy_refl w _)
  · refine wp_append_own w s x 34 ho base 3 i0 (.int .i64 0) 1 8 Try.underlying34 hi hz0 hz1 hz2 rfl (by decide) v xs.length _ hs hown ad ys.length c _ hx hl hc (ints_one ys) (by unfold maxLen; omega) hbytes hbase fun v' w' ho' hg _ => ?_
    rw [← List.map_append] at ho'
    have ho2 : Own base w' v' (xs ++ ys) := by rw [Own, List.length_append]; exact ho'
    obtain ⟨a', c', rfl⟩ := Rd.form (Rd.of_owns ho')
    exact h a' c' w' ho2 hg

/-- A block of cells of another type than lines'. -/
def NoLine (o : Obj) : Prop := ∀ cur f, o ≠ .cells cur 55 f
/-- All blocks but those of lines are as they were. -/
structure Steady (w w' : World) : Prop where
  size : w.heap.size ≤ w'.heap.size
  block : ∀ (k : Nat) (o : Obj), w.heap[k]? = some o → NoLine o → w'.heap[k]? = some o
theorem Steady.refl (w : World) : Steady w w := ⟨Nat.le_refl _, fun _ _ h _ => h⟩
theorem Steady.trans {a b c : World} (h : Steady a b) (k : Steady b c) : Steady a c := ⟨Nat.le_trans h.size k.size, fun i o hi ho => k.block i o (h.block i o hi ho) ho⟩
theorem Steady.of_below {w w' : World} (h : Below w.heap.size w w') : Steady w w' := ⟨h.size, fun k _ hk _ => (h.block k (Array.getElem?_eq_some_iff.1 hk).1).trans hk⟩
theorem Steady.of_grown {base : Nat} {w w' : World} {v : Value} {rs : List Rl} (ho : OwnL base w v rs) (hg : w.grownBy w' v.ownBlock) : Steady w w' := by
  obtain ⟨_, _, _, hs, hb⟩ := hg
  refine ⟨hs, fun k o hk hn => ?_⟩
  obtain ⟨_, ⟨rfl, _⟩ | ⟨g, cap, cur, rfl, hge, hh, _⟩⟩ := ho
  · rw [hb k (Array.getElem?_eq_some_iff.1 hk).1 (by simp [Value.ownBlock])]; exact hk
  · by_cases e : k = g
    · subst e
      rw [hh] at hk
      cases hk
      exact absurd rfl (hn _ _)
    · rw [hb k (Array.getElem?_eq_some_iff.1 hk).1 (by simpa [Value.ownBlock] using e)]; exact hk
theorem Own.steady {base : Nat} {w w' : World} {v : Value} {ts : List Int} (h : Own base w v ts) (k : Steady w w') : Own base w' v ts := by
  refine ⟨h.1, h.2.imp id ?_⟩
  rintro ⟨g, cap, cur, hv, hg, hh, r⟩
  exact ⟨g, cap, cur, hv, hg, k.block g _ hh (fun c f h => by cases h), r⟩

/-- The lines as they lie read as the lines ls, each in a row of its own. -/
structure ReadsO (base : Nat) (w : World) (rs : List Rl) (ls : List Ln) : Prop where
  len : rs.length = ls.length
  at' : ∀ j, j < ls.length → (rAt rs j).1 = (lAt ls j).1 ∧ Own base w (rAt rs j).2 (lAt ls j).2
theorem ReadsO.reads {base : Nat} {w : World} {rs : List Rl} {ls : List Ln} (h : ReadsO base w rs ls) : Reads w rs ls := ⟨h.len, fun j hj => ⟨(h.at' j hj).1, (h.at' j hj).2.ints⟩⟩
theorem ReadsO.steady {base : Nat} {w w' : World} {rs : List Rl} {ls : List Ln} (h : ReadsO base w rs ls) (k : Steady w w') : ReadsO base w' rs ls := ⟨h.len, fun j hj => ⟨(h.at' j hj).1, (h.at' j hj).2.steady k⟩⟩
theorem ReadsO.nil (base : Nat) (w : World) : ReadsO base w [] [] := ⟨rfl, fun j hj => by simp at hj⟩
theorem ReadsO.append {base : Nat} {w : World} {a b : List Rl} {c d : List Ln} (h : ReadsO base w a c) (k : ReadsO base w b d) : ReadsO base w (a ++ b) (c ++ d) := by
  refine ⟨by rw [List.length_append, List.length_append, h.len, k.len], fun j hj => ?_⟩
  rw [rAt_append, lAt_append, h.len]
  rw [List.length_append] at hj
  by_cases e : j < c.length
  · rw [if_pos e, if_pos e]; exact h.at' j e
  · rw [if_neg e, if_neg e]; exact k.at' _ (by omega)
theorem ReadsO.one {base : Nat} {w : World} {x : Int} {v : Value} {zs : List Int} (h : Own base w v zs) : ReadsO base w [(x, v)] [(x, zs)] :=
  ⟨rfl, fun j hj => by
    have : j = 0 := by simp at hj; omega
    subst this
    exact ⟨rfl, h⟩⟩

theorem ReadsO.keep {base : Nat} {w w' : World} {rs : List Rl} {ls : List Ln} (h : ReadsO base w rs ls) (hk : ∀ k, base ≤ k → k < w.heap.size → w'.heap[k]? = w.heap[k]?) : ReadsO base w' rs ls := ⟨h.len, fun j hj => ⟨(h.at' j hj).1, (h.at' j hj).2.keep hk⟩⟩

/-- All tasks of lines. -/
def waitL : List Ln → List Int
  | [] => []
  | l :: r => l.2 ++ waitL r
theorem waitL_append : ∀ a b : List Ln, waitL (a ++ b) = waitL a ++ waitL b
  | [], _ => rfl
  | l :: r, b => by simp only [List.cons_append, waitL, waitL_append r b, List.append_assoc]
theorem waitL_take {ls : List Ln} {j : Nat} (h : j < ls.length) : waitL (ls.take (j + 1)) = waitL (ls.take j) ++ (lAt ls j).2 := by
  rw [take_next h, waitL_append]
  simp [waitL]
theorem waitL_take_le (ls : List Ln) (j : Nat) : (waitL (ls.take j)).length ≤ (waitL ls).length := by
  have := congrArg List.length (waitL_append (ls.take j) (ls.drop j))
  rw [List.take_append_drop, List.length_append] at this
  omega
theorem waitL_drop_le (ls : List Ln) (j : Nat) : (waitL (ls.drop j)).length ≤ (waitL ls).length := by
  have := congrArg List.length (waitL_append (ls.take j) (ls.drop j))
  rw [List.take_append_drop, List.length_append] at this
  omega
theorem waitL_at {ls : List Ln} {j : Nat} (h : j < ls.length) : (lAt ls j).2.length ≤ (waitL ls).length := by
  have h1 := waitL_take_le ls (j + 1)
  rw [waitL_take h, List.length_append] at h1
  omega

/-- What a slice of lines is opened into. -/
theorem IsLs.opens {w : World} {a : Option Addr} {n c : Nat} {ls : List Ln} (h : IsLs w (.slice a n c) ls) (hl : ls.length = n) : 0 < n → ∃ b off, a = some ⟨b, off, none⟩ ∧ b < w.heap.size ∧ LCells w b off ls := fun hn => by
  obtain ⟨b, off, c', hv, hb, hc⟩ := h.at (by omega)
  cases hv
  exact ⟨b, off, rfl, hb, hc⟩
theorem IsLs.len {w : World} {a : Option Addr} {n c : Nat} {ls : List Ln} (h : IsLs w (.slice a n c) ls) : ls.length = n := by
  obtain ⟨a', c', hv⟩ := h.form
  cases hv
  rfl
end Go.Proofs.Ytjlcfdhghohccaa
