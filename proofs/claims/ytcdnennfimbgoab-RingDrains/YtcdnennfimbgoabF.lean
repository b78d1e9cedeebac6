/-
  append, of numbers; taskmillref.Line.
-/
import Derived.Test.YtcdnennfimbgoabE
import Derived.Maps.AppendAt
namespace Go.Proofs.Ytcdnennfimbgoab
open Go.RowKit

theorem grownBy_refl (w : World) (row : Option Nat) : w.grownBy w row := ⟨rfl, rfl, rfl, Nat.le_refl _, fun _ _ _ => rfl⟩

/-- append to a row of its own, of what a slice reads as. -/
theorem wpList_append_rd {P : Program} {w : World} {ops : Array Oper} {rest : List Oper} {o : Oper} {a : Act} {Q : Exit → Act → World → Prop} (hgd : o.guard = none) (s x : Operand) (t : TypeId)
    (ho : o.op = .call { callee := .builtin .append, args := #[s, x], argTypes := #[t, t] })
    (base : Nat) (e : TypeId) (i : TypeInfo) (z : Value) (size bytes : Nat) (ht : P.underlying t = some (.slice e)) (hi : P.info? e = some i) (hz : i.zero = some z)
    (hsize : i.size = size) (hby : i.bytes = bytes) (hzs : z.cells.size = size) (hsz : 0 < size)
    (v : Value) (n : Nat) (xs : List Value) (hs : a.eval s = v) (hown : w.ownsRow base e size v n xs)
    (xv : Value) (m : Nat) (news : List Value) (hx : a.eval x = xv) (hr : Rd w size xv m news) (h1 : ∀ u ∈ news, u.oneCell' = true)
    (h63 : n + m ≤ maxLen) (hbytes : (n + m) * bytes ≤ 140737488355328) (hbase : base ≤ w.heap.size)
    (h : ∀ v' w', w'.ownsRow base e size v' (n + m) (xs ++ news) → w.grownBy w' v.ownBlock → wpList P ops Q rest (a.put o.dst v') w') : wpList P ops Q (o :: rest) a w := by
  obtain ⟨hl, ⟨rfl, rfl⟩ | ⟨ad, c, rfl, hc⟩⟩ := hr
  · obtain rfl : news = [] := by simpa using hl
    exact wpList_append_own_none hgd s x t ho base e i size ht hi v n xs hs hown hx (h v w (by simpa using hown) (grownBy_refl w _))
  · exact wpList_append_own w hgd s x t ho base e i z size bytes ht hi hz hsize hby hzs hsz v n xs hs hown ad m c news hx hl hc h1 h63 hbytes hbase (fun v' w' a1 a2 _ => h v' w' a1 a2)

/-- The same behind a guard that says yes. -/
theorem wpList_append_rd_want {P : Program} {w : World} {ops : Array Oper} {rest : List Oper} {o : Oper} {a : Act} {Q : Exit → Act → World → Prop} (hw : Region.wanted o (yielded ops a.tmps) = true) (s x : Operand) (t : TypeId)
    (ho : o.op = .call { callee := .builtin .append, args := #[s, x], argTypes := #[t, t] })
    (base : Nat) (e : TypeId) (i : TypeInfo) (z : Value) (size bytes : Nat) (ht : P.underlying t = some (.slice e)) (hi : P.info? e = some i) (hz : i.zero = some z)
    (hsize : i.size = size) (hby : i.bytes = bytes) (hzs : z.cells.size = size) (hsz : 0 < size)
    (v : Value) (n : Nat) (xs : List Value) (hs : a.eval s = v) (hown : w.ownsRow base e size v n xs)
    (xv : Value) (m : Nat) (news : List Value) (hx : a.eval x = xv) (hr : Rd w size xv m news) (h1 : ∀ u ∈ news, u.oneCell' = true)
    (h63 : n + m ≤ maxLen) (hbytes : (n + m) * bytes ≤ 140737488355328) (hbase : base ≤ w.heap.size)
    (h : ∀ v' w', w'.ownsRow base e size v' (n + m) (xs ++ news) → w.grownBy w' v.ownBlock → wpList P ops Q rest (a.put o.dst v') w') : wpList P ops Q (o :: rest) a w := by
  refine Go.BigFrame.wpList_want hw fun K hK => ?_
  obtain ⟨hl, ⟨rfl, rfl⟩ | ⟨ad, c, rfl, hc⟩⟩ := hr
  · obtain rfl : news = [] := by simpa using hl
    have hrun := run_append_owned_none (P := P) (w := w) base t o.type e i size ht hi v n xs hown
    unfold Oper.wp
    simp [execOp, ho, resolve, invoke, builtin, hs, hx, hrun, Result.andThen]
    exact hK _ _ (h v w (by simpa using hown) (grownBy_refl w _))
  · exact wp_append_own w s x t ho base e i z size bytes ht hi hz hsize hby hzs hsz v n xs hs hown ad m c news hx hl hc h1 h63 hbytes hbase fun v' w' h2 h3 _ => hK _ _ (h v' w' h2 h3)



theorem wpList_append_ints {w : World} {ops : Array Oper} {rest : List Oper} {o : Oper} {a : Act} {Q : Exit → Act → World → Prop} (hw : Region.wanted o (yielded ops a.tmps) = true) (s x : Operand)
    (ho : o.op = .call { callee := .builtin .append, args := #[s, x], argTypes := #[23, 23] }) (base : Nat) (v : Value) (xs : List Int) (hs : a.eval s = v) (hown : Own base w v xs)
    (xv : Value) (ys : List Int) (hx : a.eval x = xv) (hr : IsInts w xv ys) (hbytes : (xs.length + ys.length) * 8 ≤ 140737488355328) (hbase : base ≤ w.heap.size)
    (h : ∀ a' c' w', Own base w' (.slice a' (xs.length + ys.length) c') (xs ++ ys) → w.grownBy w' v.ownBlock → wpList Try.prog ops Q rest (a.put o.dst (.slice a' (xs.length + ys.length) c')) w') : wpList Try.prog ops Q (o :: rest) a w := by
  obtain ⟨i0, hi, hz0, hz1, hz2⟩ := info_parts Try.info3
  refine wpList_append_rd_want hw s x 23 ho base 3 i0 (.int .i64 0) 1 8 Try.underlying23 hi hz0 hz1 hz2 rfl (by decide) v xs.length _ hs hown xv ys.length _ hx hr (ints_one ys) (by unfold maxLen; omega) hbytes hbase ?_
  intro v' w' ho' hg
  rw [← List.map_append] at ho'
  have ho2 : Own base w' v' (xs ++ ys) := by rw [Own, List.length_append]; exact ho'
  obtain ⟨a', c', rfl⟩ := Rd.form (Rd.of_owns ho')
  exact h a' c' w' ho2 hg

theorem own_nil (base : Nat) (w : World) : Own base w (.slice none 0 0) [] := World.ownsRow_nil _ _ _ _
theorem ints_new (w : World) (x : Int) (t : TypeId) : IsInts (w.alloc (.cells #[.int .i64 x] t)) (.slice (some ⟨w.heap.size, 0, none⟩) 1 1) [x] :=
  ⟨rfl, Or.inr ⟨_, _, rfl, cell_one_new w (.int .i64 x) t⟩⟩

theorem ints_new1 (w : World) (o : Obj) (x : Int) (t : TypeId) : IsInts ((w.alloc o).alloc (.cells #[.int .i64 x] t)) (.slice (some ⟨w.heap.size + 1, 0, none⟩) 1 1) [x] := by
  have := ints_new (w.alloc o) x t
  rw [World.size_alloc] at this
  exact this
theorem below_new2 (w : World) (o o' : Obj) : Below w.heap.size w ((w.alloc o).alloc o') := ((Below.refl _ _).alloc (Nat.le_refl _) _).alloc (by simp) _

/-- All tasks of a ring, in their order. -/
def lineL (nx : Int) (zs : List Int) : List Int := if 0 < nx then nx :: zs else zs

set_option maxRecDepth 100000 in
set_option maxHeartbeats 400000 in
theorem line_any (w : World) (nx : Int) (v : Value) (zs : List Int) (h : IsInts w v zs) (hn : (zs.length + 1) * 8 ≤ 140737488355328) :
    Calls Try.prog 10 #[.agg #[.int .i64 nx, v]] w fun e w' => ∃ a' c', e = .returned (.slice a' (lineL nx zs).length c') ∧ Own w.heap.size w' (.slice a' (lineL nx zs).length c') (lineL nx zs) ∧ Below w.heap.size w w' := by
  obtain ⟨a, c, rfl⟩ := Rd.form h
  have HV := hide h
  clear h
  by_cases hx : 0 < nx
  · have e : lineL nx zs = [nx] ++ zs := by unfold lineL; rw [if_pos hx]; rfl
    rw [e]
    go_enter Try.func10, Try.ntmps10
    go_wp2_with (first
      | (at_builtin; refine wpList_append_ints rfl (.tmp 7) (.tmp 10) rfl w.heap.size _ [] rfl (own_nil _ _) _ [nx] rfl (ints_new1 w _ nx _) (by simp) (below_new2 w _ _).size ?_; intro a1 c1 w1 ho1 hg1; have HO1 := hide ho1; have hb1 := (Below.refl (w.heap.size + 2) _).grown hg1 (by simp) (fun k hk => by cases hk); obtain ⟨x0, x1⟩ := arg_there hb1; have HG1 := hide (below_two hb1); clear ho1 hg1 hb1)
      | (at_builtin; refine wpList_append_ints rfl (.tmp 12) (.tmp 14) rfl w.heap.size _ [nx] rfl (unhide HO1) _ zs rfl (Rd.below (unhide HV) (unhide HG1)) (by simp; omega) (unhide HG1).size ?_; intro a2 c2 w2 ho2 hg2; have HO2 := hide ho2; have HG2 := hide ((unhide HG1).grown hg2 (unhide HG1).size (fun k hk => ((unhide HO1).lt k hk).1)); clear ho2 hg2))
    go_ret
    refine ⟨a2, c2, by simp [Nat.add_comm], ?_, unhide HG2⟩
    have := unhide HO2
    simpa [Nat.add_comm] using this
  · have e : lineL nx zs = [] ++ zs := by unfold lineL; rw [if_neg hx]; rfl
    rw [e]
    go_enter Try.func10, Try.ntmps10
    go_wp2_with (at_builtin; refine wpList_append_ints rfl (.tmp 12) (.tmp 14) rfl w.heap.size _ [] rfl (own_nil _ _) _ zs rfl (Rd.below (unhide HV) ((Below.refl _ _).alloc (Nat.le_refl _) _)) (by simp; omega) (by simp) ?_; intro a2 c2 w2 ho2 hg2; have HO2 := hide ho2; have HG2 := hide (((Below.refl w.heap.size w).alloc (Nat.le_refl _) _).grown hg2 (by simp) (fun k hk => by cases hk)); clear ho2 hg2)
    go_ret
    exact ⟨a2, c2, rfl, by have := unhide HO2; simpa using this, unhide HG2⟩
end Go.Proofs.Ytcdnennfimbgoab
