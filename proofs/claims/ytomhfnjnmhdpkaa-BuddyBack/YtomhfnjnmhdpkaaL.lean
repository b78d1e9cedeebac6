/-
  copy of alarms, in a row that is known whole; slices.Insert of one alarm; buddy.with.
-/
import Derived.Test.YtomhfnjnmhdpkaaDb
import Derived.Lib.Overlaps
import Derived.Lib.AppendZerosOnto
import Derived.Laws.CopyRow
import Derived.Laws.NewBlocks
namespace Go.Proofs.Ytomhfnjnmhdpkaa
open Go.RowKit

/-- copy, of elements of so many cells, into a row that is known whole. -/
theorem run_copy_rowk (w : World) (dT sT ty elem : TypeId) (k g o dLen dCap : Nat) (a : Addr) (sLen sCap : Nat) (cur : Array Value) (t : TypeId) (cs : List Value) (q : Nat)
    (hu : Try.prog.underlying dT = some (.slice elem)) (hs : (Try.prog.info? elem).map (·.size) = some k)
    (hg : w.heap[g]? = some (.cells cur t (0, 0))) (hq : Nat.min sLen dLen = q) (hn : cs.length = q * k)
    (hsrc : ∀ j v, cs[j]? = some v → w.cell? (a.add j) = some v) (hfit : o + cs.length ≤ cur.size) (h1 : ∀ v ∈ cs, v.oneCell' = true) :
    (Builtin.copy_ #[dT, sT] ty #[.slice (some ⟨g, o, none⟩) dLen dCap, .slice (some a) sLen sCap]).run Try.prog w =
      .ok (goInt q) (w.setRow g (cur.toList.take o ++ cs ++ cur.toList.drop (o + cs.length)).toArray) := by
  have hl := run_loadCells_list (P := Try.prog) w a cs hsrc
  have hst := run_storeCells_at Try.prog g o t cs 0 cur w hg (by simpa using hfit) h1
  cases hi : Try.prog.info? elem with
  | none => simp [hi] at hs
  | some i =>
    have hk : i.size = k := by simpa [hi] using hs
    simp [Builtin.copy_, run_underlying hu, Builtin.lenOf, Builtin.firstCells, sizeOf, typeInfo, hi, hk, hq, ← hn, hl, hst]

theorem wp_copy_run {w : World} {o : Oper} {a : Act} {K : Act → World → Prop} {Q : Exit → Act → World → Prop} (d s : Operand) (t t' : TypeId)
    (ho : o.op = .call { callee := .builtin .copy, args := #[d, s], argTypes := #[t, t'] }) (v u : Value) (hd : a.eval d = v) (hs : a.eval s = u) {v' : Value} {w' : World}
    (hr : (Builtin.copy_ #[t, t'] o.type #[v, u]).run Try.prog w = .ok v' w') (h : K (a.put o.dst v') w') : o.wp Try.prog a w K Q := by
  unfold Oper.wp
  simp [execOp, ho, resolve, invoke, builtin, hd, hs, hr, Result.andThen]
  exact h
theorem wpList_copy_run {w : World} {ops : Array Oper} {rest : List Oper} {o : Oper} {a : Act} {Q : Exit → Act → World → Prop} (hgd : o.guard = none) (d s : Operand) (t t' : TypeId)
    (ho : o.op = .call { callee := .builtin .copy, args := #[d, s], argTypes := #[t, t'] }) (v u : Value) (hd : a.eval d = v) (hs : a.eval s = u) {v' : Value} {w' : World}
    (hr : (Builtin.copy_ #[t, t'] o.type #[v, u]).run Try.prog w = .ok v' w') (h : wpList Try.prog ops Q rest (a.put o.dst v') w') : wpList Try.prog ops Q (o :: rest) a w :=
  wpList_plain hgd fun _ hK => wp_copy_run d s t t' ho v u hd hs hr (hK _ _ h)
theorem step_copy_run {ops : Array Oper} {o : Oper} {a : Act} {w : World} {K : Act → World → Prop} {Q : Exit → Act → World → Prop} {E : Prop}
    (hg : o.guard = none) (d x : Operand) (t t' : TypeId) (hop : o.op = Op.call { callee := Callee.builtin Builtin.copy, args := #[d, x], argTypes := #[t, t'] })
    (v u : Value) (hd : a.eval d = v) (hx : a.eval x = u) {v' : Value} {w' : World} (hr : (Builtin.copy_ #[t, t'] o.type #[v, u]).run Try.prog w = .ok v' w') (hK : K (a.put o.dst v') w') :
    if Region.wanted o (yielded ops a.tmps) = true then Oper.wp Try.prog o a w K Q else E := by
  have hw : Region.wanted o (yielded ops a.tmps) = true := by simp [Region.wanted, hg]
  rw [if_pos hw]
  exact wp_copy_run d x t t' hop v u hd hx hr hK

theorem grown_setRow (a : World) (g : Nat) (cs : Array Value) : a.grownBy (a.setRow g cs) (some g) :=
  ⟨rfl, rfl, rfl, by simp [World.setRow], fun k _ hk => setRow_other a g k cs (by intro e; exact hk (by rw [e]))⟩
theorem size2 : (Try.prog.info? 38).map (·.size) = some 2 := by
  obtain ⟨i0, hi, h0, h1, h2⟩ := info_parts Try.info38
  rw [hi]; simp [h1]
theorem flat_drop (xs : List Bl) (i : Nat) : (xs.drop i).flatMap KB.f = (xs.flatMap KB.f).drop (i * 2) := by
  have h := flat_take kb xs i
  have h2 : xs.flatMap KB.f = (xs.take i).flatMap KB.f ++ (xs.drop i).flatMap KB.f := by rw [← List.flatMap_append, List.take_append_drop]
  by_cases hi : i ≤ xs.length
  · have hl : ((xs.take i).flatMap KB.f).length = i * 2 := by rw [flat_length kb, List.length_take]; show min i xs.length * 2 = i * 2; rw [Nat.min_eq_left hi]
    rw [h2, ← hl, List.drop_left]
  · rw [List.drop_eq_nil_of_le (by omega), List.drop_eq_nil_of_le (by rw [flat_length kb]; show xs.length * 2 ≤ i * 2; omega)]
    rfl
theorem flat_len (xs : List Bl) : (xs.flatMap KB.f).length = xs.length * 2 := flat_length kb xs

/-- An alarm put at a place of a list. -/
def putAt (xs : List Bl) (i : Nat) (x : Bl) : List Bl := xs.take i ++ x :: xs.drop i
theorem putAt_len {xs : List Bl} {i : Nat} (h : i ≤ xs.length) (x : Bl) : (putAt xs i x).length = xs.length + 1 := by
  unfold putAt
  rw [List.length_append, List.length_cons, List.length_take, List.length_drop]; omega

theorem take_past {P Q : List Value} {m k : Nat} (h : P.length = m) : (P ++ Q).take (m + k) = P ++ Q.take k := by
  subst h
  rw [List.take_append, List.take_of_length_le (by omega), Nat.add_sub_cancel_left]
/-- What the row holds behind the two copies of an Insert where there is room. -/
theorem two_copies {L : List Value} {xs : List Bl} {i n : Nat} (x : Bl) (hn : xs.length = n) (hi : i < n) (hL : (n + 1) * 2 ≤ L.length) (hx : L.take (n * 2) = xs.flatMap KB.f) (A B : List Value)
    (hA : A = L.take ((i + 1) * 2) ++ (xs.drop i).flatMap KB.f ++ L.drop ((i + 1) * 2 + ((xs.drop i).flatMap KB.f).length)) (hB : B = A.take (i * 2) ++ KB.f x ++ A.drop (i * 2 + (KB.f x).length)) :
    A.length = L.length ∧ B.length = L.length ∧ B.take ((n + 1) * 2) = (putAt xs i x).flatMap KB.f := by
  have hd : ((xs.drop i).flatMap KB.f).length = (n - i) * 2 := by rw [flat_len, List.length_drop, hn]
  have hf : (KB.f x).length = 2 := kb.len x
  have lA : A.length = L.length := by
    rw [hA, List.length_append, List.length_append, hd, List.length_take, List.length_drop]; omega
  have lB : B.length = L.length := by
    rw [hB, List.length_append, List.length_append, hf, List.length_take, List.length_drop, lA]; omega
  refine ⟨lA, lB, ?_⟩
  have e1 : A.take (i * 2) = (xs.take i).flatMap KB.f := by
    rw [hA, List.append_assoc, List.take_append_of_le_length (by rw [List.length_take]; omega), List.take_take, Nat.min_eq_left (by omega), flat_take kb]
    show _ = (xs.flatMap KB.f).take (i * 2)
    rw [← hx, List.take_take, Nat.min_eq_left (by omega)]
  have e2 : (A.drop (i * 2 + 2)).take ((n - i) * 2) = (xs.drop i).flatMap KB.f := by
    have : i * 2 + 2 = (L.take ((i + 1) * 2)).length := by rw [List.length_take]; omega
    rw [hA, List.append_assoc, this, List.drop_left, ← hd, List.take_left]
  rw [hB, hf, e1]
  unfold putAt
  rw [List.flatMap_append, List.flatMap_cons, ← e2, List.append_assoc]
  have l1 : ((xs.take i).flatMap KB.f).length = i * 2 := by rw [flat_len, List.length_take]; omega
  rw [show (n + 1) * 2 = i * 2 + (2 + (n - i) * 2) by omega, take_past l1, take_past hf]

end Go.Proofs.Ytomhfnjnmhdpkaa
