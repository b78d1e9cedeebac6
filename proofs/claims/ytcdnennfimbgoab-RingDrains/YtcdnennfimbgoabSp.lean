/-
  taskmillref.SameRing and taskmillref.Queued; ring.putLast where a list spills.
-/
import Derived.Test.YtcdnennfimbgoabN
namespace Go.Proofs.Ytcdnennfimbgoab
open Go.RowKit

theorem own_nil_append {base : Nat} {w : World} {a : Option Addr} {c : Nat} {zs : List Int} (h : Own base w (.slice a (([] : List Int).length + zs.length) c) ([] ++ zs)) : Own base w (.slice a zs.length c) zs := by
  rw [List.length_nil, Nat.zero_add] at h
  exact h

theorem two_args {w W : World} {x y x' y' : Value} (h : Below (w.heap.size + 2) ((w.alloc (.cells #[x, y] 25)).alloc (.cells #[x', y'] 25)) W) :
    (W.cell? ⟨w.heap.size, 0, none⟩ = some x ∧ W.cell? ⟨w.heap.size, 1, none⟩ = some y) ∧ W.cell? ⟨w.heap.size + 1, 0, none⟩ = some x' ∧ W.cell? ⟨w.heap.size + 1, 1, none⟩ = some y' := by
  refine ⟨arg_there h, ?_⟩
  have hh := (MapKept.heap_alloc (w.alloc (.cells #[x, y] 25)) (.cells #[x', y'] 25)).1
  rw [World.size_alloc] at hh
  constructor
  · rw [h.cell (p := ⟨w.heap.size + 1, 0, none⟩) (by simp)]; simp only [World.cell?, hh]; rfl
  · rw [h.cell (p := ⟨w.heap.size + 1, 1, none⟩) (by simp)]; simp only [World.cell?, hh]; rfl

/-- append, at a step of a region that draws its order. -/
theorem step_append_ints {w : World} {ops : Array Oper} {o : Oper} {a : Act} {K : Act → World → Prop} {Q : Exit → Act → World → Prop} {E : Prop} (hgd : o.guard = none) (s x : Operand)
    (ho : o.op = .call { callee := .builtin .append, args := #[s, x], argTypes := #[23, 23] }) (base : Nat) (v : Value) (xs : List Int) (hs : a.eval s = v) (hown : Own base w v xs)
    (ad : Addr) (m c : Nat) (ys : List Int) (hx : a.eval x = .slice (some ad) m c) (hm : ys.length = m) (hr : IsInts w (.slice (some ad) m c) ys) (hbytes : (xs.length + ys.length) * 8 ≤ 140737488355328) (hbase : base ≤ w.heap.size)
    (h : ∀ a' c' w', Own base w' (.slice a' (xs.length + ys.length) c') (xs ++ ys) → w.grownBy w' v.ownBlock → K (a.put o.dst (.slice a' (xs.length + ys.length) c')) w') :
    if Region.wanted o (yielded ops a.tmps) = true then Oper.wp Try.prog o a w K Q else E := by
  have hw : Region.wanted o (yielded ops a.tmps) = true := by simp [Region.wanted, hgd]
  rw [if_pos hw]
  subst hm
  obtain ⟨i0, hi, hz0, hz1, hz2⟩ := info_parts Try.info3
  obtain ⟨hl, ⟨h1, _⟩ | ⟨ad', cap', h1, hc⟩⟩ := hr
  · cases h1
  · cases h1
    refine wp_append_own w s x 23 ho base 3 i0 (.int .i64 0) 1 8 Try.underlying23 hi hz0 hz1 hz2 rfl (by decide) v xs.length _ hs hown ad ys.length c _ hx hl hc (ints_one ys) (by unfold maxLen; omega) hbytes hbase fun v' w' ho' hg _ => ?_
    rw [← List.map_append] at ho'
    have ho2 : Own base w' v' (xs ++ ys) := by rw [Own, List.length_append]; exact ho'
    obtain ⟨a', c', rfl⟩ := Rd.form (Rd.of_owns ho')
    exact h a' c' w' ho2 hg
end Go.Proofs.Ytcdnennfimbgoab
