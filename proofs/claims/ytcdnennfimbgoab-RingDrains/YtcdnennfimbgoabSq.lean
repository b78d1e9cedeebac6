/-
  ring.putLast and taskmillref.Queued where a list spills.
-/
import Derived.Test.YtcdnennfimbgoabSp
namespace Go.Proofs.Ytcdnennfimbgoab
open Go.RowKit

theorem below_ad (w : World) (o : Obj) : Below w.heap.size w (w.alloc o).drew := ((Below.refl _ _).alloc (Nat.le_refl _) o).drew
theorem IsInts.below {w w' : World} {v : Value} {zs : List Int} (h : IsInts w v zs) (hb : Below w.heap.size w w') : IsInts w' v zs := Rd.below h hb
theorem ints_new_drew (w : World) (x : Int) : IsInts (w.alloc (.cells #[.int .i64 x] 3)).drew (.slice (some ⟨w.heap.size, 0, none⟩) 1 1) [x] := IsInts.below (ints_new w x 3) (Below.refl _ _).drew

theorem step_append_n {w : World} {ops : Array Oper} {o : Oper} {a : Act} {K : Act → World → Prop} {Q : Exit → Act → World → Prop} {E : Prop} (hgd : o.guard = none) (s x : Operand)
    (ho : o.op = .call { callee := .builtin .append, args := #[s, x], argTypes := #[23, 23] }) (base : Nat) (v : Value) (xs : List Int) (hs : a.eval s = v) (hown : Own base w v xs)
    (ad : Addr) (m c : Nat) (ys : List Int) (hx : a.eval x = .slice (some ad) m c) (hm : ys.length = m) (hr : IsInts w (.slice (some ad) m c) ys) (n : Nat) (hn : xs.length + ys.length = n) (hbytes : n * 8 ≤ 140737488355328) (hbase : base ≤ w.heap.size)
    (h : ∀ a' c' w', Own base w' (.slice a' n c') (xs ++ ys) → w.grownBy w' v.ownBlock → K (a.put o.dst (.slice a' n c')) w') :
    if Region.wanted o (yielded ops a.tmps) = true then Oper.wp Try.prog o a w K Q else E := by
  subst hn
  exact step_append_ints hgd s x ho base v xs hs hown ad m c ys hx hm hr hbytes hbase h

end Go.Proofs.Ytcdnennfimbgoab
