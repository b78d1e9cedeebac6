/-
  ring.withLast.
-/
import Derived.Test.YtcdnennfimbgoabSa
namespace Go.Proofs.Ytcdnennfimbgoab
open Go.RowKit

theorem Kept.part {Rs : List Nat} {W0 W w2 : World} (h : Kept Rs W0 W) (hb : Below W0.heap.size W w2) : Kept Rs W0 w2 :=
  ⟨hb.os.trans h.os, hb.tape.trans h.tape, hb.output.trans h.output, Nat.le_trans h.size hb.size, fun k hk hr => (hb.block k hk).trans (h.block k hk hr),
   fun r hr => ⟨(h.there r hr).1, there_block (h.there r hr).2 (hb.block r (h.there r hr).1)⟩⟩

/-- append of whatever can be read, at a step of a region that draws its order. -/
theorem step_append_rd {w : World} {ops : Array Oper} {o : Oper} {a : Act} {K : Act → World → Prop} {Q : Exit → Act → World → Prop} {E : Prop} (hgd : o.guard = none) (s x : Operand)
    (ho : o.op = .call { callee := .builtin .append, args := #[s, x], argTypes := #[23, 23] }) (base : Nat) (v : Value) (xs : List Int) (hs : a.eval s = v) (hown : Own base w v xs)
    (xv : Value) (ys : List Int) (hx : a.eval x = xv) (hr : IsInts w xv ys) (n : Nat) (hn : xs.length + ys.length = n) (hbytes : n * 8 ≤ 140737488355328) (hbase : base ≤ w.heap.size)
    (h : ∀ a' c' w', Own base w' (.slice a' n c') (xs ++ ys) → w.grownBy w' v.ownBlock → K (a.put o.dst (.slice a' n c')) w') :
    if Region.wanted o (yielded ops a.tmps) = true then Oper.wp Try.prog o a w K Q else E := by
  subst hn
  have hw : Region.wanted o (yielded ops a.tmps) = true := by simp [Region.wanted, hgd]
  rw [if_pos hw]
  obtain ⟨i0, hi, hz0, hz1, hz2⟩ := info_parts Try.info3
  obtain ⟨hl, ⟨rfl, h0⟩ | ⟨ad, c, rfl, hc⟩⟩ := hr
  · have e : ys = [] := List.eq_nil_of_length_eq_zero h0
    subst e
    have hrun := run_append_owned_none (P := Try.prog) (w := w) base 23 o.type 3 i0 1 Try.underlying23 hi v xs.length (xs.map (Value.int .i64)) hown
    obtain ⟨a', c', rfl⟩ := Rd.form (Rd.of_owns hown)
    unfold Oper.wp
    simp [execOp, ho, resolve, invoke, builtin, hs, hx, hrun, Result.andThen]
    exact h a' c' w (by rw [List.append_nil]; exact hown) (grownBy_refl w _)
  · refine wp_append_own w s x 23 ho base 3 i0 (.int .i64 0) 1 8 Try.underlying23 hi hz0 hz1 hz2 rfl (by decide) v xs.length _ hs hown ad ys.length c _ hx hl hc (ints_one ys) (by unfold maxLen; omega) hbytes hbase fun v' w' ho' hg _ => ?_
    rw [← List.map_append] at ho'
    have ho2 : Own base w' v' (xs ++ ys) := by rw [Own, List.length_append]; exact ho'
    obtain ⟨a', c', rfl⟩ := Rd.form (Rd.of_owns ho')
    exact h a' c' w' ho2 hg

set_option maxRecDepth 100000 in
set_option maxHeartbeats 1000000 in
theorem withLast_any (w : World) (nx : Int) (v : Value) (zs : List Int) (h : IsInts w v zs) (vm : Value) (ms : List Int) (hms : IsInts w vm ms) (n : Nat) (hn : zs.length + ms.length = n) (hn8 : n * 8 ≤ 140737488355328) :
    Calls Try.prog 16 #[.agg #[.int .i64 nx, v], vm] w fun e w' => ∃ a' c', e = .returned (.agg #[.int .i64 nx, .slice a' n c']) ∧ Own w.heap.size w' (.slice a' n c') (zs ++ ms) ∧ Below w.heap.size w w' := by
  obtain ⟨a, c, rfl⟩ := Rd.form h
  obtain ⟨am, cm, rfl⟩ := Rd.form hms
  have HO : Hid (∀ W, Kept [w.heap.size + 1] (boxed w nx (.slice a zs.length c)) W → Calls Try.prog 17 #[.slice a zs.length c] W fun e w' => ∃ a' c', e = .returned (.slice a' zs.length c') ∧ Own W.heap.size w' (.slice a' zs.length c') zs ∧ Below W.heap.size W w') := fun W hW => fresh_list W _ zs (Rd.below h (boxed_below _ _ _ hW)) (by omega)
  have HSS : Hid (∀ W, Kept [w.heap.size + 1] (boxed w nx (.slice a zs.length c)) W → W.cell? ⟨w.heap.size, 0, none⟩ = some (.int .i64 nx) ∧ W.cell? ⟨w.heap.size, 1, none⟩ = some (.slice a zs.length c) ∧ (W.cell? ⟨w.heap.size + 1, 0, none⟩ = some (cellOf W (w.heap.size + 1) 0) ∧ W.frozen? ⟨w.heap.size + 1, 0, none⟩ = false ∧ W.cell? ⟨w.heap.size + 1, 1, none⟩ = some (cellOf W (w.heap.size + 1) 1) ∧ W.frozen? ⟨w.heap.size + 1, 1, none⟩ = false) ∧ Kept [w.heap.size + 1] (boxed w nx (.slice a zs.length c)) W) := fun W hW =>
    ⟨(boxed_args w nx _ hW).1, (boxed_args w nx _ hW).2, two_there (hW.there _ (by simp)).2, hW⟩
  have HK := hide (boxed_kept w nx (.slice a zs.length c))
  have HM : Hid (w.heap.size + 1 ∈ [w.heap.size + 1]) := by simp [Hid]
  have HMS : Hid (∀ W, Kept [w.heap.size + 1] (boxed w nx (.slice a zs.length c)) W → IsInts W (.slice am ms.length cm) ms) := fun W hW => Rd.below hms (boxed_below _ _ _ hW)
  have HZ : Hid ((boxed w nx (.slice a zs.length c)).heap.size = w.heap.size + 2) := by simp [Hid, boxed]
  clear h hms
  go_enter Try.func16, Try.ntmps16
  go_wp2_with fail
  go_region_held3 (fun W => W.cell? ⟨w.heap.size, 0, none⟩ = some (.int .i64 nx) ∧ W.cell? ⟨w.heap.size, 1, none⟩ = some (.slice a zs.length c) ∧ (W.cell? ⟨w.heap.size + 1, 0, none⟩ = some (cellOf W (w.heap.size + 1) 0) ∧ W.frozen? ⟨w.heap.size + 1, 0, none⟩ = false ∧ W.cell? ⟨w.heap.size + 1, 1, none⟩ = some (cellOf W (w.heap.size + 1) 1) ∧ W.frozen? ⟨w.heap.size + 1, 1, none⟩ = false) ∧ Kept [w.heap.size + 1] (boxed w nx (.slice a zs.length c)) W)
    (first | with_reducible exact unhide HSS _ (unhide HK).drew | exact unhide HSS _ (unhide HK).drew | with_reducible exact unhide HSS _ (unhide HK1) | with_reducible exact unhide HSS _ (unhide HK2) | with_reducible exact unhide HSS _ ((unhide HK2).set2 (unhide HM) _ _))
    (first
      | (go_at_call 17; refine (unhide HO _ (by go_split_ands; assumption)).mono ?_; rintro e w1 ⟨a', c', rfl, hl, hb1⟩; have HK1 : Hid (Kept [w.heap.size + 1] (boxed w nx (.slice a zs.length c)) w1) := Kept.call (by go_split_ands; assumption) hb1; have HL : Hid (Own (w.heap.size + 2) w1 (.slice a' zs.length c') zs) := hl.base (boxed_size (by go_split_ands; assumption)); clear hl hb1)
      | (refine step_append_rd rfl (.tmp 9) (.tmp 10) rfl (w.heap.size + 2) (.slice a' zs.length c') zs rfl (unhide HL) _ ms rfl (unhide HMS _ (unhide HK1)) n hn hn8 (boxed_size (unhide HK1)) ?_; intro a2 c2 w2 ho2 hg2; have HO2 := hide ho2; have HK2 : Hid (Kept [w.heap.size + 1] (boxed w nx (.slice a zs.length c)) w2) := (unhide HK1).part ((Below.refl _ _).grown hg2 (unhide HK1).size (fun k hk => by rw [unhide HZ]; exact ((unhide HL).lt k hk).1)); clear ho2 hg2))
  go_wp2_with fail
  refine bodyPost_ret (v := .agg #[.int .i64 nx, .slice a2 n c2]) ?_ rfl ⟨a2, c2, rfl, ((unhide HO2).set2 (Nat.lt_succ_self _) _ _).base (by omega), boxed_below w nx _ ((unhide HK2).set2 (unhide HM) _ _)⟩
  obtain ⟨_, _, ⟨q0, q1, q2, q3⟩, _⟩ := unhide HSS _ (unhide HK2)
  simp [results, Try.results16, go_sem, q0, q2]
end Go.Proofs.Ytcdnennfimbgoab
