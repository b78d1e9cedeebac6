/-
  taskmillref.SameRing and taskmillref.Queued; ring.putLast where a list spills.
-/
import Derived.Test.YtcdnennfimbgoaaO
namespace Go.Proofs.Ytcdnennfimbgoaa
open Go.RowKit

theorem own_nil_append {base : Nat} {w : World} {a : Option Addr} {c : Nat} {zs : List Int} (h : Own base w (.slice a (([] : List Int).length + zs.length) c) ([] ++ zs)) : Own base w (.slice a zs.length c) zs := by
  rw [List.length_nil, Nat.zero_add] at h
  exact h

theorem two_args {w W : World} {x y x' y' : Value} (h : Below (w.heap.size + 2) ((w.alloc (.cells #[x, y] 24)).alloc (.cells #[x', y'] 24)) W) :
    (W.cell? ⟨w.heap.size, 0, none⟩ = some x ∧ W.cell? ⟨w.heap.size, 1, none⟩ = some y) ∧ W.cell? ⟨w.heap.size + 1, 0, none⟩ = some x' ∧ W.cell? ⟨w.heap.size + 1, 1, none⟩ = some y' := by
  refine ⟨arg_there h, ?_⟩
  have hh := (MapKept.heap_alloc (w.alloc (.cells #[x, y] 24)) (.cells #[x', y'] 24)).1
  rw [World.size_alloc] at hh
  constructor
  · rw [h.cell (p := ⟨w.heap.size + 1, 0, none⟩) (by simp)]; simp only [World.cell?, hh]; rfl
  · rw [h.cell (p := ⟨w.heap.size + 1, 1, none⟩) (by simp)]; simp only [World.cell?, hh]; rfl

set_option maxRecDepth 100000 in
set_option maxHeartbeats 400000 in
theorem sameRing_any (w : World) (nx : Int) (v v' : Value) (zs : List Int) (h : IsInts w v zs) (h' : IsInts w v' zs) (hn : zs.length ≤ maxLen) :
    Calls Try.prog 14 #[.agg #[.int .i64 nx, v], .agg #[.int .i64 nx, v']] w fun e w' => e = .returned (.bool true) ∧ Below w.heap.size w w' := by
  obtain ⟨a, c, rfl⟩ := Rd.form h
  obtain ⟨a', c', rfl⟩ := Rd.form h'
  have HI := hide (ints_same _ _ _ zs (Rd.below h (below_new2 w (.cells #[.int .i64 nx, .slice a zs.length c] 24) (.cells #[.int .i64 nx, .slice a' zs.length c'] 24))) (Rd.below h' (below_new2 w _ _)) hn)
  have e1 : (nx == nx) = true := by simp
  clear h h'
  go_enter Try.func14, Try.ntmps14
  go_wp2_with (go_at_call 20; refine (unhide HI).mono ?_; rintro e w1 ⟨rfl, hb1⟩; have HB := hide ((below_new2 w _ _).trans (hb1.mono (below_new2 w _ _).size)); clear hb1)
  go_ret
  exact ⟨rfl, unhide HB⟩

set_option maxRecDepth 100000 in
set_option maxHeartbeats 400000 in
theorem queued_room (w : World) (v : Value) (zs : List Int) (t : Int) (h : IsInts w v zs) (hr : zs.length < 256) :
    Calls Try.prog 19 #[v, .int .i64 t] w fun e w' => ∃ a1 c1 a2 c2, e = .returned (.tuple #[.slice a1 (zs.length + 1) c1, .slice a2 0 c2]) ∧ Own w.heap.size w' (.slice a1 (zs.length + 1) c1) (zs ++ [t]) ∧ Own w.heap.size w' (.slice a2 0 c2) [] ∧ Below w.heap.size w w' := by
  obtain ⟨a, c, rfl⟩ := Rd.form h
  have HV := hide h
  have h1 : (zs.length : Int) < 256 := by omega
  clear h
  go_enter Try.func19, Try.ntmps19
  go_wp2_with (first
    | (at_builtin; refine wpList_append_ints rfl (.const (.slice none 0 0)) (.tmp 9) rfl w.heap.size _ [] rfl (own_nil _ _) _ zs rfl (unhide HV) (by simp; omega) (Nat.le_refl _) ?_; intro a1 c1 w1 ho1 hg1; have ho1' := own_nil_append ho1; have HO1 := hide ho1'; clear ho1'; have HB1 := hide ((Below.refl w.heap.size w).grown hg1 (Nat.le_refl _) (fun k hk => by cases hk)); clear ho1 hg1)
    | (at_builtin; refine wpList_append_ints rfl (.tmp 10) (.tmp 12) rfl w.heap.size _ zs rfl (Own.below (unhide HO1) ((Below.refl _ _).alloc (Nat.le_refl _) _)) _ [t] rfl (ints_new _ t _) (by simp; omega) (Nat.le_trans (unhide HB1).size (by simp)) ?_; intro a2 c2 w2 ho2 hg2; have HO2 := hide ho2; have HB2 := hide (((unhide HB1).alloc (unhide HB1).size _).grown hg2 (Nat.le_trans (unhide HB1).size (by simp)) (fun k hk => ((unhide HO1).lt k hk).1)); clear ho2 hg2))
  refine bodyPost_ret (v := .tuple #[.slice a2 (zs.length + 1) c2, .slice none 0 0]) (by simp [results, Try.results19, go_sem]) rfl ⟨a2, c2, none, 0, rfl, unhide HO2, own_nil _ _, unhide HB2⟩

/-- append, at a step of a region that draws its order. -/
theorem step_append_ints {w : World} {ops : Array Oper} {o : Oper} {a : Act} {K : Act → World → Prop} {Q : Exit → Act → World → Prop} {E : Prop} (hgd : o.guard = none) (s x : Operand)
    (ho : o.op = .call { callee := .builtin .append, args := #[s, x], argTypes := #[22, 22] }) (base : Nat) (v : Value) (xs : List Int) (hs : a.eval s = v) (hown : Own base w v xs)
    (ad : Addr) (m c : Nat) (ys : List Int) (hx : a.eval x = .slice (some ad) m c) (hm : ys.length = m) (hr : IsInts w (.slice (some ad) m c) ys) (hbytes : (xs.length + ys.length) * 8 ≤ 140737488355328) (hbase : base ≤ w.heap.size)
    (h : ∀ a' c' w', Own base w' (.slice a' (xs.length + ys.length) c') (xs ++ ys) → w.grownBy w' v.ownBlock → K (a.put o.dst (.slice a' (xs.length + ys.length) c')) w') :
    if Region.wanted o (yielded ops a.tmps) = true then Oper.wp Try.prog o a w K Q else E := by
  have hw : Region.wanted o (yielded ops a.tmps) = true := by simp [Region.wanted, hgd]
  rw [if_pos hw]
  subst hm
  obtain ⟨i0, hi, hz0, hz1, hz2⟩ := info_parts Try.info3
  obtain ⟨hl, ⟨h1, _⟩ | ⟨ad', cap', h1, hc⟩⟩ := hr
  · cases h1
  · cases h1
    refine wp_append_own w s x 22 ho base 3 i0 (.int .i64 0) 1 8 Try.underlying22 hi hz0 hz1 hz2 rfl (by decide) v xs.length _ hs hown ad ys.length c _ hx hl hc (ints_one ys) (by unfold maxLen; omega) hbytes hbase fun v' w' ho' hg _ => ?_
    rw [← List.map_append] at ho'
    have ho2 : Own base w' v' (xs ++ ys) := by rw [Own, List.length_append]; exact ho'
    obtain ⟨a', c', rfl⟩ := Rd.form (Rd.of_owns ho')
    exact h a' c' w' ho2 hg
end Go.Proofs.Ytcdnennfimbgoaa
