/-
  taskmilllaw.RingRefills where the global queue is empty and the number of processors is wrong.
-/
import Derived.Test.YtcdnennfimbgoaaVc
namespace Go.Proofs.Ytcdnennfimbgoaa
open Go.RowKit

theorem firstFrom_each {W : Nat → Int} : ∀ {f i : Nat}, (firstFrom W f i).1 = 0 → ∀ j, i ≤ j → j < i + f → W j = 0
  | 0, _, _, j, h1, h2 => by omega
  | f + 1, i, h, j, h1, h2 => by
    rw [firstFrom] at h
    split at h
    · rename_i h3
      by_cases e : j = i
      · subst e; exact h3
      · exact firstFrom_each h j (by omega) (by omega)
    · rename_i h3; exact absurd h h3

theorem globalF_nil (nx : Int) (zs : List Int) : globalF nx zs [] = (0, 0) := rfl

/-- append of whatever can be read, at a step of a region that draws its order, behind a guard that says yes. -/
theorem step_append_want {w : World} {ops : Array Oper} {o : Oper} {a : Act} {K : Act → World → Prop} {Q : Exit → Act → World → Prop} {E : Prop} (hw : Region.wanted o (yielded ops a.tmps) = true) (s x : Operand)
    (ho : o.op = .call { callee := .builtin .append, args := #[s, x], argTypes := #[22, 22] }) (base : Nat) (v : Value) (xs : List Int) (hs : a.eval s = v) (hown : Own base w v xs)
    (xv : Value) (ys : List Int) (hx : a.eval x = xv) (hr : IsInts w xv ys) (n : Nat) (hn : xs.length + ys.length = n) (hbytes : n * 8 ≤ 140737488355328) (hbase : base ≤ w.heap.size)
    (h : ∀ a' c' w', Own base w' (.slice a' n c') (xs ++ ys) → w.grownBy w' v.ownBlock → K (a.put o.dst (.slice a' n c')) w') :
    if Region.wanted o (yielded ops a.tmps) = true then Oper.wp Try.prog o a w K Q else E := by
  subst hn
  rw [if_pos hw]
  obtain ⟨i0, hi, hz0, hz1, hz2⟩ := info_parts Try.info3
  obtain ⟨hl, ⟨rfl, h0⟩ | ⟨ad, c, rfl, hc⟩⟩ := hr
  · have e : ys = [] := List.eq_nil_of_length_eq_zero h0
    subst e
    have hrun := run_append_owned_none (P := Try.prog) (w := w) base 22 o.type 3 i0 1 Try.underlying22 hi v xs.length (xs.map (Value.int .i64)) hown
    obtain ⟨a', c', rfl⟩ := Rd.form (Rd.of_owns hown)
    unfold Oper.wp
    simp [execOp, ho, resolve, invoke, builtin, hs, hx, hrun, Result.andThen]
    exact h a' c' w (by rw [List.append_nil]; exact hown) (grownBy_refl w _)
  · refine wp_append_own w s x 22 ho base 3 i0 (.int .i64 0) 1 8 Try.underlying22 hi hz0 hz1 hz2 rfl (by decide) v xs.length _ hs hown ad ys.length c _ hx hl hc (ints_one ys) (by unfold maxLen; omega) hbytes hbase fun v' w' ho' hg _ => ?_
    rw [← List.map_append] at ho'
    have ho2 : Own base w' v' (xs ++ ys) := by rw [Own, List.length_append]; exact ho'
    obtain ⟨a', c', rfl⟩ := Rd.form (Rd.of_owns ho')
    exact h a' c' w' ho2 hg

set_option maxRecDepth 100000 in
set_option maxHeartbeats 2000000 in
theorem refills_none (w : World) (nx : Int) (a : Option Addr) (c : Nat) (zs : List Int) (p : Int) (ag : Option Addr) (cg : Nat) (h : IsInts w (.slice a zs.length c) zs) (hv : Fits (.slice a zs.length c)) (hn : zs.length ≤ 2000) (hg : IsInts w (.slice ag 0 cg) []) (hr : ringF nx zs = (0, 0)) (hpp : p < 1 ∨ 64 < p) :
    Calls Try.prog 5 #[.agg #[.int .i64 nx, .slice a zs.length c], .slice ag 0 cg, .int .i64 p] w fun e w' => e = .returned (.bool true) ∧ Below w.heap.size w w' := by
  have hx : (3 : Int) ≠ 0 := by decide
  have hf : refillF nx zs [] p = (3, -1) := by
    unfold refillF
    rw [hr, if_neg (by simp), globalF_nil, if_neg (by simp), if_pos hpp]
  have hnot : ∀ (x : Bool) (w : World), (Op.unary .not (.bool x)).run Try.prog w = .ok (.bool (!x)) w := fun _ _ => rfl
  have h1 : ¬ (2000 : Int) < (zs.length : Int) := by omega
  have HOR : Hid (∀ W, Below (w.heap.size + 1) (w.alloc (.cells #[.int .i64 nx, .slice a zs.length c] 24)) W → Calls Try.prog 10 #[.agg #[.int .i64 nx, .slice a zs.length c]] W fun e w' => ∃ a' c', e = .returned (.agg #[.int .i64 nx, .slice a' zs.length c']) ∧ Own W.heap.size w' (.slice a' zs.length c') zs ∧ Below W.heap.size W w') := fun W hW => ownRing_any W nx _ zs (Rd.below h (below1 hW)) (by omega)
  have HOW : Hid (∀ W, Below w.heap.size w W → Calls Try.prog 23 #[.slice ag 0 cg] W fun e w' => ∃ a' c', e = .returned (.slice a' 0 c') ∧ Own W.heap.size w' (.slice a' 0 c') [] ∧ Below W.heap.size W w') := fun W hW => by
    have := own_list W _ [] (IsInts.below hg hW) (by simp)
    exact this
  have HRE : Hid (∀ W v' vg', IsInts W v' zs → IsInts W vg' [] → Calls Try.prog 22 #[.agg #[.int .i64 nx, v'], vg', .int .i64 p] W fun e w' => e = .returned (.tuple #[.agg #[.int .i64 0, .slice none 0 0], .slice none 0 0, .agg #[.int .i64 3, .int .i64 (-1)]]) ∧ Below W.heap.size W w') := fun W v' vg' hW hW' => refill_fault W nx v' zs p hW (by unfold maxLen; omega) vg' [] hW' (by simp [maxLen]) 3 (-1) hf hx
  have HRF : Hid (∀ W, Below w.heap.size w W → Calls Try.prog 13 #[.agg #[.int .i64 nx, .slice a zs.length c]] W fun e w' => e = .returned (.agg #[.int .i64 0, .int .i64 0]) ∧ Below W.heap.size W w') := fun W hW => by
    have := rfault_any W nx _ zs (Rd.below h hW) hv (by unfold maxLen; omega)
    rw [hr] at this
    exact this
  clear h hv hg hf hx hr
  go_enter Try.func5, Try.ntmps5
  go_upto_region 7 with (first
    | (go_at_call 9; refine (begun_any _).mono ?_; rintro e w1 ⟨rfl, hb1⟩; have hx1 := hb1.mono (show w.heap.size + 1 ≤ _ by simp); obtain ⟨x0, x1, s1⟩ := arg1 hx1; have HX1 := hide hx1; clear hb1 hx1)
    | (go_at_call 10; refine (unhide HOR _ (unhide HX1)).mono ?_; rintro e w2 ⟨a2, c2, rfl, ho2, hb2⟩; have HO2 := hide ho2; have HX2 := hide (next1 (unhide HX1) hb2); clear ho2 hb2 x0 x1 s1)
    | (go_at_call 23; refine (unhide HOW _ (below1 (unhide HX2))).mono ?_; rintro e w3 ⟨a3, c3, rfl, ho3, hb3⟩; have HO3 := hide ho3; have HI2 := hide (IsInts.below (unhide HO2).list.1 hb3); have HX3 := hide (next1 (unhide HX2) hb3); clear ho3 hb3)
    | (go_at_call 22; refine (unhide HRE _ _ _ (unhide HI2) (unhide HO3).list.1).mono ?_; rintro e w4 ⟨rfl, hb4⟩; have hx4 := next1 (unhide HX3) hb4; obtain ⟨x0, x1, s1⟩ := arg1 hx4; have HX4 := hide hx4; clear hb4 hx4)
    | (go_at_call 13; refine (unhide HRF _ ((below1 (unhide HX4)).trans ((below_new2 w4 _ _).mono (below1 (unhide HX4)).size))).mono ?_; rintro e w5 ⟨rfl, hb5⟩; have HB5 := hide hb5; clear hb5 x0 x1 s1))
  have VW6 := hide (ref_vars (x := 0) (y := 0) (unhide HX4) (unhide HB5))
  obtain ⟨W6, eW6⟩ : ∃ W, w5.alloc (.cells #[.int .i64 0, .int .i64 0] 28) = W := ⟨_, rfl⟩
  rw [eW6] at VW6 ⊢
  clear eW6
  obtain ⟨⟨q30, q31⟩, ⟨q70, q71⟩, ⟨q90, q91⟩, ⟨q100, q101⟩, z0, z1⟩ := (unhide VW6).cells
  go_wp2_with fail
  clear q30 q31 q70 q71 q90 q91 q100 q101 z0 z1
  go_loopw [11] (fun i wr11 => i = .int .i64 0 ∧ wr11 = W6) (fun i _ => 0)
  case atStart => exact ⟨rfl, rfl⟩
  case round =>
    obtain ⟨rfl, rfl⟩ := hrel
    obtain ⟨⟨q30, q31⟩, ⟨q70, q71⟩, ⟨q90, q91⟩, ⟨q100, q101⟩, z0, z1⟩ := (unhide VW6).cells
    go_wp2_with fail
    clear q30 q31 q70 q71 q90 q91 q100 q101 z0 z1
    go_loopw [12] (fun i wr12 => i = .int .i64 0 ∧ wr12 = wr) (fun i _ => 0)
    case atStart => exact ⟨rfl, rfl⟩
    case round =>
      obtain ⟨rfl, rfl⟩ := hrel
      obtain ⟨⟨q30, q31⟩, ⟨q70, q71⟩, ⟨q90, q91⟩, ⟨q100, q101⟩, z0, z1⟩ := (unhide VW6).cells
      by_cases hp1 : p < 1
      · clear hpp
        go_upto_region 21 with (go_at_call 15; refine (f_any _ _ _).mono ?_; rintro e w9 ⟨rfl, hb9⟩; have V9 := hide ((unhide VW6).keep hb9); clear hb9 q30 q31 q70 q71 q90 q91 q100 q101 z0 z1; obtain ⟨⟨q30, q31⟩, ⟨q70, q71⟩, ⟨q90, q91⟩, ⟨q100, q101⟩, z0, z1⟩ := (unhide V9).cells)
        clear q30 q31 q70 q71 q90 q91 q100 q101 z0 z1
        have VW9 := hide ((unhide V9).set 3 (-1))
        obtain ⟨W9, eW9⟩ : ∃ W, (w9.setCell ⟨w5.heap.size, 0, none⟩ (.int .i64 3)).setCell ⟨w5.heap.size, 1, none⟩ (.int .i64 (-1)) = W := ⟨_, rfl⟩
        rw [eW9] at VW9 ⊢
        clear eW9
        obtain ⟨⟨q30, q31⟩, ⟨q70, q71⟩, ⟨q90, q91⟩, ⟨q100, q101⟩, z0, z1⟩ := (unhide VW9).cells
        go_wp2_with (go_at_call 18; refine (noRing_none _ _ _).mono ?_; rintro e w10 ⟨rfl, hb10⟩; have HE := hide ((unhide VW9).keep hb10).all; clear hb10)
        go_ret
        exact ⟨rfl, unhide HE⟩
      · have hp2 : 64 < p := by omega
        clear hpp
        go_upto_region 21 with (go_at_call 15; refine (f_any _ _ _).mono ?_; rintro e w9 ⟨rfl, hb9⟩; have V9 := hide ((unhide VW6).keep hb9); clear hb9 q30 q31 q70 q71 q90 q91 q100 q101 z0 z1; obtain ⟨⟨q30, q31⟩, ⟨q70, q71⟩, ⟨q90, q91⟩, ⟨q100, q101⟩, z0, z1⟩ := (unhide V9).cells)
        clear q30 q31 q70 q71 q90 q91 q100 q101 z0 z1
        have VW9 := hide ((unhide V9).set 3 (-1))
        obtain ⟨W9, eW9⟩ : ∃ W, (w9.setCell ⟨w5.heap.size, 0, none⟩ (.int .i64 3)).setCell ⟨w5.heap.size, 1, none⟩ (.int .i64 (-1)) = W := ⟨_, rfl⟩
        rw [eW9] at VW9 ⊢
        clear eW9
        obtain ⟨⟨q30, q31⟩, ⟨q70, q71⟩, ⟨q90, q91⟩, ⟨q100, q101⟩, z0, z1⟩ := (unhide VW9).cells
        go_wp2_with (go_at_call 18; refine (noRing_none _ _ _).mono ?_; rintro e w10 ⟨rfl, hb10⟩; have HE := hide ((unhide VW9).keep hb10).all; clear hb10)
        go_ret
        exact ⟨rfl, unhide HE⟩
end Go.Proofs.Ytcdnennfimbgoaa
