/-
  slices.Grow of nothing; slices.Concat of two lists.
-/
import Derived.Test.YtjlcfdhghohccaaG
import Derived.Lib.AppendZeros
import Derived.LoopN
namespace Go.Proofs.Ytjlcfdhghohccaa
open Go.RowKit

theorem own_grown (w : World) (n cap : Nat) (_hn : n ≤ cap) (hm : cap ≤ maxLen) (Z : Array Value) (hZ : Z.size = cap) : Own w.heap.size (w.drew.alloc (.cells Z 3)) (.slice (some ⟨w.heap.size, 0, none⟩) 0 cap) [] := by
  refine ⟨rfl, Or.inr ⟨w.heap.size, cap, Z, rfl, Nat.le_refl _, ?_, Nat.zero_le _, hm, by rw [hZ]; omega, by simp⟩⟩
  exact (MapKept.heap_alloc w.drew (.cells Z 3)).1

set_option maxRecDepth 100000 in
set_option maxHeartbeats 1000000 in
theorem grow_zero (w : World) : Calls Try.prog 47 #[.slice none 0 0, .int .i64 0] w fun e w' => e = .returned (.slice none 0 0) ∧ w' = w := by
  go_enter Try.func47, Try.ntmps47
  go_wp2
  go_ret
  exact ⟨rfl, rfl⟩

set_option maxRecDepth 100000 in
set_option maxHeartbeats 1000000 in
theorem grow_some (w : World) (n : Nat) (h0 : 0 < n) (hn : n ≤ 1000000) : Calls Try.prog 47 #[.slice none 0 0, .int .i64 n] w fun e w' => ∃ a c, e = .returned (.slice a 0 c) ∧ Own w.heap.size w' (.slice a 0 c) [] ∧ Below w.heap.size w w' := by
  obtain ⟨i0, hi, hz0, hz1, hz2⟩ := info_parts Try.info3
  have happ := Lib.run_append_nil_zeros (P := Try.prog) w 34 3 34 3 i0 (.int .i64 0) .i64 .i64 Try.underlying34 Try.underlying3 hi hz0 n h0 (by rw [hz1]; decide) (by omega) (by rw [hz2]; omega)
  generalize hcap : grownCap w n 0 3 = cap2 at happ
  have hcapge : n ≤ cap2 := by rw [← hcap]; exact grownCap_ge w _ 0 3
  have hcaple : cap2 ≤ maxLen := by rw [← hcap]; exact grownCap_le_maxLen w _ 0 3 (by unfold maxLen; omega)
  generalize hZ : (Builtin.zeroCells (Value.int .i64 0).cells n ++ Builtin.zeroCells (Value.int .i64 0).cells (cap2 - n)) = Z at happ
  have hZs : Z.size = cap2 := by rw [← hZ]; simp [size_zeroCells, Value.cells]; omega
  have HO := hide (own_grown w n cap2 hcapge hcaple Z hZs)
  have HB := hide ((Below.refl w.heap.size w).drew.alloc (Nat.le_refl _) (.cells Z 3))
  have h1 : (0 : Int) < (n : Int) := by omega
  have h2 : ¬ (n : Int) < 0 := by omega
  clear hcap hZ hZs hi hz0 hz1 hz2 hcapge hcaple
  go_enter Try.func47, Try.ntmps47
  go_wp2_with (at_builtin; refine Lib.wpList_append_run _ rfl (.tmp 20) (.tmp 21) 34 3 rfl _ _ rfl rfl _ _ happ ?_)
  go_ret
  exact ⟨_, _, rfl, unhide HO, unhide HB⟩

theorem grow_any (w : World) (n : Nat) (hn : n ≤ 1000000) : Calls Try.prog 47 #[.slice none 0 0, .int .i64 n] w fun e w' => ∃ a c, e = .returned (.slice a 0 c) ∧ Own w.heap.size w' (.slice a 0 c) [] ∧ Below w.heap.size w w' := by
  by_cases h : 0 < n
  · exact grow_some w n h hn
  · have e : n = 0 := by omega
    subst e
    refine (grow_zero w).mono ?_
    rintro e w' ⟨rfl, rfl⟩
    exact ⟨none, 0, rfl, own_nil _ _, Below.refl _ _⟩

set_option maxRecDepth 100000 in
set_option maxHeartbeats 2000000 in
theorem concat_any (w : World) (T : Nat) (a0 a1 : Option Addr) (n0 n1 c0 c1 : Nat) (xs ys : List Int) (h0 : IsInts w (.slice a0 n0 c0) xs) (h1 : IsInts w (.slice a1 n1 c1) ys) (hT : w.heap[T]? = some (.cells #[.slice a0 n0 c0, .slice a1 n1 c1] 34 (0, 0))) (hn0 : n0 ≤ 100000) (hn1 : n1 ≤ 100000) :
    Calls Try.prog 34 #[.slice (some ⟨T, 0, none⟩) 2 2] w fun e w' => ∃ a' c', e = .returned (.slice a' (n0 + n1) c') ∧ Own w.heap.size w' (.slice a' (n0 + n1) c') (xs ++ ys) ∧ Below w.heap.size w w' := by
  have l0 : xs.length = n0 := by obtain ⟨a, c, e⟩ := h0.form; cases e; rfl
  have l1 : ys.length = n1 := by obtain ⟨a, c, e⟩ := h1.form; cases e; rfl
  have HG : Hid (∀ W, Calls Try.prog 47 #[.slice none 0 0, .int .i64 ((n0 : Int) + (n1 : Int))] W fun e w' => ∃ a c, e = .returned (.slice a 0 c) ∧ Own W.heap.size w' (.slice a 0 c) [] ∧ Below W.heap.size W w') := fun W => grow_any W (n0 + n1) (by omega)
  have HT := hide hT; have H0 := hide h0; have H1 := hide h1; have HL0 := hide l0; have HL1 := hide l1
  obtain ⟨t0, t1, _, _, _⟩ := block2 hT
  have g1 : ¬ ((n0 : Int) < 0) := by omega
  have g2 : ¬ ((n0 : Int) + (n1 : Int) < 0) := by omega
  have q1 : IntKind.i64.wrap ((n0 : Int) + (n1 : Int)) = (n0 : Int) + (n1 : Int) := by simp [IntKind.wrap, IntKind.bits, IntKind.signed]; omega
  clear hT h0 h1 l0 l1
  go_enter Try.func34, Try.ntmps34
  go_wp2
  refine wp_loop_rounds 3 ?_
  rw [rounds_succ]
  go_wp2
  rw [rounds_succ]
  go_wp2
  rw [rounds_succ]
  go_wp2_with (go_at_call 47; refine (unhide HG _).mono ?_; rintro e w1 ⟨a2, c2, rfl, ho2, hb2⟩; have HO2 := hide ho2; have HB2 := hide hb2; clear ho2 hb2 t0 t1; obtain ⟨t0, t1, _, _, _⟩ := block2 (keep_below (unhide HT) (unhide HB2)))
  refine wp_loop_rounds 3 ?_
  rw [rounds_succ]
  go_wp2_with (at_builtin; refine wpList_append_ints rfl (.tmp 31) (.tmp 32) rfl w.heap.size (.slice a2 0 c2) [] rfl (unhide HO2) _ xs rfl ((unhide H0).below (unhide HB2)) n0 (by rw [unhide HL0]; simp) (by omega) (unhide HB2).size ?_; intro a3 c3 w3 ho3 hg3; have HO3 := hide ho3; have HB3 := hide ((unhide HB2).grown hg3 (unhide HB2).size (fun k hk => ((unhide HO2).lt k hk).1)); clear ho3 hg3 t0 t1; obtain ⟨t0, t1, _, _, _⟩ := block2 (keep_below (unhide HT) (unhide HB3)))
  rw [rounds_succ]
  go_wp2_with (at_builtin; refine wpList_append_ints rfl (.tmp 31) (.tmp 32) rfl w.heap.size (.slice a3 n0 c3) xs rfl (unhide HO3) _ ys rfl ((unhide H1).below (unhide HB3)) (n0 + n1) (by rw [unhide HL0, unhide HL1]) (by omega) (unhide HB3).size ?_; intro a4 c4 w4 ho4 hg4; have HO4 := hide ho4; have HB4 := hide ((unhide HB3).grown hg4 (unhide HB3).size (fun k hk => ((unhide HO3).lt k hk).1)); clear ho4 hg4 t0 t1; obtain ⟨t0, t1, _, _, _⟩ := block2 (keep_below (unhide HT) (unhide HB4)))
  rw [rounds_succ]
  go_wp2
  go_ret
  exact ⟨a4, c4, rfl, unhide HO4, unhide HB4⟩
end Go.Proofs.Ytjlcfdhghohccaa
