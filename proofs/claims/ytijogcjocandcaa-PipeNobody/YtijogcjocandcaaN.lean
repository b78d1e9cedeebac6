/-
  pipe.woken, pipe.send.
-/
import Derived.Test.YtijogcjocandcaaM
namespace Go.Proofs.Ytijogcjocandcaa
open Go.RowKit

theorem set2_5 {w : World} {R : Nat} {x0 x1 x2 x3 x4 y : Value} {t : TypeId} (h : w.heap[R]? = some (.cells #[x0, x1, x2, x3, x4] t (0, 0))) : (w.setCell ⟨R, 0, none⟩ y).heap[R]? = some (.cells #[y, x1, x2, x3, x4] t (0, 0)) := set_block5 h

set_option maxRecDepth 100000 in
set_option maxHeartbeats 1000000 in
theorem woken_any (w : World) (t c u a b v : Int) (o p : Bool) :
    Calls Try.prog 51 #[.agg #[.int .i64 t, .int .i64 c, .int .i64 u], .agg #[.int .i64 a, .int .i64 b, .int .i64 v, .bool o, .bool p]] w fun e w' => e = .returned (.agg #[.int .i64 t, .int .i64 c, .int .i64 v, .bool o, .bool p]) ∧ Below w.heap.size w w' := by
  obtain ⟨W0, eW, hB, k0, k1, k2⟩ : ∃ W, ((w.alloc (.cells #[.int .i64 t, .int .i64 c, .int .i64 u] 39)).alloc (.cells #[.int .i64 a, .int .i64 b, .int .i64 v, .bool o, .bool p] 64)).alloc (.cells #[.int .i64 0, .int .i64 0, .int .i64 0, .bool false, .bool false] 64) = W ∧ Below w.heap.size w W ∧ W.heap[w.heap.size]? = some (.cells #[.int .i64 t, .int .i64 c, .int .i64 u] 39) ∧ W.heap[w.heap.size + 1]? = some (.cells #[.int .i64 a, .int .i64 b, .int .i64 v, .bool o, .bool p] 64) ∧ W.heap[w.heap.size + 1 + 1]? = some (.cells #[.int .i64 0, .int .i64 0, .int .i64 0, .bool false, .bool false] 64) := by
    refine ⟨_, rfl, ((((Below.refl w.heap.size w).alloc (Nat.le_refl _) _).alloc (by simp) _).alloc (by simp; omega) _), keep_alloc (keep_alloc (new_block w _) _) _, ?_, ?_⟩
    · have := new_block (w.alloc (.cells #[.int .i64 t, .int .i64 c, .int .i64 u] 39)) (.cells #[.int .i64 a, .int .i64 b, .int .i64 v, .bool o, .bool p] 64)
      rw [World.size_alloc] at this
      exact keep_alloc this _
    · have := new_block ((w.alloc (.cells #[.int .i64 t, .int .i64 c, .int .i64 u] 39)).alloc (.cells #[.int .i64 a, .int .i64 b, .int .i64 v, .bool o, .bool p] 64)) (.cells #[.int .i64 0, .int .i64 0, .int .i64 0, .bool false, .bool false] 64)
      rw [World.size_alloc, World.size_alloc] at this
      exact this
  have HB := hide hB; have HE := hide eW; have HK1 := hide k1; have HK2 := hide k2
  obtain ⟨⟨p0, p1, p2⟩, -, pl⟩ := block3 k0
  obtain ⟨⟨q0, q1, q2, q3, q4⟩, ⟨g0, g1, g2, g3, g4⟩, ql⟩ := block5 k1
  clear hB eW k0 k1 k2
  go_enter Try.func51, Try.ntmps51
  go_upto_region 1 with fail
  rw [unhide HE]
  clear HE
  go_wp2_with fail
  go_region
  have HB1 := hide (below_set (i := 1) (below_set (i := 0) (unhide HB) (Nat.le_succ _) (.int .i64 t)) (Nat.le_succ _) (.int .i64 c)).drew
  have HK1b := hide (keep_below (set_block5 (i := 1) (y := .int .i64 c) (set2_5 (y := .int .i64 t) (unhide HK1))) (Below.refl _ _).drew)
  have HK2b := hide (keep_below (keep_set (o := 1) (v := .int .i64 c) (keep_set (o := 0) (v := .int .i64 t) (unhide HK2) (Nat.succ_ne_self _)) (Nat.succ_ne_self _)) (Below.refl _ _).drew)
  clear p0 p1 p2 pl q0 q1 q2 q3 q4 g0 g1 g2 g3 g4 ql HK1 HK2 HB
  obtain ⟨W1, e1⟩ : ∃ W, ((W0.setCell ⟨w.heap.size + 1, 0, none⟩ (.int .i64 t)).setCell ⟨w.heap.size + 1, 1, none⟩ (.int .i64 c)).drew = W := ⟨_, rfl⟩
  rw [e1] at HB1 HK1b HK2b ⊢
  clear e1
  simp only [List.setIfInBounds_toArray, List.set_cons_zero, List.set_cons_succ] at HK1b
  obtain ⟨⟨q0, q1, q2, q3, q4⟩, -, ql⟩ := block5 (unhide HK1b)
  obtain ⟨⟨r0, r1, r2, r3, r4⟩, ⟨f0, f1, f2, f3, f4⟩, rl⟩ := block5 (unhide HK2b)
  go_wp2_with fail
  exact bodyPost_ret (v := .agg #[.int .i64 t, .int .i64 c, .int .i64 v, .bool o, .bool p]) (by simp [results, Try.results51, go_sem, r0, r1, r2, r3, r4]) rfl ⟨rfl, set5_below (unhide HB1) (by omega) _ _ _ _ _⟩
end Go.Proofs.Ytijogcjocandcaa
