/-
  taskmilllaw.vastProgram.
-/
import Derived.Test.YtgeinjldjpaleaaDoorL
namespace Go.Proofs.YtgeinjldjpaleaaDoor
open Go.RowKit

set_option maxRecDepth 100000 in
set_option maxHeartbeats 2000000 in
theorem vast0 (w : World) (a b : Option Addr) (n m c d : Nat) (x y z : Int) (_hn : n ≤ maxLen) (_hm : m ≤ maxLen) (h1 : 2000 < n) :
    Calls Tryd.prog 8 #[.agg #[.slice a n c, .int .i64 x, .slice b m d, .int .i64 y, .int .i64 z]] w fun e w' => e = .returned (.bool true) ∧ Below w.heap.size w w' := by
  have j1 : (2000 : Int) < (n : Int) := by omega
  obtain ⟨W0, e0, hB, k0⟩ := one_new w (.cells #[.slice a n c, .int .i64 x, .slice b m d, .int .i64 y, .int .i64 z] 25)
  have HX := hide hB; have HE := hide e0; have HK := hide k0
  clear hB e0 k0
  go_enter Tryd.func8, Tryd.ntmps8
  go_upto_region 1 with fail
  rw [unhide HE]
  clear HE
  obtain ⟨⟨q0, q1, q2, q3, q4⟩, ql⟩ := block5 (unhide HK)
  go_wp2_with fail
  go_ret
  exact ⟨rfl, unhide HX⟩
set_option maxRecDepth 100000 in
set_option maxHeartbeats 2000000 in
theorem vast1 (w : World) (a b : Option Addr) (n m c d : Nat) (x y z : Int) (_hn : n ≤ maxLen) (_hm : m ≤ maxLen) (h1 : ¬ 2000 < n) (h2 : 2000 < m) :
    Calls Tryd.prog 8 #[.agg #[.slice a n c, .int .i64 x, .slice b m d, .int .i64 y, .int .i64 z]] w fun e w' => e = .returned (.bool true) ∧ Below w.heap.size w w' := by
  have j1 : ¬ (2000 : Int) < (n : Int) := by omega
  have j2 : (2000 : Int) < (m : Int) := by omega
  obtain ⟨W0, e0, hB, k0⟩ := one_new w (.cells #[.slice a n c, .int .i64 x, .slice b m d, .int .i64 y, .int .i64 z] 25)
  have HX := hide hB; have HE := hide e0; have HK := hide k0
  clear hB e0 k0
  go_enter Tryd.func8, Tryd.ntmps8
  go_upto_region 1 with fail
  rw [unhide HE]
  clear HE
  obtain ⟨⟨q0, q1, q2, q3, q4⟩, ql⟩ := block5 (unhide HK)
  go_wp2_with fail
  go_ret
  exact ⟨rfl, unhide HX⟩
set_option maxRecDepth 100000 in
set_option maxHeartbeats 2000000 in
theorem vast2 (w : World) (a b : Option Addr) (n m c d : Nat) (x y z : Int) (_hn : n ≤ maxLen) (_hm : m ≤ maxLen) (h1 : ¬ 2000 < n) (h2 : ¬ 2000 < m) :
    Calls Tryd.prog 8 #[.agg #[.slice a n c, .int .i64 x, .slice b m d, .int .i64 y, .int .i64 z]] w fun e w' => e = .returned (.bool false) ∧ Below w.heap.size w w' := by
  have j1 : ¬ (2000 : Int) < (n : Int) := by omega
  have j2 : ¬ (2000 : Int) < (m : Int) := by omega
  obtain ⟨W0, e0, hB, k0⟩ := one_new w (.cells #[.slice a n c, .int .i64 x, .slice b m d, .int .i64 y, .int .i64 z] 25)
  have HX := hide hB; have HE := hide e0; have HK := hide k0
  clear hB e0 k0
  go_enter Tryd.func8, Tryd.ntmps8
  go_upto_region 1 with fail
  rw [unhide HE]
  clear HE
  obtain ⟨⟨q0, q1, q2, q3, q4⟩, ql⟩ := block5 (unhide HK)
  go_wp2_with fail
  go_ret
  exact ⟨rfl, unhide HX⟩
theorem vast_any (w : World) (v : Value) (p : Pg) (h : IsP w v p) (hn : p.code.length ≤ maxLen) (hm : p.pipes.length ≤ maxLen) :
    Calls Tryd.prog 8 #[v] w fun e w' => e = .returned (.bool (decide (2000 < p.code.length ∨ 2000 < p.pipes.length))) ∧ Below w.heap.size w w' := by
  obtain ⟨a, c, b, d, rfl, -, -⟩ := h.form
  by_cases h1 : 2000 < p.code.length
  · rw [decide_eq_true (Or.inl h1)]; exact vast0 w a b _ _ c d _ _ _ hn hm h1
  by_cases h2 : 2000 < p.pipes.length
  · rw [decide_eq_true (Or.inr h2)]; exact vast1 w a b _ _ c d _ _ _ hn hm h1 h2
  · rw [decide_eq_false (by omega)]; exact vast2 w a b _ _ c d _ _ _ hn hm h1 h2

end Go.Proofs.YtgeinjldjpaleaaDoor
