/-
  The table of arguments; taskmillref.ArgOk.
-/
import Derived.Test.YtgeinjldjpaleaaDoorI
namespace Go.Proofs.YtgeinjldjpaleaaDoor
open Go.RowKit

/-- The letters of kinds, and what stands in the table of arguments. -/
def klL : List UInt8 := [45, 114, 110, 99, 109, 112, 108, 103, 107]
def klI (k : Int) : Int := ((klL.getD k.toNat 0).toNat : Int)
def ag (j : Nat) : ByteArray := if j = 0 then ⟨#[]⟩ else ⟨#[klL.getD (ka j).toNat 0, klL.getD (kb j).toNat 0]⟩
def ArgsAt (w : World) : Prop := ∃ b o, b < w.heap.size ∧ 0 < w.heap.size ∧ w.cell? ⟨0, 0, none⟩ = some (.slice (some ⟨b, o, none⟩) 23 23) ∧ ∀ j, j < 23 → w.cell? ⟨b, o + j, none⟩ = some (.string (ag j))
theorem ArgsAt.below {w w' : World} (h : ArgsAt w) (hb : Below w.heap.size w w') : ArgsAt w' := by
  obtain ⟨b, o, h1, h2, h3, h4⟩ := h
  exact ⟨b, o, Nat.lt_of_lt_of_le h1 hb.size, Nat.lt_of_lt_of_le h2 hb.size, (hb.cell h2).trans h3, fun j hj => (hb.cell h1).trans (h4 j hj)⟩

set_option maxRecDepth 100000 in
set_option maxHeartbeats 1000000 in
theorem argOk0t (w : World) (a b : Option Addr) (n m c d : Nat) (y0 y1 y2 x : Int) (g0 : 0 ≤ x) (g1 : x < 1) :
    Calls Tryd.prog 28 #[.agg #[.slice a n c, .int .i64 y0, .slice b m d, .int .i64 y1, .int .i64 y2], .int .u8 45, .int .i64 x] w fun e w' => e = .returned (.bool true) ∧ Below w.heap.size w w' := by
  obtain ⟨W0, e0, hB, k0⟩ := one_new w (.cells #[.slice a n c, .int .i64 y0, .slice b m d, .int .i64 y1, .int .i64 y2] 25)
  have HX := hide hB; have HE := hide e0; have HK := hide k0
  clear hB e0 k0
  go_enter Tryd.func28, Tryd.ntmps28
  go_upto_region 1 with fail
  rw [unhide HE]
  clear HE
  obtain ⟨⟨q0, q1, q2, q3, q4⟩, ql⟩ := block5 (unhide HK)
  go_wp2_with fail
  go_ret
  exact ⟨rfl, unhide HX⟩

set_option maxRecDepth 100000 in
set_option maxHeartbeats 1000000 in
theorem argOk0a (w : World) (a b : Option Addr) (n m c d : Nat) (y0 y1 y2 x : Int) (g0 : ¬ 0 ≤ x) :
    Calls Tryd.prog 28 #[.agg #[.slice a n c, .int .i64 y0, .slice b m d, .int .i64 y1, .int .i64 y2], .int .u8 45, .int .i64 x] w fun e w' => e = .returned (.bool false) ∧ Below w.heap.size w w' := by
  obtain ⟨W0, e0, hB, k0⟩ := one_new w (.cells #[.slice a n c, .int .i64 y0, .slice b m d, .int .i64 y1, .int .i64 y2] 25)
  have HX := hide hB; have HE := hide e0; have HK := hide k0
  clear hB e0 k0
  go_enter Tryd.func28, Tryd.ntmps28
  go_upto_region 1 with fail
  rw [unhide HE]
  clear HE
  obtain ⟨⟨q0, q1, q2, q3, q4⟩, ql⟩ := block5 (unhide HK)
  go_wp2_with fail
  go_ret
  exact ⟨rfl, unhide HX⟩

set_option maxRecDepth 100000 in
set_option maxHeartbeats 1000000 in
theorem argOk0b (w : World) (a b : Option Addr) (n m c d : Nat) (y0 y1 y2 x : Int) (g0 : 0 ≤ x) (g1 : ¬ x < 1) :
    Calls Tryd.prog 28 #[.agg #[.slice a n c, .int .i64 y0, .slice b m d, .int .i64 y1, .int .i64 y2], .int .u8 45, .int .i64 x] w fun e w' => e = .returned (.bool false) ∧ Below w.heap.size w w' := by
  obtain ⟨W0, e0, hB, k0⟩ := one_new w (.cells #[.slice a n c, .int .i64 y0, .slice b m d, .int .i64 y1, .int .i64 y2] 25)
  have HX := hide hB; have HE := hide e0; have HK := hide k0
  clear hB e0 k0
  go_enter Tryd.func28, Tryd.ntmps28
  go_upto_region 1 with fail
  rw [unhide HE]
  clear HE
  obtain ⟨⟨q0, q1, q2, q3, q4⟩, ql⟩ := block5 (unhide HK)
  go_wp2_with fail
  go_ret
  exact ⟨rfl, unhide HX⟩

set_option maxRecDepth 100000 in
set_option maxHeartbeats 1000000 in
theorem argOk1t (w : World) (a b : Option Addr) (n m c d : Nat) (y0 y1 y2 x : Int) (g0 : 0 ≤ x) (g1 : x < 8) :
    Calls Tryd.prog 28 #[.agg #[.slice a n c, .int .i64 y0, .slice b m d, .int .i64 y1, .int .i64 y2], .int .u8 114, .int .i64 x] w fun e w' => e = .returned (.bool true) ∧ Below w.heap.size w w' := by
  obtain ⟨W0, e0, hB, k0⟩ := one_new w (.cells #[.slice a n c, .int .i64 y0, .slice b m d, .int .i64 y1, .int .i64 y2] 25)
  have HX := hide hB; have HE := hide e0; have HK := hide k0
  clear hB e0 k0
  go_enter Tryd.func28, Tryd.ntmps28
  go_upto_region 1 with fail
  rw [unhide HE]
  clear HE
  obtain ⟨⟨q0, q1, q2, q3, q4⟩, ql⟩ := block5 (unhide HK)
  go_wp2_with fail
  go_ret
  exact ⟨rfl, unhide HX⟩

set_option maxRecDepth 100000 in
set_option maxHeartbeats 1000000 in
theorem argOk1a (w : World) (a b : Option Addr) (n m c d : Nat) (y0 y1 y2 x : Int) (g0 : ¬ 0 ≤ x) :
    Calls Tryd.prog 28 #[.agg #[.slice a n c, .int .i64 y0, .slice b m d, .int .i64 y1, .int .i64 y2], .int .u8 114, .int .i64 x] w fun e w' => e = .returned (.bool false) ∧ Below w.heap.size w w' := by
  obtain ⟨W0, e0, hB, k0⟩ := one_new w (.cells #[.slice a n c, .int .i64 y0, .slice b m d, .int .i64 y1, .int .i64 y2] 25)
  have HX := hide hB; have HE := hide e0; have HK := hide k0
  clear hB e0 k0
  go_enter Tryd.func28, Tryd.ntmps28
  go_upto_region 1 with fail
  rw [unhide HE]
  clear HE
  obtain ⟨⟨q0, q1, q2, q3, q4⟩, ql⟩ := block5 (unhide HK)
  go_wp2_with fail
  go_ret
  exact ⟨rfl, unhide HX⟩

set_option maxRecDepth 100000 in
set_option maxHeartbeats 1000000 in
theorem argOk1b (w : World) (a b : Option Addr) (n m c d : Nat) (y0 y1 y2 x : Int) (g0 : 0 ≤ x) (g1 : ¬ x < 8) :
    Calls Tryd.prog 28 #[.agg #[.slice a n c, .int .i64 y0, .slice b m d, .int .i64 y1, .int .i64 y2], .int .u8 114, .int .i64 x] w fun e w' => e = .returned (.bool false) ∧ Below w.heap.size w w' := by
  obtain ⟨W0, e0, hB, k0⟩ := one_new w (.cells #[.slice a n c, .int .i64 y0, .slice b m d, .int .i64 y1, .int .i64 y2] 25)
  have HX := hide hB; have HE := hide e0; have HK := hide k0
  clear hB e0 k0
  go_enter Tryd.func28, Tryd.ntmps28
  go_upto_region 1 with fail
  rw [unhide HE]
  clear HE
  obtain ⟨⟨q0, q1, q2, q3, q4⟩, ql⟩ := block5 (unhide HK)
  go_wp2_with fail
  go_ret
  exact ⟨rfl, unhide HX⟩

set_option maxRecDepth 100000 in
set_option maxHeartbeats 1000000 in
theorem argOk2n (w : World) (a b : Option Addr) (n m c d : Nat) (y0 y1 y2 x : Int)  :
    Calls Tryd.prog 28 #[.agg #[.slice a n c, .int .i64 y0, .slice b m d, .int .i64 y1, .int .i64 y2], .int .u8 110, .int .i64 x] w fun e w' => e = .returned (.bool true) ∧ Below w.heap.size w w' := by
  obtain ⟨W0, e0, hB, k0⟩ := one_new w (.cells #[.slice a n c, .int .i64 y0, .slice b m d, .int .i64 y1, .int .i64 y2] 25)
  have HX := hide hB; have HE := hide e0; have HK := hide k0
  clear hB e0 k0
  go_enter Tryd.func28, Tryd.ntmps28
  go_upto_region 1 with fail
  rw [unhide HE]
  clear HE
  obtain ⟨⟨q0, q1, q2, q3, q4⟩, ql⟩ := block5 (unhide HK)
  go_wp2_with fail
  go_ret
  exact ⟨rfl, unhide HX⟩

set_option maxRecDepth 100000 in
set_option maxHeartbeats 1000000 in
theorem argOk3t (w : World) (a b : Option Addr) (n m c d : Nat) (y0 y1 y2 x : Int) (g0 : 0 ≤ x) (g1 : x < (n : Int)) :
    Calls Tryd.prog 28 #[.agg #[.slice a n c, .int .i64 y0, .slice b m d, .int .i64 y1, .int .i64 y2], .int .u8 99, .int .i64 x] w fun e w' => e = .returned (.bool true) ∧ Below w.heap.size w w' := by
  obtain ⟨W0, e0, hB, k0⟩ := one_new w (.cells #[.slice a n c, .int .i64 y0, .slice b m d, .int .i64 y1, .int .i64 y2] 25)
  have HX := hide hB; have HE := hide e0; have HK := hide k0
  clear hB e0 k0
  go_enter Tryd.func28, Tryd.ntmps28
  go_upto_region 1 with fail
  rw [unhide HE]
  clear HE
  obtain ⟨⟨q0, q1, q2, q3, q4⟩, ql⟩ := block5 (unhide HK)
  go_wp2_with fail
  go_ret
  exact ⟨rfl, unhide HX⟩

set_option maxRecDepth 100000 in
set_option maxHeartbeats 1000000 in
theorem argOk3a (w : World) (a b : Option Addr) (n m c d : Nat) (y0 y1 y2 x : Int) (g0 : ¬ 0 ≤ x) :
    Calls Tryd.prog 28 #[.agg #[.slice a n c, .int .i64 y0, .slice b m d, .int .i64 y1, .int .i64 y2], .int .u8 99, .int .i64 x] w fun e w' => e = .returned (.bool false) ∧ Below w.heap.size w w' := by
  obtain ⟨W0, e0, hB, k0⟩ := one_new w (.cells #[.slice a n c, .int .i64 y0, .slice b m d, .int .i64 y1, .int .i64 y2] 25)
  have HX := hide hB; have HE := hide e0; have HK := hide k0
  clear hB e0 k0
  go_enter Tryd.func28, Tryd.ntmps28
  go_upto_region 1 with fail
  rw [unhide HE]
  clear HE
  obtain ⟨⟨q0, q1, q2, q3, q4⟩, ql⟩ := block5 (unhide HK)
  go_wp2_with fail
  go_ret
  exact ⟨rfl, unhide HX⟩

set_option maxRecDepth 100000 in
set_option maxHeartbeats 1000000 in
theorem argOk3b (w : World) (a b : Option Addr) (n m c d : Nat) (y0 y1 y2 x : Int) (g0 : 0 ≤ x) (g1 : ¬ x < (n : Int)) :
    Calls Tryd.prog 28 #[.agg #[.slice a n c, .int .i64 y0, .slice b m d, .int .i64 y1, .int .i64 y2], .int .u8 99, .int .i64 x] w fun e w' => e = .returned (.bool false) ∧ Below w.heap.size w w' := by
  obtain ⟨W0, e0, hB, k0⟩ := one_new w (.cells #[.slice a n c, .int .i64 y0, .slice b m d, .int .i64 y1, .int .i64 y2] 25)
  have HX := hide hB; have HE := hide e0; have HK := hide k0
  clear hB e0 k0
  go_enter Tryd.func28, Tryd.ntmps28
  go_upto_region 1 with fail
  rw [unhide HE]
  clear HE
  obtain ⟨⟨q0, q1, q2, q3, q4⟩, ql⟩ := block5 (unhide HK)
  go_wp2_with fail
  go_ret
  exact ⟨rfl, unhide HX⟩

set_option maxRecDepth 100000 in
set_option maxHeartbeats 1000000 in
theorem argOk4t (w : World) (a b : Option Addr) (n m c d : Nat) (y0 y1 y2 x : Int) (g0 : 0 ≤ x) (g1 : x < y0) :
    Calls Tryd.prog 28 #[.agg #[.slice a n c, .int .i64 y0, .slice b m d, .int .i64 y1, .int .i64 y2], .int .u8 109, .int .i64 x] w fun e w' => e = .returned (.bool true) ∧ Below w.heap.size w w' := by
  obtain ⟨W0, e0, hB, k0⟩ := one_new w (.cells #[.slice a n c, .int .i64 y0, .slice b m d, .int .i64 y1, .int .i64 y2] 25)
  have HX := hide hB; have HE := hide e0; have HK := hide k0
  clear hB e0 k0
  go_enter Tryd.func28, Tryd.ntmps28
  go_upto_region 1 with fail
  rw [unhide HE]
  clear HE
  obtain ⟨⟨q0, q1, q2, q3, q4⟩, ql⟩ := block5 (unhide HK)
  go_wp2_with fail
  go_ret
  exact ⟨rfl, unhide HX⟩

set_option maxRecDepth 100000 in
set_option maxHeartbeats 1000000 in
theorem argOk4a (w : World) (a b : Option Addr) (n m c d : Nat) (y0 y1 y2 x : Int) (g0 : ¬ 0 ≤ x) :
    Calls Tryd.prog 28 #[.agg #[.slice a n c, .int .i64 y0, .slice b m d, .int .i64 y1, .int .i64 y2], .int .u8 109, .int .i64 x] w fun e w' => e = .returned (.bool false) ∧ Below w.heap.size w w' := by
  obtain ⟨W0, e0, hB, k0⟩ := one_new w (.cells #[.slice a n c, .int .i64 y0, .slice b m d, .int .i64 y1, .int .i64 y2] 25)
  have HX := hide hB; have HE := hide e0; have HK := hide k0
  clear hB e0 k0
  go_enter Tryd.func28, Tryd.ntmps28
  go_upto_region 1 with fail
  rw [unhide HE]
  clear HE
  obtain ⟨⟨q0, q1, q2, q3, q4⟩, ql⟩ := block5 (unhide HK)
  go_wp2_with fail
  go_ret
  exact ⟨rfl, unhide HX⟩

set_option maxRecDepth 100000 in
set_option maxHeartbeats 1000000 in
theorem argOk4b (w : World) (a b : Option Addr) (n m c d : Nat) (y0 y1 y2 x : Int) (g0 : 0 ≤ x) (g1 : ¬ x < y0) :
    Calls Tryd.prog 28 #[.agg #[.slice a n c, .int .i64 y0, .slice b m d, .int .i64 y1, .int .i64 y2], .int .u8 109, .int .i64 x] w fun e w' => e = .returned (.bool false) ∧ Below w.heap.size w w' := by
  obtain ⟨W0, e0, hB, k0⟩ := one_new w (.cells #[.slice a n c, .int .i64 y0, .slice b m d, .int .i64 y1, .int .i64 y2] 25)
  have HX := hide hB; have HE := hide e0; have HK := hide k0
  clear hB e0 k0
  go_enter Tryd.func28, Tryd.ntmps28
  go_upto_region 1 with fail
  rw [unhide HE]
  clear HE
  obtain ⟨⟨q0, q1, q2, q3, q4⟩, ql⟩ := block5 (unhide HK)
  go_wp2_with fail
  go_ret
  exact ⟨rfl, unhide HX⟩

set_option maxRecDepth 100000 in
set_option maxHeartbeats 1000000 in
theorem argOk5t (w : World) (a b : Option Addr) (n m c d : Nat) (y0 y1 y2 x : Int) (g0 : 0 ≤ x) (g1 : x < (m : Int)) :
    Calls Tryd.prog 28 #[.agg #[.slice a n c, .int .i64 y0, .slice b m d, .int .i64 y1, .int .i64 y2], .int .u8 112, .int .i64 x] w fun e w' => e = .returned (.bool true) ∧ Below w.heap.size w w' := by
  obtain ⟨W0, e0, hB, k0⟩ := one_new w (.cells #[.slice a n c, .int .i64 y0, .slice b m d, .int .i64 y1, .int .i64 y2] 25)
  have HX := hide hB; have HE := hide e0; have HK := hide k0
  clear hB e0 k0
  go_enter Tryd.func28, Tryd.ntmps28
  go_upto_region 1 with fail
  rw [unhide HE]
  clear HE
  obtain ⟨⟨q0, q1, q2, q3, q4⟩, ql⟩ := block5 (unhide HK)
  go_wp2_with fail
  go_ret
  exact ⟨rfl, unhide HX⟩

set_option maxRecDepth 100000 in
set_option maxHeartbeats 1000000 in
theorem argOk5a (w : World) (a b : Option Addr) (n m c d : Nat) (y0 y1 y2 x : Int) (g0 : ¬ 0 ≤ x) :
    Calls Tryd.prog 28 #[.agg #[.slice a n c, .int .i64 y0, .slice b m d, .int .i64 y1, .int .i64 y2], .int .u8 112, .int .i64 x] w fun e w' => e = .returned (.bool false) ∧ Below w.heap.size w w' := by
  obtain ⟨W0, e0, hB, k0⟩ := one_new w (.cells #[.slice a n c, .int .i64 y0, .slice b m d, .int .i64 y1, .int .i64 y2] 25)
  have HX := hide hB; have HE := hide e0; have HK := hide k0
  clear hB e0 k0
  go_enter Tryd.func28, Tryd.ntmps28
  go_upto_region 1 with fail
  rw [unhide HE]
  clear HE
  obtain ⟨⟨q0, q1, q2, q3, q4⟩, ql⟩ := block5 (unhide HK)
  go_wp2_with fail
  go_ret
  exact ⟨rfl, unhide HX⟩

set_option maxRecDepth 100000 in
set_option maxHeartbeats 1000000 in
theorem argOk5b (w : World) (a b : Option Addr) (n m c d : Nat) (y0 y1 y2 x : Int) (g0 : 0 ≤ x) (g1 : ¬ x < (m : Int)) :
    Calls Tryd.prog 28 #[.agg #[.slice a n c, .int .i64 y0, .slice b m d, .int .i64 y1, .int .i64 y2], .int .u8 112, .int .i64 x] w fun e w' => e = .returned (.bool false) ∧ Below w.heap.size w w' := by
  obtain ⟨W0, e0, hB, k0⟩ := one_new w (.cells #[.slice a n c, .int .i64 y0, .slice b m d, .int .i64 y1, .int .i64 y2] 25)
  have HX := hide hB; have HE := hide e0; have HK := hide k0
  clear hB e0 k0
  go_enter Tryd.func28, Tryd.ntmps28
  go_upto_region 1 with fail
  rw [unhide HE]
  clear HE
  obtain ⟨⟨q0, q1, q2, q3, q4⟩, ql⟩ := block5 (unhide HK)
  go_wp2_with fail
  go_ret
  exact ⟨rfl, unhide HX⟩

set_option maxRecDepth 100000 in
set_option maxHeartbeats 1000000 in
theorem argOk6t (w : World) (a b : Option Addr) (n m c d : Nat) (y0 y1 y2 x : Int) (g0 : 0 ≤ x) (g1 : x < y1) :
    Calls Tryd.prog 28 #[.agg #[.slice a n c, .int .i64 y0, .slice b m d, .int .i64 y1, .int .i64 y2], .int .u8 108, .int .i64 x] w fun e w' => e = .returned (.bool true) ∧ Below w.heap.size w w' := by
  obtain ⟨W0, e0, hB, k0⟩ := one_new w (.cells #[.slice a n c, .int .i64 y0, .slice b m d, .int .i64 y1, .int .i64 y2] 25)
  have HX := hide hB; have HE := hide e0; have HK := hide k0
  clear hB e0 k0
  go_enter Tryd.func28, Tryd.ntmps28
  go_upto_region 1 with fail
  rw [unhide HE]
  clear HE
  obtain ⟨⟨q0, q1, q2, q3, q4⟩, ql⟩ := block5 (unhide HK)
  go_wp2_with fail
  go_ret
  exact ⟨rfl, unhide HX⟩

set_option maxRecDepth 100000 in
set_option maxHeartbeats 1000000 in
theorem argOk6a (w : World) (a b : Option Addr) (n m c d : Nat) (y0 y1 y2 x : Int) (g0 : ¬ 0 ≤ x) :
    Calls Tryd.prog 28 #[.agg #[.slice a n c, .int .i64 y0, .slice b m d, .int .i64 y1, .int .i64 y2], .int .u8 108, .int .i64 x] w fun e w' => e = .returned (.bool false) ∧ Below w.heap.size w w' := by
  obtain ⟨W0, e0, hB, k0⟩ := one_new w (.cells #[.slice a n c, .int .i64 y0, .slice b m d, .int .i64 y1, .int .i64 y2] 25)
  have HX := hide hB; have HE := hide e0; have HK := hide k0
  clear hB e0 k0
  go_enter Tryd.func28, Tryd.ntmps28
  go_upto_region 1 with fail
  rw [unhide HE]
  clear HE
  obtain ⟨⟨q0, q1, q2, q3, q4⟩, ql⟩ := block5 (unhide HK)
  go_wp2_with fail
  go_ret
  exact ⟨rfl, unhide HX⟩

set_option maxRecDepth 100000 in
set_option maxHeartbeats 1000000 in
theorem argOk6b (w : World) (a b : Option Addr) (n m c d : Nat) (y0 y1 y2 x : Int) (g0 : 0 ≤ x) (g1 : ¬ x < y1) :
    Calls Tryd.prog 28 #[.agg #[.slice a n c, .int .i64 y0, .slice b m d, .int .i64 y1, .int .i64 y2], .int .u8 108, .int .i64 x] w fun e w' => e = .returned (.bool false) ∧ Below w.heap.size w w' := by
  obtain ⟨W0, e0, hB, k0⟩ := one_new w (.cells #[.slice a n c, .int .i64 y0, .slice b m d, .int .i64 y1, .int .i64 y2] 25)
  have HX := hide hB; have HE := hide e0; have HK := hide k0
  clear hB e0 k0
  go_enter Tryd.func28, Tryd.ntmps28
  go_upto_region 1 with fail
  rw [unhide HE]
  clear HE
  obtain ⟨⟨q0, q1, q2, q3, q4⟩, ql⟩ := block5 (unhide HK)
  go_wp2_with fail
  go_ret
  exact ⟨rfl, unhide HX⟩

set_option maxRecDepth 100000 in
set_option maxHeartbeats 1000000 in
theorem argOk7t (w : World) (a b : Option Addr) (n m c d : Nat) (y0 y1 y2 x : Int) (g0 : 0 ≤ x) (g1 : x < y2) :
    Calls Tryd.prog 28 #[.agg #[.slice a n c, .int .i64 y0, .slice b m d, .int .i64 y1, .int .i64 y2], .int .u8 103, .int .i64 x] w fun e w' => e = .returned (.bool true) ∧ Below w.heap.size w w' := by
  obtain ⟨W0, e0, hB, k0⟩ := one_new w (.cells #[.slice a n c, .int .i64 y0, .slice b m d, .int .i64 y1, .int .i64 y2] 25)
  have HX := hide hB; have HE := hide e0; have HK := hide k0
  clear hB e0 k0
  go_enter Tryd.func28, Tryd.ntmps28
  go_upto_region 1 with fail
  rw [unhide HE]
  clear HE
  obtain ⟨⟨q0, q1, q2, q3, q4⟩, ql⟩ := block5 (unhide HK)
  go_wp2_with fail
  go_ret
  exact ⟨rfl, unhide HX⟩

set_option maxRecDepth 100000 in
set_option maxHeartbeats 1000000 in
theorem argOk7a (w : World) (a b : Option Addr) (n m c d : Nat) (y0 y1 y2 x : Int) (g0 : ¬ 0 ≤ x) :
    Calls Tryd.prog 28 #[.agg #[.slice a n c, .int .i64 y0, .slice b m d, .int .i64 y1, .int .i64 y2], .int .u8 103, .int .i64 x] w fun e w' => e = .returned (.bool false) ∧ Below w.heap.size w w' := by
  obtain ⟨W0, e0, hB, k0⟩ := one_new w (.cells #[.slice a n c, .int .i64 y0, .slice b m d, .int .i64 y1, .int .i64 y2] 25)
  have HX := hide hB; have HE := hide e0; have HK := hide k0
  clear hB e0 k0
  go_enter Tryd.func28, Tryd.ntmps28
  go_upto_region 1 with fail
  rw [unhide HE]
  clear HE
  obtain ⟨⟨q0, q1, q2, q3, q4⟩, ql⟩ := block5 (unhide HK)
  go_wp2_with fail
  go_ret
  exact ⟨rfl, unhide HX⟩

set_option maxRecDepth 100000 in
set_option maxHeartbeats 1000000 in
theorem argOk7b (w : World) (a b : Option Addr) (n m c d : Nat) (y0 y1 y2 x : Int) (g0 : 0 ≤ x) (g1 : ¬ x < y2) :
    Calls Tryd.prog 28 #[.agg #[.slice a n c, .int .i64 y0, .slice b m d, .int .i64 y1, .int .i64 y2], .int .u8 103, .int .i64 x] w fun e w' => e = .returned (.bool false) ∧ Below w.heap.size w w' := by
  obtain ⟨W0, e0, hB, k0⟩ := one_new w (.cells #[.slice a n c, .int .i64 y0, .slice b m d, .int .i64 y1, .int .i64 y2] 25)
  have HX := hide hB; have HE := hide e0; have HK := hide k0
  clear hB e0 k0
  go_enter Tryd.func28, Tryd.ntmps28
  go_upto_region 1 with fail
  rw [unhide HE]
  clear HE
  obtain ⟨⟨q0, q1, q2, q3, q4⟩, ql⟩ := block5 (unhide HK)
  go_wp2_with fail
  go_ret
  exact ⟨rfl, unhide HX⟩

set_option maxRecDepth 100000 in
set_option maxHeartbeats 1000000 in
theorem argOk8t (w : World) (a b : Option Addr) (n m c d : Nat) (y0 y1 y2 x : Int) (g0 : 0 ≤ x) (g1 : x < 2) :
    Calls Tryd.prog 28 #[.agg #[.slice a n c, .int .i64 y0, .slice b m d, .int .i64 y1, .int .i64 y2], .int .u8 107, .int .i64 x] w fun e w' => e = .returned (.bool true) ∧ Below w.heap.size w w' := by
  obtain ⟨W0, e0, hB, k0⟩ := one_new w (.cells #[.slice a n c, .int .i64 y0, .slice b m d, .int .i64 y1, .int .i64 y2] 25)
  have HX := hide hB; have HE := hide e0; have HK := hide k0
  clear hB e0 k0
  go_enter Tryd.func28, Tryd.ntmps28
  go_upto_region 1 with fail
  rw [unhide HE]
  clear HE
  obtain ⟨⟨q0, q1, q2, q3, q4⟩, ql⟩ := block5 (unhide HK)
  go_wp2_with fail
  go_ret
  exact ⟨rfl, unhide HX⟩

set_option maxRecDepth 100000 in
set_option maxHeartbeats 1000000 in
theorem argOk8a (w : World) (a b : Option Addr) (n m c d : Nat) (y0 y1 y2 x : Int) (g0 : ¬ 0 ≤ x) :
    Calls Tryd.prog 28 #[.agg #[.slice a n c, .int .i64 y0, .slice b m d, .int .i64 y1, .int .i64 y2], .int .u8 107, .int .i64 x] w fun e w' => e = .returned (.bool false) ∧ Below w.heap.size w w' := by
  obtain ⟨W0, e0, hB, k0⟩ := one_new w (.cells #[.slice a n c, .int .i64 y0, .slice b m d, .int .i64 y1, .int .i64 y2] 25)
  have HX := hide hB; have HE := hide e0; have HK := hide k0
  clear hB e0 k0
  go_enter Tryd.func28, Tryd.ntmps28
  go_upto_region 1 with fail
  rw [unhide HE]
  clear HE
  obtain ⟨⟨q0, q1, q2, q3, q4⟩, ql⟩ := block5 (unhide HK)
  go_wp2_with fail
  go_ret
  exact ⟨rfl, unhide HX⟩

set_option maxRecDepth 100000 in
set_option maxHeartbeats 1000000 in
theorem argOk8b (w : World) (a b : Option Addr) (n m c d : Nat) (y0 y1 y2 x : Int) (g0 : 0 ≤ x) (g1 : ¬ x < 2) :
    Calls Tryd.prog 28 #[.agg #[.slice a n c, .int .i64 y0, .slice b m d, .int .i64 y1, .int .i64 y2], .int .u8 107, .int .i64 x] w fun e w' => e = .returned (.bool false) ∧ Below w.heap.size w w' := by
  obtain ⟨W0, e0, hB, k0⟩ := one_new w (.cells #[.slice a n c, .int .i64 y0, .slice b m d, .int .i64 y1, .int .i64 y2] 25)
  have HX := hide hB; have HE := hide e0; have HK := hide k0
  clear hB e0 k0
  go_enter Tryd.func28, Tryd.ntmps28
  go_upto_region 1 with fail
  rw [unhide HE]
  clear HE
  obtain ⟨⟨q0, q1, q2, q3, q4⟩, ql⟩ := block5 (unhide HK)
  go_wp2_with fail
  go_ret
  exact ⟨rfl, unhide HX⟩

theorem argOk_any (w : World) (v : Value) (p : Pg) (h : IsP w v p) (k x : Int) (h0 : 0 ≤ k) (h9 : k < 9) :
    Calls Tryd.prog 28 #[v, .int .u8 (klI k), .int .i64 x] w fun e w' => e = .returned (.bool (fitsB p k x)) ∧ Below w.heap.size w w' := by
  obtain ⟨a, c, b, d, rfl, -, -⟩ := h.form
  have hk : k = 0 ∨ k = 1 ∨ k = 2 ∨ k = 3 ∨ k = 4 ∨ k = 5 ∨ k = 6 ∨ k = 7 ∨ k = 8 := by omega
  unfold fitsB
  rcases hk with rfl | rfl | rfl | rfl | rfl | rfl | rfl | rfl | rfl
  · have e : roomN p 0 = 1 := rfl
    by_cases g0 : 0 ≤ x
    · by_cases g1 : x < roomN p 0
      · rw [decide_eq_true (Or.inr ⟨g0, by omega⟩)]; rw [e] at g1; exact argOk0t w a b _ _ c d _ _ _ x g0 g1
      · rw [decide_eq_false (by omega)]; rw [e] at g1; exact argOk0b w a b _ _ c d _ _ _ x g0 g1
    · rw [decide_eq_false (by omega)]; exact argOk0a w a b _ _ c d _ _ _ x g0
  · have e : roomN p 1 = 8 := rfl
    by_cases g0 : 0 ≤ x
    · by_cases g1 : x < roomN p 1
      · rw [decide_eq_true (Or.inr ⟨g0, by omega⟩)]; rw [e] at g1; exact argOk1t w a b _ _ c d _ _ _ x g0 g1
      · rw [decide_eq_false (by omega)]; rw [e] at g1; exact argOk1b w a b _ _ c d _ _ _ x g0 g1
    · rw [decide_eq_false (by omega)]; exact argOk1a w a b _ _ c d _ _ _ x g0
  · rw [decide_eq_true (Or.inl rfl)]; exact argOk2n w a b _ _ c d _ _ _ x
  · have e : roomN p 3 = p.code.length := rfl
    by_cases g0 : 0 ≤ x
    · by_cases g1 : x < roomN p 3
      · rw [decide_eq_true (Or.inr ⟨g0, by omega⟩)]; rw [e] at g1; exact argOk3t w a b _ _ c d _ _ _ x g0 g1
      · rw [decide_eq_false (by omega)]; rw [e] at g1; exact argOk3b w a b _ _ c d _ _ _ x g0 g1
    · rw [decide_eq_false (by omega)]; exact argOk3a w a b _ _ c d _ _ _ x g0
  · have e : roomN p 4 = p.cells := rfl
    by_cases g0 : 0 ≤ x
    · by_cases g1 : x < roomN p 4
      · rw [decide_eq_true (Or.inr ⟨g0, by omega⟩)]; rw [e] at g1; exact argOk4t w a b _ _ c d _ _ _ x g0 g1
      · rw [decide_eq_false (by omega)]; rw [e] at g1; exact argOk4b w a b _ _ c d _ _ _ x g0 g1
    · rw [decide_eq_false (by omega)]; exact argOk4a w a b _ _ c d _ _ _ x g0
  · have e : roomN p 5 = p.pipes.length := rfl
    by_cases g0 : 0 ≤ x
    · by_cases g1 : x < roomN p 5
      · rw [decide_eq_true (Or.inr ⟨g0, by omega⟩)]; rw [e] at g1; exact argOk5t w a b _ _ c d _ _ _ x g0 g1
      · rw [decide_eq_false (by omega)]; rw [e] at g1; exact argOk5b w a b _ _ c d _ _ _ x g0 g1
    · rw [decide_eq_false (by omega)]; exact argOk5a w a b _ _ c d _ _ _ x g0
  · have e : roomN p 6 = p.locks := rfl
    by_cases g0 : 0 ≤ x
    · by_cases g1 : x < roomN p 6
      · rw [decide_eq_true (Or.inr ⟨g0, by omega⟩)]; rw [e] at g1; exact argOk6t w a b _ _ c d _ _ _ x g0 g1
      · rw [decide_eq_false (by omega)]; rw [e] at g1; exact argOk6b w a b _ _ c d _ _ _ x g0 g1
    · rw [decide_eq_false (by omega)]; exact argOk6a w a b _ _ c d _ _ _ x g0
  · have e : roomN p 7 = p.groups := rfl
    by_cases g0 : 0 ≤ x
    · by_cases g1 : x < roomN p 7
      · rw [decide_eq_true (Or.inr ⟨g0, by omega⟩)]; rw [e] at g1; exact argOk7t w a b _ _ c d _ _ _ x g0 g1
      · rw [decide_eq_false (by omega)]; rw [e] at g1; exact argOk7b w a b _ _ c d _ _ _ x g0 g1
    · rw [decide_eq_false (by omega)]; exact argOk7a w a b _ _ c d _ _ _ x g0
  · have e : roomN p 8 = 2 := rfl
    by_cases g0 : 0 ≤ x
    · by_cases g1 : x < roomN p 8
      · rw [decide_eq_true (Or.inr ⟨g0, by omega⟩)]; rw [e] at g1; exact argOk8t w a b _ _ c d _ _ _ x g0 g1
      · rw [decide_eq_false (by omega)]; rw [e] at g1; exact argOk8b w a b _ _ c d _ _ _ x g0 g1
    · rw [decide_eq_false (by omega)]; exact argOk8a w a b _ _ c d _ _ _ x g0

end Go.Proofs.YtgeinjldjpaleaaDoor
