/-
  sweep.cycle.wrong, whatever the act.
-/
import Derived.Test.YtmkehjncnaokoaaCb
namespace Go.Proofs.Ytmkehjncnaokoaa
open Go.RowKit

/-- What is wrong with an act. -/
def wrongG (g : Gm) (x : Ac) : Int :=
  if x.op = 1 then (if hasSlB g x.a x.b = true ∧ hasSrcB g.rs.length x.c = true then 0 else 3)
  else if x.op = 2 then (if hasRB g.rs.length x.a = true ∧ hasSlB g x.c x.b = true then 0 else 3)
  else if x.op = 3 then (if hasRB g.rs.length x.a = true ∧ hasSrcB g.rs.length x.c = true ∧ x.b = 0 then 0 else 3)
  else if x.op = 4 then (if hasRB g.rs.length x.a = true ∧ 0 ≤ x.b ∧ x.b ≤ 20 ∧ x.c = 0 then (if g.os.length = 500 then 9 else 0) else 3)
  else if x.op = 5 then (if x.a = 0 ∧ x.b = 0 ∧ x.c = 0 then 0 else 3)
  else 4

set_option maxRecDepth 100000 in
set_option maxHeartbeats 4000000 in
theorem wr_w00 (w : World) {lo : Nat} {lab : Nat → Nat} {cb : Nat} {z : Int} {b wb cw n bo co : Nat} {ar : Option Addr} {nr cr : Nat} {vl : Value} {g : Gm} (h : CyL lo w lab cb z b wb cw n bo co ar nr cr vl g) (hg : GoodG g) (va vb vc : Int) (f1 : hasSlB g va vb = true) (f2 : hasSrcB nr vc = true) :
    Calls Try.prog 31 #[.pointer (some ⟨cb, 0, none⟩), .agg #[.int .i64 1, .int .i64 va, .int .i64 vb, .int .i64 vc]] w fun e w' => e = .returned (.int .i64 0) ∧ Below w.heap.size w w' := by
  have hx := (Below.refl w.heap.size w).alloc (Nat.le_refl _) (.cells #[.int .i64 1, .int .i64 va, .int .i64 vb, .int .i64 vc] 47)
  have HQ1 := hide (new_block w (.cells #[.int .i64 1, .int .i64 va, .int .i64 vb, .int .i64 vc] 47))
  have HC := hide (h.keep hx)
  have HX1 := hide hx
  have HG := hide hg
  obtain ⟨W0, e0⟩ : ∃ X, w.alloc (.cells #[.int .i64 1, .int .i64 va, .int .i64 vb, .int .i64 vc] 47) = X := ⟨_, rfl⟩
  rw [e0] at HX1 HQ1 HC
  have HE := hide e0
  clear e0 h hx hg
  go_enter Try.func31, Try.ntmps31
  go_upto_region 1 with fail
  rw [unhide HE]
  clear HE
  obtain ⟨⟨q0, q1, q2, q3⟩, -, ql⟩ := block4 (unhide HQ1)
  go_wp2_with (first | (go_at_call 40; (with_reducible refine Calls.mono (hasSlot_any _ (unhide HC) (unhide HG) va vb) ?_); rintro e w2 ⟨rfl, hb2⟩; rw [f1]; have HC2 := hide ((unhide HC).keep hb2); have HX2 := hide (Below.next (unhide HX1) hb2 (Nat.le_refl _)); have HQ2 := hide (keep_below (unhide HQ1) hb2); obtain ⟨⟨p20, p21, p22, p23⟩, -, p2l⟩ := block4 (unhide HQ2); obtain ⟨c20, c21, cf20, cf21, cl2⟩ := block2 (unhide HC2).cyc; obtain ⟨⟨m20, m21, m22, m23⟩, ⟨mf20, mf21, mf22, mf23⟩, ml2⟩ := block4 (unhide HC2).mka.blk; clear hb2) | (go_at_call 41; (with_reducible refine Calls.mono (hasSource_any _ (unhide HC2) vc) ?_); rintro e w3 ⟨rfl, hb3⟩; rw [f2]; have HC3 := hide ((unhide HC2).keep hb3); have HX3 := hide (Below.next (unhide HX2) hb3 (Nat.le_refl _)); have HQ3 := hide (keep_below (unhide HQ2) hb3); obtain ⟨⟨p30, p31, p32, p33⟩, -, p3l⟩ := block4 (unhide HQ3); obtain ⟨c30, c31, cf30, cf31, cl3⟩ := block2 (unhide HC3).cyc; obtain ⟨⟨m30, m31, m32, m33⟩, ⟨mf30, mf31, mf32, mf33⟩, ml3⟩ := block4 (unhide HC3).mka.blk; clear hb3))
  go_ret
  exact ⟨rfl, unhide HX3⟩

set_option maxRecDepth 100000 in
set_option maxHeartbeats 4000000 in
theorem wr_w01 (w : World) {lo : Nat} {lab : Nat → Nat} {cb : Nat} {z : Int} {b wb cw n bo co : Nat} {ar : Option Addr} {nr cr : Nat} {vl : Value} {g : Gm} (h : CyL lo w lab cb z b wb cw n bo co ar nr cr vl g) (hg : GoodG g) (va vb vc : Int) (f1 : hasSlB g va vb = true) (f2 : hasSrcB nr vc = false) :
    Calls Try.prog 31 #[.pointer (some ⟨cb, 0, none⟩), .agg #[.int .i64 1, .int .i64 va, .int .i64 vb, .int .i64 vc]] w fun e w' => e = .returned (.int .i64 3) ∧ Below w.heap.size w w' := by
  have hx := (Below.refl w.heap.size w).alloc (Nat.le_refl _) (.cells #[.int .i64 1, .int .i64 va, .int .i64 vb, .int .i64 vc] 47)
  have HQ1 := hide (new_block w (.cells #[.int .i64 1, .int .i64 va, .int .i64 vb, .int .i64 vc] 47))
  have HC := hide (h.keep hx)
  have HX1 := hide hx
  have HG := hide hg
  obtain ⟨W0, e0⟩ : ∃ X, w.alloc (.cells #[.int .i64 1, .int .i64 va, .int .i64 vb, .int .i64 vc] 47) = X := ⟨_, rfl⟩
  rw [e0] at HX1 HQ1 HC
  have HE := hide e0
  clear e0 h hx hg
  go_enter Try.func31, Try.ntmps31
  go_upto_region 1 with fail
  rw [unhide HE]
  clear HE
  obtain ⟨⟨q0, q1, q2, q3⟩, -, ql⟩ := block4 (unhide HQ1)
  go_wp2_with (first | (go_at_call 40; (with_reducible refine Calls.mono (hasSlot_any _ (unhide HC) (unhide HG) va vb) ?_); rintro e w2 ⟨rfl, hb2⟩; rw [f1]; have HC2 := hide ((unhide HC).keep hb2); have HX2 := hide (Below.next (unhide HX1) hb2 (Nat.le_refl _)); have HQ2 := hide (keep_below (unhide HQ1) hb2); obtain ⟨⟨p20, p21, p22, p23⟩, -, p2l⟩ := block4 (unhide HQ2); obtain ⟨c20, c21, cf20, cf21, cl2⟩ := block2 (unhide HC2).cyc; obtain ⟨⟨m20, m21, m22, m23⟩, ⟨mf20, mf21, mf22, mf23⟩, ml2⟩ := block4 (unhide HC2).mka.blk; clear hb2) | (go_at_call 41; (with_reducible refine Calls.mono (hasSource_any _ (unhide HC2) vc) ?_); rintro e w3 ⟨rfl, hb3⟩; rw [f2]; have HC3 := hide ((unhide HC2).keep hb3); have HX3 := hide (Below.next (unhide HX2) hb3 (Nat.le_refl _)); have HQ3 := hide (keep_below (unhide HQ2) hb3); obtain ⟨⟨p30, p31, p32, p33⟩, -, p3l⟩ := block4 (unhide HQ3); obtain ⟨c30, c31, cf30, cf31, cl3⟩ := block2 (unhide HC3).cyc; obtain ⟨⟨m30, m31, m32, m33⟩, ⟨mf30, mf31, mf32, mf33⟩, ml3⟩ := block4 (unhide HC3).mka.blk; clear hb3))
  go_ret
  exact ⟨rfl, unhide HX3⟩

set_option maxRecDepth 100000 in
set_option maxHeartbeats 4000000 in
theorem wr_w02 (w : World) {lo : Nat} {lab : Nat → Nat} {cb : Nat} {z : Int} {b wb cw n bo co : Nat} {ar : Option Addr} {nr cr : Nat} {vl : Value} {g : Gm} (h : CyL lo w lab cb z b wb cw n bo co ar nr cr vl g) (hg : GoodG g) (va vb vc : Int) (f1 : hasSlB g va vb = false) :
    Calls Try.prog 31 #[.pointer (some ⟨cb, 0, none⟩), .agg #[.int .i64 1, .int .i64 va, .int .i64 vb, .int .i64 vc]] w fun e w' => e = .returned (.int .i64 3) ∧ Below w.heap.size w w' := by
  have hx := (Below.refl w.heap.size w).alloc (Nat.le_refl _) (.cells #[.int .i64 1, .int .i64 va, .int .i64 vb, .int .i64 vc] 47)
  have HQ1 := hide (new_block w (.cells #[.int .i64 1, .int .i64 va, .int .i64 vb, .int .i64 vc] 47))
  have HC := hide (h.keep hx)
  have HX1 := hide hx
  have HG := hide hg
  obtain ⟨W0, e0⟩ : ∃ X, w.alloc (.cells #[.int .i64 1, .int .i64 va, .int .i64 vb, .int .i64 vc] 47) = X := ⟨_, rfl⟩
  rw [e0] at HX1 HQ1 HC
  have HE := hide e0
  clear e0 h hx hg
  go_enter Try.func31, Try.ntmps31
  go_upto_region 1 with fail
  rw [unhide HE]
  clear HE
  obtain ⟨⟨q0, q1, q2, q3⟩, -, ql⟩ := block4 (unhide HQ1)
  go_wp2_with (first | (go_at_call 40; (with_reducible refine Calls.mono (hasSlot_any _ (unhide HC) (unhide HG) va vb) ?_); rintro e w2 ⟨rfl, hb2⟩; rw [f1]; have HC2 := hide ((unhide HC).keep hb2); have HX2 := hide (Below.next (unhide HX1) hb2 (Nat.le_refl _)); have HQ2 := hide (keep_below (unhide HQ1) hb2); obtain ⟨⟨p20, p21, p22, p23⟩, -, p2l⟩ := block4 (unhide HQ2); obtain ⟨c20, c21, cf20, cf21, cl2⟩ := block2 (unhide HC2).cyc; obtain ⟨⟨m20, m21, m22, m23⟩, ⟨mf20, mf21, mf22, mf23⟩, ml2⟩ := block4 (unhide HC2).mka.blk; clear hb2))
  go_ret
  exact ⟨rfl, unhide HX2⟩

set_option maxRecDepth 100000 in
set_option maxHeartbeats 4000000 in
theorem wr_l00 (w : World) {lo : Nat} {lab : Nat → Nat} {cb : Nat} {z : Int} {b wb cw n bo co : Nat} {ar : Option Addr} {nr cr : Nat} {vl : Value} {g : Gm} (h : CyL lo w lab cb z b wb cw n bo co ar nr cr vl g) (hg : GoodG g) (va vb vc : Int) (f1 : hasRB nr va = true) (f2 : hasSlB g vc vb = true) :
    Calls Try.prog 31 #[.pointer (some ⟨cb, 0, none⟩), .agg #[.int .i64 2, .int .i64 va, .int .i64 vb, .int .i64 vc]] w fun e w' => e = .returned (.int .i64 0) ∧ Below w.heap.size w w' := by
  have hx := (Below.refl w.heap.size w).alloc (Nat.le_refl _) (.cells #[.int .i64 2, .int .i64 va, .int .i64 vb, .int .i64 vc] 47)
  have HQ1 := hide (new_block w (.cells #[.int .i64 2, .int .i64 va, .int .i64 vb, .int .i64 vc] 47))
  have HC := hide (h.keep hx)
  have HX1 := hide hx
  have HG := hide hg
  obtain ⟨W0, e0⟩ : ∃ X, w.alloc (.cells #[.int .i64 2, .int .i64 va, .int .i64 vb, .int .i64 vc] 47) = X := ⟨_, rfl⟩
  rw [e0] at HX1 HQ1 HC
  have HE := hide e0
  clear e0 h hx hg
  go_enter Try.func31, Try.ntmps31
  go_upto_region 1 with fail
  rw [unhide HE]
  clear HE
  obtain ⟨⟨q0, q1, q2, q3⟩, -, ql⟩ := block4 (unhide HQ1)
  go_wp2_with (first | (go_at_call 42; (with_reducible refine Calls.mono (hasRegister_any _ (unhide HC) va) ?_); rintro e w2 ⟨rfl, hb2⟩; rw [f1]; have HC2 := hide ((unhide HC).keep hb2); have HX2 := hide (Below.next (unhide HX1) hb2 (Nat.le_refl _)); have HQ2 := hide (keep_below (unhide HQ1) hb2); obtain ⟨⟨p20, p21, p22, p23⟩, -, p2l⟩ := block4 (unhide HQ2); obtain ⟨c20, c21, cf20, cf21, cl2⟩ := block2 (unhide HC2).cyc; obtain ⟨⟨m20, m21, m22, m23⟩, ⟨mf20, mf21, mf22, mf23⟩, ml2⟩ := block4 (unhide HC2).mka.blk; clear hb2) | (go_at_call 40; (with_reducible refine Calls.mono (hasSlot_any _ (unhide HC2) (unhide HG) vc vb) ?_); rintro e w3 ⟨rfl, hb3⟩; rw [f2]; have HC3 := hide ((unhide HC2).keep hb3); have HX3 := hide (Below.next (unhide HX2) hb3 (Nat.le_refl _)); have HQ3 := hide (keep_below (unhide HQ2) hb3); obtain ⟨⟨p30, p31, p32, p33⟩, -, p3l⟩ := block4 (unhide HQ3); obtain ⟨c30, c31, cf30, cf31, cl3⟩ := block2 (unhide HC3).cyc; obtain ⟨⟨m30, m31, m32, m33⟩, ⟨mf30, mf31, mf32, mf33⟩, ml3⟩ := block4 (unhide HC3).mka.blk; clear hb3))
  go_ret
  exact ⟨rfl, unhide HX3⟩

set_option maxRecDepth 100000 in
set_option maxHeartbeats 4000000 in
theorem wr_l01 (w : World) {lo : Nat} {lab : Nat → Nat} {cb : Nat} {z : Int} {b wb cw n bo co : Nat} {ar : Option Addr} {nr cr : Nat} {vl : Value} {g : Gm} (h : CyL lo w lab cb z b wb cw n bo co ar nr cr vl g) (hg : GoodG g) (va vb vc : Int) (f1 : hasRB nr va = true) (f2 : hasSlB g vc vb = false) :
    Calls Try.prog 31 #[.pointer (some ⟨cb, 0, none⟩), .agg #[.int .i64 2, .int .i64 va, .int .i64 vb, .int .i64 vc]] w fun e w' => e = .returned (.int .i64 3) ∧ Below w.heap.size w w' := by
  have hx := (Below.refl w.heap.size w).alloc (Nat.le_refl _) (.cells #[.int .i64 2, .int .i64 va, .int .i64 vb, .int .i64 vc] 47)
  have HQ1 := hide (new_block w (.cells #[.int .i64 2, .int .i64 va, .int .i64 vb, .int .i64 vc] 47))
  have HC := hide (h.keep hx)
  have HX1 := hide hx
  have HG := hide hg
  obtain ⟨W0, e0⟩ : ∃ X, w.alloc (.cells #[.int .i64 2, .int .i64 va, .int .i64 vb, .int .i64 vc] 47) = X := ⟨_, rfl⟩
  rw [e0] at HX1 HQ1 HC
  have HE := hide e0
  clear e0 h hx hg
  go_enter Try.func31, Try.ntmps31
  go_upto_region 1 with fail
  rw [unhide HE]
  clear HE
  obtain ⟨⟨q0, q1, q2, q3⟩, -, ql⟩ := block4 (unhide HQ1)
  go_wp2_with (first | (go_at_call 42; (with_reducible refine Calls.mono (hasRegister_any _ (unhide HC) va) ?_); rintro e w2 ⟨rfl, hb2⟩; rw [f1]; have HC2 := hide ((unhide HC).keep hb2); have HX2 := hide (Below.next (unhide HX1) hb2 (Nat.le_refl _)); have HQ2 := hide (keep_below (unhide HQ1) hb2); obtain ⟨⟨p20, p21, p22, p23⟩, -, p2l⟩ := block4 (unhide HQ2); obtain ⟨c20, c21, cf20, cf21, cl2⟩ := block2 (unhide HC2).cyc; obtain ⟨⟨m20, m21, m22, m23⟩, ⟨mf20, mf21, mf22, mf23⟩, ml2⟩ := block4 (unhide HC2).mka.blk; clear hb2) | (go_at_call 40; (with_reducible refine Calls.mono (hasSlot_any _ (unhide HC2) (unhide HG) vc vb) ?_); rintro e w3 ⟨rfl, hb3⟩; rw [f2]; have HC3 := hide ((unhide HC2).keep hb3); have HX3 := hide (Below.next (unhide HX2) hb3 (Nat.le_refl _)); have HQ3 := hide (keep_below (unhide HQ2) hb3); obtain ⟨⟨p30, p31, p32, p33⟩, -, p3l⟩ := block4 (unhide HQ3); obtain ⟨c30, c31, cf30, cf31, cl3⟩ := block2 (unhide HC3).cyc; obtain ⟨⟨m30, m31, m32, m33⟩, ⟨mf30, mf31, mf32, mf33⟩, ml3⟩ := block4 (unhide HC3).mka.blk; clear hb3))
  go_ret
  exact ⟨rfl, unhide HX3⟩

set_option maxRecDepth 100000 in
set_option maxHeartbeats 4000000 in
theorem wr_l02 (w : World) {lo : Nat} {lab : Nat → Nat} {cb : Nat} {z : Int} {b wb cw n bo co : Nat} {ar : Option Addr} {nr cr : Nat} {vl : Value} {g : Gm} (h : CyL lo w lab cb z b wb cw n bo co ar nr cr vl g) (hg : GoodG g) (va vb vc : Int) (f1 : hasRB nr va = false) :
    Calls Try.prog 31 #[.pointer (some ⟨cb, 0, none⟩), .agg #[.int .i64 2, .int .i64 va, .int .i64 vb, .int .i64 vc]] w fun e w' => e = .returned (.int .i64 3) ∧ Below w.heap.size w w' := by
  have hx := (Below.refl w.heap.size w).alloc (Nat.le_refl _) (.cells #[.int .i64 2, .int .i64 va, .int .i64 vb, .int .i64 vc] 47)
  have HQ1 := hide (new_block w (.cells #[.int .i64 2, .int .i64 va, .int .i64 vb, .int .i64 vc] 47))
  have HC := hide (h.keep hx)
  have HX1 := hide hx
  have HG := hide hg
  obtain ⟨W0, e0⟩ : ∃ X, w.alloc (.cells #[.int .i64 2, .int .i64 va, .int .i64 vb, .int .i64 vc] 47) = X := ⟨_, rfl⟩
  rw [e0] at HX1 HQ1 HC
  have HE := hide e0
  clear e0 h hx hg
  go_enter Try.func31, Try.ntmps31
  go_upto_region 1 with fail
  rw [unhide HE]
  clear HE
  obtain ⟨⟨q0, q1, q2, q3⟩, -, ql⟩ := block4 (unhide HQ1)
  go_wp2_with (first | (go_at_call 42; (with_reducible refine Calls.mono (hasRegister_any _ (unhide HC) va) ?_); rintro e w2 ⟨rfl, hb2⟩; rw [f1]; have HC2 := hide ((unhide HC).keep hb2); have HX2 := hide (Below.next (unhide HX1) hb2 (Nat.le_refl _)); have HQ2 := hide (keep_below (unhide HQ1) hb2); obtain ⟨⟨p20, p21, p22, p23⟩, -, p2l⟩ := block4 (unhide HQ2); obtain ⟨c20, c21, cf20, cf21, cl2⟩ := block2 (unhide HC2).cyc; obtain ⟨⟨m20, m21, m22, m23⟩, ⟨mf20, mf21, mf22, mf23⟩, ml2⟩ := block4 (unhide HC2).mka.blk; clear hb2))
  go_ret
  exact ⟨rfl, unhide HX2⟩

set_option maxRecDepth 100000 in
set_option maxHeartbeats 4000000 in
theorem wr_c00 (w : World) {lo : Nat} {lab : Nat → Nat} {cb : Nat} {z : Int} {b wb cw n bo co : Nat} {ar : Option Addr} {nr cr : Nat} {vl : Value} {g : Gm} (h : CyL lo w lab cb z b wb cw n bo co ar nr cr vl g) (hg : GoodG g) (va vc : Int) (f1 : hasRB nr va = true) (f2 : hasSrcB nr vc = true) :
    Calls Try.prog 31 #[.pointer (some ⟨cb, 0, none⟩), .agg #[.int .i64 3, .int .i64 va, .int .i64 0, .int .i64 vc]] w fun e w' => e = .returned (.int .i64 0) ∧ Below w.heap.size w w' := by
  have hx := (Below.refl w.heap.size w).alloc (Nat.le_refl _) (.cells #[.int .i64 3, .int .i64 va, .int .i64 0, .int .i64 vc] 47)
  have HQ1 := hide (new_block w (.cells #[.int .i64 3, .int .i64 va, .int .i64 0, .int .i64 vc] 47))
  have HC := hide (h.keep hx)
  have HX1 := hide hx
  have HG := hide hg
  obtain ⟨W0, e0⟩ : ∃ X, w.alloc (.cells #[.int .i64 3, .int .i64 va, .int .i64 0, .int .i64 vc] 47) = X := ⟨_, rfl⟩
  rw [e0] at HX1 HQ1 HC
  have HE := hide e0
  clear e0 h hx hg
  go_enter Try.func31, Try.ntmps31
  go_upto_region 1 with fail
  rw [unhide HE]
  clear HE
  obtain ⟨⟨q0, q1, q2, q3⟩, -, ql⟩ := block4 (unhide HQ1)
  go_wp2_with (first | (go_at_call 42; (with_reducible refine Calls.mono (hasRegister_any _ (unhide HC) va) ?_); rintro e w2 ⟨rfl, hb2⟩; rw [f1]; have HC2 := hide ((unhide HC).keep hb2); have HX2 := hide (Below.next (unhide HX1) hb2 (Nat.le_refl _)); have HQ2 := hide (keep_below (unhide HQ1) hb2); obtain ⟨⟨p20, p21, p22, p23⟩, -, p2l⟩ := block4 (unhide HQ2); obtain ⟨c20, c21, cf20, cf21, cl2⟩ := block2 (unhide HC2).cyc; obtain ⟨⟨m20, m21, m22, m23⟩, ⟨mf20, mf21, mf22, mf23⟩, ml2⟩ := block4 (unhide HC2).mka.blk; clear hb2) | (go_at_call 41; (with_reducible refine Calls.mono (hasSource_any _ (unhide HC2) vc) ?_); rintro e w3 ⟨rfl, hb3⟩; rw [f2]; have HC3 := hide ((unhide HC2).keep hb3); have HX3 := hide (Below.next (unhide HX2) hb3 (Nat.le_refl _)); have HQ3 := hide (keep_below (unhide HQ2) hb3); obtain ⟨⟨p30, p31, p32, p33⟩, -, p3l⟩ := block4 (unhide HQ3); obtain ⟨c30, c31, cf30, cf31, cl3⟩ := block2 (unhide HC3).cyc; obtain ⟨⟨m30, m31, m32, m33⟩, ⟨mf30, mf31, mf32, mf33⟩, ml3⟩ := block4 (unhide HC3).mka.blk; clear hb3))
  go_ret
  exact ⟨rfl, unhide HX3⟩

set_option maxRecDepth 100000 in
set_option maxHeartbeats 4000000 in
theorem wr_c01 (w : World) {lo : Nat} {lab : Nat → Nat} {cb : Nat} {z : Int} {b wb cw n bo co : Nat} {ar : Option Addr} {nr cr : Nat} {vl : Value} {g : Gm} (h : CyL lo w lab cb z b wb cw n bo co ar nr cr vl g) (hg : GoodG g) (va vb vc : Int) (f1 : hasRB nr va = true) (f2 : hasSrcB nr vc = true) (f3 : vb ≠ 0) :
    Calls Try.prog 31 #[.pointer (some ⟨cb, 0, none⟩), .agg #[.int .i64 3, .int .i64 va, .int .i64 vb, .int .i64 vc]] w fun e w' => e = .returned (.int .i64 3) ∧ Below w.heap.size w w' := by
  have hx := (Below.refl w.heap.size w).alloc (Nat.le_refl _) (.cells #[.int .i64 3, .int .i64 va, .int .i64 vb, .int .i64 vc] 47)
  have HQ1 := hide (new_block w (.cells #[.int .i64 3, .int .i64 va, .int .i64 vb, .int .i64 vc] 47))
  have HC := hide (h.keep hx)
  have HX1 := hide hx
  have HG := hide hg
  have x1 : (vb == 0) = false := by simpa using f3
  obtain ⟨W0, e0⟩ : ∃ X, w.alloc (.cells #[.int .i64 3, .int .i64 va, .int .i64 vb, .int .i64 vc] 47) = X := ⟨_, rfl⟩
  rw [e0] at HX1 HQ1 HC
  have HE := hide e0
  clear e0 h hx hg
  go_enter Try.func31, Try.ntmps31
  go_upto_region 1 with fail
  rw [unhide HE]
  clear HE
  obtain ⟨⟨q0, q1, q2, q3⟩, -, ql⟩ := block4 (unhide HQ1)
  go_wp2_with (first | (go_at_call 42; (with_reducible refine Calls.mono (hasRegister_any _ (unhide HC) va) ?_); rintro e w2 ⟨rfl, hb2⟩; rw [f1]; have HC2 := hide ((unhide HC).keep hb2); have HX2 := hide (Below.next (unhide HX1) hb2 (Nat.le_refl _)); have HQ2 := hide (keep_below (unhide HQ1) hb2); obtain ⟨⟨p20, p21, p22, p23⟩, -, p2l⟩ := block4 (unhide HQ2); obtain ⟨c20, c21, cf20, cf21, cl2⟩ := block2 (unhide HC2).cyc; obtain ⟨⟨m20, m21, m22, m23⟩, ⟨mf20, mf21, mf22, mf23⟩, ml2⟩ := block4 (unhide HC2).mka.blk; clear hb2) | (go_at_call 41; (with_reducible refine Calls.mono (hasSource_any _ (unhide HC2) vc) ?_); rintro e w3 ⟨rfl, hb3⟩; rw [f2]; have HC3 := hide ((unhide HC2).keep hb3); have HX3 := hide (Below.next (unhide HX2) hb3 (Nat.le_refl _)); have HQ3 := hide (keep_below (unhide HQ2) hb3); obtain ⟨⟨p30, p31, p32, p33⟩, -, p3l⟩ := block4 (unhide HQ3); obtain ⟨c30, c31, cf30, cf31, cl3⟩ := block2 (unhide HC3).cyc; obtain ⟨⟨m30, m31, m32, m33⟩, ⟨mf30, mf31, mf32, mf33⟩, ml3⟩ := block4 (unhide HC3).mka.blk; clear hb3))
  go_ret
  exact ⟨rfl, unhide HX3⟩

set_option maxRecDepth 100000 in
set_option maxHeartbeats 4000000 in
theorem wr_c02 (w : World) {lo : Nat} {lab : Nat → Nat} {cb : Nat} {z : Int} {b wb cw n bo co : Nat} {ar : Option Addr} {nr cr : Nat} {vl : Value} {g : Gm} (h : CyL lo w lab cb z b wb cw n bo co ar nr cr vl g) (hg : GoodG g) (va vb vc : Int) (f1 : hasRB nr va = true) (f2 : hasSrcB nr vc = false) :
    Calls Try.prog 31 #[.pointer (some ⟨cb, 0, none⟩), .agg #[.int .i64 3, .int .i64 va, .int .i64 vb, .int .i64 vc]] w fun e w' => e = .returned (.int .i64 3) ∧ Below w.heap.size w w' := by
  have hx := (Below.refl w.heap.size w).alloc (Nat.le_refl _) (.cells #[.int .i64 3, .int .i64 va, .int .i64 vb, .int .i64 vc] 47)
  have HQ1 := hide (new_block w (.cells #[.int .i64 3, .int .i64 va, .int .i64 vb, .int .i64 vc] 47))
  have HC := hide (h.keep hx)
  have HX1 := hide hx
  have HG := hide hg
  obtain ⟨W0, e0⟩ : ∃ X, w.alloc (.cells #[.int .i64 3, .int .i64 va, .int .i64 vb, .int .i64 vc] 47) = X := ⟨_, rfl⟩
  rw [e0] at HX1 HQ1 HC
  have HE := hide e0
  clear e0 h hx hg
  go_enter Try.func31, Try.ntmps31
  go_upto_region 1 with fail
  rw [unhide HE]
  clear HE
  obtain ⟨⟨q0, q1, q2, q3⟩, -, ql⟩ := block4 (unhide HQ1)
  go_wp2_with (first | (go_at_call 42; (with_reducible refine Calls.mono (hasRegister_any _ (unhide HC) va) ?_); rintro e w2 ⟨rfl, hb2⟩; rw [f1]; have HC2 := hide ((unhide HC).keep hb2); have HX2 := hide (Below.next (unhide HX1) hb2 (Nat.le_refl _)); have HQ2 := hide (keep_below (unhide HQ1) hb2); obtain ⟨⟨p20, p21, p22, p23⟩, -, p2l⟩ := block4 (unhide HQ2); obtain ⟨c20, c21, cf20, cf21, cl2⟩ := block2 (unhide HC2).cyc; obtain ⟨⟨m20, m21, m22, m23⟩, ⟨mf20, mf21, mf22, mf23⟩, ml2⟩ := block4 (unhide HC2).mka.blk; clear hb2) | (go_at_call 41; (with_reducible refine Calls.mono (hasSource_any _ (unhide HC2) vc) ?_); rintro e w3 ⟨rfl, hb3⟩; rw [f2]; have HC3 := hide ((unhide HC2).keep hb3); have HX3 := hide (Below.next (unhide HX2) hb3 (Nat.le_refl _)); have HQ3 := hide (keep_below (unhide HQ2) hb3); obtain ⟨⟨p30, p31, p32, p33⟩, -, p3l⟩ := block4 (unhide HQ3); obtain ⟨c30, c31, cf30, cf31, cl3⟩ := block2 (unhide HC3).cyc; obtain ⟨⟨m30, m31, m32, m33⟩, ⟨mf30, mf31, mf32, mf33⟩, ml3⟩ := block4 (unhide HC3).mka.blk; clear hb3))
  go_ret
  exact ⟨rfl, unhide HX3⟩

set_option maxRecDepth 100000 in
set_option maxHeartbeats 4000000 in
theorem wr_c03 (w : World) {lo : Nat} {lab : Nat → Nat} {cb : Nat} {z : Int} {b wb cw n bo co : Nat} {ar : Option Addr} {nr cr : Nat} {vl : Value} {g : Gm} (h : CyL lo w lab cb z b wb cw n bo co ar nr cr vl g) (hg : GoodG g) (va vb vc : Int) (f1 : hasRB nr va = false) :
    Calls Try.prog 31 #[.pointer (some ⟨cb, 0, none⟩), .agg #[.int .i64 3, .int .i64 va, .int .i64 vb, .int .i64 vc]] w fun e w' => e = .returned (.int .i64 3) ∧ Below w.heap.size w w' := by
  have hx := (Below.refl w.heap.size w).alloc (Nat.le_refl _) (.cells #[.int .i64 3, .int .i64 va, .int .i64 vb, .int .i64 vc] 47)
  have HQ1 := hide (new_block w (.cells #[.int .i64 3, .int .i64 va, .int .i64 vb, .int .i64 vc] 47))
  have HC := hide (h.keep hx)
  have HX1 := hide hx
  have HG := hide hg
  obtain ⟨W0, e0⟩ : ∃ X, w.alloc (.cells #[.int .i64 3, .int .i64 va, .int .i64 vb, .int .i64 vc] 47) = X := ⟨_, rfl⟩
  rw [e0] at HX1 HQ1 HC
  have HE := hide e0
  clear e0 h hx hg
  go_enter Try.func31, Try.ntmps31
  go_upto_region 1 with fail
  rw [unhide HE]
  clear HE
  obtain ⟨⟨q0, q1, q2, q3⟩, -, ql⟩ := block4 (unhide HQ1)
  go_wp2_with (first | (go_at_call 42; (with_reducible refine Calls.mono (hasRegister_any _ (unhide HC) va) ?_); rintro e w2 ⟨rfl, hb2⟩; rw [f1]; have HC2 := hide ((unhide HC).keep hb2); have HX2 := hide (Below.next (unhide HX1) hb2 (Nat.le_refl _)); have HQ2 := hide (keep_below (unhide HQ1) hb2); obtain ⟨⟨p20, p21, p22, p23⟩, -, p2l⟩ := block4 (unhide HQ2); obtain ⟨c20, c21, cf20, cf21, cl2⟩ := block2 (unhide HC2).cyc; obtain ⟨⟨m20, m21, m22, m23⟩, ⟨mf20, mf21, mf22, mf23⟩, ml2⟩ := block4 (unhide HC2).mka.blk; clear hb2))
  go_ret
  exact ⟨rfl, unhide HX2⟩

set_option maxRecDepth 100000 in
set_option maxHeartbeats 4000000 in
theorem wr_n00 (w : World) {lo : Nat} {lab : Nat → Nat} {cb : Nat} {z : Int} {b wb cw n bo co : Nat} {ar : Option Addr} {nr cr : Nat} {vl : Value} {g : Gm} (h : CyL lo w lab cb z b wb cw n bo co ar nr cr vl g) (hg : GoodG g) (va vb : Int) (f1 : hasRB nr va = true) (f2 : 0 ≤ vb) (f3 : vb ≤ 20) (f4 : (n : Int) ≠ 500) :
    Calls Try.prog 31 #[.pointer (some ⟨cb, 0, none⟩), .agg #[.int .i64 4, .int .i64 va, .int .i64 vb, .int .i64 0]] w fun e w' => e = .returned (.int .i64 0) ∧ Below w.heap.size w w' := by
  have hx := (Below.refl w.heap.size w).alloc (Nat.le_refl _) (.cells #[.int .i64 4, .int .i64 va, .int .i64 vb, .int .i64 0] 47)
  have HQ1 := hide (new_block w (.cells #[.int .i64 4, .int .i64 va, .int .i64 vb, .int .i64 0] 47))
  have HC := hide (h.keep hx)
  have HX1 := hide hx
  have HG := hide hg
  have x1 : ((n : Int) == 500) = false := by simpa using f4
  obtain ⟨W0, e0⟩ : ∃ X, w.alloc (.cells #[.int .i64 4, .int .i64 va, .int .i64 vb, .int .i64 0] 47) = X := ⟨_, rfl⟩
  rw [e0] at HX1 HQ1 HC
  have HE := hide e0
  clear e0 h hx hg
  go_enter Try.func31, Try.ntmps31
  go_upto_region 1 with fail
  rw [unhide HE]
  clear HE
  obtain ⟨⟨q0, q1, q2, q3⟩, -, ql⟩ := block4 (unhide HQ1)
  go_wp2_with (first | (go_at_call 42; (with_reducible refine Calls.mono (hasRegister_any _ (unhide HC) va) ?_); rintro e w2 ⟨rfl, hb2⟩; rw [f1]; have HC2 := hide ((unhide HC).keep hb2); have HX2 := hide (Below.next (unhide HX1) hb2 (Nat.le_refl _)); have HQ2 := hide (keep_below (unhide HQ1) hb2); obtain ⟨⟨p20, p21, p22, p23⟩, -, p2l⟩ := block4 (unhide HQ2); obtain ⟨c20, c21, cf20, cf21, cl2⟩ := block2 (unhide HC2).cyc; obtain ⟨⟨m20, m21, m22, m23⟩, ⟨mf20, mf21, mf22, mf23⟩, ml2⟩ := block4 (unhide HC2).mka.blk; clear hb2))
  go_ret
  exact ⟨rfl, unhide HX2⟩

set_option maxRecDepth 100000 in
set_option maxHeartbeats 4000000 in
theorem wr_n01 (w : World) {lo : Nat} {lab : Nat → Nat} {cb : Nat} {z : Int} {b wb cw n bo co : Nat} {ar : Option Addr} {nr cr : Nat} {vl : Value} {g : Gm} (h : CyL lo w lab cb z b wb cw n bo co ar nr cr vl g) (hg : GoodG g) (va vb : Int) (f1 : hasRB nr va = true) (f2 : 0 ≤ vb) (f3 : vb ≤ 20) (f4 : (n : Int) = 500) :
    Calls Try.prog 31 #[.pointer (some ⟨cb, 0, none⟩), .agg #[.int .i64 4, .int .i64 va, .int .i64 vb, .int .i64 0]] w fun e w' => e = .returned (.int .i64 9) ∧ Below w.heap.size w w' := by
  have hx := (Below.refl w.heap.size w).alloc (Nat.le_refl _) (.cells #[.int .i64 4, .int .i64 va, .int .i64 vb, .int .i64 0] 47)
  have HQ1 := hide (new_block w (.cells #[.int .i64 4, .int .i64 va, .int .i64 vb, .int .i64 0] 47))
  have HC := hide (h.keep hx)
  have HX1 := hide hx
  have HG := hide hg
  have x1 : ((n : Int) == 500) = true := by simpa using f4
  clear f4
  obtain ⟨W0, e0⟩ : ∃ X, w.alloc (.cells #[.int .i64 4, .int .i64 va, .int .i64 vb, .int .i64 0] 47) = X := ⟨_, rfl⟩
  rw [e0] at HX1 HQ1 HC
  have HE := hide e0
  clear e0 h hx hg
  go_enter Try.func31, Try.ntmps31
  go_upto_region 1 with fail
  rw [unhide HE]
  clear HE
  obtain ⟨⟨q0, q1, q2, q3⟩, -, ql⟩ := block4 (unhide HQ1)
  go_wp2_with (first | (go_at_call 42; (with_reducible refine Calls.mono (hasRegister_any _ (unhide HC) va) ?_); rintro e w2 ⟨rfl, hb2⟩; rw [f1]; have HC2 := hide ((unhide HC).keep hb2); have HX2 := hide (Below.next (unhide HX1) hb2 (Nat.le_refl _)); have HQ2 := hide (keep_below (unhide HQ1) hb2); obtain ⟨⟨p20, p21, p22, p23⟩, -, p2l⟩ := block4 (unhide HQ2); obtain ⟨c20, c21, cf20, cf21, cl2⟩ := block2 (unhide HC2).cyc; obtain ⟨⟨m20, m21, m22, m23⟩, ⟨mf20, mf21, mf22, mf23⟩, ml2⟩ := block4 (unhide HC2).mka.blk; clear hb2))
  go_ret
  exact ⟨rfl, unhide HX2⟩

set_option maxRecDepth 100000 in
set_option maxHeartbeats 4000000 in
theorem wr_n02 (w : World) {lo : Nat} {lab : Nat → Nat} {cb : Nat} {z : Int} {b wb cw n bo co : Nat} {ar : Option Addr} {nr cr : Nat} {vl : Value} {g : Gm} (h : CyL lo w lab cb z b wb cw n bo co ar nr cr vl g) (hg : GoodG g) (va vb vc : Int) (f1 : hasRB nr va = true) (f2 : 0 ≤ vb) (f3 : vb ≤ 20) (f4 : vc ≠ 0) :
    Calls Try.prog 31 #[.pointer (some ⟨cb, 0, none⟩), .agg #[.int .i64 4, .int .i64 va, .int .i64 vb, .int .i64 vc]] w fun e w' => e = .returned (.int .i64 3) ∧ Below w.heap.size w w' := by
  have hx := (Below.refl w.heap.size w).alloc (Nat.le_refl _) (.cells #[.int .i64 4, .int .i64 va, .int .i64 vb, .int .i64 vc] 47)
  have HQ1 := hide (new_block w (.cells #[.int .i64 4, .int .i64 va, .int .i64 vb, .int .i64 vc] 47))
  have HC := hide (h.keep hx)
  have HX1 := hide hx
  have HG := hide hg
  have x1 : (vc == 0) = false := by simpa using f4
  obtain ⟨W0, e0⟩ : ∃ X, w.alloc (.cells #[.int .i64 4, .int .i64 va, .int .i64 vb, .int .i64 vc] 47) = X := ⟨_, rfl⟩
  rw [e0] at HX1 HQ1 HC
  have HE := hide e0
  clear e0 h hx hg
  go_enter Try.func31, Try.ntmps31
  go_upto_region 1 with fail
  rw [unhide HE]
  clear HE
  obtain ⟨⟨q0, q1, q2, q3⟩, -, ql⟩ := block4 (unhide HQ1)
  go_wp2_with (first | (go_at_call 42; (with_reducible refine Calls.mono (hasRegister_any _ (unhide HC) va) ?_); rintro e w2 ⟨rfl, hb2⟩; rw [f1]; have HC2 := hide ((unhide HC).keep hb2); have HX2 := hide (Below.next (unhide HX1) hb2 (Nat.le_refl _)); have HQ2 := hide (keep_below (unhide HQ1) hb2); obtain ⟨⟨p20, p21, p22, p23⟩, -, p2l⟩ := block4 (unhide HQ2); obtain ⟨c20, c21, cf20, cf21, cl2⟩ := block2 (unhide HC2).cyc; obtain ⟨⟨m20, m21, m22, m23⟩, ⟨mf20, mf21, mf22, mf23⟩, ml2⟩ := block4 (unhide HC2).mka.blk; clear hb2))
  go_ret
  exact ⟨rfl, unhide HX2⟩

set_option maxRecDepth 100000 in
set_option maxHeartbeats 4000000 in
theorem wr_n03 (w : World) {lo : Nat} {lab : Nat → Nat} {cb : Nat} {z : Int} {b wb cw n bo co : Nat} {ar : Option Addr} {nr cr : Nat} {vl : Value} {g : Gm} (h : CyL lo w lab cb z b wb cw n bo co ar nr cr vl g) (hg : GoodG g) (va vb vc : Int) (f1 : hasRB nr va = true) (f2 : 0 ≤ vb) (f3 : ¬ vb ≤ 20) :
    Calls Try.prog 31 #[.pointer (some ⟨cb, 0, none⟩), .agg #[.int .i64 4, .int .i64 va, .int .i64 vb, .int .i64 vc]] w fun e w' => e = .returned (.int .i64 3) ∧ Below w.heap.size w w' := by
  have hx := (Below.refl w.heap.size w).alloc (Nat.le_refl _) (.cells #[.int .i64 4, .int .i64 va, .int .i64 vb, .int .i64 vc] 47)
  have HQ1 := hide (new_block w (.cells #[.int .i64 4, .int .i64 va, .int .i64 vb, .int .i64 vc] 47))
  have HC := hide (h.keep hx)
  have HX1 := hide hx
  have HG := hide hg
  obtain ⟨W0, e0⟩ : ∃ X, w.alloc (.cells #[.int .i64 4, .int .i64 va, .int .i64 vb, .int .i64 vc] 47) = X := ⟨_, rfl⟩
  rw [e0] at HX1 HQ1 HC
  have HE := hide e0
  clear e0 h hx hg
  go_enter Try.func31, Try.ntmps31
  go_upto_region 1 with fail
  rw [unhide HE]
  clear HE
  obtain ⟨⟨q0, q1, q2, q3⟩, -, ql⟩ := block4 (unhide HQ1)
  go_wp2_with (first | (go_at_call 42; (with_reducible refine Calls.mono (hasRegister_any _ (unhide HC) va) ?_); rintro e w2 ⟨rfl, hb2⟩; rw [f1]; have HC2 := hide ((unhide HC).keep hb2); have HX2 := hide (Below.next (unhide HX1) hb2 (Nat.le_refl _)); have HQ2 := hide (keep_below (unhide HQ1) hb2); obtain ⟨⟨p20, p21, p22, p23⟩, -, p2l⟩ := block4 (unhide HQ2); obtain ⟨c20, c21, cf20, cf21, cl2⟩ := block2 (unhide HC2).cyc; obtain ⟨⟨m20, m21, m22, m23⟩, ⟨mf20, mf21, mf22, mf23⟩, ml2⟩ := block4 (unhide HC2).mka.blk; clear hb2))
  go_ret
  exact ⟨rfl, unhide HX2⟩

set_option maxRecDepth 100000 in
set_option maxHeartbeats 4000000 in
theorem wr_n04 (w : World) {lo : Nat} {lab : Nat → Nat} {cb : Nat} {z : Int} {b wb cw n bo co : Nat} {ar : Option Addr} {nr cr : Nat} {vl : Value} {g : Gm} (h : CyL lo w lab cb z b wb cw n bo co ar nr cr vl g) (hg : GoodG g) (va vb vc : Int) (f1 : hasRB nr va = true) (f2 : ¬ 0 ≤ vb) :
    Calls Try.prog 31 #[.pointer (some ⟨cb, 0, none⟩), .agg #[.int .i64 4, .int .i64 va, .int .i64 vb, .int .i64 vc]] w fun e w' => e = .returned (.int .i64 3) ∧ Below w.heap.size w w' := by
  have hx := (Below.refl w.heap.size w).alloc (Nat.le_refl _) (.cells #[.int .i64 4, .int .i64 va, .int .i64 vb, .int .i64 vc] 47)
  have HQ1 := hide (new_block w (.cells #[.int .i64 4, .int .i64 va, .int .i64 vb, .int .i64 vc] 47))
  have HC := hide (h.keep hx)
  have HX1 := hide hx
  have HG := hide hg
  obtain ⟨W0, e0⟩ : ∃ X, w.alloc (.cells #[.int .i64 4, .int .i64 va, .int .i64 vb, .int .i64 vc] 47) = X := ⟨_, rfl⟩
  rw [e0] at HX1 HQ1 HC
  have HE := hide e0
  clear e0 h hx hg
  go_enter Try.func31, Try.ntmps31
  go_upto_region 1 with fail
  rw [unhide HE]
  clear HE
  obtain ⟨⟨q0, q1, q2, q3⟩, -, ql⟩ := block4 (unhide HQ1)
  go_wp2_with (first | (go_at_call 42; (with_reducible refine Calls.mono (hasRegister_any _ (unhide HC) va) ?_); rintro e w2 ⟨rfl, hb2⟩; rw [f1]; have HC2 := hide ((unhide HC).keep hb2); have HX2 := hide (Below.next (unhide HX1) hb2 (Nat.le_refl _)); have HQ2 := hide (keep_below (unhide HQ1) hb2); obtain ⟨⟨p20, p21, p22, p23⟩, -, p2l⟩ := block4 (unhide HQ2); obtain ⟨c20, c21, cf20, cf21, cl2⟩ := block2 (unhide HC2).cyc; obtain ⟨⟨m20, m21, m22, m23⟩, ⟨mf20, mf21, mf22, mf23⟩, ml2⟩ := block4 (unhide HC2).mka.blk; clear hb2))
  go_ret
  exact ⟨rfl, unhide HX2⟩

set_option maxRecDepth 100000 in
set_option maxHeartbeats 4000000 in
theorem wr_n05 (w : World) {lo : Nat} {lab : Nat → Nat} {cb : Nat} {z : Int} {b wb cw n bo co : Nat} {ar : Option Addr} {nr cr : Nat} {vl : Value} {g : Gm} (h : CyL lo w lab cb z b wb cw n bo co ar nr cr vl g) (hg : GoodG g) (va vb vc : Int) (f1 : hasRB nr va = false) :
    Calls Try.prog 31 #[.pointer (some ⟨cb, 0, none⟩), .agg #[.int .i64 4, .int .i64 va, .int .i64 vb, .int .i64 vc]] w fun e w' => e = .returned (.int .i64 3) ∧ Below w.heap.size w w' := by
  have hx := (Below.refl w.heap.size w).alloc (Nat.le_refl _) (.cells #[.int .i64 4, .int .i64 va, .int .i64 vb, .int .i64 vc] 47)
  have HQ1 := hide (new_block w (.cells #[.int .i64 4, .int .i64 va, .int .i64 vb, .int .i64 vc] 47))
  have HC := hide (h.keep hx)
  have HX1 := hide hx
  have HG := hide hg
  obtain ⟨W0, e0⟩ : ∃ X, w.alloc (.cells #[.int .i64 4, .int .i64 va, .int .i64 vb, .int .i64 vc] 47) = X := ⟨_, rfl⟩
  rw [e0] at HX1 HQ1 HC
  have HE := hide e0
  clear e0 h hx hg
  go_enter Try.func31, Try.ntmps31
  go_upto_region 1 with fail
  rw [unhide HE]
  clear HE
  obtain ⟨⟨q0, q1, q2, q3⟩, -, ql⟩ := block4 (unhide HQ1)
  go_wp2_with (first | (go_at_call 42; (with_reducible refine Calls.mono (hasRegister_any _ (unhide HC) va) ?_); rintro e w2 ⟨rfl, hb2⟩; rw [f1]; have HC2 := hide ((unhide HC).keep hb2); have HX2 := hide (Below.next (unhide HX1) hb2 (Nat.le_refl _)); have HQ2 := hide (keep_below (unhide HQ1) hb2); obtain ⟨⟨p20, p21, p22, p23⟩, -, p2l⟩ := block4 (unhide HQ2); obtain ⟨c20, c21, cf20, cf21, cl2⟩ := block2 (unhide HC2).cyc; obtain ⟨⟨m20, m21, m22, m23⟩, ⟨mf20, mf21, mf22, mf23⟩, ml2⟩ := block4 (unhide HC2).mka.blk; clear hb2))
  go_ret
  exact ⟨rfl, unhide HX2⟩

set_option maxRecDepth 100000 in
set_option maxHeartbeats 4000000 in
theorem wr_m00 (w : World) {lo : Nat} {lab : Nat → Nat} {cb : Nat} {z : Int} {b wb cw n bo co : Nat} {ar : Option Addr} {nr cr : Nat} {vl : Value} {g : Gm} (h : CyL lo w lab cb z b wb cw n bo co ar nr cr vl g) (hg : GoodG g)  :
    Calls Try.prog 31 #[.pointer (some ⟨cb, 0, none⟩), .agg #[.int .i64 5, .int .i64 0, .int .i64 0, .int .i64 0]] w fun e w' => e = .returned (.int .i64 0) ∧ Below w.heap.size w w' := by
  have hx := (Below.refl w.heap.size w).alloc (Nat.le_refl _) (.cells #[.int .i64 5, .int .i64 0, .int .i64 0, .int .i64 0] 47)
  have HQ1 := hide (new_block w (.cells #[.int .i64 5, .int .i64 0, .int .i64 0, .int .i64 0] 47))
  have HC := hide (h.keep hx)
  have HX1 := hide hx
  have HG := hide hg
  obtain ⟨W0, e0⟩ : ∃ X, w.alloc (.cells #[.int .i64 5, .int .i64 0, .int .i64 0, .int .i64 0] 47) = X := ⟨_, rfl⟩
  rw [e0] at HX1 HQ1 HC
  have HE := hide e0
  clear e0 h hx hg
  go_enter Try.func31, Try.ntmps31
  go_upto_region 1 with fail
  rw [unhide HE]
  clear HE
  obtain ⟨⟨q0, q1, q2, q3⟩, -, ql⟩ := block4 (unhide HQ1)
  go_wp2_with fail
  go_ret
  exact ⟨rfl, unhide HX1⟩

set_option maxRecDepth 100000 in
set_option maxHeartbeats 4000000 in
theorem wr_m01 (w : World) {lo : Nat} {lab : Nat → Nat} {cb : Nat} {z : Int} {b wb cw n bo co : Nat} {ar : Option Addr} {nr cr : Nat} {vl : Value} {g : Gm} (h : CyL lo w lab cb z b wb cw n bo co ar nr cr vl g) (hg : GoodG g) (va vb vc : Int) (f1 : va ≠ 0) :
    Calls Try.prog 31 #[.pointer (some ⟨cb, 0, none⟩), .agg #[.int .i64 5, .int .i64 va, .int .i64 vb, .int .i64 vc]] w fun e w' => e = .returned (.int .i64 3) ∧ Below w.heap.size w w' := by
  have hx := (Below.refl w.heap.size w).alloc (Nat.le_refl _) (.cells #[.int .i64 5, .int .i64 va, .int .i64 vb, .int .i64 vc] 47)
  have HQ1 := hide (new_block w (.cells #[.int .i64 5, .int .i64 va, .int .i64 vb, .int .i64 vc] 47))
  have HC := hide (h.keep hx)
  have HX1 := hide hx
  have HG := hide hg
  have x1 : (va == 0) = false := by simpa using f1
  obtain ⟨W0, e0⟩ : ∃ X, w.alloc (.cells #[.int .i64 5, .int .i64 va, .int .i64 vb, .int .i64 vc] 47) = X := ⟨_, rfl⟩
  rw [e0] at HX1 HQ1 HC
  have HE := hide e0
  clear e0 h hx hg
  go_enter Try.func31, Try.ntmps31
  go_upto_region 1 with fail
  rw [unhide HE]
  clear HE
  obtain ⟨⟨q0, q1, q2, q3⟩, -, ql⟩ := block4 (unhide HQ1)
  go_wp2_with fail
  go_ret
  exact ⟨rfl, unhide HX1⟩

set_option maxRecDepth 100000 in
set_option maxHeartbeats 4000000 in
theorem wr_m02 (w : World) {lo : Nat} {lab : Nat → Nat} {cb : Nat} {z : Int} {b wb cw n bo co : Nat} {ar : Option Addr} {nr cr : Nat} {vl : Value} {g : Gm} (h : CyL lo w lab cb z b wb cw n bo co ar nr cr vl g) (hg : GoodG g) (vb vc : Int) (f1 : vb ≠ 0) :
    Calls Try.prog 31 #[.pointer (some ⟨cb, 0, none⟩), .agg #[.int .i64 5, .int .i64 0, .int .i64 vb, .int .i64 vc]] w fun e w' => e = .returned (.int .i64 3) ∧ Below w.heap.size w w' := by
  have hx := (Below.refl w.heap.size w).alloc (Nat.le_refl _) (.cells #[.int .i64 5, .int .i64 0, .int .i64 vb, .int .i64 vc] 47)
  have HQ1 := hide (new_block w (.cells #[.int .i64 5, .int .i64 0, .int .i64 vb, .int .i64 vc] 47))
  have HC := hide (h.keep hx)
  have HX1 := hide hx
  have HG := hide hg
  have x1 : (vb == 0) = false := by simpa using f1
  obtain ⟨W0, e0⟩ : ∃ X, w.alloc (.cells #[.int .i64 5, .int .i64 0, .int .i64 vb, .int .i64 vc] 47) = X := ⟨_, rfl⟩
  rw [e0] at HX1 HQ1 HC
  have HE := hide e0
  clear e0 h hx hg
  go_enter Try.func31, Try.ntmps31
  go_upto_region 1 with fail
  rw [unhide HE]
  clear HE
  obtain ⟨⟨q0, q1, q2, q3⟩, -, ql⟩ := block4 (unhide HQ1)
  go_wp2_with fail
  go_ret
  exact ⟨rfl, unhide HX1⟩

set_option maxRecDepth 100000 in
set_option maxHeartbeats 4000000 in
theorem wr_m03 (w : World) {lo : Nat} {lab : Nat → Nat} {cb : Nat} {z : Int} {b wb cw n bo co : Nat} {ar : Option Addr} {nr cr : Nat} {vl : Value} {g : Gm} (h : CyL lo w lab cb z b wb cw n bo co ar nr cr vl g) (hg : GoodG g) (vc : Int) (f1 : vc ≠ 0) :
    Calls Try.prog 31 #[.pointer (some ⟨cb, 0, none⟩), .agg #[.int .i64 5, .int .i64 0, .int .i64 0, .int .i64 vc]] w fun e w' => e = .returned (.int .i64 3) ∧ Below w.heap.size w w' := by
  have hx := (Below.refl w.heap.size w).alloc (Nat.le_refl _) (.cells #[.int .i64 5, .int .i64 0, .int .i64 0, .int .i64 vc] 47)
  have HQ1 := hide (new_block w (.cells #[.int .i64 5, .int .i64 0, .int .i64 0, .int .i64 vc] 47))
  have HC := hide (h.keep hx)
  have HX1 := hide hx
  have HG := hide hg
  have x1 : (vc == 0) = false := by simpa using f1
  obtain ⟨W0, e0⟩ : ∃ X, w.alloc (.cells #[.int .i64 5, .int .i64 0, .int .i64 0, .int .i64 vc] 47) = X := ⟨_, rfl⟩
  rw [e0] at HX1 HQ1 HC
  have HE := hide e0
  clear e0 h hx hg
  go_enter Try.func31, Try.ntmps31
  go_upto_region 1 with fail
  rw [unhide HE]
  clear HE
  obtain ⟨⟨q0, q1, q2, q3⟩, -, ql⟩ := block4 (unhide HQ1)
  go_wp2_with fail
  go_ret
  exact ⟨rfl, unhide HX1⟩

set_option maxRecDepth 100000 in
set_option maxHeartbeats 4000000 in
theorem wr_k00 (w : World) {lo : Nat} {lab : Nat → Nat} {cb : Nat} {z : Int} {b wb cw n bo co : Nat} {ar : Option Addr} {nr cr : Nat} {vl : Value} {g : Gm} (h : CyL lo w lab cb z b wb cw n bo co ar nr cr vl g) (hg : GoodG g) (op : Int) (va vb vc : Int) (f1 : op ≠ 1) (f2 : op ≠ 2) (f3 : op ≠ 3) (f4 : op ≠ 4) (f5 : op ≠ 5) :
    Calls Try.prog 31 #[.pointer (some ⟨cb, 0, none⟩), .agg #[.int .i64 op, .int .i64 va, .int .i64 vb, .int .i64 vc]] w fun e w' => e = .returned (.int .i64 4) ∧ Below w.heap.size w w' := by
  have hx := (Below.refl w.heap.size w).alloc (Nat.le_refl _) (.cells #[.int .i64 op, .int .i64 va, .int .i64 vb, .int .i64 vc] 47)
  have HQ1 := hide (new_block w (.cells #[.int .i64 op, .int .i64 va, .int .i64 vb, .int .i64 vc] 47))
  have HC := hide (h.keep hx)
  have HX1 := hide hx
  have HG := hide hg
  have x1 : (op == 1) = false := by simpa using f1
  have x2 : (op == 2) = false := by simpa using f2
  have x3 : (op == 3) = false := by simpa using f3
  have x4 : (op == 4) = false := by simpa using f4
  have x5 : (op == 5) = false := by simpa using f5
  obtain ⟨W0, e0⟩ : ∃ X, w.alloc (.cells #[.int .i64 op, .int .i64 va, .int .i64 vb, .int .i64 vc] 47) = X := ⟨_, rfl⟩
  rw [e0] at HX1 HQ1 HC
  have HE := hide e0
  clear e0 h hx hg
  go_enter Try.func31, Try.ntmps31
  go_upto_region 1 with fail
  rw [unhide HE]
  clear HE
  obtain ⟨⟨q0, q1, q2, q3⟩, -, ql⟩ := block4 (unhide HQ1)
  go_wp2_with fail
  go_ret
  exact ⟨rfl, unhide HX1⟩

theorem wrong_any (w : World) {lo : Nat} {lab : Nat → Nat} {cb : Nat} {z : Int} {b wb cw n bo co : Nat} {ar : Option Addr} {nr cr : Nat} {vl : Value} {g : Gm} (h : CyL lo w lab cb z b wb cw n bo co ar nr cr vl g) (hg : GoodG g) (x : Ac) :
    Calls Try.prog 31 #[.pointer (some ⟨cb, 0, none⟩), .agg #[.int .i64 x.op, .int .i64 x.a, .int .i64 x.b, .int .i64 x.c]] w fun e w' => e = .returned (.int .i64 (wrongG g x)) ∧ Below w.heap.size w w' := by
  obtain ⟨op, va, vb, vc⟩ := x
  have hr := h.hr
  have hn := h.hn
  by_cases h1 : op = 1
  · subst h1
    by_cases f1 : hasSlB g va vb = true
    · by_cases f2 : hasSrcB nr vc = true
      · have e : wrongG g ⟨1, va, vb, vc⟩ = 0 := by unfold wrongG; simp [f1, f2, hr]
        rw [e]; exact wr_w00 w h hg va vb vc f1 f2
      · have e : wrongG g ⟨1, va, vb, vc⟩ = 3 := by unfold wrongG; simp [f1, f2, hr]
        rw [e]; exact wr_w01 w h hg va vb vc f1 (by simpa using f2)
    · have e : wrongG g ⟨1, va, vb, vc⟩ = 3 := by unfold wrongG; simp [f1]
      rw [e]; exact wr_w02 w h hg va vb vc (by simpa using f1)
  by_cases h2 : op = 2
  · subst h2
    by_cases f1 : hasRB nr va = true
    · by_cases f2 : hasSlB g vc vb = true
      · have e : wrongG g ⟨2, va, vb, vc⟩ = 0 := by unfold wrongG; simp [f1, f2, hr]
        rw [e]; exact wr_l00 w h hg va vb vc f1 f2
      · have e : wrongG g ⟨2, va, vb, vc⟩ = 3 := by unfold wrongG; simp [f1, f2, hr]
        rw [e]; exact wr_l01 w h hg va vb vc f1 (by simpa using f2)
    · have e : wrongG g ⟨2, va, vb, vc⟩ = 3 := by unfold wrongG; simp [f1, hr]
      rw [e]; exact wr_l02 w h hg va vb vc (by simpa using f1)
  by_cases h3 : op = 3
  · subst h3
    by_cases f1 : hasRB nr va = true
    · by_cases f2 : hasSrcB nr vc = true
      · by_cases f3 : vb = 0
        · subst f3
          have e : wrongG g ⟨3, va, 0, vc⟩ = 0 := by unfold wrongG; simp [f1, f2, hr]
          rw [e]; exact wr_c00 w h hg va vc f1 f2
        · have e : wrongG g ⟨3, va, vb, vc⟩ = 3 := by unfold wrongG; simp [f1, f2, f3, hr]
          rw [e]; exact wr_c01 w h hg va vb vc f1 f2 f3
      · have e : wrongG g ⟨3, va, vb, vc⟩ = 3 := by unfold wrongG; simp [f1, f2, hr]
        rw [e]; exact wr_c02 w h hg va vb vc f1 (by simpa using f2)
    · have e : wrongG g ⟨3, va, vb, vc⟩ = 3 := by unfold wrongG; simp [f1, hr]
      rw [e]; exact wr_c03 w h hg va vb vc (by simpa using f1)
  by_cases h4 : op = 4
  · subst h4
    by_cases f1 : hasRB nr va = true
    · by_cases f2 : 0 ≤ vb
      · by_cases f3 : vb ≤ 20
        · by_cases f4 : vc = 0
          · subst f4
            by_cases f5 : n = 500
            · have e : wrongG g ⟨4, va, vb, 0⟩ = 9 := by unfold wrongG; simp [f1, f2, f3, hr, hn, f5]
              rw [e]; exact wr_n01 w h hg va vb f1 f2 f3 (by omega)
            · have e : wrongG g ⟨4, va, vb, 0⟩ = 0 := by unfold wrongG; simp [f1, f2, f3, hr, hn, f5]
              rw [e]; exact wr_n00 w h hg va vb f1 f2 f3 (by omega)
          · have e : wrongG g ⟨4, va, vb, vc⟩ = 3 := by unfold wrongG; simp [f4]
            rw [e]; exact wr_n02 w h hg va vb vc f1 f2 f3 f4
        · have e : wrongG g ⟨4, va, vb, vc⟩ = 3 := by unfold wrongG; simp [f3]
          rw [e]; exact wr_n03 w h hg va vb vc f1 f2 f3
      · have e : wrongG g ⟨4, va, vb, vc⟩ = 3 := by unfold wrongG; simp [f2]
        rw [e]; exact wr_n04 w h hg va vb vc f1 f2
    · have e : wrongG g ⟨4, va, vb, vc⟩ = 3 := by unfold wrongG; simp [f1, hr]
      rw [e]; exact wr_n05 w h hg va vb vc (by simpa using f1)
  by_cases h5 : op = 5
  · subst h5
    by_cases f1 : va = 0
    · subst f1
      by_cases f2 : vb = 0
      · subst f2
        by_cases f3 : vc = 0
        · subst f3
          have e : wrongG g ⟨5, 0, 0, 0⟩ = 0 := by unfold wrongG; simp
          rw [e]; exact wr_m00 w h hg
        · have e : wrongG g ⟨5, 0, 0, vc⟩ = 3 := by unfold wrongG; simp [f3]
          rw [e]; exact wr_m03 w h hg vc f3
      · have e : wrongG g ⟨5, 0, vb, vc⟩ = 3 := by unfold wrongG; simp [f2]
        rw [e]; exact wr_m02 w h hg vb vc f2
    · have e : wrongG g ⟨5, va, vb, vc⟩ = 3 := by unfold wrongG; simp [f1]
      rw [e]; exact wr_m01 w h hg va vb vc f1
  · have e : wrongG g ⟨op, va, vb, vc⟩ = 4 := by unfold wrongG; simp [h1, h2, h3, h4, h5]
    rw [e]; exact wr_k00 w h hg op va vb vc h1 h2 h3 h4 h5
end Go.Proofs.Ytmkehjncnaokoaa
