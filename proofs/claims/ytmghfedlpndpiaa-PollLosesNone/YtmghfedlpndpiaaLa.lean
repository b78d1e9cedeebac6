/-
  poll.Tick, where nothing is wrong.
-/
import Derived.Test.YtmghfedlpndpiaaL
import Derived.LoopN
namespace Go.Proofs.Ytmghfedlpndpiaa
open Go.RowKit

set_option maxRecDepth 100000 in
set_option maxHeartbeats 2000000 in
theorem tick_nn (w : World) (c r0 r1 : Bool) (t0 t1 u0 u1 now C1 : Int) (hC : descF c r0 r1 t0 t1 u0 u1 = (0, C1)) (hnow : 0 ≤ now ∧ now ≤ 1000000000) (hz0 : ¬ 0 < t0) (hz1 : ¬ 0 < t1) :
    Calls Try.prog 15 #[.agg #[.bool c, .bool r0, .bool r1, .int .i64 t0, .int .i64 t1, .int .i64 u0, .int .i64 u1], .int .i64 now] w fun e w' => ∃ a k, e = .returned (.tuple #[.agg #[.bool c, .bool r0, .bool r1, .int .i64 t0, .int .i64 t1, .int .i64 u0, .int .i64 u1], .slice a 0 k, .agg #[.int .i64 0, .int .i64 0]]) ∧ Own KI w.heap.size w' (.slice a 0 k) [] ∧ Below w.heap.size w w' := by
  have HC : Hid (∀ W, Calls Try.prog 6 #[.agg #[.bool c, .bool r0, .bool r1, .int .i64 t0, .int .i64 t1, .int .i64 u0, .int .i64 u1]] W fun e w' => e = .returned (.agg #[.int .i64 0, .int .i64 C1]) ∧ Below W.heap.size W w') := fun W => check_any W c r0 r1 t0 t1 u0 u1 0 C1 hC
  have HT : Hid (∀ W, Calls Try.prog 24 #[.int .i64 now] W fun e w' => e = .returned (.bool (decide (0 ≤ now ∧ now ≤ 1000000000))) ∧ w' = W) := fun W => isTime_any W now
  rw [decide_eq_true hnow] at HT
  clear hC hnow
  obtain ⟨W0, e0, hB, k0, k1, k2⟩ := three_new w (.cells #[.bool c, .bool r0, .bool r1, .int .i64 t0, .int .i64 t1, .int .i64 u0, .int .i64 u1] 25) (.cells #[.bool false, .bool false, .bool false, .int .i64 0, .int .i64 0, .int .i64 0, .int .i64 0] 25) (.cells #[.int .i64 0, .int .i64 0] 27)
  have HX := hide hB; have HE := hide e0; have HD := hide k0; have HZ := hide k1; have HG := hide k2
  clear hB e0 k0 k1 k2
  go_enter Try.func15, Try.ntmps15
  go_upto_region 1 with fail
  rw [unhide HE]
  clear HE
  obtain ⟨⟨p0, p1, p2, p3, p4, p5, p6⟩, ⟨pf0, pf1, pf2, pf3, pf4, pf5, pf6⟩, pl⟩ := block7 (unhide HD)
  go_upto_region 2 with (go_at_call 6; refine (unhide HC _).mono ?_; rintro e w1 ⟨rfl, hb1⟩; have HX' := hide (Below.next (unhide HX) hb1 (Nat.le_refl _)); have HD' := hide (keep_below (unhide HD) hb1); have HZ' := hide (keep_below (unhide HZ) hb1); have HG' := hide (keep_below (unhide HG) hb1); clear p0 p1 p2 p3 p4 p5 p6 pf0 pf1 pf2 pf3 pf4 pf5 pf6 pl ; clear HX HD HZ HG hb1; have HX := HX'; have HD := HD'; have HZ := HZ'; have HG := HG'; clear HX' HD' HZ' HG')
  obtain ⟨W1, e1, hB1, k1⟩ := one_new w1 (.cells #[.int .i64 0, .int .i64 C1] 27)
  rw [e1]
  have HX' := hide (Below.next (unhide HX) hB1 (Nat.le_refl _))
  have HD' := hide (keep_below (unhide HD) hB1)
  have HZ' := hide (keep_below (unhide HZ) hB1)
  have HG' := hide (keep_below (unhide HG) hB1)
  have hlD_F := size_of (unhide HD)
  have hlZ_F := size_of (unhide HZ)
  have hlG_F := size_of (unhide HG)
  have HF := hide k1
  clear e1 hB1 k1 HX HD HZ HG
  have HX := HX'; have HD := HD'; have HZ := HZ'; have HG := HG'
  clear HX' HD' HZ' HG'
  obtain ⟨TF, eTF⟩ : ∃ X, w1.heap.size = X := ⟨_, rfl⟩
  rw [eTF] at HF hlD_F hlZ_F hlG_F ⊢
  clear eTF
  obtain ⟨f0, f1, ff0, ff1, fl⟩ := block2 (unhide HF)
  obtain ⟨g0, g1, gf0, gf1, gl⟩ := block2 (unhide HG)
  obtain ⟨⟨p0, p1, p2, p3, p4, p5, p6⟩, ⟨pf0, pf1, pf2, pf3, pf4, pf5, pf6⟩, pl⟩ := block7 (unhide HD)
  obtain ⟨⟨z0, z1, z2, z3, z4, z5, z6⟩, ⟨zf0, zf1, zf2, zf3, zf4, zf5, zf6⟩, zl⟩ := block7 (unhide HZ)
  have uf : w.heap.size + 1 + 1 ≠ TF := by omega
  have uf2 : TF ≠ w.heap.size + 1 + 1 := by omega
  have ug : w.heap.size + 1 ≠ TF := by omega
  have ug2 : TF ≠ w.heap.size + 1 := by omega
  go_upto_region 7 with (go_at_call 24; refine (unhide HT _).mono ?_; rintro e W1 ⟨rfl, rfl⟩)
  obtain ⟨W2, e2, hB2, k2, k3⟩ := two_new W1 (.cells #[] 3) (.cells #[.bool c, .bool r0, .bool r1, .int .i64 t0, .int .i64 t1, .int .i64 u0, .int .i64 u1] 25)
  rw [e2]
  have HO := hide (show Own KI W1.heap.size W2 (.slice (some ⟨W1.heap.size, 0, none⟩) 0 0) [] by rw [← e2]; exact (own_empty (K := KI) W1).below ((Below.refl _ _).alloc (Nat.le_refl _) _))
  have hlF2 := size_of (unhide HF)
  have HX' := hide (Below.next (unhide HX) hB2 (Nat.le_refl _))
  have HD' := hide (keep_below (unhide HD) hB2); have HZ' := hide (keep_below (unhide HZ) hB2); have HG' := hide (keep_below (unhide HG) hB2); have HH := hide k3
  have HBQ : Hid (w.heap.size ≤ W1.heap.size) := (unhide HX).size
  obtain ⟨S, eS⟩ : ∃ S, W1.heap.size = S := ⟨_, rfl⟩
  rw [eS] at HO HH hlF2 HBQ ⊢
  clear e2 hB2 k2 k3 eS HX HD HZ HG HF
  have HX := HX'; have HD := HD'; have HZ := HZ'; have HG := HG'
  clear HX' HD' HZ' HG' f0 f1 ff0 ff1 fl uf uf2 ug ug2
  clear p0 p1 p2 p3 p4 p5 p6 pf0 pf1 pf2 pf3 pf4 pf5 pf6 pl
  clear z0 z1 z2 z3 z4 z5 z6 zf0 zf1 zf2 zf3 zf4 zf5 zf6 zl g0 g1 gf0 gf1 gl
  obtain ⟨T, eT⟩ : ∃ T, S + 1 = T := ⟨_, rfl⟩
  rw [eT] at HH ⊢
  have hST : S < T := by omega
  clear eT
  obtain ⟨⟨p0, p1, p2, p3, p4, p5, p6⟩, ⟨pf0, pf1, pf2, pf3, pf4, pf5, pf6⟩, pl⟩ := block7 (unhide HD)
  go_wp2
  refine wp_loop_rounds 3 ?_
  rw [rounds_succ]
  go_wp2_with fail
  rw [rounds_succ]
  go_wp2_with fail
  rw [rounds_succ]
  obtain ⟨⟨h0, h1, h2, h3, h4, h5, h6⟩, ⟨hf0, hf1, hf2, hf3, hf4, hf5, hf6⟩, hl⟩ := block7 (unhide HH)
  obtain ⟨⟨z0, z1, z2, z3, z4, z5, z6⟩, ⟨zf0, zf1, zf2, zf3, zf4, zf5, zf6⟩, zl⟩ := block7 (unhide HZ)
  obtain ⟨g0, g1, gf0, gf1, gl⟩ := block2 (unhide HG)
  have uh : w.heap.size + 1 + 1 ≠ T := by omega
  have uh2 : T ≠ w.heap.size + 1 + 1 := by omega
  have ui : w.heap.size + 1 ≠ T := by omega
  have ui2 : T ≠ w.heap.size + 1 := by omega
  go_wp2_with fail
  have HO2 := hide ((unhide HO).base (unhide HBQ))
  refine bodyPost_ret (v := .tuple #[.agg #[.bool c, .bool r0, .bool r1, .int .i64 t0, .int .i64 t1, .int .i64 u0, .int .i64 u1], .slice (some ⟨S, 0, none⟩) 0 0, .agg #[.int .i64 0, .int .i64 0]]) (by simp [results, Try.results15, go_sem, g0, g1, z0, z1, z2, z3, z4, z5, z6]) rfl ⟨_, _, rfl, ?_, (by repeat (first | with_reducible exact unhide HX | with_reducible refine drew_below ?_ | (with_reducible refine below_set ?_ (by omega) _)))⟩
  refine (unhide HO2).keep (fun k hk => ?_)
  have q1 := Own.ne (unhide HO) (unhide HZ) (by decide) k hk
  have q2 := Own.ne (unhide HO) (unhide HG) (by decide) k hk
  repeat (rw [Below.heap_setCell _ _ _ _ (by first | simpa using q1 | simpa using q2)])

set_option maxRecDepth 100000 in
set_option maxHeartbeats 2000000 in
theorem tick_nl (w : World) (c r0 r1 : Bool) (t0 t1 u0 u1 now C1 : Int) (hC : descF c r0 r1 t0 t1 u0 u1 = (0, C1)) (hnow : 0 ≤ now ∧ now ≤ 1000000000) (hz0 : ¬ 0 < t0) (hz1 : 0 < t1) (hL1 : late u1 now = false) :
    Calls Try.prog 15 #[.agg #[.bool c, .bool r0, .bool r1, .int .i64 t0, .int .i64 t1, .int .i64 u0, .int .i64 u1], .int .i64 now] w fun e w' => ∃ a k, e = .returned (.tuple #[.agg #[.bool c, .bool r0, .bool r1, .int .i64 t0, .int .i64 t1, .int .i64 u0, .int .i64 u1], .slice a 0 k, .agg #[.int .i64 0, .int .i64 0]]) ∧ Own KI w.heap.size w' (.slice a 0 k) [] ∧ Below w.heap.size w w' := by
  have HC : Hid (∀ W, Calls Try.prog 6 #[.agg #[.bool c, .bool r0, .bool r1, .int .i64 t0, .int .i64 t1, .int .i64 u0, .int .i64 u1]] W fun e w' => e = .returned (.agg #[.int .i64 0, .int .i64 C1]) ∧ Below W.heap.size W w') := fun W => check_any W c r0 r1 t0 t1 u0 u1 0 C1 hC
  have HT : Hid (∀ W, Calls Try.prog 24 #[.int .i64 now] W fun e w' => e = .returned (.bool (decide (0 ≤ now ∧ now ≤ 1000000000))) ∧ w' = W) := fun W => isTime_any W now
  rw [decide_eq_true hnow] at HT
  have HL1 : Hid (∀ W, Calls Try.prog 20 #[.agg #[.bool c, .bool r0, .bool r1, .int .i64 t0, .int .i64 t1, .int .i64 u0, .int .i64 u1], .int .i64 1, .int .i64 now] W fun e w' => e = .returned (.bool (late u1 now)) ∧ Below W.heap.size W w') := fun W => lateOn1_any W c r0 r1 t0 t1 u0 u1 now
  rw [hL1] at HL1
  clear hL1
  clear hC hnow
  obtain ⟨W0, e0, hB, k0, k1, k2⟩ := three_new w (.cells #[.bool c, .bool r0, .bool r1, .int .i64 t0, .int .i64 t1, .int .i64 u0, .int .i64 u1] 25) (.cells #[.bool false, .bool false, .bool false, .int .i64 0, .int .i64 0, .int .i64 0, .int .i64 0] 25) (.cells #[.int .i64 0, .int .i64 0] 27)
  have HX := hide hB; have HE := hide e0; have HD := hide k0; have HZ := hide k1; have HG := hide k2
  clear hB e0 k0 k1 k2
  go_enter Try.func15, Try.ntmps15
  go_upto_region 1 with fail
  rw [unhide HE]
  clear HE
  obtain ⟨⟨p0, p1, p2, p3, p4, p5, p6⟩, ⟨pf0, pf1, pf2, pf3, pf4, pf5, pf6⟩, pl⟩ := block7 (unhide HD)
  go_upto_region 2 with (go_at_call 6; refine (unhide HC _).mono ?_; rintro e w1 ⟨rfl, hb1⟩; have HX' := hide (Below.next (unhide HX) hb1 (Nat.le_refl _)); have HD' := hide (keep_below (unhide HD) hb1); have HZ' := hide (keep_below (unhide HZ) hb1); have HG' := hide (keep_below (unhide HG) hb1); clear p0 p1 p2 p3 p4 p5 p6 pf0 pf1 pf2 pf3 pf4 pf5 pf6 pl ; clear HX HD HZ HG hb1; have HX := HX'; have HD := HD'; have HZ := HZ'; have HG := HG'; clear HX' HD' HZ' HG')
  obtain ⟨W1, e1, hB1, k1⟩ := one_new w1 (.cells #[.int .i64 0, .int .i64 C1] 27)
  rw [e1]
  have HX' := hide (Below.next (unhide HX) hB1 (Nat.le_refl _))
  have HD' := hide (keep_below (unhide HD) hB1)
  have HZ' := hide (keep_below (unhide HZ) hB1)
  have HG' := hide (keep_below (unhide HG) hB1)
  have hlD_F := size_of (unhide HD)
  have hlZ_F := size_of (unhide HZ)
  have hlG_F := size_of (unhide HG)
  have HF := hide k1
  clear e1 hB1 k1 HX HD HZ HG
  have HX := HX'; have HD := HD'; have HZ := HZ'; have HG := HG'
  clear HX' HD' HZ' HG'
  obtain ⟨TF, eTF⟩ : ∃ X, w1.heap.size = X := ⟨_, rfl⟩
  rw [eTF] at HF hlD_F hlZ_F hlG_F ⊢
  clear eTF
  obtain ⟨f0, f1, ff0, ff1, fl⟩ := block2 (unhide HF)
  obtain ⟨g0, g1, gf0, gf1, gl⟩ := block2 (unhide HG)
  obtain ⟨⟨p0, p1, p2, p3, p4, p5, p6⟩, ⟨pf0, pf1, pf2, pf3, pf4, pf5, pf6⟩, pl⟩ := block7 (unhide HD)
  obtain ⟨⟨z0, z1, z2, z3, z4, z5, z6⟩, ⟨zf0, zf1, zf2, zf3, zf4, zf5, zf6⟩, zl⟩ := block7 (unhide HZ)
  have uf : w.heap.size + 1 + 1 ≠ TF := by omega
  have uf2 : TF ≠ w.heap.size + 1 + 1 := by omega
  have ug : w.heap.size + 1 ≠ TF := by omega
  have ug2 : TF ≠ w.heap.size + 1 := by omega
  go_upto_region 7 with (go_at_call 24; refine (unhide HT _).mono ?_; rintro e W1 ⟨rfl, rfl⟩)
  obtain ⟨W2, e2, hB2, k2, k3⟩ := two_new W1 (.cells #[] 3) (.cells #[.bool c, .bool r0, .bool r1, .int .i64 t0, .int .i64 t1, .int .i64 u0, .int .i64 u1] 25)
  rw [e2]
  have HO := hide (show Own KI W1.heap.size W2 (.slice (some ⟨W1.heap.size, 0, none⟩) 0 0) [] by rw [← e2]; exact (own_empty (K := KI) W1).below ((Below.refl _ _).alloc (Nat.le_refl _) _))
  have hlF2 := size_of (unhide HF)
  have HX' := hide (Below.next (unhide HX) hB2 (Nat.le_refl _))
  have HD' := hide (keep_below (unhide HD) hB2); have HZ' := hide (keep_below (unhide HZ) hB2); have HG' := hide (keep_below (unhide HG) hB2); have HH := hide k3
  have HBQ : Hid (w.heap.size ≤ W1.heap.size) := (unhide HX).size
  obtain ⟨S, eS⟩ : ∃ S, W1.heap.size = S := ⟨_, rfl⟩
  rw [eS] at HO HH hlF2 HBQ ⊢
  clear e2 hB2 k2 k3 eS HX HD HZ HG HF
  have HX := HX'; have HD := HD'; have HZ := HZ'; have HG := HG'
  clear HX' HD' HZ' HG' f0 f1 ff0 ff1 fl uf uf2 ug ug2
  clear p0 p1 p2 p3 p4 p5 p6 pf0 pf1 pf2 pf3 pf4 pf5 pf6 pl
  clear z0 z1 z2 z3 z4 z5 z6 zf0 zf1 zf2 zf3 zf4 zf5 zf6 zl g0 g1 gf0 gf1 gl
  obtain ⟨T, eT⟩ : ∃ T, S + 1 = T := ⟨_, rfl⟩
  rw [eT] at HH ⊢
  have hST : S < T := by omega
  clear eT
  obtain ⟨⟨p0, p1, p2, p3, p4, p5, p6⟩, ⟨pf0, pf1, pf2, pf3, pf4, pf5, pf6⟩, pl⟩ := block7 (unhide HD)
  go_wp2
  refine wp_loop_rounds 3 ?_
  rw [rounds_succ]
  go_wp2_with fail
  rw [rounds_succ]
  go_wp2_with (go_at_call 20; refine (unhide HL1 _).mono ?_; rintro e v1 ⟨rfl, hb3⟩; have HO' := hide ((unhide HO).below hb3); have HX' := hide (Below.next (unhide HX) hb3 (Nat.le_refl _)); have HD' := hide (keep_below (unhide HD) hb3); have HZ' := hide (keep_below (unhide HZ) hb3); have HG' := hide (keep_below (unhide HG) hb3); have HH' := hide (keep_below (unhide HH) hb3); clear HX HD HZ HG HH hb3; have HX := HX'; have HD := HD'; have HZ := HZ'; have HG := HG'; have HH := HH'; clear HX' HD' HZ' HG' HH'; clear HO; have HO := HO'; clear HO'; clear p0 p1 p2 p3 p4 p5 p6 pf0 pf1 pf2 pf3 pf4 pf5 pf6 pl; obtain ⟨⟨p0, p1, p2, p3, p4, p5, p6⟩, ⟨pf0, pf1, pf2, pf3, pf4, pf5, pf6⟩, pl⟩ := block7 (unhide HD))
  rw [rounds_succ]
  obtain ⟨⟨h0, h1, h2, h3, h4, h5, h6⟩, ⟨hf0, hf1, hf2, hf3, hf4, hf5, hf6⟩, hl⟩ := block7 (unhide HH)
  obtain ⟨⟨z0, z1, z2, z3, z4, z5, z6⟩, ⟨zf0, zf1, zf2, zf3, zf4, zf5, zf6⟩, zl⟩ := block7 (unhide HZ)
  obtain ⟨g0, g1, gf0, gf1, gl⟩ := block2 (unhide HG)
  have uh : w.heap.size + 1 + 1 ≠ T := by omega
  have uh2 : T ≠ w.heap.size + 1 + 1 := by omega
  have ui : w.heap.size + 1 ≠ T := by omega
  have ui2 : T ≠ w.heap.size + 1 := by omega
  go_wp2_with fail
  have HO2 := hide ((unhide HO).base (unhide HBQ))
  refine bodyPost_ret (v := .tuple #[.agg #[.bool c, .bool r0, .bool r1, .int .i64 t0, .int .i64 t1, .int .i64 u0, .int .i64 u1], .slice (some ⟨S, 0, none⟩) 0 0, .agg #[.int .i64 0, .int .i64 0]]) (by simp [results, Try.results15, go_sem, g0, g1, z0, z1, z2, z3, z4, z5, z6]) rfl ⟨_, _, rfl, ?_, (by repeat (first | with_reducible exact unhide HX | with_reducible refine drew_below ?_ | (with_reducible refine below_set ?_ (by omega) _)))⟩
  refine (unhide HO2).keep (fun k hk => ?_)
  have q1 := Own.ne (unhide HO) (unhide HZ) (by decide) k hk
  have q2 := Own.ne (unhide HO) (unhide HG) (by decide) k hk
  repeat (rw [Below.heap_setCell _ _ _ _ (by first | simpa using q1 | simpa using q2)])

set_option maxRecDepth 100000 in
set_option maxHeartbeats 2000000 in
theorem tick_ng (w : World) (c r0 r1 : Bool) (t0 t1 u0 u1 now C1 : Int) (hC : descF c r0 r1 t0 t1 u0 u1 = (0, C1)) (hnow : 0 ≤ now ∧ now ≤ 1000000000) (hz0 : ¬ 0 < t0) (hz1 : 0 < t1) (hL1 : late u1 now = true) :
    Calls Try.prog 15 #[.agg #[.bool c, .bool r0, .bool r1, .int .i64 t0, .int .i64 t1, .int .i64 u0, .int .i64 u1], .int .i64 now] w fun e w' => ∃ a k, e = .returned (.tuple #[.agg #[.bool c, .bool r0, .bool r1, .int .i64 t0, .int .i64 0, .int .i64 u0, .int .i64 u1], .slice a 1 k, .agg #[.int .i64 0, .int .i64 0]]) ∧ Own KI w.heap.size w' (.slice a 1 k) [t1] ∧ Below w.heap.size w w' := by
  have HC : Hid (∀ W, Calls Try.prog 6 #[.agg #[.bool c, .bool r0, .bool r1, .int .i64 t0, .int .i64 t1, .int .i64 u0, .int .i64 u1]] W fun e w' => e = .returned (.agg #[.int .i64 0, .int .i64 C1]) ∧ Below W.heap.size W w') := fun W => check_any W c r0 r1 t0 t1 u0 u1 0 C1 hC
  have HT : Hid (∀ W, Calls Try.prog 24 #[.int .i64 now] W fun e w' => e = .returned (.bool (decide (0 ≤ now ∧ now ≤ 1000000000))) ∧ w' = W) := fun W => isTime_any W now
  rw [decide_eq_true hnow] at HT
  have HL1 : Hid (∀ W, Calls Try.prog 20 #[.agg #[.bool c, .bool r0, .bool r1, .int .i64 t0, .int .i64 t1, .int .i64 u0, .int .i64 u1], .int .i64 1, .int .i64 now] W fun e w' => e = .returned (.bool (late u1 now)) ∧ Below W.heap.size W w') := fun W => lateOn1_any W c r0 r1 t0 t1 u0 u1 now
  rw [hL1] at HL1
  clear hL1
  clear hC hnow
  obtain ⟨W0, e0, hB, k0, k1, k2⟩ := three_new w (.cells #[.bool c, .bool r0, .bool r1, .int .i64 t0, .int .i64 t1, .int .i64 u0, .int .i64 u1] 25) (.cells #[.bool false, .bool false, .bool false, .int .i64 0, .int .i64 0, .int .i64 0, .int .i64 0] 25) (.cells #[.int .i64 0, .int .i64 0] 27)
  have HX := hide hB; have HE := hide e0; have HD := hide k0; have HZ := hide k1; have HG := hide k2
  clear hB e0 k0 k1 k2
  go_enter Try.func15, Try.ntmps15
  go_upto_region 1 with fail
  rw [unhide HE]
  clear HE
  obtain ⟨⟨p0, p1, p2, p3, p4, p5, p6⟩, ⟨pf0, pf1, pf2, pf3, pf4, pf5, pf6⟩, pl⟩ := block7 (unhide HD)
  go_upto_region 2 with (go_at_call 6; refine (unhide HC _).mono ?_; rintro e w1 ⟨rfl, hb1⟩; have HX' := hide (Below.next (unhide HX) hb1 (Nat.le_refl _)); have HD' := hide (keep_below (unhide HD) hb1); have HZ' := hide (keep_below (unhide HZ) hb1); have HG' := hide (keep_below (unhide HG) hb1); clear p0 p1 p2 p3 p4 p5 p6 pf0 pf1 pf2 pf3 pf4 pf5 pf6 pl ; clear HX HD HZ HG hb1; have HX := HX'; have HD := HD'; have HZ := HZ'; have HG := HG'; clear HX' HD' HZ' HG')
  obtain ⟨W1, e1, hB1, k1⟩ := one_new w1 (.cells #[.int .i64 0, .int .i64 C1] 27)
  rw [e1]
  have HX' := hide (Below.next (unhide HX) hB1 (Nat.le_refl _))
  have HD' := hide (keep_below (unhide HD) hB1)
  have HZ' := hide (keep_below (unhide HZ) hB1)
  have HG' := hide (keep_below (unhide HG) hB1)
  have hlD_F := size_of (unhide HD)
  have hlZ_F := size_of (unhide HZ)
  have hlG_F := size_of (unhide HG)
  have HF := hide k1
  clear e1 hB1 k1 HX HD HZ HG
  have HX := HX'; have HD := HD'; have HZ := HZ'; have HG := HG'
  clear HX' HD' HZ' HG'
  obtain ⟨TF, eTF⟩ : ∃ X, w1.heap.size = X := ⟨_, rfl⟩
  rw [eTF] at HF hlD_F hlZ_F hlG_F ⊢
  clear eTF
  obtain ⟨f0, f1, ff0, ff1, fl⟩ := block2 (unhide HF)
  obtain ⟨g0, g1, gf0, gf1, gl⟩ := block2 (unhide HG)
  obtain ⟨⟨p0, p1, p2, p3, p4, p5, p6⟩, ⟨pf0, pf1, pf2, pf3, pf4, pf5, pf6⟩, pl⟩ := block7 (unhide HD)
  obtain ⟨⟨z0, z1, z2, z3, z4, z5, z6⟩, ⟨zf0, zf1, zf2, zf3, zf4, zf5, zf6⟩, zl⟩ := block7 (unhide HZ)
  have uf : w.heap.size + 1 + 1 ≠ TF := by omega
  have uf2 : TF ≠ w.heap.size + 1 + 1 := by omega
  have ug : w.heap.size + 1 ≠ TF := by omega
  have ug2 : TF ≠ w.heap.size + 1 := by omega
  go_upto_region 7 with (go_at_call 24; refine (unhide HT _).mono ?_; rintro e W1 ⟨rfl, rfl⟩)
  obtain ⟨W2, e2, hB2, k2, k3⟩ := two_new W1 (.cells #[] 3) (.cells #[.bool c, .bool r0, .bool r1, .int .i64 t0, .int .i64 t1, .int .i64 u0, .int .i64 u1] 25)
  rw [e2]
  have HO := hide (show Own KI W1.heap.size W2 (.slice (some ⟨W1.heap.size, 0, none⟩) 0 0) [] by rw [← e2]; exact (own_empty (K := KI) W1).below ((Below.refl _ _).alloc (Nat.le_refl _) _))
  have hlF2 := size_of (unhide HF)
  have HX' := hide (Below.next (unhide HX) hB2 (Nat.le_refl _))
  have HD' := hide (keep_below (unhide HD) hB2); have HZ' := hide (keep_below (unhide HZ) hB2); have HG' := hide (keep_below (unhide HG) hB2); have HH := hide k3
  have HBQ : Hid (w.heap.size ≤ W1.heap.size) := (unhide HX).size
  obtain ⟨S, eS⟩ : ∃ S, W1.heap.size = S := ⟨_, rfl⟩
  rw [eS] at HO HH hlF2 HBQ ⊢
  clear e2 hB2 k2 k3 eS HX HD HZ HG HF
  have HX := HX'; have HD := HD'; have HZ := HZ'; have HG := HG'
  clear HX' HD' HZ' HG' f0 f1 ff0 ff1 fl uf uf2 ug ug2
  clear p0 p1 p2 p3 p4 p5 p6 pf0 pf1 pf2 pf3 pf4 pf5 pf6 pl
  clear z0 z1 z2 z3 z4 z5 z6 zf0 zf1 zf2 zf3 zf4 zf5 zf6 zl g0 g1 gf0 gf1 gl
  obtain ⟨T, eT⟩ : ∃ T, S + 1 = T := ⟨_, rfl⟩
  rw [eT] at HH ⊢
  have hST : S < T := by omega
  clear eT
  obtain ⟨⟨p0, p1, p2, p3, p4, p5, p6⟩, ⟨pf0, pf1, pf2, pf3, pf4, pf5, pf6⟩, pl⟩ := block7 (unhide HD)
  go_wp2
  refine wp_loop_rounds 3 ?_
  rw [rounds_succ]
  go_wp2_with fail
  rw [rounds_succ]
  go_upto_region 11 with (go_at_call 20; refine (unhide HL1 _).mono ?_; rintro e v1 ⟨rfl, hb3⟩; have HO' := hide ((unhide HO).below hb3); have HX' := hide (Below.next (unhide HX) hb3 (Nat.le_refl _)); have HD' := hide (keep_below (unhide HD) hb3); have HZ' := hide (keep_below (unhide HZ) hb3); have HG' := hide (keep_below (unhide HG) hb3); have HH' := hide (keep_below (unhide HH) hb3); clear HX HD HZ HG HH hb3; have HX := HX'; have HD := HD'; have HZ := HZ'; have HG := HG'; have HH := HH'; clear HX' HD' HZ' HG' HH'; clear HO; have HO := HO'; clear HO'; clear p0 p1 p2 p3 p4 p5 p6 pf0 pf1 pf2 pf3 pf4 pf5 pf6 pl; obtain ⟨⟨p0, p1, p2, p3, p4, p5, p6⟩, ⟨pf0, pf1, pf2, pf3, pf4, pf5, pf6⟩, pl⟩ := block7 (unhide HD))
  have HBS := hide (show S ≤ v1.heap.size by have := size_of (unhide HH); omega)
  go_upto_region 12 with (at_builtin; refine wpList_append ki rfl (.tmp 39) (.tmp 44) rfl S _ [] rfl ((unhide HO).below ((Below.refl _ _).alloc (Nat.le_refl _) (.cells #[.int .i64 t1] 3))) _ [t1] rfl (isl_one ki _ t1) 1 rfl (by decide) (by have := unhide HBS; have := (unhide HX).size; simp; omega) ?_; intro a1 c1 x1 ho hg; have HX' := hide (((unhide HX).alloc (unhide HX).size (.cells #[.int .i64 t1] 3)).grown hg ((unhide HX).alloc (unhide HX).size (.cells #[.int .i64 t1] 3)).size (fun k hk => by have := ((unhide HO).lt k hk).1; have := unhide HBQ; omega)); have HD' := hide (keep_grown (keep_alloc (unhide HD) (.cells #[.int .i64 t1] 3)) hg (fun j hj => Own.ne ((unhide HO).below ((Below.refl _ _).alloc (Nat.le_refl _) (.cells #[.int .i64 t1] 3))) (keep_alloc (unhide HD) (.cells #[.int .i64 t1] 3)) (by decide) j hj)); have HZ' := hide (keep_grown (keep_alloc (unhide HZ) (.cells #[.int .i64 t1] 3)) hg (fun j hj => Own.ne ((unhide HO).below ((Below.refl _ _).alloc (Nat.le_refl _) (.cells #[.int .i64 t1] 3))) (keep_alloc (unhide HZ) (.cells #[.int .i64 t1] 3)) (by decide) j hj)); have HG' := hide (keep_grown (keep_alloc (unhide HG) (.cells #[.int .i64 t1] 3)) hg (fun j hj => Own.ne ((unhide HO).below ((Below.refl _ _).alloc (Nat.le_refl _) (.cells #[.int .i64 t1] 3))) (keep_alloc (unhide HG) (.cells #[.int .i64 t1] 3)) (by decide) j hj)); have HH' := hide (keep_grown (keep_alloc (unhide HH) (.cells #[.int .i64 t1] 3)) hg (fun j hj => Own.ne ((unhide HO).below ((Below.refl _ _).alloc (Nat.le_refl _) (.cells #[.int .i64 t1] 3))) (keep_alloc (unhide HH) (.cells #[.int .i64 t1] 3)) (by decide) j hj)); have HO' := hide ho; clear p0 p1 p2 p3 p4 p5 p6 pf0 pf1 pf2 pf3 pf4 pf5 pf6 pl; clear HX HD HZ HG HH HO hg ho; have HX := HX'; have HD := HD'; have HZ := HZ'; have HG := HG'; have HH := HH'; have HO := HO'; clear HX' HO' HD' HZ' HG' HH'; have HBS := hide (Nat.le_trans (unhide HBS) (Nat.le_refl _)); obtain ⟨⟨p0, p1, p2, p3, p4, p5, p6⟩, ⟨pf0, pf1, pf2, pf3, pf4, pf5, pf6⟩, pl⟩ := block7 (unhide HD))
  obtain ⟨⟨h0, h1, h2, h3, h4, h5, h6⟩, ⟨hf0, hf1, hf2, hf3, hf4, hf5, hf6⟩, hl⟩ := block7 (unhide HH)
  go_wp2_with fail
  clear h0 h1 h2 h3 h4 h5 h6 hf0 hf1 hf2 hf3 hf4 hf5 hf6 hl
  have HO' := hide ((unhide HO).keep (fun k hk => Below.heap_setCell x1 ⟨T, 4, none⟩ (.int .i64 0) k (by have := Own.ne (unhide HO) (unhide HH) (by decide) k hk; simpa using this)))
  have HX' := hide (below_set (i := 4) (unhide HX) (show w.heap.size ≤ T by omega) (.int .i64 0))
  have HH' := hide (set_block7 (i := 4) (y := .int .i64 0) (unhide HH))
  have HD' := hide (keep_set (g := T) (o := 4) (v := .int .i64 0) (unhide HD) (by omega))
  have HZ' := hide (keep_set (g := T) (o := 4) (v := .int .i64 0) (unhide HZ) (by omega))
  have HG' := hide (keep_set (g := T) (o := 4) (v := .int .i64 0) (unhide HG) (by omega))
  clear p0 p1 p2 p3 p4 p5 p6 pf0 pf1 pf2 pf3 pf4 pf5 pf6 pl
  clear HX HD HZ HG HH HO HBS
  obtain ⟨y1, ey1⟩ : ∃ X, x1.setCell ⟨T, 4, none⟩ (.int .i64 0) = X := ⟨_, rfl⟩
  rw [ey1] at HX' HD' HZ' HG' HH' HO' ⊢
  clear ey1
  simp only [List.setIfInBounds_toArray, List.set_cons_zero, List.set_cons_succ] at HH'
  have HX := HX'; have HD := HD'; have HZ := HZ'; have HG := HG'; have HH := HH'; have HO := HO'
  clear HX' HD' HZ' HG' HH' HO'
  obtain ⟨⟨p0, p1, p2, p3, p4, p5, p6⟩, ⟨pf0, pf1, pf2, pf3, pf4, pf5, pf6⟩, pl⟩ := block7 (unhide HD)
  rw [rounds_succ]
  obtain ⟨⟨h0, h1, h2, h3, h4, h5, h6⟩, ⟨hf0, hf1, hf2, hf3, hf4, hf5, hf6⟩, hl⟩ := block7 (unhide HH)
  obtain ⟨⟨z0, z1, z2, z3, z4, z5, z6⟩, ⟨zf0, zf1, zf2, zf3, zf4, zf5, zf6⟩, zl⟩ := block7 (unhide HZ)
  obtain ⟨g0, g1, gf0, gf1, gl⟩ := block2 (unhide HG)
  have uh : w.heap.size + 1 + 1 ≠ T := by omega
  have uh2 : T ≠ w.heap.size + 1 + 1 := by omega
  have ui : w.heap.size + 1 ≠ T := by omega
  have ui2 : T ≠ w.heap.size + 1 := by omega
  go_wp2_with fail
  have HO2 := hide ((unhide HO).base (unhide HBQ))
  refine bodyPost_ret (v := .tuple #[.agg #[.bool c, .bool r0, .bool r1, .int .i64 t0, .int .i64 0, .int .i64 u0, .int .i64 u1], .slice a1 1 c1, .agg #[.int .i64 0, .int .i64 0]]) (by simp [results, Try.results15, go_sem, g0, g1, z0, z1, z2, z3, z4, z5, z6]) rfl ⟨_, _, rfl, ?_, (by repeat (first | with_reducible exact unhide HX | with_reducible refine drew_below ?_ | (with_reducible refine below_set ?_ (by omega) _)))⟩
  refine (unhide HO2).keep (fun k hk => ?_)
  have q1 := Own.ne (unhide HO) (unhide HZ) (by decide) k hk
  have q2 := Own.ne (unhide HO) (unhide HG) (by decide) k hk
  repeat (rw [Below.heap_setCell _ _ _ _ (by first | simpa using q1 | simpa using q2)])

set_option maxRecDepth 100000 in
set_option maxHeartbeats 2000000 in
theorem tick_ln (w : World) (c r0 r1 : Bool) (t0 t1 u0 u1 now C1 : Int) (hC : descF c r0 r1 t0 t1 u0 u1 = (0, C1)) (hnow : 0 ≤ now ∧ now ≤ 1000000000) (hz0 : 0 < t0) (hL0 : late u0 now = false) (hz1 : ¬ 0 < t1) :
    Calls Try.prog 15 #[.agg #[.bool c, .bool r0, .bool r1, .int .i64 t0, .int .i64 t1, .int .i64 u0, .int .i64 u1], .int .i64 now] w fun e w' => ∃ a k, e = .returned (.tuple #[.agg #[.bool c, .bool r0, .bool r1, .int .i64 t0, .int .i64 t1, .int .i64 u0, .int .i64 u1], .slice a 0 k, .agg #[.int .i64 0, .int .i64 0]]) ∧ Own KI w.heap.size w' (.slice a 0 k) [] ∧ Below w.heap.size w w' := by
  have HC : Hid (∀ W, Calls Try.prog 6 #[.agg #[.bool c, .bool r0, .bool r1, .int .i64 t0, .int .i64 t1, .int .i64 u0, .int .i64 u1]] W fun e w' => e = .returned (.agg #[.int .i64 0, .int .i64 C1]) ∧ Below W.heap.size W w') := fun W => check_any W c r0 r1 t0 t1 u0 u1 0 C1 hC
  have HT : Hid (∀ W, Calls Try.prog 24 #[.int .i64 now] W fun e w' => e = .returned (.bool (decide (0 ≤ now ∧ now ≤ 1000000000))) ∧ w' = W) := fun W => isTime_any W now
  rw [decide_eq_true hnow] at HT
  have HL0 : Hid (∀ W, Calls Try.prog 20 #[.agg #[.bool c, .bool r0, .bool r1, .int .i64 t0, .int .i64 t1, .int .i64 u0, .int .i64 u1], .int .i64 0, .int .i64 now] W fun e w' => e = .returned (.bool (late u0 now)) ∧ Below W.heap.size W w') := fun W => lateOn0_any W c r0 r1 t0 t1 u0 u1 now
  rw [hL0] at HL0
  clear hL0
  clear hC hnow
  obtain ⟨W0, e0, hB, k0, k1, k2⟩ := three_new w (.cells #[.bool c, .bool r0, .bool r1, .int .i64 t0, .int .i64 t1, .int .i64 u0, .int .i64 u1] 25) (.cells #[.bool false, .bool false, .bool false, .int .i64 0, .int .i64 0, .int .i64 0, .int .i64 0] 25) (.cells #[.int .i64 0, .int .i64 0] 27)
  have HX := hide hB; have HE := hide e0; have HD := hide k0; have HZ := hide k1; have HG := hide k2
  clear hB e0 k0 k1 k2
  go_enter Try.func15, Try.ntmps15
  go_upto_region 1 with fail
  rw [unhide HE]
  clear HE
  obtain ⟨⟨p0, p1, p2, p3, p4, p5, p6⟩, ⟨pf0, pf1, pf2, pf3, pf4, pf5, pf6⟩, pl⟩ := block7 (unhide HD)
  go_upto_region 2 with (go_at_call 6; refine (unhide HC _).mono ?_; rintro e w1 ⟨rfl, hb1⟩; have HX' := hide (Below.next (unhide HX) hb1 (Nat.le_refl _)); have HD' := hide (keep_below (unhide HD) hb1); have HZ' := hide (keep_below (unhide HZ) hb1); have HG' := hide (keep_below (unhide HG) hb1); clear p0 p1 p2 p3 p4 p5 p6 pf0 pf1 pf2 pf3 pf4 pf5 pf6 pl ; clear HX HD HZ HG hb1; have HX := HX'; have HD := HD'; have HZ := HZ'; have HG := HG'; clear HX' HD' HZ' HG')
  obtain ⟨W1, e1, hB1, k1⟩ := one_new w1 (.cells #[.int .i64 0, .int .i64 C1] 27)
  rw [e1]
  have HX' := hide (Below.next (unhide HX) hB1 (Nat.le_refl _))
  have HD' := hide (keep_below (unhide HD) hB1)
  have HZ' := hide (keep_below (unhide HZ) hB1)
  have HG' := hide (keep_below (unhide HG) hB1)
  have hlD_F := size_of (unhide HD)
  have hlZ_F := size_of (unhide HZ)
  have hlG_F := size_of (unhide HG)
  have HF := hide k1
  clear e1 hB1 k1 HX HD HZ HG
  have HX := HX'; have HD := HD'; have HZ := HZ'; have HG := HG'
  clear HX' HD' HZ' HG'
  obtain ⟨TF, eTF⟩ : ∃ X, w1.heap.size = X := ⟨_, rfl⟩
  rw [eTF] at HF hlD_F hlZ_F hlG_F ⊢
  clear eTF
  obtain ⟨f0, f1, ff0, ff1, fl⟩ := block2 (unhide HF)
  obtain ⟨g0, g1, gf0, gf1, gl⟩ := block2 (unhide HG)
  obtain ⟨⟨p0, p1, p2, p3, p4, p5, p6⟩, ⟨pf0, pf1, pf2, pf3, pf4, pf5, pf6⟩, pl⟩ := block7 (unhide HD)
  obtain ⟨⟨z0, z1, z2, z3, z4, z5, z6⟩, ⟨zf0, zf1, zf2, zf3, zf4, zf5, zf6⟩, zl⟩ := block7 (unhide HZ)
  have uf : w.heap.size + 1 + 1 ≠ TF := by omega
  have uf2 : TF ≠ w.heap.size + 1 + 1 := by omega
  have ug : w.heap.size + 1 ≠ TF := by omega
  have ug2 : TF ≠ w.heap.size + 1 := by omega
  go_upto_region 7 with (go_at_call 24; refine (unhide HT _).mono ?_; rintro e W1 ⟨rfl, rfl⟩)
  obtain ⟨W2, e2, hB2, k2, k3⟩ := two_new W1 (.cells #[] 3) (.cells #[.bool c, .bool r0, .bool r1, .int .i64 t0, .int .i64 t1, .int .i64 u0, .int .i64 u1] 25)
  rw [e2]
  have HO := hide (show Own KI W1.heap.size W2 (.slice (some ⟨W1.heap.size, 0, none⟩) 0 0) [] by rw [← e2]; exact (own_empty (K := KI) W1).below ((Below.refl _ _).alloc (Nat.le_refl _) _))
  have hlF2 := size_of (unhide HF)
  have HX' := hide (Below.next (unhide HX) hB2 (Nat.le_refl _))
  have HD' := hide (keep_below (unhide HD) hB2); have HZ' := hide (keep_below (unhide HZ) hB2); have HG' := hide (keep_below (unhide HG) hB2); have HH := hide k3
  have HBQ : Hid (w.heap.size ≤ W1.heap.size) := (unhide HX).size
  obtain ⟨S, eS⟩ : ∃ S, W1.heap.size = S := ⟨_, rfl⟩
  rw [eS] at HO HH hlF2 HBQ ⊢
  clear e2 hB2 k2 k3 eS HX HD HZ HG HF
  have HX := HX'; have HD := HD'; have HZ := HZ'; have HG := HG'
  clear HX' HD' HZ' HG' f0 f1 ff0 ff1 fl uf uf2 ug ug2
  clear p0 p1 p2 p3 p4 p5 p6 pf0 pf1 pf2 pf3 pf4 pf5 pf6 pl
  clear z0 z1 z2 z3 z4 z5 z6 zf0 zf1 zf2 zf3 zf4 zf5 zf6 zl g0 g1 gf0 gf1 gl
  obtain ⟨T, eT⟩ : ∃ T, S + 1 = T := ⟨_, rfl⟩
  rw [eT] at HH ⊢
  have hST : S < T := by omega
  clear eT
  obtain ⟨⟨p0, p1, p2, p3, p4, p5, p6⟩, ⟨pf0, pf1, pf2, pf3, pf4, pf5, pf6⟩, pl⟩ := block7 (unhide HD)
  go_wp2
  refine wp_loop_rounds 3 ?_
  rw [rounds_succ]
  go_wp2_with (go_at_call 20; refine (unhide HL0 _).mono ?_; rintro e v0 ⟨rfl, hb3⟩; have HO' := hide ((unhide HO).below hb3); have HX' := hide (Below.next (unhide HX) hb3 (Nat.le_refl _)); have HD' := hide (keep_below (unhide HD) hb3); have HZ' := hide (keep_below (unhide HZ) hb3); have HG' := hide (keep_below (unhide HG) hb3); have HH' := hide (keep_below (unhide HH) hb3); clear HX HD HZ HG HH hb3; have HX := HX'; have HD := HD'; have HZ := HZ'; have HG := HG'; have HH := HH'; clear HX' HD' HZ' HG' HH'; clear HO; have HO := HO'; clear HO'; clear p0 p1 p2 p3 p4 p5 p6 pf0 pf1 pf2 pf3 pf4 pf5 pf6 pl; obtain ⟨⟨p0, p1, p2, p3, p4, p5, p6⟩, ⟨pf0, pf1, pf2, pf3, pf4, pf5, pf6⟩, pl⟩ := block7 (unhide HD))
  rw [rounds_succ]
  go_wp2_with fail
  rw [rounds_succ]
  obtain ⟨⟨h0, h1, h2, h3, h4, h5, h6⟩, ⟨hf0, hf1, hf2, hf3, hf4, hf5, hf6⟩, hl⟩ := block7 (unhide HH)
  obtain ⟨⟨z0, z1, z2, z3, z4, z5, z6⟩, ⟨zf0, zf1, zf2, zf3, zf4, zf5, zf6⟩, zl⟩ := block7 (unhide HZ)
  obtain ⟨g0, g1, gf0, gf1, gl⟩ := block2 (unhide HG)
  have uh : w.heap.size + 1 + 1 ≠ T := by omega
  have uh2 : T ≠ w.heap.size + 1 + 1 := by omega
  have ui : w.heap.size + 1 ≠ T := by omega
  have ui2 : T ≠ w.heap.size + 1 := by omega
  go_wp2_with fail
  have HO2 := hide ((unhide HO).base (unhide HBQ))
  refine bodyPost_ret (v := .tuple #[.agg #[.bool c, .bool r0, .bool r1, .int .i64 t0, .int .i64 t1, .int .i64 u0, .int .i64 u1], .slice (some ⟨S, 0, none⟩) 0 0, .agg #[.int .i64 0, .int .i64 0]]) (by simp [results, Try.results15, go_sem, g0, g1, z0, z1, z2, z3, z4, z5, z6]) rfl ⟨_, _, rfl, ?_, (by repeat (first | with_reducible exact unhide HX | with_reducible refine drew_below ?_ | (with_reducible refine below_set ?_ (by omega) _)))⟩
  refine (unhide HO2).keep (fun k hk => ?_)
  have q1 := Own.ne (unhide HO) (unhide HZ) (by decide) k hk
  have q2 := Own.ne (unhide HO) (unhide HG) (by decide) k hk
  repeat (rw [Below.heap_setCell _ _ _ _ (by first | simpa using q1 | simpa using q2)])

set_option maxRecDepth 100000 in
set_option maxHeartbeats 2000000 in
theorem tick_ll (w : World) (c r0 r1 : Bool) (t0 t1 u0 u1 now C1 : Int) (hC : descF c r0 r1 t0 t1 u0 u1 = (0, C1)) (hnow : 0 ≤ now ∧ now ≤ 1000000000) (hz0 : 0 < t0) (hL0 : late u0 now = false) (hz1 : 0 < t1) (hL1 : late u1 now = false) :
    Calls Try.prog 15 #[.agg #[.bool c, .bool r0, .bool r1, .int .i64 t0, .int .i64 t1, .int .i64 u0, .int .i64 u1], .int .i64 now] w fun e w' => ∃ a k, e = .returned (.tuple #[.agg #[.bool c, .bool r0, .bool r1, .int .i64 t0, .int .i64 t1, .int .i64 u0, .int .i64 u1], .slice a 0 k, .agg #[.int .i64 0, .int .i64 0]]) ∧ Own KI w.heap.size w' (.slice a 0 k) [] ∧ Below w.heap.size w w' := by
  have HC : Hid (∀ W, Calls Try.prog 6 #[.agg #[.bool c, .bool r0, .bool r1, .int .i64 t0, .int .i64 t1, .int .i64 u0, .int .i64 u1]] W fun e w' => e = .returned (.agg #[.int .i64 0, .int .i64 C1]) ∧ Below W.heap.size W w') := fun W => check_any W c r0 r1 t0 t1 u0 u1 0 C1 hC
  have HT : Hid (∀ W, Calls Try.prog 24 #[.int .i64 now] W fun e w' => e = .returned (.bool (decide (0 ≤ now ∧ now ≤ 1000000000))) ∧ w' = W) := fun W => isTime_any W now
  rw [decide_eq_true hnow] at HT
  have HL0 : Hid (∀ W, Calls Try.prog 20 #[.agg #[.bool c, .bool r0, .bool r1, .int .i64 t0, .int .i64 t1, .int .i64 u0, .int .i64 u1], .int .i64 0, .int .i64 now] W fun e w' => e = .returned (.bool (late u0 now)) ∧ Below W.heap.size W w') := fun W => lateOn0_any W c r0 r1 t0 t1 u0 u1 now
  rw [hL0] at HL0
  clear hL0
  have HL1 : Hid (∀ W, Calls Try.prog 20 #[.agg #[.bool c, .bool r0, .bool r1, .int .i64 t0, .int .i64 t1, .int .i64 u0, .int .i64 u1], .int .i64 1, .int .i64 now] W fun e w' => e = .returned (.bool (late u1 now)) ∧ Below W.heap.size W w') := fun W => lateOn1_any W c r0 r1 t0 t1 u0 u1 now
  rw [hL1] at HL1
  clear hL1
  clear hC hnow
  obtain ⟨W0, e0, hB, k0, k1, k2⟩ := three_new w (.cells #[.bool c, .bool r0, .bool r1, .int .i64 t0, .int .i64 t1, .int .i64 u0, .int .i64 u1] 25) (.cells #[.bool false, .bool false, .bool false, .int .i64 0, .int .i64 0, .int .i64 0, .int .i64 0] 25) (.cells #[.int .i64 0, .int .i64 0] 27)
  have HX := hide hB; have HE := hide e0; have HD := hide k0; have HZ := hide k1; have HG := hide k2
  clear hB e0 k0 k1 k2
  go_enter Try.func15, Try.ntmps15
  go_upto_region 1 with fail
  rw [unhide HE]
  clear HE
  obtain ⟨⟨p0, p1, p2, p3, p4, p5, p6⟩, ⟨pf0, pf1, pf2, pf3, pf4, pf5, pf6⟩, pl⟩ := block7 (unhide HD)
  go_upto_region 2 with (go_at_call 6; refine (unhide HC _).mono ?_; rintro e w1 ⟨rfl, hb1⟩; have HX' := hide (Below.next (unhide HX) hb1 (Nat.le_refl _)); have HD' := hide (keep_below (unhide HD) hb1); have HZ' := hide (keep_below (unhide HZ) hb1); have HG' := hide (keep_below (unhide HG) hb1); clear p0 p1 p2 p3 p4 p5 p6 pf0 pf1 pf2 pf3 pf4 pf5 pf6 pl ; clear HX HD HZ HG hb1; have HX := HX'; have HD := HD'; have HZ := HZ'; have HG := HG'; clear HX' HD' HZ' HG')
  obtain ⟨W1, e1, hB1, k1⟩ := one_new w1 (.cells #[.int .i64 0, .int .i64 C1] 27)
  rw [e1]
  have HX' := hide (Below.next (unhide HX) hB1 (Nat.le_refl _))
  have HD' := hide (keep_below (unhide HD) hB1)
  have HZ' := hide (keep_below (unhide HZ) hB1)
  have HG' := hide (keep_below (unhide HG) hB1)
  have hlD_F := size_of (unhide HD)
  have hlZ_F := size_of (unhide HZ)
  have hlG_F := size_of (unhide HG)
  have HF := hide k1
  clear e1 hB1 k1 HX HD HZ HG
  have HX := HX'; have HD := HD'; have HZ := HZ'; have HG := HG'
  clear HX' HD' HZ' HG'
  obtain ⟨TF, eTF⟩ : ∃ X, w1.heap.size = X := ⟨_, rfl⟩
  rw [eTF] at HF hlD_F hlZ_F hlG_F ⊢
  clear eTF
  obtain ⟨f0, f1, ff0, ff1, fl⟩ := block2 (unhide HF)
  obtain ⟨g0, g1, gf0, gf1, gl⟩ := block2 (unhide HG)
  obtain ⟨⟨p0, p1, p2, p3, p4, p5, p6⟩, ⟨pf0, pf1, pf2, pf3, pf4, pf5, pf6⟩, pl⟩ := block7 (unhide HD)
  obtain ⟨⟨z0, z1, z2, z3, z4, z5, z6⟩, ⟨zf0, zf1, zf2, zf3, zf4, zf5, zf6⟩, zl⟩ := block7 (unhide HZ)
  have uf : w.heap.size + 1 + 1 ≠ TF := by omega
  have uf2 : TF ≠ w.heap.size + 1 + 1 := by omega
  have ug : w.heap.size + 1 ≠ TF := by omega
  have ug2 : TF ≠ w.heap.size + 1 := by omega
  go_upto_region 7 with (go_at_call 24; refine (unhide HT _).mono ?_; rintro e W1 ⟨rfl, rfl⟩)
  obtain ⟨W2, e2, hB2, k2, k3⟩ := two_new W1 (.cells #[] 3) (.cells #[.bool c, .bool r0, .bool r1, .int .i64 t0, .int .i64 t1, .int .i64 u0, .int .i64 u1] 25)
  rw [e2]
  have HO := hide (show Own KI W1.heap.size W2 (.slice (some ⟨W1.heap.size, 0, none⟩) 0 0) [] by rw [← e2]; exact (own_empty (K := KI) W1).below ((Below.refl _ _).alloc (Nat.le_refl _) _))
  have hlF2 := size_of (unhide HF)
  have HX' := hide (Below.next (unhide HX) hB2 (Nat.le_refl _))
  have HD' := hide (keep_below (unhide HD) hB2); have HZ' := hide (keep_below (unhide HZ) hB2); have HG' := hide (keep_below (unhide HG) hB2); have HH := hide k3
  have HBQ : Hid (w.heap.size ≤ W1.heap.size) := (unhide HX).size
  obtain ⟨S, eS⟩ : ∃ S, W1.heap.size = S := ⟨_, rfl⟩
  rw [eS] at HO HH hlF2 HBQ ⊢
  clear e2 hB2 k2 k3 eS HX HD HZ HG HF
  have HX := HX'; have HD := HD'; have HZ := HZ'; have HG := HG'
  clear HX' HD' HZ' HG' f0 f1 ff0 ff1 fl uf uf2 ug ug2
  clear p0 p1 p2 p3 p4 p5 p6 pf0 pf1 pf2 pf3 pf4 pf5 pf6 pl
  clear z0 z1 z2 z3 z4 z5 z6 zf0 zf1 zf2 zf3 zf4 zf5 zf6 zl g0 g1 gf0 gf1 gl
  obtain ⟨T, eT⟩ : ∃ T, S + 1 = T := ⟨_, rfl⟩
  rw [eT] at HH ⊢
  have hST : S < T := by omega
  clear eT
  obtain ⟨⟨p0, p1, p2, p3, p4, p5, p6⟩, ⟨pf0, pf1, pf2, pf3, pf4, pf5, pf6⟩, pl⟩ := block7 (unhide HD)
  go_wp2
  refine wp_loop_rounds 3 ?_
  rw [rounds_succ]
  go_wp2_with (go_at_call 20; refine (unhide HL0 _).mono ?_; rintro e v0 ⟨rfl, hb3⟩; have HO' := hide ((unhide HO).below hb3); have HX' := hide (Below.next (unhide HX) hb3 (Nat.le_refl _)); have HD' := hide (keep_below (unhide HD) hb3); have HZ' := hide (keep_below (unhide HZ) hb3); have HG' := hide (keep_below (unhide HG) hb3); have HH' := hide (keep_below (unhide HH) hb3); clear HX HD HZ HG HH hb3; have HX := HX'; have HD := HD'; have HZ := HZ'; have HG := HG'; have HH := HH'; clear HX' HD' HZ' HG' HH'; clear HO; have HO := HO'; clear HO'; clear p0 p1 p2 p3 p4 p5 p6 pf0 pf1 pf2 pf3 pf4 pf5 pf6 pl; obtain ⟨⟨p0, p1, p2, p3, p4, p5, p6⟩, ⟨pf0, pf1, pf2, pf3, pf4, pf5, pf6⟩, pl⟩ := block7 (unhide HD))
  rw [rounds_succ]
  go_wp2_with (go_at_call 20; refine (unhide HL1 _).mono ?_; rintro e v1 ⟨rfl, hb3⟩; have HO' := hide ((unhide HO).below hb3); have HX' := hide (Below.next (unhide HX) hb3 (Nat.le_refl _)); have HD' := hide (keep_below (unhide HD) hb3); have HZ' := hide (keep_below (unhide HZ) hb3); have HG' := hide (keep_below (unhide HG) hb3); have HH' := hide (keep_below (unhide HH) hb3); clear HX HD HZ HG HH hb3; have HX := HX'; have HD := HD'; have HZ := HZ'; have HG := HG'; have HH := HH'; clear HX' HD' HZ' HG' HH'; clear HO; have HO := HO'; clear HO'; clear p0 p1 p2 p3 p4 p5 p6 pf0 pf1 pf2 pf3 pf4 pf5 pf6 pl; obtain ⟨⟨p0, p1, p2, p3, p4, p5, p6⟩, ⟨pf0, pf1, pf2, pf3, pf4, pf5, pf6⟩, pl⟩ := block7 (unhide HD))
  rw [rounds_succ]
  obtain ⟨⟨h0, h1, h2, h3, h4, h5, h6⟩, ⟨hf0, hf1, hf2, hf3, hf4, hf5, hf6⟩, hl⟩ := block7 (unhide HH)
  obtain ⟨⟨z0, z1, z2, z3, z4, z5, z6⟩, ⟨zf0, zf1, zf2, zf3, zf4, zf5, zf6⟩, zl⟩ := block7 (unhide HZ)
  obtain ⟨g0, g1, gf0, gf1, gl⟩ := block2 (unhide HG)
  have uh : w.heap.size + 1 + 1 ≠ T := by omega
  have uh2 : T ≠ w.heap.size + 1 + 1 := by omega
  have ui : w.heap.size + 1 ≠ T := by omega
  have ui2 : T ≠ w.heap.size + 1 := by omega
  go_wp2_with fail
  have HO2 := hide ((unhide HO).base (unhide HBQ))
  refine bodyPost_ret (v := .tuple #[.agg #[.bool c, .bool r0, .bool r1, .int .i64 t0, .int .i64 t1, .int .i64 u0, .int .i64 u1], .slice (some ⟨S, 0, none⟩) 0 0, .agg #[.int .i64 0, .int .i64 0]]) (by simp [results, Try.results15, go_sem, g0, g1, z0, z1, z2, z3, z4, z5, z6]) rfl ⟨_, _, rfl, ?_, (by repeat (first | with_reducible exact unhide HX | with_reducible refine drew_below ?_ | (with_reducible refine below_set ?_ (by omega) _)))⟩
  refine (unhide HO2).keep (fun k hk => ?_)
  have q1 := Own.ne (unhide HO) (unhide HZ) (by decide) k hk
  have q2 := Own.ne (unhide HO) (unhide HG) (by decide) k hk
  repeat (rw [Below.heap_setCell _ _ _ _ (by first | simpa using q1 | simpa using q2)])

set_option maxRecDepth 100000 in
set_option maxHeartbeats 2000000 in
theorem tick_lg (w : World) (c r0 r1 : Bool) (t0 t1 u0 u1 now C1 : Int) (hC : descF c r0 r1 t0 t1 u0 u1 = (0, C1)) (hnow : 0 ≤ now ∧ now ≤ 1000000000) (hz0 : 0 < t0) (hL0 : late u0 now = false) (hz1 : 0 < t1) (hL1 : late u1 now = true) :
    Calls Try.prog 15 #[.agg #[.bool c, .bool r0, .bool r1, .int .i64 t0, .int .i64 t1, .int .i64 u0, .int .i64 u1], .int .i64 now] w fun e w' => ∃ a k, e = .returned (.tuple #[.agg #[.bool c, .bool r0, .bool r1, .int .i64 t0, .int .i64 0, .int .i64 u0, .int .i64 u1], .slice a 1 k, .agg #[.int .i64 0, .int .i64 0]]) ∧ Own KI w.heap.size w' (.slice a 1 k) [t1] ∧ Below w.heap.size w w' := by
  have HC : Hid (∀ W, Calls Try.prog 6 #[.agg #[.bool c, .bool r0, .bool r1, .int .i64 t0, .int .i64 t1, .int .i64 u0, .int .i64 u1]] W fun e w' => e = .returned (.agg #[.int .i64 0, .int .i64 C1]) ∧ Below W.heap.size W w') := fun W => check_any W c r0 r1 t0 t1 u0 u1 0 C1 hC
  have HT : Hid (∀ W, Calls Try.prog 24 #[.int .i64 now] W fun e w' => e = .returned (.bool (decide (0 ≤ now ∧ now ≤ 1000000000))) ∧ w' = W) := fun W => isTime_any W now
  rw [decide_eq_true hnow] at HT
  have HL0 : Hid (∀ W, Calls Try.prog 20 #[.agg #[.bool c, .bool r0, .bool r1, .int .i64 t0, .int .i64 t1, .int .i64 u0, .int .i64 u1], .int .i64 0, .int .i64 now] W fun e w' => e = .returned (.bool (late u0 now)) ∧ Below W.heap.size W w') := fun W => lateOn0_any W c r0 r1 t0 t1 u0 u1 now
  rw [hL0] at HL0
  clear hL0
  have HL1 : Hid (∀ W, Calls Try.prog 20 #[.agg #[.bool c, .bool r0, .bool r1, .int .i64 t0, .int .i64 t1, .int .i64 u0, .int .i64 u1], .int .i64 1, .int .i64 now] W fun e w' => e = .returned (.bool (late u1 now)) ∧ Below W.heap.size W w') := fun W => lateOn1_any W c r0 r1 t0 t1 u0 u1 now
  rw [hL1] at HL1
  clear hL1
  clear hC hnow
  obtain ⟨W0, e0, hB, k0, k1, k2⟩ := three_new w (.cells #[.bool c, .bool r0, .bool r1, .int .i64 t0, .int .i64 t1, .int .i64 u0, .int .i64 u1] 25) (.cells #[.bool false, .bool false, .bool false, .int .i64 0, .int .i64 0, .int .i64 0, .int .i64 0] 25) (.cells #[.int .i64 0, .int .i64 0] 27)
  have HX := hide hB; have HE := hide e0; have HD := hide k0; have HZ := hide k1; have HG := hide k2
  clear hB e0 k0 k1 k2
  go_enter Try.func15, Try.ntmps15
  go_upto_region 1 with fail
  rw [unhide HE]
  clear HE
  obtain ⟨⟨p0, p1, p2, p3, p4, p5, p6⟩, ⟨pf0, pf1, pf2, pf3, pf4, pf5, pf6⟩, pl⟩ := block7 (unhide HD)
  go_upto_region 2 with (go_at_call 6; refine (unhide HC _).mono ?_; rintro e w1 ⟨rfl, hb1⟩; have HX' := hide (Below.next (unhide HX) hb1 (Nat.le_refl _)); have HD' := hide (keep_below (unhide HD) hb1); have HZ' := hide (keep_below (unhide HZ) hb1); have HG' := hide (keep_below (unhide HG) hb1); clear p0 p1 p2 p3 p4 p5 p6 pf0 pf1 pf2 pf3 pf4 pf5 pf6 pl ; clear HX HD HZ HG hb1; have HX := HX'; have HD := HD'; have HZ := HZ'; have HG := HG'; clear HX' HD' HZ' HG')
  obtain ⟨W1, e1, hB1, k1⟩ := one_new w1 (.cells #[.int .i64 0, .int .i64 C1] 27)
  rw [e1]
  have HX' := hide (Below.next (unhide HX) hB1 (Nat.le_refl _))
  have HD' := hide (keep_below (unhide HD) hB1)
  have HZ' := hide (keep_below (unhide HZ) hB1)
  have HG' := hide (keep_below (unhide HG) hB1)
  have hlD_F := size_of (unhide HD)
  have hlZ_F := size_of (unhide HZ)
  have hlG_F := size_of (unhide HG)
  have HF := hide k1
  clear e1 hB1 k1 HX HD HZ HG
  have HX := HX'; have HD := HD'; have HZ := HZ'; have HG := HG'
  clear HX' HD' HZ' HG'
  obtain ⟨TF, eTF⟩ : ∃ X, w1.heap.size = X := ⟨_, rfl⟩
  rw [eTF] at HF hlD_F hlZ_F hlG_F ⊢
  clear eTF
  obtain ⟨f0, f1, ff0, ff1, fl⟩ := block2 (unhide HF)
  obtain ⟨g0, g1, gf0, gf1, gl⟩ := block2 (unhide HG)
  obtain ⟨⟨p0, p1, p2, p3, p4, p5, p6⟩, ⟨pf0, pf1, pf2, pf3, pf4, pf5, pf6⟩, pl⟩ := block7 (unhide HD)
  obtain ⟨⟨z0, z1, z2, z3, z4, z5, z6⟩, ⟨zf0, zf1, zf2, zf3, zf4, zf5, zf6⟩, zl⟩ := block7 (unhide HZ)
  have uf : w.heap.size + 1 + 1 ≠ TF := by omega
  have uf2 : TF ≠ w.heap.size + 1 + 1 := by omega
  have ug : w.heap.size + 1 ≠ TF := by omega
  have ug2 : TF ≠ w.heap.size + 1 := by omega
  go_upto_region 7 with (go_at_call 24; refine (unhide HT _).mono ?_; rintro e W1 ⟨rfl, rfl⟩)
  obtain ⟨W2, e2, hB2, k2, k3⟩ := two_new W1 (.cells #[] 3) (.cells #[.bool c, .bool r0, .bool r1, .int .i64 t0, .int .i64 t1, .int .i64 u0, .int .i64 u1] 25)
  rw [e2]
  have HO := hide (show Own KI W1.heap.size W2 (.slice (some ⟨W1.heap.size, 0, none⟩) 0 0) [] by rw [← e2]; exact (own_empty (K := KI) W1).below ((Below.refl _ _).alloc (Nat.le_refl _) _))
  have hlF2 := size_of (unhide HF)
  have HX' := hide (Below.next (unhide HX) hB2 (Nat.le_refl _))
  have HD' := hide (keep_below (unhide HD) hB2); have HZ' := hide (keep_below (unhide HZ) hB2); have HG' := hide (keep_below (unhide HG) hB2); have HH := hide k3
  have HBQ : Hid (w.heap.size ≤ W1.heap.size) := (unhide HX).size
  obtain ⟨S, eS⟩ : ∃ S, W1.heap.size = S := ⟨_, rfl⟩
  rw [eS] at HO HH hlF2 HBQ ⊢
  clear e2 hB2 k2 k3 eS HX HD HZ HG HF
  have HX := HX'; have HD := HD'; have HZ := HZ'; have HG := HG'
  clear HX' HD' HZ' HG' f0 f1 ff0 ff1 fl uf uf2 ug ug2
  clear p0 p1 p2 p3 p4 p5 p6 pf0 pf1 pf2 pf3 pf4 pf5 pf6 pl
  clear z0 z1 z2 z3 z4 z5 z6 zf0 zf1 zf2 zf3 zf4 zf5 zf6 zl g0 g1 gf0 gf1 gl
  obtain ⟨T, eT⟩ : ∃ T, S + 1 = T := ⟨_, rfl⟩
  rw [eT] at HH ⊢
  have hST : S < T := by omega
  clear eT
  obtain ⟨⟨p0, p1, p2, p3, p4, p5, p6⟩, ⟨pf0, pf1, pf2, pf3, pf4, pf5, pf6⟩, pl⟩ := block7 (unhide HD)
  go_wp2
  refine wp_loop_rounds 3 ?_
  rw [rounds_succ]
  go_wp2_with (go_at_call 20; refine (unhide HL0 _).mono ?_; rintro e v0 ⟨rfl, hb3⟩; have HO' := hide ((unhide HO).below hb3); have HX' := hide (Below.next (unhide HX) hb3 (Nat.le_refl _)); have HD' := hide (keep_below (unhide HD) hb3); have HZ' := hide (keep_below (unhide HZ) hb3); have HG' := hide (keep_below (unhide HG) hb3); have HH' := hide (keep_below (unhide HH) hb3); clear HX HD HZ HG HH hb3; have HX := HX'; have HD := HD'; have HZ := HZ'; have HG := HG'; have HH := HH'; clear HX' HD' HZ' HG' HH'; clear HO; have HO := HO'; clear HO'; clear p0 p1 p2 p3 p4 p5 p6 pf0 pf1 pf2 pf3 pf4 pf5 pf6 pl; obtain ⟨⟨p0, p1, p2, p3, p4, p5, p6⟩, ⟨pf0, pf1, pf2, pf3, pf4, pf5, pf6⟩, pl⟩ := block7 (unhide HD))
  rw [rounds_succ]
  go_upto_region 11 with (go_at_call 20; refine (unhide HL1 _).mono ?_; rintro e v1 ⟨rfl, hb3⟩; have HO' := hide ((unhide HO).below hb3); have HX' := hide (Below.next (unhide HX) hb3 (Nat.le_refl _)); have HD' := hide (keep_below (unhide HD) hb3); have HZ' := hide (keep_below (unhide HZ) hb3); have HG' := hide (keep_below (unhide HG) hb3); have HH' := hide (keep_below (unhide HH) hb3); clear HX HD HZ HG HH hb3; have HX := HX'; have HD := HD'; have HZ := HZ'; have HG := HG'; have HH := HH'; clear HX' HD' HZ' HG' HH'; clear HO; have HO := HO'; clear HO'; clear p0 p1 p2 p3 p4 p5 p6 pf0 pf1 pf2 pf3 pf4 pf5 pf6 pl; obtain ⟨⟨p0, p1, p2, p3, p4, p5, p6⟩, ⟨pf0, pf1, pf2, pf3, pf4, pf5, pf6⟩, pl⟩ := block7 (unhide HD))
  have HBS := hide (show S ≤ v1.heap.size by have := size_of (unhide HH); omega)
  go_upto_region 12 with (at_builtin; refine wpList_append ki rfl (.tmp 39) (.tmp 44) rfl S _ [] rfl ((unhide HO).below ((Below.refl _ _).alloc (Nat.le_refl _) (.cells #[.int .i64 t1] 3))) _ [t1] rfl (isl_one ki _ t1) 1 rfl (by decide) (by have := unhide HBS; have := (unhide HX).size; simp; omega) ?_; intro a1 c1 x1 ho hg; have HX' := hide (((unhide HX).alloc (unhide HX).size (.cells #[.int .i64 t1] 3)).grown hg ((unhide HX).alloc (unhide HX).size (.cells #[.int .i64 t1] 3)).size (fun k hk => by have := ((unhide HO).lt k hk).1; have := unhide HBQ; omega)); have HD' := hide (keep_grown (keep_alloc (unhide HD) (.cells #[.int .i64 t1] 3)) hg (fun j hj => Own.ne ((unhide HO).below ((Below.refl _ _).alloc (Nat.le_refl _) (.cells #[.int .i64 t1] 3))) (keep_alloc (unhide HD) (.cells #[.int .i64 t1] 3)) (by decide) j hj)); have HZ' := hide (keep_grown (keep_alloc (unhide HZ) (.cells #[.int .i64 t1] 3)) hg (fun j hj => Own.ne ((unhide HO).below ((Below.refl _ _).alloc (Nat.le_refl _) (.cells #[.int .i64 t1] 3))) (keep_alloc (unhide HZ) (.cells #[.int .i64 t1] 3)) (by decide) j hj)); have HG' := hide (keep_grown (keep_alloc (unhide HG) (.cells #[.int .i64 t1] 3)) hg (fun j hj => Own.ne ((unhide HO).below ((Below.refl _ _).alloc (Nat.le_refl _) (.cells #[.int .i64 t1] 3))) (keep_alloc (unhide HG) (.cells #[.int .i64 t1] 3)) (by decide) j hj)); have HH' := hide (keep_grown (keep_alloc (unhide HH) (.cells #[.int .i64 t1] 3)) hg (fun j hj => Own.ne ((unhide HO).below ((Below.refl _ _).alloc (Nat.le_refl _) (.cells #[.int .i64 t1] 3))) (keep_alloc (unhide HH) (.cells #[.int .i64 t1] 3)) (by decide) j hj)); have HO' := hide ho; clear p0 p1 p2 p3 p4 p5 p6 pf0 pf1 pf2 pf3 pf4 pf5 pf6 pl; clear HX HD HZ HG HH HO hg ho; have HX := HX'; have HD := HD'; have HZ := HZ'; have HG := HG'; have HH := HH'; have HO := HO'; clear HX' HO' HD' HZ' HG' HH'; have HBS := hide (Nat.le_trans (unhide HBS) (Nat.le_refl _)); obtain ⟨⟨p0, p1, p2, p3, p4, p5, p6⟩, ⟨pf0, pf1, pf2, pf3, pf4, pf5, pf6⟩, pl⟩ := block7 (unhide HD))
  obtain ⟨⟨h0, h1, h2, h3, h4, h5, h6⟩, ⟨hf0, hf1, hf2, hf3, hf4, hf5, hf6⟩, hl⟩ := block7 (unhide HH)
  go_wp2_with fail
  clear h0 h1 h2 h3 h4 h5 h6 hf0 hf1 hf2 hf3 hf4 hf5 hf6 hl
  have HO' := hide ((unhide HO).keep (fun k hk => Below.heap_setCell x1 ⟨T, 4, none⟩ (.int .i64 0) k (by have := Own.ne (unhide HO) (unhide HH) (by decide) k hk; simpa using this)))
  have HX' := hide (below_set (i := 4) (unhide HX) (show w.heap.size ≤ T by omega) (.int .i64 0))
  have HH' := hide (set_block7 (i := 4) (y := .int .i64 0) (unhide HH))
  have HD' := hide (keep_set (g := T) (o := 4) (v := .int .i64 0) (unhide HD) (by omega))
  have HZ' := hide (keep_set (g := T) (o := 4) (v := .int .i64 0) (unhide HZ) (by omega))
  have HG' := hide (keep_set (g := T) (o := 4) (v := .int .i64 0) (unhide HG) (by omega))
  clear p0 p1 p2 p3 p4 p5 p6 pf0 pf1 pf2 pf3 pf4 pf5 pf6 pl
  clear HX HD HZ HG HH HO HBS
  obtain ⟨y1, ey1⟩ : ∃ X, x1.setCell ⟨T, 4, none⟩ (.int .i64 0) = X := ⟨_, rfl⟩
  rw [ey1] at HX' HD' HZ' HG' HH' HO' ⊢
  clear ey1
  simp only [List.setIfInBounds_toArray, List.set_cons_zero, List.set_cons_succ] at HH'
  have HX := HX'; have HD := HD'; have HZ := HZ'; have HG := HG'; have HH := HH'; have HO := HO'
  clear HX' HD' HZ' HG' HH' HO'
  obtain ⟨⟨p0, p1, p2, p3, p4, p5, p6⟩, ⟨pf0, pf1, pf2, pf3, pf4, pf5, pf6⟩, pl⟩ := block7 (unhide HD)
  rw [rounds_succ]
  obtain ⟨⟨h0, h1, h2, h3, h4, h5, h6⟩, ⟨hf0, hf1, hf2, hf3, hf4, hf5, hf6⟩, hl⟩ := block7 (unhide HH)
  obtain ⟨⟨z0, z1, z2, z3, z4, z5, z6⟩, ⟨zf0, zf1, zf2, zf3, zf4, zf5, zf6⟩, zl⟩ := block7 (unhide HZ)
  obtain ⟨g0, g1, gf0, gf1, gl⟩ := block2 (unhide HG)
  have uh : w.heap.size + 1 + 1 ≠ T := by omega
  have uh2 : T ≠ w.heap.size + 1 + 1 := by omega
  have ui : w.heap.size + 1 ≠ T := by omega
  have ui2 : T ≠ w.heap.size + 1 := by omega
  go_wp2_with fail
  have HO2 := hide ((unhide HO).base (unhide HBQ))
  refine bodyPost_ret (v := .tuple #[.agg #[.bool c, .bool r0, .bool r1, .int .i64 t0, .int .i64 0, .int .i64 u0, .int .i64 u1], .slice a1 1 c1, .agg #[.int .i64 0, .int .i64 0]]) (by simp [results, Try.results15, go_sem, g0, g1, z0, z1, z2, z3, z4, z5, z6]) rfl ⟨_, _, rfl, ?_, (by repeat (first | with_reducible exact unhide HX | with_reducible refine drew_below ?_ | (with_reducible refine below_set ?_ (by omega) _)))⟩
  refine (unhide HO2).keep (fun k hk => ?_)
  have q1 := Own.ne (unhide HO) (unhide HZ) (by decide) k hk
  have q2 := Own.ne (unhide HO) (unhide HG) (by decide) k hk
  repeat (rw [Below.heap_setCell _ _ _ _ (by first | simpa using q1 | simpa using q2)])

set_option maxRecDepth 100000 in
set_option maxHeartbeats 2000000 in
theorem tick_gn (w : World) (c r0 r1 : Bool) (t0 t1 u0 u1 now C1 : Int) (hC : descF c r0 r1 t0 t1 u0 u1 = (0, C1)) (hnow : 0 ≤ now ∧ now ≤ 1000000000) (hz0 : 0 < t0) (hL0 : late u0 now = true) (hz1 : ¬ 0 < t1) :
    Calls Try.prog 15 #[.agg #[.bool c, .bool r0, .bool r1, .int .i64 t0, .int .i64 t1, .int .i64 u0, .int .i64 u1], .int .i64 now] w fun e w' => ∃ a k, e = .returned (.tuple #[.agg #[.bool c, .bool r0, .bool r1, .int .i64 0, .int .i64 t1, .int .i64 u0, .int .i64 u1], .slice a 1 k, .agg #[.int .i64 0, .int .i64 0]]) ∧ Own KI w.heap.size w' (.slice a 1 k) [t0] ∧ Below w.heap.size w w' := by
  have HC : Hid (∀ W, Calls Try.prog 6 #[.agg #[.bool c, .bool r0, .bool r1, .int .i64 t0, .int .i64 t1, .int .i64 u0, .int .i64 u1]] W fun e w' => e = .returned (.agg #[.int .i64 0, .int .i64 C1]) ∧ Below W.heap.size W w') := fun W => check_any W c r0 r1 t0 t1 u0 u1 0 C1 hC
  have HT : Hid (∀ W, Calls Try.prog 24 #[.int .i64 now] W fun e w' => e = .returned (.bool (decide (0 ≤ now ∧ now ≤ 1000000000))) ∧ w' = W) := fun W => isTime_any W now
  rw [decide_eq_true hnow] at HT
  have HL0 : Hid (∀ W, Calls Try.prog 20 #[.agg #[.bool c, .bool r0, .bool r1, .int .i64 t0, .int .i64 t1, .int .i64 u0, .int .i64 u1], .int .i64 0, .int .i64 now] W fun e w' => e = .returned (.bool (late u0 now)) ∧ Below W.heap.size W w') := fun W => lateOn0_any W c r0 r1 t0 t1 u0 u1 now
  rw [hL0] at HL0
  clear hL0
  clear hC hnow
  obtain ⟨W0, e0, hB, k0, k1, k2⟩ := three_new w (.cells #[.bool c, .bool r0, .bool r1, .int .i64 t0, .int .i64 t1, .int .i64 u0, .int .i64 u1] 25) (.cells #[.bool false, .bool false, .bool false, .int .i64 0, .int .i64 0, .int .i64 0, .int .i64 0] 25) (.cells #[.int .i64 0, .int .i64 0] 27)
  have HX := hide hB; have HE := hide e0; have HD := hide k0; have HZ := hide k1; have HG := hide k2
  clear hB e0 k0 k1 k2
  go_enter Try.func15, Try.ntmps15
  go_upto_region 1 with fail
  rw [unhide HE]
  clear HE
  obtain ⟨⟨p0, p1, p2, p3, p4, p5, p6⟩, ⟨pf0, pf1, pf2, pf3, pf4, pf5, pf6⟩, pl⟩ := block7 (unhide HD)
  go_upto_region 2 with (go_at_call 6; refine (unhide HC _).mono ?_; rintro e w1 ⟨rfl, hb1⟩; have HX' := hide (Below.next (unhide HX) hb1 (Nat.le_refl _)); have HD' := hide (keep_below (unhide HD) hb1); have HZ' := hide (keep_below (unhide HZ) hb1); have HG' := hide (keep_below (unhide HG) hb1); clear p0 p1 p2 p3 p4 p5 p6 pf0 pf1 pf2 pf3 pf4 pf5 pf6 pl ; clear HX HD HZ HG hb1; have HX := HX'; have HD := HD'; have HZ := HZ'; have HG := HG'; clear HX' HD' HZ' HG')
  obtain ⟨W1, e1, hB1, k1⟩ := one_new w1 (.cells #[.int .i64 0, .int .i64 C1] 27)
  rw [e1]
  have HX' := hide (Below.next (unhide HX) hB1 (Nat.le_refl _))
  have HD' := hide (keep_below (unhide HD) hB1)
  have HZ' := hide (keep_below (unhide HZ) hB1)
  have HG' := hide (keep_below (unhide HG) hB1)
  have hlD_F := size_of (unhide HD)
  have hlZ_F := size_of (unhide HZ)
  have hlG_F := size_of (unhide HG)
  have HF := hide k1
  clear e1 hB1 k1 HX HD HZ HG
  have HX := HX'; have HD := HD'; have HZ := HZ'; have HG := HG'
  clear HX' HD' HZ' HG'
  obtain ⟨TF, eTF⟩ : ∃ X, w1.heap.size = X := ⟨_, rfl⟩
  rw [eTF] at HF hlD_F hlZ_F hlG_F ⊢
  clear eTF
  obtain ⟨f0, f1, ff0, ff1, fl⟩ := block2 (unhide HF)
  obtain ⟨g0, g1, gf0, gf1, gl⟩ := block2 (unhide HG)
  obtain ⟨⟨p0, p1, p2, p3, p4, p5, p6⟩, ⟨pf0, pf1, pf2, pf3, pf4, pf5, pf6⟩, pl⟩ := block7 (unhide HD)
  obtain ⟨⟨z0, z1, z2, z3, z4, z5, z6⟩, ⟨zf0, zf1, zf2, zf3, zf4, zf5, zf6⟩, zl⟩ := block7 (unhide HZ)
  have uf : w.heap.size + 1 + 1 ≠ TF := by omega
  have uf2 : TF ≠ w.heap.size + 1 + 1 := by omega
  have ug : w.heap.size + 1 ≠ TF := by omega
  have ug2 : TF ≠ w.heap.size + 1 := by omega
  go_upto_region 7 with (go_at_call 24; refine (unhide HT _).mono ?_; rintro e W1 ⟨rfl, rfl⟩)
  obtain ⟨W2, e2, hB2, k2, k3⟩ := two_new W1 (.cells #[] 3) (.cells #[.bool c, .bool r0, .bool r1, .int .i64 t0, .int .i64 t1, .int .i64 u0, .int .i64 u1] 25)
  rw [e2]
  have HO := hide (show Own KI W1.heap.size W2 (.slice (some ⟨W1.heap.size, 0, none⟩) 0 0) [] by rw [← e2]; exact (own_empty (K := KI) W1).below ((Below.refl _ _).alloc (Nat.le_refl _) _))
  have hlF2 := size_of (unhide HF)
  have HX' := hide (Below.next (unhide HX) hB2 (Nat.le_refl _))
  have HD' := hide (keep_below (unhide HD) hB2); have HZ' := hide (keep_below (unhide HZ) hB2); have HG' := hide (keep_below (unhide HG) hB2); have HH := hide k3
  have HBQ : Hid (w.heap.size ≤ W1.heap.size) := (unhide HX).size
  obtain ⟨S, eS⟩ : ∃ S, W1.heap.size = S := ⟨_, rfl⟩
  rw [eS] at HO HH hlF2 HBQ ⊢
  clear e2 hB2 k2 k3 eS HX HD HZ HG HF
  have HX := HX'; have HD := HD'; have HZ := HZ'; have HG := HG'
  clear HX' HD' HZ' HG' f0 f1 ff0 ff1 fl uf uf2 ug ug2
  clear p0 p1 p2 p3 p4 p5 p6 pf0 pf1 pf2 pf3 pf4 pf5 pf6 pl
  clear z0 z1 z2 z3 z4 z5 z6 zf0 zf1 zf2 zf3 zf4 zf5 zf6 zl g0 g1 gf0 gf1 gl
  obtain ⟨T, eT⟩ : ∃ T, S + 1 = T := ⟨_, rfl⟩
  rw [eT] at HH ⊢
  have hST : S < T := by omega
  clear eT
  obtain ⟨⟨p0, p1, p2, p3, p4, p5, p6⟩, ⟨pf0, pf1, pf2, pf3, pf4, pf5, pf6⟩, pl⟩ := block7 (unhide HD)
  go_wp2
  refine wp_loop_rounds 3 ?_
  rw [rounds_succ]
  go_upto_region 11 with (go_at_call 20; refine (unhide HL0 _).mono ?_; rintro e v0 ⟨rfl, hb3⟩; have HO' := hide ((unhide HO).below hb3); have HX' := hide (Below.next (unhide HX) hb3 (Nat.le_refl _)); have HD' := hide (keep_below (unhide HD) hb3); have HZ' := hide (keep_below (unhide HZ) hb3); have HG' := hide (keep_below (unhide HG) hb3); have HH' := hide (keep_below (unhide HH) hb3); clear HX HD HZ HG HH hb3; have HX := HX'; have HD := HD'; have HZ := HZ'; have HG := HG'; have HH := HH'; clear HX' HD' HZ' HG' HH'; clear HO; have HO := HO'; clear HO'; clear p0 p1 p2 p3 p4 p5 p6 pf0 pf1 pf2 pf3 pf4 pf5 pf6 pl; obtain ⟨⟨p0, p1, p2, p3, p4, p5, p6⟩, ⟨pf0, pf1, pf2, pf3, pf4, pf5, pf6⟩, pl⟩ := block7 (unhide HD))
  have HBS := hide (show S ≤ v0.heap.size by have := size_of (unhide HH); omega)
  go_upto_region 12 with (at_builtin; refine wpList_append ki rfl (.tmp 39) (.tmp 44) rfl S _ [] rfl ((unhide HO).below ((Below.refl _ _).alloc (Nat.le_refl _) (.cells #[.int .i64 t0] 3))) _ [t0] rfl (isl_one ki _ t0) 1 rfl (by decide) (by have := unhide HBS; have := (unhide HX).size; simp; omega) ?_; intro a0 c0 x0 ho hg; have HX' := hide (((unhide HX).alloc (unhide HX).size (.cells #[.int .i64 t0] 3)).grown hg ((unhide HX).alloc (unhide HX).size (.cells #[.int .i64 t0] 3)).size (fun k hk => by have := ((unhide HO).lt k hk).1; have := unhide HBQ; omega)); have HD' := hide (keep_grown (keep_alloc (unhide HD) (.cells #[.int .i64 t0] 3)) hg (fun j hj => Own.ne ((unhide HO).below ((Below.refl _ _).alloc (Nat.le_refl _) (.cells #[.int .i64 t0] 3))) (keep_alloc (unhide HD) (.cells #[.int .i64 t0] 3)) (by decide) j hj)); have HZ' := hide (keep_grown (keep_alloc (unhide HZ) (.cells #[.int .i64 t0] 3)) hg (fun j hj => Own.ne ((unhide HO).below ((Below.refl _ _).alloc (Nat.le_refl _) (.cells #[.int .i64 t0] 3))) (keep_alloc (unhide HZ) (.cells #[.int .i64 t0] 3)) (by decide) j hj)); have HG' := hide (keep_grown (keep_alloc (unhide HG) (.cells #[.int .i64 t0] 3)) hg (fun j hj => Own.ne ((unhide HO).below ((Below.refl _ _).alloc (Nat.le_refl _) (.cells #[.int .i64 t0] 3))) (keep_alloc (unhide HG) (.cells #[.int .i64 t0] 3)) (by decide) j hj)); have HH' := hide (keep_grown (keep_alloc (unhide HH) (.cells #[.int .i64 t0] 3)) hg (fun j hj => Own.ne ((unhide HO).below ((Below.refl _ _).alloc (Nat.le_refl _) (.cells #[.int .i64 t0] 3))) (keep_alloc (unhide HH) (.cells #[.int .i64 t0] 3)) (by decide) j hj)); have HO' := hide ho; clear p0 p1 p2 p3 p4 p5 p6 pf0 pf1 pf2 pf3 pf4 pf5 pf6 pl; clear HX HD HZ HG HH HO hg ho; have HX := HX'; have HD := HD'; have HZ := HZ'; have HG := HG'; have HH := HH'; have HO := HO'; clear HX' HO' HD' HZ' HG' HH'; have HBS := hide (Nat.le_trans (unhide HBS) (Nat.le_refl _)); obtain ⟨⟨p0, p1, p2, p3, p4, p5, p6⟩, ⟨pf0, pf1, pf2, pf3, pf4, pf5, pf6⟩, pl⟩ := block7 (unhide HD))
  obtain ⟨⟨h0, h1, h2, h3, h4, h5, h6⟩, ⟨hf0, hf1, hf2, hf3, hf4, hf5, hf6⟩, hl⟩ := block7 (unhide HH)
  go_wp2_with fail
  clear h0 h1 h2 h3 h4 h5 h6 hf0 hf1 hf2 hf3 hf4 hf5 hf6 hl
  have HO' := hide ((unhide HO).keep (fun k hk => Below.heap_setCell x0 ⟨T, 3, none⟩ (.int .i64 0) k (by have := Own.ne (unhide HO) (unhide HH) (by decide) k hk; simpa using this)))
  have HX' := hide (below_set (i := 3) (unhide HX) (show w.heap.size ≤ T by omega) (.int .i64 0))
  have HH' := hide (set_block7 (i := 3) (y := .int .i64 0) (unhide HH))
  have HD' := hide (keep_set (g := T) (o := 3) (v := .int .i64 0) (unhide HD) (by omega))
  have HZ' := hide (keep_set (g := T) (o := 3) (v := .int .i64 0) (unhide HZ) (by omega))
  have HG' := hide (keep_set (g := T) (o := 3) (v := .int .i64 0) (unhide HG) (by omega))
  clear p0 p1 p2 p3 p4 p5 p6 pf0 pf1 pf2 pf3 pf4 pf5 pf6 pl
  clear HX HD HZ HG HH HO HBS
  obtain ⟨y0, ey0⟩ : ∃ X, x0.setCell ⟨T, 3, none⟩ (.int .i64 0) = X := ⟨_, rfl⟩
  rw [ey0] at HX' HD' HZ' HG' HH' HO' ⊢
  clear ey0
  simp only [List.setIfInBounds_toArray, List.set_cons_zero, List.set_cons_succ] at HH'
  have HX := HX'; have HD := HD'; have HZ := HZ'; have HG := HG'; have HH := HH'; have HO := HO'
  clear HX' HD' HZ' HG' HH' HO'
  obtain ⟨⟨p0, p1, p2, p3, p4, p5, p6⟩, ⟨pf0, pf1, pf2, pf3, pf4, pf5, pf6⟩, pl⟩ := block7 (unhide HD)
  rw [rounds_succ]
  go_wp2_with fail
  rw [rounds_succ]
  obtain ⟨⟨h0, h1, h2, h3, h4, h5, h6⟩, ⟨hf0, hf1, hf2, hf3, hf4, hf5, hf6⟩, hl⟩ := block7 (unhide HH)
  obtain ⟨⟨z0, z1, z2, z3, z4, z5, z6⟩, ⟨zf0, zf1, zf2, zf3, zf4, zf5, zf6⟩, zl⟩ := block7 (unhide HZ)
  obtain ⟨g0, g1, gf0, gf1, gl⟩ := block2 (unhide HG)
  have uh : w.heap.size + 1 + 1 ≠ T := by omega
  have uh2 : T ≠ w.heap.size + 1 + 1 := by omega
  have ui : w.heap.size + 1 ≠ T := by omega
  have ui2 : T ≠ w.heap.size + 1 := by omega
  go_wp2_with fail
  have HO2 := hide ((unhide HO).base (unhide HBQ))
  refine bodyPost_ret (v := .tuple #[.agg #[.bool c, .bool r0, .bool r1, .int .i64 0, .int .i64 t1, .int .i64 u0, .int .i64 u1], .slice a0 1 c0, .agg #[.int .i64 0, .int .i64 0]]) (by simp [results, Try.results15, go_sem, g0, g1, z0, z1, z2, z3, z4, z5, z6]) rfl ⟨_, _, rfl, ?_, (by repeat (first | with_reducible exact unhide HX | with_reducible refine drew_below ?_ | (with_reducible refine below_set ?_ (by omega) _)))⟩
  refine (unhide HO2).keep (fun k hk => ?_)
  have q1 := Own.ne (unhide HO) (unhide HZ) (by decide) k hk
  have q2 := Own.ne (unhide HO) (unhide HG) (by decide) k hk
  repeat (rw [Below.heap_setCell _ _ _ _ (by first | simpa using q1 | simpa using q2)])

set_option maxRecDepth 100000 in
set_option maxHeartbeats 2000000 in
theorem tick_gl (w : World) (c r0 r1 : Bool) (t0 t1 u0 u1 now C1 : Int) (hC : descF c r0 r1 t0 t1 u0 u1 = (0, C1)) (hnow : 0 ≤ now ∧ now ≤ 1000000000) (hz0 : 0 < t0) (hL0 : late u0 now = true) (hz1 : 0 < t1) (hL1 : late u1 now = false) :
    Calls Try.prog 15 #[.agg #[.bool c, .bool r0, .bool r1, .int .i64 t0, .int .i64 t1, .int .i64 u0, .int .i64 u1], .int .i64 now] w fun e w' => ∃ a k, e = .returned (.tuple #[.agg #[.bool c, .bool r0, .bool r1, .int .i64 0, .int .i64 t1, .int .i64 u0, .int .i64 u1], .slice a 1 k, .agg #[.int .i64 0, .int .i64 0]]) ∧ Own KI w.heap.size w' (.slice a 1 k) [t0] ∧ Below w.heap.size w w' := by
  have HC : Hid (∀ W, Calls Try.prog 6 #[.agg #[.bool c, .bool r0, .bool r1, .int .i64 t0, .int .i64 t1, .int .i64 u0, .int .i64 u1]] W fun e w' => e = .returned (.agg #[.int .i64 0, .int .i64 C1]) ∧ Below W.heap.size W w') := fun W => check_any W c r0 r1 t0 t1 u0 u1 0 C1 hC
  have HT : Hid (∀ W, Calls Try.prog 24 #[.int .i64 now] W fun e w' => e = .returned (.bool (decide (0 ≤ now ∧ now ≤ 1000000000))) ∧ w' = W) := fun W => isTime_any W now
  rw [decide_eq_true hnow] at HT
  have HL0 : Hid (∀ W, Calls Try.prog 20 #[.agg #[.bool c, .bool r0, .bool r1, .int .i64 t0, .int .i64 t1, .int .i64 u0, .int .i64 u1], .int .i64 0, .int .i64 now] W fun e w' => e = .returned (.bool (late u0 now)) ∧ Below W.heap.size W w') := fun W => lateOn0_any W c r0 r1 t0 t1 u0 u1 now
  rw [hL0] at HL0
  clear hL0
  have HL1 : Hid (∀ W, Calls Try.prog 20 #[.agg #[.bool c, .bool r0, .bool r1, .int .i64 t0, .int .i64 t1, .int .i64 u0, .int .i64 u1], .int .i64 1, .int .i64 now] W fun e w' => e = .returned (.bool (late u1 now)) ∧ Below W.heap.size W w') := fun W => lateOn1_any W c r0 r1 t0 t1 u0 u1 now
  rw [hL1] at HL1
  clear hL1
  clear hC hnow
  obtain ⟨W0, e0, hB, k0, k1, k2⟩ := three_new w (.cells #[.bool c, .bool r0, .bool r1, .int .i64 t0, .int .i64 t1, .int .i64 u0, .int .i64 u1] 25) (.cells #[.bool false, .bool false, .bool false, .int .i64 0, .int .i64 0, .int .i64 0, .int .i64 0] 25) (.cells #[.int .i64 0, .int .i64 0] 27)
  have HX := hide hB; have HE := hide e0; have HD := hide k0; have HZ := hide k1; have HG := hide k2
  clear hB e0 k0 k1 k2
  go_enter Try.func15, Try.ntmps15
  go_upto_region 1 with fail
  rw [unhide HE]
  clear HE
  obtain ⟨⟨p0, p1, p2, p3, p4, p5, p6⟩, ⟨pf0, pf1, pf2, pf3, pf4, pf5, pf6⟩, pl⟩ := block7 (unhide HD)
  go_upto_region 2 with (go_at_call 6; refine (unhide HC _).mono ?_; rintro e w1 ⟨rfl, hb1⟩; have HX' := hide (Below.next (unhide HX) hb1 (Nat.le_refl _)); have HD' := hide (keep_below (unhide HD) hb1); have HZ' := hide (keep_below (unhide HZ) hb1); have HG' := hide (keep_below (unhide HG) hb1); clear p0 p1 p2 p3 p4 p5 p6 pf0 pf1 pf2 pf3 pf4 pf5 pf6 pl ; clear HX HD HZ HG hb1; have HX := HX'; have HD := HD'; have HZ := HZ'; have HG := HG'; clear HX' HD' HZ' HG')
  obtain ⟨W1, e1, hB1, k1⟩ := one_new w1 (.cells #[.int .i64 0, .int .i64 C1] 27)
  rw [e1]
  have HX' := hide (Below.next (unhide HX) hB1 (Nat.le_refl _))
  have HD' := hide (keep_below (unhide HD) hB1)
  have HZ' := hide (keep_below (unhide HZ) hB1)
  have HG' := hide (keep_below (unhide HG) hB1)
  have hlD_F := size_of (unhide HD)
  have hlZ_F := size_of (unhide HZ)
  have hlG_F := size_of (unhide HG)
  have HF := hide k1
  clear e1 hB1 k1 HX HD HZ HG
  have HX := HX'; have HD := HD'; have HZ := HZ'; have HG := HG'
  clear HX' HD' HZ' HG'
  obtain ⟨TF, eTF⟩ : ∃ X, w1.heap.size = X := ⟨_, rfl⟩
  rw [eTF] at HF hlD_F hlZ_F hlG_F ⊢
  clear eTF
  obtain ⟨f0, f1, ff0, ff1, fl⟩ := block2 (unhide HF)
  obtain ⟨g0, g1, gf0, gf1, gl⟩ := block2 (unhide HG)
  obtain ⟨⟨p0, p1, p2, p3, p4, p5, p6⟩, ⟨pf0, pf1, pf2, pf3, pf4, pf5, pf6⟩, pl⟩ := block7 (unhide HD)
  obtain ⟨⟨z0, z1, z2, z3, z4, z5, z6⟩, ⟨zf0, zf1, zf2, zf3, zf4, zf5, zf6⟩, zl⟩ := block7 (unhide HZ)
  have uf : w.heap.size + 1 + 1 ≠ TF := by omega
  have uf2 : TF ≠ w.heap.size + 1 + 1 := by omega
  have ug : w.heap.size + 1 ≠ TF := by omega
  have ug2 : TF ≠ w.heap.size + 1 := by omega
  go_upto_region 7 with (go_at_call 24; refine (unhide HT _).mono ?_; rintro e W1 ⟨rfl, rfl⟩)
  obtain ⟨W2, e2, hB2, k2, k3⟩ := two_new W1 (.cells #[] 3) (.cells #[.bool c, .bool r0, .bool r1, .int .i64 t0, .int .i64 t1, .int .i64 u0, .int .i64 u1] 25)
  rw [e2]
  have HO := hide (show Own KI W1.heap.size W2 (.slice (some ⟨W1.heap.size, 0, none⟩) 0 0) [] by rw [← e2]; exact (own_empty (K := KI) W1).below ((Below.refl _ _).alloc (Nat.le_refl _) _))
  have hlF2 := size_of (unhide HF)
  have HX' := hide (Below.next (unhide HX) hB2 (Nat.le_refl _))
  have HD' := hide (keep_below (unhide HD) hB2); have HZ' := hide (keep_below (unhide HZ) hB2); have HG' := hide (keep_below (unhide HG) hB2); have HH := hide k3
  have HBQ : Hid (w.heap.size ≤ W1.heap.size) := (unhide HX).size
  obtain ⟨S, eS⟩ : ∃ S, W1.heap.size = S := ⟨_, rfl⟩
  rw [eS] at HO HH hlF2 HBQ ⊢
  clear e2 hB2 k2 k3 eS HX HD HZ HG HF
  have HX := HX'; have HD := HD'; have HZ := HZ'; have HG := HG'
  clear HX' HD' HZ' HG' f0 f1 ff0 ff1 fl uf uf2 ug ug2
  clear p0 p1 p2 p3 p4 p5 p6 pf0 pf1 pf2 pf3 pf4 pf5 pf6 pl
  clear z0 z1 z2 z3 z4 z5 z6 zf0 zf1 zf2 zf3 zf4 zf5 zf6 zl g0 g1 gf0 gf1 gl
  obtain ⟨T, eT⟩ : ∃ T, S + 1 = T := ⟨_, rfl⟩
  rw [eT] at HH ⊢
  have hST : S < T := by omega
  clear eT
  obtain ⟨⟨p0, p1, p2, p3, p4, p5, p6⟩, ⟨pf0, pf1, pf2, pf3, pf4, pf5, pf6⟩, pl⟩ := block7 (unhide HD)
  go_wp2
  refine wp_loop_rounds 3 ?_
  rw [rounds_succ]
  go_upto_region 11 with (go_at_call 20; refine (unhide HL0 _).mono ?_; rintro e v0 ⟨rfl, hb3⟩; have HO' := hide ((unhide HO).below hb3); have HX' := hide (Below.next (unhide HX) hb3 (Nat.le_refl _)); have HD' := hide (keep_below (unhide HD) hb3); have HZ' := hide (keep_below (unhide HZ) hb3); have HG' := hide (keep_below (unhide HG) hb3); have HH' := hide (keep_below (unhide HH) hb3); clear HX HD HZ HG HH hb3; have HX := HX'; have HD := HD'; have HZ := HZ'; have HG := HG'; have HH := HH'; clear HX' HD' HZ' HG' HH'; clear HO; have HO := HO'; clear HO'; clear p0 p1 p2 p3 p4 p5 p6 pf0 pf1 pf2 pf3 pf4 pf5 pf6 pl; obtain ⟨⟨p0, p1, p2, p3, p4, p5, p6⟩, ⟨pf0, pf1, pf2, pf3, pf4, pf5, pf6⟩, pl⟩ := block7 (unhide HD))
  have HBS := hide (show S ≤ v0.heap.size by have := size_of (unhide HH); omega)
  go_upto_region 12 with (at_builtin; refine wpList_append ki rfl (.tmp 39) (.tmp 44) rfl S _ [] rfl ((unhide HO).below ((Below.refl _ _).alloc (Nat.le_refl _) (.cells #[.int .i64 t0] 3))) _ [t0] rfl (isl_one ki _ t0) 1 rfl (by decide) (by have := unhide HBS; have := (unhide HX).size; simp; omega) ?_; intro a0 c0 x0 ho hg; have HX' := hide (((unhide HX).alloc (unhide HX).size (.cells #[.int .i64 t0] 3)).grown hg ((unhide HX).alloc (unhide HX).size (.cells #[.int .i64 t0] 3)).size (fun k hk => by have := ((unhide HO).lt k hk).1; have := unhide HBQ; omega)); have HD' := hide (keep_grown (keep_alloc (unhide HD) (.cells #[.int .i64 t0] 3)) hg (fun j hj => Own.ne ((unhide HO).below ((Below.refl _ _).alloc (Nat.le_refl _) (.cells #[.int .i64 t0] 3))) (keep_alloc (unhide HD) (.cells #[.int .i64 t0] 3)) (by decide) j hj)); have HZ' := hide (keep_grown (keep_alloc (unhide HZ) (.cells #[.int .i64 t0] 3)) hg (fun j hj => Own.ne ((unhide HO).below ((Below.refl _ _).alloc (Nat.le_refl _) (.cells #[.int .i64 t0] 3))) (keep_alloc (unhide HZ) (.cells #[.int .i64 t0] 3)) (by decide) j hj)); have HG' := hide (keep_grown (keep_alloc (unhide HG) (.cells #[.int .i64 t0] 3)) hg (fun j hj => Own.ne ((unhide HO).below ((Below.refl _ _).alloc (Nat.le_refl _) (.cells #[.int .i64 t0] 3))) (keep_alloc (unhide HG) (.cells #[.int .i64 t0] 3)) (by decide) j hj)); have HH' := hide (keep_grown (keep_alloc (unhide HH) (.cells #[.int .i64 t0] 3)) hg (fun j hj => Own.ne ((unhide HO).below ((Below.refl _ _).alloc (Nat.le_refl _) (.cells #[.int .i64 t0] 3))) (keep_alloc (unhide HH) (.cells #[.int .i64 t0] 3)) (by decide) j hj)); have HO' := hide ho; clear p0 p1 p2 p3 p4 p5 p6 pf0 pf1 pf2 pf3 pf4 pf5 pf6 pl; clear HX HD HZ HG HH HO hg ho; have HX := HX'; have HD := HD'; have HZ := HZ'; have HG := HG'; have HH := HH'; have HO := HO'; clear HX' HO' HD' HZ' HG' HH'; have HBS := hide (Nat.le_trans (unhide HBS) (Nat.le_refl _)); obtain ⟨⟨p0, p1, p2, p3, p4, p5, p6⟩, ⟨pf0, pf1, pf2, pf3, pf4, pf5, pf6⟩, pl⟩ := block7 (unhide HD))
  obtain ⟨⟨h0, h1, h2, h3, h4, h5, h6⟩, ⟨hf0, hf1, hf2, hf3, hf4, hf5, hf6⟩, hl⟩ := block7 (unhide HH)
  go_wp2_with fail
  clear h0 h1 h2 h3 h4 h5 h6 hf0 hf1 hf2 hf3 hf4 hf5 hf6 hl
  have HO' := hide ((unhide HO).keep (fun k hk => Below.heap_setCell x0 ⟨T, 3, none⟩ (.int .i64 0) k (by have := Own.ne (unhide HO) (unhide HH) (by decide) k hk; simpa using this)))
  have HX' := hide (below_set (i := 3) (unhide HX) (show w.heap.size ≤ T by omega) (.int .i64 0))
  have HH' := hide (set_block7 (i := 3) (y := .int .i64 0) (unhide HH))
  have HD' := hide (keep_set (g := T) (o := 3) (v := .int .i64 0) (unhide HD) (by omega))
  have HZ' := hide (keep_set (g := T) (o := 3) (v := .int .i64 0) (unhide HZ) (by omega))
  have HG' := hide (keep_set (g := T) (o := 3) (v := .int .i64 0) (unhide HG) (by omega))
  clear p0 p1 p2 p3 p4 p5 p6 pf0 pf1 pf2 pf3 pf4 pf5 pf6 pl
  clear HX HD HZ HG HH HO HBS
  obtain ⟨y0, ey0⟩ : ∃ X, x0.setCell ⟨T, 3, none⟩ (.int .i64 0) = X := ⟨_, rfl⟩
  rw [ey0] at HX' HD' HZ' HG' HH' HO' ⊢
  clear ey0
  simp only [List.setIfInBounds_toArray, List.set_cons_zero, List.set_cons_succ] at HH'
  have HX := HX'; have HD := HD'; have HZ := HZ'; have HG := HG'; have HH := HH'; have HO := HO'
  clear HX' HD' HZ' HG' HH' HO'
  obtain ⟨⟨p0, p1, p2, p3, p4, p5, p6⟩, ⟨pf0, pf1, pf2, pf3, pf4, pf5, pf6⟩, pl⟩ := block7 (unhide HD)
  rw [rounds_succ]
  go_wp2_with (go_at_call 20; refine (unhide HL1 _).mono ?_; rintro e v1 ⟨rfl, hb3⟩; have HO' := hide ((unhide HO).below hb3); have HX' := hide (Below.next (unhide HX) hb3 (Nat.le_refl _)); have HD' := hide (keep_below (unhide HD) hb3); have HZ' := hide (keep_below (unhide HZ) hb3); have HG' := hide (keep_below (unhide HG) hb3); have HH' := hide (keep_below (unhide HH) hb3); clear HX HD HZ HG HH hb3; have HX := HX'; have HD := HD'; have HZ := HZ'; have HG := HG'; have HH := HH'; clear HX' HD' HZ' HG' HH'; clear HO; have HO := HO'; clear HO'; clear p0 p1 p2 p3 p4 p5 p6 pf0 pf1 pf2 pf3 pf4 pf5 pf6 pl; obtain ⟨⟨p0, p1, p2, p3, p4, p5, p6⟩, ⟨pf0, pf1, pf2, pf3, pf4, pf5, pf6⟩, pl⟩ := block7 (unhide HD))
  rw [rounds_succ]
  obtain ⟨⟨h0, h1, h2, h3, h4, h5, h6⟩, ⟨hf0, hf1, hf2, hf3, hf4, hf5, hf6⟩, hl⟩ := block7 (unhide HH)
  obtain ⟨⟨z0, z1, z2, z3, z4, z5, z6⟩, ⟨zf0, zf1, zf2, zf3, zf4, zf5, zf6⟩, zl⟩ := block7 (unhide HZ)
  obtain ⟨g0, g1, gf0, gf1, gl⟩ := block2 (unhide HG)
  have uh : w.heap.size + 1 + 1 ≠ T := by omega
  have uh2 : T ≠ w.heap.size + 1 + 1 := by omega
  have ui : w.heap.size + 1 ≠ T := by omega
  have ui2 : T ≠ w.heap.size + 1 := by omega
  go_wp2_with fail
  have HO2 := hide ((unhide HO).base (unhide HBQ))
  refine bodyPost_ret (v := .tuple #[.agg #[.bool c, .bool r0, .bool r1, .int .i64 0, .int .i64 t1, .int .i64 u0, .int .i64 u1], .slice a0 1 c0, .agg #[.int .i64 0, .int .i64 0]]) (by simp [results, Try.results15, go_sem, g0, g1, z0, z1, z2, z3, z4, z5, z6]) rfl ⟨_, _, rfl, ?_, (by repeat (first | with_reducible exact unhide HX | with_reducible refine drew_below ?_ | (with_reducible refine below_set ?_ (by omega) _)))⟩
  refine (unhide HO2).keep (fun k hk => ?_)
  have q1 := Own.ne (unhide HO) (unhide HZ) (by decide) k hk
  have q2 := Own.ne (unhide HO) (unhide HG) (by decide) k hk
  repeat (rw [Below.heap_setCell _ _ _ _ (by first | simpa using q1 | simpa using q2)])

set_option maxRecDepth 100000 in
set_option maxHeartbeats 2000000 in
theorem tick_gg (w : World) (c r0 r1 : Bool) (t0 t1 u0 u1 now C1 : Int) (hC : descF c r0 r1 t0 t1 u0 u1 = (0, C1)) (hnow : 0 ≤ now ∧ now ≤ 1000000000) (hz0 : 0 < t0) (hL0 : late u0 now = true) (hz1 : 0 < t1) (hL1 : late u1 now = true) :
    Calls Try.prog 15 #[.agg #[.bool c, .bool r0, .bool r1, .int .i64 t0, .int .i64 t1, .int .i64 u0, .int .i64 u1], .int .i64 now] w fun e w' => ∃ a k, e = .returned (.tuple #[.agg #[.bool c, .bool r0, .bool r1, .int .i64 0, .int .i64 0, .int .i64 u0, .int .i64 u1], .slice a 2 k, .agg #[.int .i64 0, .int .i64 0]]) ∧ Own KI w.heap.size w' (.slice a 2 k) [t0, t1] ∧ Below w.heap.size w w' := by
  have HC : Hid (∀ W, Calls Try.prog 6 #[.agg #[.bool c, .bool r0, .bool r1, .int .i64 t0, .int .i64 t1, .int .i64 u0, .int .i64 u1]] W fun e w' => e = .returned (.agg #[.int .i64 0, .int .i64 C1]) ∧ Below W.heap.size W w') := fun W => check_any W c r0 r1 t0 t1 u0 u1 0 C1 hC
  have HT : Hid (∀ W, Calls Try.prog 24 #[.int .i64 now] W fun e w' => e = .returned (.bool (decide (0 ≤ now ∧ now ≤ 1000000000))) ∧ w' = W) := fun W => isTime_any W now
  rw [decide_eq_true hnow] at HT
  have HL0 : Hid (∀ W, Calls Try.prog 20 #[.agg #[.bool c, .bool r0, .bool r1, .int .i64 t0, .int .i64 t1, .int .i64 u0, .int .i64 u1], .int .i64 0, .int .i64 now] W fun e w' => e = .returned (.bool (late u0 now)) ∧ Below W.heap.size W w') := fun W => lateOn0_any W c r0 r1 t0 t1 u0 u1 now
  rw [hL0] at HL0
  clear hL0
  have HL1 : Hid (∀ W, Calls Try.prog 20 #[.agg #[.bool c, .bool r0, .bool r1, .int .i64 t0, .int .i64 t1, .int .i64 u0, .int .i64 u1], .int .i64 1, .int .i64 now] W fun e w' => e = .returned (.bool (late u1 now)) ∧ Below W.heap.size W w') := fun W => lateOn1_any W c r0 r1 t0 t1 u0 u1 now
  rw [hL1] at HL1
  clear hL1
  clear hC hnow
  obtain ⟨W0, e0, hB, k0, k1, k2⟩ := three_new w (.cells #[.bool c, .bool r0, .bool r1, .int .i64 t0, .int .i64 t1, .int .i64 u0, .int .i64 u1] 25) (.cells #[.bool false, .bool false, .bool false, .int .i64 0, .int .i64 0, .int .i64 0, .int .i64 0] 25) (.cells #[.int .i64 0, .int .i64 0] 27)
  have HX := hide hB; have HE := hide e0; have HD := hide k0; have HZ := hide k1; have HG := hide k2
  clear hB e0 k0 k1 k2
  go_enter Try.func15, Try.ntmps15
  go_upto_region 1 with fail
  rw [unhide HE]
  clear HE
  obtain ⟨⟨p0, p1, p2, p3, p4, p5, p6⟩, ⟨pf0, pf1, pf2, pf3, pf4, pf5, pf6⟩, pl⟩ := block7 (unhide HD)
  go_upto_region 2 with (go_at_call 6; refine (unhide HC _).mono ?_; rintro e w1 ⟨rfl, hb1⟩; have HX' := hide (Below.next (unhide HX) hb1 (Nat.le_refl _)); have HD' := hide (keep_below (unhide HD) hb1); have HZ' := hide (keep_below (unhide HZ) hb1); have HG' := hide (keep_below (unhide HG) hb1); clear p0 p1 p2 p3 p4 p5 p6 pf0 pf1 pf2 pf3 pf4 pf5 pf6 pl ; clear HX HD HZ HG hb1; have HX := HX'; have HD := HD'; have HZ := HZ'; have HG := HG'; clear HX' HD' HZ' HG')
  obtain ⟨W1, e1, hB1, k1⟩ := one_new w1 (.cells #[.int .i64 0, .int .i64 C1] 27)
  rw [e1]
  have HX' := hide (Below.next (unhide HX) hB1 (Nat.le_refl _))
  have HD' := hide (keep_below (unhide HD) hB1)
  have HZ' := hide (keep_below (unhide HZ) hB1)
  have HG' := hide (keep_below (unhide HG) hB1)
  have hlD_F := size_of (unhide HD)
  have hlZ_F := size_of (unhide HZ)
  have hlG_F := size_of (unhide HG)
  have HF := hide k1
  clear e1 hB1 k1 HX HD HZ HG
  have HX := HX'; have HD := HD'; have HZ := HZ'; have HG := HG'
  clear HX' HD' HZ' HG'
  obtain ⟨TF, eTF⟩ : ∃ X, w1.heap.size = X := ⟨_, rfl⟩
  rw [eTF] at HF hlD_F hlZ_F hlG_F ⊢
  clear eTF
  obtain ⟨f0, f1, ff0, ff1, fl⟩ := block2 (unhide HF)
  obtain ⟨g0, g1, gf0, gf1, gl⟩ := block2 (unhide HG)
  obtain ⟨⟨p0, p1, p2, p3, p4, p5, p6⟩, ⟨pf0, pf1, pf2, pf3, pf4, pf5, pf6⟩, pl⟩ := block7 (unhide HD)
  obtain ⟨⟨z0, z1, z2, z3, z4, z5, z6⟩, ⟨zf0, zf1, zf2, zf3, zf4, zf5, zf6⟩, zl⟩ := block7 (unhide HZ)
  have uf : w.heap.size + 1 + 1 ≠ TF := by omega
  have uf2 : TF ≠ w.heap.size + 1 + 1 := by omega
  have ug : w.heap.size + 1 ≠ TF := by omega
  have ug2 : TF ≠ w.heap.size + 1 := by omega
  go_upto_region 7 with (go_at_call 24; refine (unhide HT _).mono ?_; rintro e W1 ⟨rfl, rfl⟩)
  obtain ⟨W2, e2, hB2, k2, k3⟩ := two_new W1 (.cells #[] 3) (.cells #[.bool c, .bool r0, .bool r1, .int .i64 t0, .int .i64 t1, .int .i64 u0, .int .i64 u1] 25)
  rw [e2]
  have HO := hide (show Own KI W1.heap.size W2 (.slice (some ⟨W1.heap.size, 0, none⟩) 0 0) [] by rw [← e2]; exact (own_empty (K := KI) W1).below ((Below.refl _ _).alloc (Nat.le_refl _) _))
  have hlF2 := size_of (unhide HF)
  have HX' := hide (Below.next (unhide HX) hB2 (Nat.le_refl _))
  have HD' := hide (keep_below (unhide HD) hB2); have HZ' := hide (keep_below (unhide HZ) hB2); have HG' := hide (keep_below (unhide HG) hB2); have HH := hide k3
  have HBQ : Hid (w.heap.size ≤ W1.heap.size) := (unhide HX).size
  obtain ⟨S, eS⟩ : ∃ S, W1.heap.size = S := ⟨_, rfl⟩
  rw [eS] at HO HH hlF2 HBQ ⊢
  clear e2 hB2 k2 k3 eS HX HD HZ HG HF
  have HX := HX'; have HD := HD'; have HZ := HZ'; have HG := HG'
  clear HX' HD' HZ' HG' f0 f1 ff0 ff1 fl uf uf2 ug ug2
  clear p0 p1 p2 p3 p4 p5 p6 pf0 pf1 pf2 pf3 pf4 pf5 pf6 pl
  clear z0 z1 z2 z3 z4 z5 z6 zf0 zf1 zf2 zf3 zf4 zf5 zf6 zl g0 g1 gf0 gf1 gl
  obtain ⟨T, eT⟩ : ∃ T, S + 1 = T := ⟨_, rfl⟩
  rw [eT] at HH ⊢
  have hST : S < T := by omega
  clear eT
  obtain ⟨⟨p0, p1, p2, p3, p4, p5, p6⟩, ⟨pf0, pf1, pf2, pf3, pf4, pf5, pf6⟩, pl⟩ := block7 (unhide HD)
  go_wp2
  refine wp_loop_rounds 3 ?_
  rw [rounds_succ]
  go_upto_region 11 with (go_at_call 20; refine (unhide HL0 _).mono ?_; rintro e v0 ⟨rfl, hb3⟩; have HO' := hide ((unhide HO).below hb3); have HX' := hide (Below.next (unhide HX) hb3 (Nat.le_refl _)); have HD' := hide (keep_below (unhide HD) hb3); have HZ' := hide (keep_below (unhide HZ) hb3); have HG' := hide (keep_below (unhide HG) hb3); have HH' := hide (keep_below (unhide HH) hb3); clear HX HD HZ HG HH hb3; have HX := HX'; have HD := HD'; have HZ := HZ'; have HG := HG'; have HH := HH'; clear HX' HD' HZ' HG' HH'; clear HO; have HO := HO'; clear HO'; clear p0 p1 p2 p3 p4 p5 p6 pf0 pf1 pf2 pf3 pf4 pf5 pf6 pl; obtain ⟨⟨p0, p1, p2, p3, p4, p5, p6⟩, ⟨pf0, pf1, pf2, pf3, pf4, pf5, pf6⟩, pl⟩ := block7 (unhide HD))
  have HBS := hide (show S ≤ v0.heap.size by have := size_of (unhide HH); omega)
  go_upto_region 12 with (at_builtin; refine wpList_append ki rfl (.tmp 39) (.tmp 44) rfl S _ [] rfl ((unhide HO).below ((Below.refl _ _).alloc (Nat.le_refl _) (.cells #[.int .i64 t0] 3))) _ [t0] rfl (isl_one ki _ t0) 1 rfl (by decide) (by have := unhide HBS; have := (unhide HX).size; simp; omega) ?_; intro a0 c0 x0 ho hg; have HX' := hide (((unhide HX).alloc (unhide HX).size (.cells #[.int .i64 t0] 3)).grown hg ((unhide HX).alloc (unhide HX).size (.cells #[.int .i64 t0] 3)).size (fun k hk => by have := ((unhide HO).lt k hk).1; have := unhide HBQ; omega)); have HD' := hide (keep_grown (keep_alloc (unhide HD) (.cells #[.int .i64 t0] 3)) hg (fun j hj => Own.ne ((unhide HO).below ((Below.refl _ _).alloc (Nat.le_refl _) (.cells #[.int .i64 t0] 3))) (keep_alloc (unhide HD) (.cells #[.int .i64 t0] 3)) (by decide) j hj)); have HZ' := hide (keep_grown (keep_alloc (unhide HZ) (.cells #[.int .i64 t0] 3)) hg (fun j hj => Own.ne ((unhide HO).below ((Below.refl _ _).alloc (Nat.le_refl _) (.cells #[.int .i64 t0] 3))) (keep_alloc (unhide HZ) (.cells #[.int .i64 t0] 3)) (by decide) j hj)); have HG' := hide (keep_grown (keep_alloc (unhide HG) (.cells #[.int .i64 t0] 3)) hg (fun j hj => Own.ne ((unhide HO).below ((Below.refl _ _).alloc (Nat.le_refl _) (.cells #[.int .i64 t0] 3))) (keep_alloc (unhide HG) (.cells #[.int .i64 t0] 3)) (by decide) j hj)); have HH' := hide (keep_grown (keep_alloc (unhide HH) (.cells #[.int .i64 t0] 3)) hg (fun j hj => Own.ne ((unhide HO).below ((Below.refl _ _).alloc (Nat.le_refl _) (.cells #[.int .i64 t0] 3))) (keep_alloc (unhide HH) (.cells #[.int .i64 t0] 3)) (by decide) j hj)); have HO' := hide ho; clear p0 p1 p2 p3 p4 p5 p6 pf0 pf1 pf2 pf3 pf4 pf5 pf6 pl; clear HX HD HZ HG HH HO hg ho; have HX := HX'; have HD := HD'; have HZ := HZ'; have HG := HG'; have HH := HH'; have HO := HO'; clear HX' HO' HD' HZ' HG' HH'; have HBS := hide (Nat.le_trans (unhide HBS) (Nat.le_refl _)); obtain ⟨⟨p0, p1, p2, p3, p4, p5, p6⟩, ⟨pf0, pf1, pf2, pf3, pf4, pf5, pf6⟩, pl⟩ := block7 (unhide HD))
  obtain ⟨⟨h0, h1, h2, h3, h4, h5, h6⟩, ⟨hf0, hf1, hf2, hf3, hf4, hf5, hf6⟩, hl⟩ := block7 (unhide HH)
  go_wp2_with fail
  clear h0 h1 h2 h3 h4 h5 h6 hf0 hf1 hf2 hf3 hf4 hf5 hf6 hl
  have HO' := hide ((unhide HO).keep (fun k hk => Below.heap_setCell x0 ⟨T, 3, none⟩ (.int .i64 0) k (by have := Own.ne (unhide HO) (unhide HH) (by decide) k hk; simpa using this)))
  have HX' := hide (below_set (i := 3) (unhide HX) (show w.heap.size ≤ T by omega) (.int .i64 0))
  have HH' := hide (set_block7 (i := 3) (y := .int .i64 0) (unhide HH))
  have HD' := hide (keep_set (g := T) (o := 3) (v := .int .i64 0) (unhide HD) (by omega))
  have HZ' := hide (keep_set (g := T) (o := 3) (v := .int .i64 0) (unhide HZ) (by omega))
  have HG' := hide (keep_set (g := T) (o := 3) (v := .int .i64 0) (unhide HG) (by omega))
  clear p0 p1 p2 p3 p4 p5 p6 pf0 pf1 pf2 pf3 pf4 pf5 pf6 pl
  clear HX HD HZ HG HH HO HBS
  obtain ⟨y0, ey0⟩ : ∃ X, x0.setCell ⟨T, 3, none⟩ (.int .i64 0) = X := ⟨_, rfl⟩
  rw [ey0] at HX' HD' HZ' HG' HH' HO' ⊢
  clear ey0
  simp only [List.setIfInBounds_toArray, List.set_cons_zero, List.set_cons_succ] at HH'
  have HX := HX'; have HD := HD'; have HZ := HZ'; have HG := HG'; have HH := HH'; have HO := HO'
  clear HX' HD' HZ' HG' HH' HO'
  obtain ⟨⟨p0, p1, p2, p3, p4, p5, p6⟩, ⟨pf0, pf1, pf2, pf3, pf4, pf5, pf6⟩, pl⟩ := block7 (unhide HD)
  rw [rounds_succ]
  go_upto_region 11 with (go_at_call 20; refine (unhide HL1 _).mono ?_; rintro e v1 ⟨rfl, hb3⟩; have HO' := hide ((unhide HO).below hb3); have HX' := hide (Below.next (unhide HX) hb3 (Nat.le_refl _)); have HD' := hide (keep_below (unhide HD) hb3); have HZ' := hide (keep_below (unhide HZ) hb3); have HG' := hide (keep_below (unhide HG) hb3); have HH' := hide (keep_below (unhide HH) hb3); clear HX HD HZ HG HH hb3; have HX := HX'; have HD := HD'; have HZ := HZ'; have HG := HG'; have HH := HH'; clear HX' HD' HZ' HG' HH'; clear HO; have HO := HO'; clear HO'; clear p0 p1 p2 p3 p4 p5 p6 pf0 pf1 pf2 pf3 pf4 pf5 pf6 pl; obtain ⟨⟨p0, p1, p2, p3, p4, p5, p6⟩, ⟨pf0, pf1, pf2, pf3, pf4, pf5, pf6⟩, pl⟩ := block7 (unhide HD))
  have HBS := hide (show S ≤ v1.heap.size by have := size_of (unhide HH); omega)
  go_upto_region 12 with (at_builtin; refine wpList_append ki rfl (.tmp 39) (.tmp 44) rfl S _ [t0] rfl ((unhide HO).below ((Below.refl _ _).alloc (Nat.le_refl _) (.cells #[.int .i64 t1] 3))) _ [t1] rfl (isl_one ki _ t1) 2 rfl (by decide) (by have := unhide HBS; have := (unhide HX).size; simp; omega) ?_; intro a1 c1 x1 ho hg; have HX' := hide (((unhide HX).alloc (unhide HX).size (.cells #[.int .i64 t1] 3)).grown hg ((unhide HX).alloc (unhide HX).size (.cells #[.int .i64 t1] 3)).size (fun k hk => by have := ((unhide HO).lt k hk).1; have := unhide HBQ; omega)); have HD' := hide (keep_grown (keep_alloc (unhide HD) (.cells #[.int .i64 t1] 3)) hg (fun j hj => Own.ne ((unhide HO).below ((Below.refl _ _).alloc (Nat.le_refl _) (.cells #[.int .i64 t1] 3))) (keep_alloc (unhide HD) (.cells #[.int .i64 t1] 3)) (by decide) j hj)); have HZ' := hide (keep_grown (keep_alloc (unhide HZ) (.cells #[.int .i64 t1] 3)) hg (fun j hj => Own.ne ((unhide HO).below ((Below.refl _ _).alloc (Nat.le_refl _) (.cells #[.int .i64 t1] 3))) (keep_alloc (unhide HZ) (.cells #[.int .i64 t1] 3)) (by decide) j hj)); have HG' := hide (keep_grown (keep_alloc (unhide HG) (.cells #[.int .i64 t1] 3)) hg (fun j hj => Own.ne ((unhide HO).below ((Below.refl _ _).alloc (Nat.le_refl _) (.cells #[.int .i64 t1] 3))) (keep_alloc (unhide HG) (.cells #[.int .i64 t1] 3)) (by decide) j hj)); have HH' := hide (keep_grown (keep_alloc (unhide HH) (.cells #[.int .i64 t1] 3)) hg (fun j hj => Own.ne ((unhide HO).below ((Below.refl _ _).alloc (Nat.le_refl _) (.cells #[.int .i64 t1] 3))) (keep_alloc (unhide HH) (.cells #[.int .i64 t1] 3)) (by decide) j hj)); have HO' := hide ho; clear p0 p1 p2 p3 p4 p5 p6 pf0 pf1 pf2 pf3 pf4 pf5 pf6 pl; clear HX HD HZ HG HH HO hg ho; have HX := HX'; have HD := HD'; have HZ := HZ'; have HG := HG'; have HH := HH'; have HO := HO'; clear HX' HO' HD' HZ' HG' HH'; have HBS := hide (Nat.le_trans (unhide HBS) (Nat.le_refl _)); obtain ⟨⟨p0, p1, p2, p3, p4, p5, p6⟩, ⟨pf0, pf1, pf2, pf3, pf4, pf5, pf6⟩, pl⟩ := block7 (unhide HD))
  obtain ⟨⟨h0, h1, h2, h3, h4, h5, h6⟩, ⟨hf0, hf1, hf2, hf3, hf4, hf5, hf6⟩, hl⟩ := block7 (unhide HH)
  go_wp2_with fail
  clear h0 h1 h2 h3 h4 h5 h6 hf0 hf1 hf2 hf3 hf4 hf5 hf6 hl
  have HO' := hide ((unhide HO).keep (fun k hk => Below.heap_setCell x1 ⟨T, 4, none⟩ (.int .i64 0) k (by have := Own.ne (unhide HO) (unhide HH) (by decide) k hk; simpa using this)))
  have HX' := hide (below_set (i := 4) (unhide HX) (show w.heap.size ≤ T by omega) (.int .i64 0))
  have HH' := hide (set_block7 (i := 4) (y := .int .i64 0) (unhide HH))
  have HD' := hide (keep_set (g := T) (o := 4) (v := .int .i64 0) (unhide HD) (by omega))
  have HZ' := hide (keep_set (g := T) (o := 4) (v := .int .i64 0) (unhide HZ) (by omega))
  have HG' := hide (keep_set (g := T) (o := 4) (v := .int .i64 0) (unhide HG) (by omega))
  clear p0 p1 p2 p3 p4 p5 p6 pf0 pf1 pf2 pf3 pf4 pf5 pf6 pl
  clear HX HD HZ HG HH HO HBS
  obtain ⟨y1, ey1⟩ : ∃ X, x1.setCell ⟨T, 4, none⟩ (.int .i64 0) = X := ⟨_, rfl⟩
  rw [ey1] at HX' HD' HZ' HG' HH' HO' ⊢
  clear ey1
  simp only [List.setIfInBounds_toArray, List.set_cons_zero, List.set_cons_succ] at HH'
  have HX := HX'; have HD := HD'; have HZ := HZ'; have HG := HG'; have HH := HH'; have HO := HO'
  clear HX' HD' HZ' HG' HH' HO'
  obtain ⟨⟨p0, p1, p2, p3, p4, p5, p6⟩, ⟨pf0, pf1, pf2, pf3, pf4, pf5, pf6⟩, pl⟩ := block7 (unhide HD)
  rw [rounds_succ]
  obtain ⟨⟨h0, h1, h2, h3, h4, h5, h6⟩, ⟨hf0, hf1, hf2, hf3, hf4, hf5, hf6⟩, hl⟩ := block7 (unhide HH)
  obtain ⟨⟨z0, z1, z2, z3, z4, z5, z6⟩, ⟨zf0, zf1, zf2, zf3, zf4, zf5, zf6⟩, zl⟩ := block7 (unhide HZ)
  obtain ⟨g0, g1, gf0, gf1, gl⟩ := block2 (unhide HG)
  have uh : w.heap.size + 1 + 1 ≠ T := by omega
  have uh2 : T ≠ w.heap.size + 1 + 1 := by omega
  have ui : w.heap.size + 1 ≠ T := by omega
  have ui2 : T ≠ w.heap.size + 1 := by omega
  go_wp2_with fail
  have HO2 := hide ((unhide HO).base (unhide HBQ))
  refine bodyPost_ret (v := .tuple #[.agg #[.bool c, .bool r0, .bool r1, .int .i64 0, .int .i64 0, .int .i64 u0, .int .i64 u1], .slice a1 2 c1, .agg #[.int .i64 0, .int .i64 0]]) (by simp [results, Try.results15, go_sem, g0, g1, z0, z1, z2, z3, z4, z5, z6]) rfl ⟨_, _, rfl, ?_, (by repeat (first | with_reducible exact unhide HX | with_reducible refine drew_below ?_ | (with_reducible refine below_set ?_ (by omega) _)))⟩
  refine (unhide HO2).keep (fun k hk => ?_)
  have q1 := Own.ne (unhide HO) (unhide HZ) (by decide) k hk
  have q2 := Own.ne (unhide HO) (unhide HG) (by decide) k hk
  repeat (rw [Below.heap_setCell _ _ _ _ (by first | simpa using q1 | simpa using q2)])

end Go.Proofs.Ytmghfedlpndpiaa
