/-
  poll.Close.
-/
import Derived.Test.YtmghfedlpndpiaaL
import Derived.LoopN
namespace Go.Proofs.Ytmghfedlpndpiaa
open Go.RowKit

theorem own_size {base n : Nat} {w : World} {a : Option Addr} {c : Nat} {xs : List Int} (h : Own KI base w (.slice a (n + 1) c) xs) : base ≤ w.heap.size := by
  have hl := h.isl.len
  obtain ⟨_, ⟨h1, h2⟩ | ⟨g, cap, cur, h1, hg, hh, _⟩⟩ := h
  · omega
  · exact Nat.le_trans hg (Nat.le_of_lt (Array.getElem?_eq_some_iff.1 hh).1)

set_option maxRecDepth 100000 in
set_option maxHeartbeats 2000000 in
theorem close_fault (w : World) (c r0 r1 : Bool) (t0 t1 u0 u1 C0 C1 : Int) (hC : descF c r0 r1 t0 t1 u0 u1 = (C0, C1)) (hbad : C0 ≠ 0) :
    Calls Try.prog 16 #[.agg #[.bool c, .bool r0, .bool r1, .int .i64 t0, .int .i64 t1, .int .i64 u0, .int .i64 u1]] w fun e w' => e = .returned (.tuple #[.agg #[.bool false, .bool false, .bool false, .int .i64 0, .int .i64 0, .int .i64 0, .int .i64 0], .slice none 0 0, .bool false, .agg #[.int .i64 C0, .int .i64 C1]]) ∧ Below w.heap.size w w' := by
  have HC : Hid (∀ W, Calls Try.prog 6 #[.agg #[.bool c, .bool r0, .bool r1, .int .i64 t0, .int .i64 t1, .int .i64 u0, .int .i64 u1]] W fun e w' => e = .returned (.agg #[.int .i64 C0, .int .i64 C1]) ∧ Below W.heap.size W w') := fun W => check_any W c r0 r1 t0 t1 u0 u1 C0 C1 hC
  have xc : (C0 != 0) = true := by simpa using hbad
  clear hC hbad
  obtain ⟨W0, e0, hB, k0, k1, k2⟩ := three_new w (.cells #[.bool c, .bool r0, .bool r1, .int .i64 t0, .int .i64 t1, .int .i64 u0, .int .i64 u1] 25) (.cells #[.bool false, .bool false, .bool false, .int .i64 0, .int .i64 0, .int .i64 0, .int .i64 0] 25) (.cells #[.int .i64 0, .int .i64 0] 27)
  have HX := hide hB; have HE := hide e0; have HD := hide k0; have HZ := hide k1; have HG := hide k2
  clear hB e0 k0 k1 k2
  go_enter Try.func16, Try.ntmps16
  go_upto_region 1 with fail
  rw [unhide HE]
  clear HE
  obtain ⟨⟨p0, p1, p2, p3, p4, p5, p6⟩, ⟨pf0, pf1, pf2, pf3, pf4, pf5, pf6⟩, pl⟩ := block7 (unhide HD)
  go_upto_region 2 with (go_at_call 6; refine (unhide HC _).mono ?_; rintro e w1 ⟨rfl, hb1⟩; have HX' := hide (Below.next (unhide HX) hb1 (Nat.le_refl _)); have HD' := hide (keep_below (unhide HD) hb1); have HZ' := hide (keep_below (unhide HZ) hb1); have HG' := hide (keep_below (unhide HG) hb1); clear p0 p1 p2 p3 p4 p5 p6 pf0 pf1 pf2 pf3 pf4 pf5 pf6 pl ; clear HX HD HZ HG hb1; have HX := HX'; have HD := HD'; have HZ := HZ'; have HG := HG'; clear HX' HD' HZ' HG')
  obtain ⟨W1, e1, hB1, k1⟩ := one_new w1 (.cells #[.int .i64 C0, .int .i64 C1] 27)
  rw [e1]
  have HX' := hide (Below.next (unhide HX) hB1 (Nat.le_refl _))
  have HD' := hide (keep_below (unhide HD) hB1)
  have HZ' := hide (keep_below (unhide HZ) hB1)
  have HG' := hide (keep_below (unhide HG) hB1)
  have hlD_F := size_of (unhide HD)
  have hlZ_F := size_of (unhide HZ)
  have hlG_F := size_of (unhide HG)
  have HF := hide k1
  clear e1 hB1 k1 HX HD HZ HG
  have HX := HX'; have HD := HD'; have HZ := HZ'; have HG := HG'
  clear HX' HD' HZ' HG'
  obtain ⟨TF, eTF⟩ : ∃ X, w1.heap.size = X := ⟨_, rfl⟩
  rw [eTF] at HF hlD_F hlZ_F hlG_F ⊢
  clear eTF
  obtain ⟨f0, f1, ff0, ff1, fl⟩ := block2 (unhide HF)
  obtain ⟨g0, g1, gf0, gf1, gl⟩ := block2 (unhide HG)
  obtain ⟨⟨p0, p1, p2, p3, p4, p5, p6⟩, ⟨pf0, pf1, pf2, pf3, pf4, pf5, pf6⟩, pl⟩ := block7 (unhide HD)
  obtain ⟨⟨z0, z1, z2, z3, z4, z5, z6⟩, ⟨zf0, zf1, zf2, zf3, zf4, zf5, zf6⟩, zl⟩ := block7 (unhide HZ)
  have uf : w.heap.size + 1 + 1 ≠ TF := by omega
  have uf2 : TF ≠ w.heap.size + 1 + 1 := by omega
  have ug : w.heap.size + 1 ≠ TF := by omega
  have ug2 : TF ≠ w.heap.size + 1 := by omega
  go_upto_region 3 with fail
  go_wp2_with fail
  go_region
  all_goals
    go_wp2_with fail
    exact bodyPost_ret (v := .tuple #[.agg #[.bool false, .bool false, .bool false, .int .i64 0, .int .i64 0, .int .i64 0, .int .i64 0], .slice none 0 0, .bool false, .agg #[.int .i64 C0, .int .i64 C1]]) (by simp [results, Try.results16, go_sem, g0, g1, z0, z1, z2, z3, z4, z5, z6]) rfl ⟨rfl, (by repeat (first | with_reducible exact unhide HX | with_reducible refine drew_below ?_ | (with_reducible refine below_set ?_ (by omega) _)))⟩

set_option maxRecDepth 100000 in
set_option maxHeartbeats 2000000 in
theorem close_nn (w : World) (c r0 r1 : Bool) (t0 t1 u0 u1 C1 : Int) (hC : descF c r0 r1 t0 t1 u0 u1 = (0, C1)) (hz0 : ¬ 0 < t0) (hz1 : ¬ 0 < t1) :
    Calls Try.prog 16 #[.agg #[.bool c, .bool r0, .bool r1, .int .i64 t0, .int .i64 t1, .int .i64 u0, .int .i64 u1]] w fun e w' => ∃ a k, e = .returned (.tuple #[.agg #[.bool true, .bool false, .bool false, .int .i64 0, .int .i64 0, .int .i64 0, .int .i64 0], .slice a 0 k, .bool c, .agg #[.int .i64 0, .int .i64 0]]) ∧ Own KI w.heap.size w' (.slice a 0 k) [] ∧ Below w.heap.size w w' := by
  have HC : Hid (∀ W, Calls Try.prog 6 #[.agg #[.bool c, .bool r0, .bool r1, .int .i64 t0, .int .i64 t1, .int .i64 u0, .int .i64 u1]] W fun e w' => e = .returned (.agg #[.int .i64 0, .int .i64 C1]) ∧ Below W.heap.size W w') := fun W => check_any W c r0 r1 t0 t1 u0 u1 0 C1 hC
  clear hC
  have xz0 : decide (0 < t0) = false := decide_eq_false hz0
  have xz1 : decide (0 < t1) = false := decide_eq_false hz1
  obtain ⟨W0, e0, hB, k0, k1, k2⟩ := three_new w (.cells #[.bool c, .bool r0, .bool r1, .int .i64 t0, .int .i64 t1, .int .i64 u0, .int .i64 u1] 25) (.cells #[.bool false, .bool false, .bool false, .int .i64 0, .int .i64 0, .int .i64 0, .int .i64 0] 25) (.cells #[.int .i64 0, .int .i64 0] 27)
  have HX := hide hB; have HE := hide e0; have HD := hide k0; have HZ := hide k1; have HG := hide k2
  clear hB e0 k0 k1 k2
  go_enter Try.func16, Try.ntmps16
  go_upto_region 1 with fail
  rw [unhide HE]
  clear HE
  obtain ⟨⟨p0, p1, p2, p3, p4, p5, p6⟩, ⟨pf0, pf1, pf2, pf3, pf4, pf5, pf6⟩, pl⟩ := block7 (unhide HD)
  go_upto_region 2 with (go_at_call 6; refine (unhide HC _).mono ?_; rintro e w1 ⟨rfl, hb1⟩; have HX' := hide (Below.next (unhide HX) hb1 (Nat.le_refl _)); have HD' := hide (keep_below (unhide HD) hb1); have HZ' := hide (keep_below (unhide HZ) hb1); have HG' := hide (keep_below (unhide HG) hb1); clear p0 p1 p2 p3 p4 p5 p6 pf0 pf1 pf2 pf3 pf4 pf5 pf6 pl ; clear HX HD HZ HG hb1; have HX := HX'; have HD := HD'; have HZ := HZ'; have HG := HG'; clear HX' HD' HZ' HG')
  obtain ⟨W1, e1, hB1, k1⟩ := one_new w1 (.cells #[.int .i64 0, .int .i64 C1] 27)
  rw [e1]
  have HX' := hide (Below.next (unhide HX) hB1 (Nat.le_refl _))
  have HD' := hide (keep_below (unhide HD) hB1)
  have HZ' := hide (keep_below (unhide HZ) hB1)
  have HG' := hide (keep_below (unhide HG) hB1)
  have hlD_F := size_of (unhide HD)
  have hlZ_F := size_of (unhide HZ)
  have hlG_F := size_of (unhide HG)
  have HF := hide k1
  clear e1 hB1 k1 HX HD HZ HG
  have HX := HX'; have HD := HD'; have HZ := HZ'; have HG := HG'
  clear HX' HD' HZ' HG'
  obtain ⟨TF, eTF⟩ : ∃ X, w1.heap.size = X := ⟨_, rfl⟩
  rw [eTF] at HF hlD_F hlZ_F hlG_F ⊢
  clear eTF
  obtain ⟨f0, f1, ff0, ff1, fl⟩ := block2 (unhide HF)
  obtain ⟨g0, g1, gf0, gf1, gl⟩ := block2 (unhide HG)
  obtain ⟨⟨p0, p1, p2, p3, p4, p5, p6⟩, ⟨pf0, pf1, pf2, pf3, pf4, pf5, pf6⟩, pl⟩ := block7 (unhide HD)
  obtain ⟨⟨z0, z1, z2, z3, z4, z5, z6⟩, ⟨zf0, zf1, zf2, zf3, zf4, zf5, zf6⟩, zl⟩ := block7 (unhide HZ)
  have uf : w.heap.size + 1 + 1 ≠ TF := by omega
  have uf2 : TF ≠ w.heap.size + 1 + 1 := by omega
  have ug : w.heap.size + 1 ≠ TF := by omega
  have ug2 : TF ≠ w.heap.size + 1 := by omega
  go_upto_region 5 with fail
  obtain ⟨W2, e2, hB2, k2⟩ := one_new W1 (.cells #[] 3)
  rw [e2]
  have HO := hide (show Own KI W1.heap.size W2 (.slice (some ⟨W1.heap.size, 0, none⟩) 0 0) [] by rw [← e2]; exact own_empty (K := KI) W1)
  have HX' := hide (Below.next (unhide HX) hB2 (Nat.le_refl _))
  have HD' := hide (keep_below (unhide HD) hB2); have HZ' := hide (keep_below (unhide HZ) hB2); have HG' := hide (keep_below (unhide HG) hB2)
  have HBQ : Hid (w.heap.size ≤ W1.heap.size) := (unhide HX).size
  have HBS := hide hB2.size
  obtain ⟨S, eS⟩ : ∃ S, W1.heap.size = S := ⟨_, rfl⟩
  rw [eS] at HO HBQ HBS ⊢
  clear e2 hB2 k2 eS HX HD HZ HG HF
  have HX := HX'; have HD := HD'; have HZ := HZ'; have HG := HG'
  clear HX' HD' HZ' HG' f0 f1 ff0 ff1 fl uf uf2 ug ug2
  clear p0 p1 p2 p3 p4 p5 p6 pf0 pf1 pf2 pf3 pf4 pf5 pf6 pl
  clear z0 z1 z2 z3 z4 z5 z6 zf0 zf1 zf2 zf3 zf4 zf5 zf6 zl g0 g1 gf0 gf1 gl
  obtain ⟨⟨p0, p1, p2, p3, p4, p5, p6⟩, ⟨pf0, pf1, pf2, pf3, pf4, pf5, pf6⟩, pl⟩ := block7 (unhide HD)
  go_wp2
  refine wp_loop_rounds 3 ?_
  rw [rounds_succ]
  go_wp2_with fail
  rw [rounds_succ]
  go_wp2_with fail
  rw [rounds_succ]
  obtain ⟨⟨z0, z1, z2, z3, z4, z5, z6⟩, ⟨zf0, zf1, zf2, zf3, zf4, zf5, zf6⟩, zl⟩ := block7 (unhide HZ)
  obtain ⟨g0, g1, gf0, gf1, gl⟩ := block2 (unhide HG)
  go_upto_region 11 with fail
  go_wp2_with fail
  have HO2 := hide ((unhide HO).base (unhide HBQ))
  go_region
  all_goals
    go_wp2_with fail
    refine bodyPost_ret (v := .tuple #[.agg #[.bool true, .bool false, .bool false, .int .i64 0, .int .i64 0, .int .i64 0, .int .i64 0], .slice (some ⟨S, 0, none⟩) 0 0, .bool c, .agg #[.int .i64 0, .int .i64 0]]) (by simp [results, Try.results16, go_sem, g0, g1, z0, z1, z2, z3, z4, z5, z6]) rfl ⟨_, _, rfl, ?_, (by repeat (first | with_reducible exact unhide HX | with_reducible refine drew_below ?_ | (with_reducible refine below_set ?_ (by omega) _)))⟩
    refine (unhide HO2).keep (fun k hk => ?_)
    have q1 := Own.ne (unhide HO) (unhide HZ) (by decide) k hk
    have q2 := Own.ne (unhide HO) (unhide HG) (by decide) k hk
    repeat (first | rw [drew_at] | rw [Below.heap_setCell _ _ _ _ (by first | simpa using q1 | simpa using q2)])

set_option maxRecDepth 100000 in
set_option maxHeartbeats 2000000 in
theorem close_ng (w : World) (c r0 r1 : Bool) (t0 t1 u0 u1 C1 : Int) (hC : descF c r0 r1 t0 t1 u0 u1 = (0, C1)) (hz0 : ¬ 0 < t0) (hz1 : 0 < t1) :
    Calls Try.prog 16 #[.agg #[.bool c, .bool r0, .bool r1, .int .i64 t0, .int .i64 t1, .int .i64 u0, .int .i64 u1]] w fun e w' => ∃ a k, e = .returned (.tuple #[.agg #[.bool true, .bool false, .bool false, .int .i64 0, .int .i64 0, .int .i64 0, .int .i64 0], .slice a 1 k, .bool c, .agg #[.int .i64 0, .int .i64 0]]) ∧ Own KI w.heap.size w' (.slice a 1 k) [t1] ∧ Below w.heap.size w w' := by
  have HC : Hid (∀ W, Calls Try.prog 6 #[.agg #[.bool c, .bool r0, .bool r1, .int .i64 t0, .int .i64 t1, .int .i64 u0, .int .i64 u1]] W fun e w' => e = .returned (.agg #[.int .i64 0, .int .i64 C1]) ∧ Below W.heap.size W w') := fun W => check_any W c r0 r1 t0 t1 u0 u1 0 C1 hC
  clear hC
  have xz0 : decide (0 < t0) = false := decide_eq_false hz0
  have xz1 : decide (0 < t1) = true := decide_eq_true hz1
  obtain ⟨W0, e0, hB, k0, k1, k2⟩ := three_new w (.cells #[.bool c, .bool r0, .bool r1, .int .i64 t0, .int .i64 t1, .int .i64 u0, .int .i64 u1] 25) (.cells #[.bool false, .bool false, .bool false, .int .i64 0, .int .i64 0, .int .i64 0, .int .i64 0] 25) (.cells #[.int .i64 0, .int .i64 0] 27)
  have HX := hide hB; have HE := hide e0; have HD := hide k0; have HZ := hide k1; have HG := hide k2
  clear hB e0 k0 k1 k2
  go_enter Try.func16, Try.ntmps16
  go_upto_region 1 with fail
  rw [unhide HE]
  clear HE
  obtain ⟨⟨p0, p1, p2, p3, p4, p5, p6⟩, ⟨pf0, pf1, pf2, pf3, pf4, pf5, pf6⟩, pl⟩ := block7 (unhide HD)
  go_upto_region 2 with (go_at_call 6; refine (unhide HC _).mono ?_; rintro e w1 ⟨rfl, hb1⟩; have HX' := hide (Below.next (unhide HX) hb1 (Nat.le_refl _)); have HD' := hide (keep_below (unhide HD) hb1); have HZ' := hide (keep_below (unhide HZ) hb1); have HG' := hide (keep_below (unhide HG) hb1); clear p0 p1 p2 p3 p4 p5 p6 pf0 pf1 pf2 pf3 pf4 pf5 pf6 pl ; clear HX HD HZ HG hb1; have HX := HX'; have HD := HD'; have HZ := HZ'; have HG := HG'; clear HX' HD' HZ' HG')
  obtain ⟨W1, e1, hB1, k1⟩ := one_new w1 (.cells #[.int .i64 0, .int .i64 C1] 27)
  rw [e1]
  have HX' := hide (Below.next (unhide HX) hB1 (Nat.le_refl _))
  have HD' := hide (keep_below (unhide HD) hB1)
  have HZ' := hide (keep_below (unhide HZ) hB1)
  have HG' := hide (keep_below (unhide HG) hB1)
  have hlD_F := size_of (unhide HD)
  have hlZ_F := size_of (unhide HZ)
  have hlG_F := size_of (unhide HG)
  have HF := hide k1
  clear e1 hB1 k1 HX HD HZ HG
  have HX := HX'; have HD := HD'; have HZ := HZ'; have HG := HG'
  clear HX' HD' HZ' HG'
  obtain ⟨TF, eTF⟩ : ∃ X, w1.heap.size = X := ⟨_, rfl⟩
  rw [eTF] at HF hlD_F hlZ_F hlG_F ⊢
  clear eTF
  obtain ⟨f0, f1, ff0, ff1, fl⟩ := block2 (unhide HF)
  obtain ⟨g0, g1, gf0, gf1, gl⟩ := block2 (unhide HG)
  obtain ⟨⟨p0, p1, p2, p3, p4, p5, p6⟩, ⟨pf0, pf1, pf2, pf3, pf4, pf5, pf6⟩, pl⟩ := block7 (unhide HD)
  obtain ⟨⟨z0, z1, z2, z3, z4, z5, z6⟩, ⟨zf0, zf1, zf2, zf3, zf4, zf5, zf6⟩, zl⟩ := block7 (unhide HZ)
  have uf : w.heap.size + 1 + 1 ≠ TF := by omega
  have uf2 : TF ≠ w.heap.size + 1 + 1 := by omega
  have ug : w.heap.size + 1 ≠ TF := by omega
  have ug2 : TF ≠ w.heap.size + 1 := by omega
  go_upto_region 5 with fail
  obtain ⟨W2, e2, hB2, k2⟩ := one_new W1 (.cells #[] 3)
  rw [e2]
  have HO := hide (show Own KI W1.heap.size W2 (.slice (some ⟨W1.heap.size, 0, none⟩) 0 0) [] by rw [← e2]; exact own_empty (K := KI) W1)
  have HX' := hide (Below.next (unhide HX) hB2 (Nat.le_refl _))
  have HD' := hide (keep_below (unhide HD) hB2); have HZ' := hide (keep_below (unhide HZ) hB2); have HG' := hide (keep_below (unhide HG) hB2)
  have HBQ : Hid (w.heap.size ≤ W1.heap.size) := (unhide HX).size
  have HBS := hide hB2.size
  obtain ⟨S, eS⟩ : ∃ S, W1.heap.size = S := ⟨_, rfl⟩
  rw [eS] at HO HBQ HBS ⊢
  clear e2 hB2 k2 eS HX HD HZ HG HF
  have HX := HX'; have HD := HD'; have HZ := HZ'; have HG := HG'
  clear HX' HD' HZ' HG' f0 f1 ff0 ff1 fl uf uf2 ug ug2
  clear p0 p1 p2 p3 p4 p5 p6 pf0 pf1 pf2 pf3 pf4 pf5 pf6 pl
  clear z0 z1 z2 z3 z4 z5 z6 zf0 zf1 zf2 zf3 zf4 zf5 zf6 zl g0 g1 gf0 gf1 gl
  obtain ⟨⟨p0, p1, p2, p3, p4, p5, p6⟩, ⟨pf0, pf1, pf2, pf3, pf4, pf5, pf6⟩, pl⟩ := block7 (unhide HD)
  go_wp2
  refine wp_loop_rounds 3 ?_
  rw [rounds_succ]
  go_wp2_with fail
  rw [rounds_succ]
  go_upto_region 10 with (at_builtin; refine wpList_append ki rfl (.tmp 25) (.tmp 30) rfl S _ [] rfl ((unhide HO).below ((Below.refl _ _).alloc (Nat.le_refl _) (.cells #[.int .i64 t1] 3))) _ [t1] rfl (isl_one ki _ t1) 1 rfl (by decide) (by have := unhide HBS; have := (unhide HX).size; simp; omega) ?_; intro a1 c1 x1 ho hg; have HS9 := hide (own_size ho); have HX' := hide (((unhide HX).alloc (unhide HX).size (.cells #[.int .i64 t1] 3)).grown hg ((unhide HX).alloc (unhide HX).size (.cells #[.int .i64 t1] 3)).size (fun k hk => by have := ((unhide HO).lt k hk).1; have := unhide HBQ; omega)); have HD' := hide (keep_grown (keep_alloc (unhide HD) (.cells #[.int .i64 t1] 3)) hg (fun j hj => Own.ne ((unhide HO).below ((Below.refl _ _).alloc (Nat.le_refl _) (.cells #[.int .i64 t1] 3))) (keep_alloc (unhide HD) (.cells #[.int .i64 t1] 3)) (by decide) j hj)); have HZ' := hide (keep_grown (keep_alloc (unhide HZ) (.cells #[.int .i64 t1] 3)) hg (fun j hj => Own.ne ((unhide HO).below ((Below.refl _ _).alloc (Nat.le_refl _) (.cells #[.int .i64 t1] 3))) (keep_alloc (unhide HZ) (.cells #[.int .i64 t1] 3)) (by decide) j hj)); have HG' := hide (keep_grown (keep_alloc (unhide HG) (.cells #[.int .i64 t1] 3)) hg (fun j hj => Own.ne ((unhide HO).below ((Below.refl _ _).alloc (Nat.le_refl _) (.cells #[.int .i64 t1] 3))) (keep_alloc (unhide HG) (.cells #[.int .i64 t1] 3)) (by decide) j hj)); have HO' := hide ho; clear p0 p1 p2 p3 p4 p5 p6 pf0 pf1 pf2 pf3 pf4 pf5 pf6 pl; clear HX HD HZ HG HO hg ho; have HX := HX'; have HD := HD'; have HZ := HZ'; have HG := HG'; have HO := HO'; clear HX' HO' HD' HZ' HG'; clear HBS; have HBS := HS9; clear HS9; obtain ⟨⟨p0, p1, p2, p3, p4, p5, p6⟩, ⟨pf0, pf1, pf2, pf3, pf4, pf5, pf6⟩, pl⟩ := block7 (unhide HD))
  go_wp2_with fail
  rw [rounds_succ]
  obtain ⟨⟨z0, z1, z2, z3, z4, z5, z6⟩, ⟨zf0, zf1, zf2, zf3, zf4, zf5, zf6⟩, zl⟩ := block7 (unhide HZ)
  obtain ⟨g0, g1, gf0, gf1, gl⟩ := block2 (unhide HG)
  go_upto_region 11 with fail
  go_wp2_with fail
  have HO2 := hide ((unhide HO).base (unhide HBQ))
  go_region
  all_goals
    go_wp2_with fail
    refine bodyPost_ret (v := .tuple #[.agg #[.bool true, .bool false, .bool false, .int .i64 0, .int .i64 0, .int .i64 0, .int .i64 0], .slice a1 1 c1, .bool c, .agg #[.int .i64 0, .int .i64 0]]) (by simp [results, Try.results16, go_sem, g0, g1, z0, z1, z2, z3, z4, z5, z6]) rfl ⟨_, _, rfl, ?_, (by repeat (first | with_reducible exact unhide HX | with_reducible refine drew_below ?_ | (with_reducible refine below_set ?_ (by omega) _)))⟩
    refine (unhide HO2).keep (fun k hk => ?_)
    have q1 := Own.ne (unhide HO) (unhide HZ) (by decide) k hk
    have q2 := Own.ne (unhide HO) (unhide HG) (by decide) k hk
    repeat (first | rw [drew_at] | rw [Below.heap_setCell _ _ _ _ (by first | simpa using q1 | simpa using q2)])

set_option maxRecDepth 100000 in
set_option maxHeartbeats 2000000 in
theorem close_gn (w : World) (c r0 r1 : Bool) (t0 t1 u0 u1 C1 : Int) (hC : descF c r0 r1 t0 t1 u0 u1 = (0, C1)) (hz0 : 0 < t0) (hz1 : ¬ 0 < t1) :
    Calls Try.prog 16 #[.agg #[.bool c, .bool r0, .bool r1, .int .i64 t0, .int .i64 t1, .int .i64 u0, .int .i64 u1]] w fun e w' => ∃ a k, e = .returned (.tuple #[.agg #[.bool true, .bool false, .bool false, .int .i64 0, .int .i64 0, .int .i64 0, .int .i64 0], .slice a 1 k, .bool c, .agg #[.int .i64 0, .int .i64 0]]) ∧ Own KI w.heap.size w' (.slice a 1 k) [t0] ∧ Below w.heap.size w w' := by
  have HC : Hid (∀ W, Calls Try.prog 6 #[.agg #[.bool c, .bool r0, .bool r1, .int .i64 t0, .int .i64 t1, .int .i64 u0, .int .i64 u1]] W fun e w' => e = .returned (.agg #[.int .i64 0, .int .i64 C1]) ∧ Below W.heap.size W w') := fun W => check_any W c r0 r1 t0 t1 u0 u1 0 C1 hC
  clear hC
  have xz0 : decide (0 < t0) = true := decide_eq_true hz0
  have xz1 : decide (0 < t1) = false := decide_eq_false hz1
  obtain ⟨W0, e0, hB, k0, k1, k2⟩ := three_new w (.cells #[.bool c, .bool r0, .bool r1, .int .i64 t0, .int .i64 t1, .int .i64 u0, .int .i64 u1] 25) (.cells #[.bool false, .bool false, .bool false, .int .i64 0, .int .i64 0, .int .i64 0, .int .i64 0] 25) (.cells #[.int .i64 0, .int .i64 0] 27)
  have HX := hide hB; have HE := hide e0; have HD := hide k0; have HZ := hide k1; have HG := hide k2
  clear hB e0 k0 k1 k2
  go_enter Try.func16, Try.ntmps16
  go_upto_region 1 with fail
  rw [unhide HE]
  clear HE
  obtain ⟨⟨p0, p1, p2, p3, p4, p5, p6⟩, ⟨pf0, pf1, pf2, pf3, pf4, pf5, pf6⟩, pl⟩ := block7 (unhide HD)
  go_upto_region 2 with (go_at_call 6; refine (unhide HC _).mono ?_; rintro e w1 ⟨rfl, hb1⟩; have HX' := hide (Below.next (unhide HX) hb1 (Nat.le_refl _)); have HD' := hide (keep_below (unhide HD) hb1); have HZ' := hide (keep_below (unhide HZ) hb1); have HG' := hide (keep_below (unhide HG) hb1); clear p0 p1 p2 p3 p4 p5 p6 pf0 pf1 pf2 pf3 pf4 pf5 pf6 pl ; clear HX HD HZ HG hb1; have HX := HX'; have HD := HD'; have HZ := HZ'; have HG := HG'; clear HX' HD' HZ' HG')
  obtain ⟨W1, e1, hB1, k1⟩ := one_new w1 (.cells #[.int .i64 0, .int .i64 C1] 27)
  rw [e1]
  have HX' := hide (Below.next (unhide HX) hB1 (Nat.le_refl _))
  have HD' := hide (keep_below (unhide HD) hB1)
  have HZ' := hide (keep_below (unhide HZ) hB1)
  have HG' := hide (keep_below (unhide HG) hB1)
  have hlD_F := size_of (unhide HD)
  have hlZ_F := size_of (unhide HZ)
  have hlG_F := size_of (unhide HG)
  have HF := hide k1
  clear e1 hB1 k1 HX HD HZ HG
  have HX := HX'; have HD := HD'; have HZ := HZ'; have HG := HG'
  clear HX' HD' HZ' HG'
  obtain ⟨TF, eTF⟩ : ∃ X, w1.heap.size = X := ⟨_, rfl⟩
  rw [eTF] at HF hlD_F hlZ_F hlG_F ⊢
  clear eTF
  obtain ⟨f0, f1, ff0, ff1, fl⟩ := block2 (unhide HF)
  obtain ⟨g0, g1, gf0, gf1, gl⟩ := block2 (unhide HG)
  obtain ⟨⟨p0, p1, p2, p3, p4, p5, p6⟩, ⟨pf0, pf1, pf2, pf3, pf4, pf5, pf6⟩, pl⟩ := block7 (unhide HD)
  obtain ⟨⟨z0, z1, z2, z3, z4, z5, z6⟩, ⟨zf0, zf1, zf2, zf3, zf4, zf5, zf6⟩, zl⟩ := block7 (unhide HZ)
  have uf : w.heap.size + 1 + 1 ≠ TF := by omega
  have uf2 : TF ≠ w.heap.size + 1 + 1 := by omega
  have ug : w.heap.size + 1 ≠ TF := by omega
  have ug2 : TF ≠ w.heap.size + 1 := by omega
  go_upto_region 5 with fail
  obtain ⟨W2, e2, hB2, k2⟩ := one_new W1 (.cells #[] 3)
  rw [e2]
  have HO := hide (show Own KI W1.heap.size W2 (.slice (some ⟨W1.heap.size, 0, none⟩) 0 0) [] by rw [← e2]; exact own_empty (K := KI) W1)
  have HX' := hide (Below.next (unhide HX) hB2 (Nat.le_refl _))
  have HD' := hide (keep_below (unhide HD) hB2); have HZ' := hide (keep_below (unhide HZ) hB2); have HG' := hide (keep_below (unhide HG) hB2)
  have HBQ : Hid (w.heap.size ≤ W1.heap.size) := (unhide HX).size
  have HBS := hide hB2.size
  obtain ⟨S, eS⟩ : ∃ S, W1.heap.size = S := ⟨_, rfl⟩
  rw [eS] at HO HBQ HBS ⊢
  clear e2 hB2 k2 eS HX HD HZ HG HF
  have HX := HX'; have HD := HD'; have HZ := HZ'; have HG := HG'
  clear HX' HD' HZ' HG' f0 f1 ff0 ff1 fl uf uf2 ug ug2
  clear p0 p1 p2 p3 p4 p5 p6 pf0 pf1 pf2 pf3 pf4 pf5 pf6 pl
  clear z0 z1 z2 z3 z4 z5 z6 zf0 zf1 zf2 zf3 zf4 zf5 zf6 zl g0 g1 gf0 gf1 gl
  obtain ⟨⟨p0, p1, p2, p3, p4, p5, p6⟩, ⟨pf0, pf1, pf2, pf3, pf4, pf5, pf6⟩, pl⟩ := block7 (unhide HD)
  go_wp2
  refine wp_loop_rounds 3 ?_
  rw [rounds_succ]
  go_upto_region 10 with (at_builtin; refine wpList_append ki rfl (.tmp 25) (.tmp 30) rfl S _ [] rfl ((unhide HO).below ((Below.refl _ _).alloc (Nat.le_refl _) (.cells #[.int .i64 t0] 3))) _ [t0] rfl (isl_one ki _ t0) 1 rfl (by decide) (by have := unhide HBS; have := (unhide HX).size; simp; omega) ?_; intro a0 c0 x0 ho hg; have HS9 := hide (own_size ho); have HX' := hide (((unhide HX).alloc (unhide HX).size (.cells #[.int .i64 t0] 3)).grown hg ((unhide HX).alloc (unhide HX).size (.cells #[.int .i64 t0] 3)).size (fun k hk => by have := ((unhide HO).lt k hk).1; have := unhide HBQ; omega)); have HD' := hide (keep_grown (keep_alloc (unhide HD) (.cells #[.int .i64 t0] 3)) hg (fun j hj => Own.ne ((unhide HO).below ((Below.refl _ _).alloc (Nat.le_refl _) (.cells #[.int .i64 t0] 3))) (keep_alloc (unhide HD) (.cells #[.int .i64 t0] 3)) (by decide) j hj)); have HZ' := hide (keep_grown (keep_alloc (unhide HZ) (.cells #[.int .i64 t0] 3)) hg (fun j hj => Own.ne ((unhide HO).below ((Below.refl _ _).alloc (Nat.le_refl _) (.cells #[.int .i64 t0] 3))) (keep_alloc (unhide HZ) (.cells #[.int .i64 t0] 3)) (by decide) j hj)); have HG' := hide (keep_grown (keep_alloc (unhide HG) (.cells #[.int .i64 t0] 3)) hg (fun j hj => Own.ne ((unhide HO).below ((Below.refl _ _).alloc (Nat.le_refl _) (.cells #[.int .i64 t0] 3))) (keep_alloc (unhide HG) (.cells #[.int .i64 t0] 3)) (by decide) j hj)); have HO' := hide ho; clear p0 p1 p2 p3 p4 p5 p6 pf0 pf1 pf2 pf3 pf4 pf5 pf6 pl; clear HX HD HZ HG HO hg ho; have HX := HX'; have HD := HD'; have HZ := HZ'; have HG := HG'; have HO := HO'; clear HX' HO' HD' HZ' HG'; clear HBS; have HBS := HS9; clear HS9; obtain ⟨⟨p0, p1, p2, p3, p4, p5, p6⟩, ⟨pf0, pf1, pf2, pf3, pf4, pf5, pf6⟩, pl⟩ := block7 (unhide HD))
  go_wp2_with fail
  rw [rounds_succ]
  go_wp2_with fail
  rw [rounds_succ]
  obtain ⟨⟨z0, z1, z2, z3, z4, z5, z6⟩, ⟨zf0, zf1, zf2, zf3, zf4, zf5, zf6⟩, zl⟩ := block7 (unhide HZ)
  obtain ⟨g0, g1, gf0, gf1, gl⟩ := block2 (unhide HG)
  go_upto_region 11 with fail
  go_wp2_with fail
  have HO2 := hide ((unhide HO).base (unhide HBQ))
  go_region
  all_goals
    go_wp2_with fail
    refine bodyPost_ret (v := .tuple #[.agg #[.bool true, .bool false, .bool false, .int .i64 0, .int .i64 0, .int .i64 0, .int .i64 0], .slice a0 1 c0, .bool c, .agg #[.int .i64 0, .int .i64 0]]) (by simp [results, Try.results16, go_sem, g0, g1, z0, z1, z2, z3, z4, z5, z6]) rfl ⟨_, _, rfl, ?_, (by repeat (first | with_reducible exact unhide HX | with_reducible refine drew_below ?_ | (with_reducible refine below_set ?_ (by omega) _)))⟩
    refine (unhide HO2).keep (fun k hk => ?_)
    have q1 := Own.ne (unhide HO) (unhide HZ) (by decide) k hk
    have q2 := Own.ne (unhide HO) (unhide HG) (by decide) k hk
    repeat (first | rw [drew_at] | rw [Below.heap_setCell _ _ _ _ (by first | simpa using q1 | simpa using q2)])

set_option maxRecDepth 100000 in
set_option maxHeartbeats 2000000 in
theorem close_gg (w : World) (c r0 r1 : Bool) (t0 t1 u0 u1 C1 : Int) (hC : descF c r0 r1 t0 t1 u0 u1 = (0, C1)) (hz0 : 0 < t0) (hz1 : 0 < t1) :
    Calls Try.prog 16 #[.agg #[.bool c, .bool r0, .bool r1, .int .i64 t0, .int .i64 t1, .int .i64 u0, .int .i64 u1]] w fun e w' => ∃ a k, e = .returned (.tuple #[.agg #[.bool true, .bool false, .bool false, .int .i64 0, .int .i64 0, .int .i64 0, .int .i64 0], .slice a 2 k, .bool c, .agg #[.int .i64 0, .int .i64 0]]) ∧ Own KI w.heap.size w' (.slice a 2 k) [t0, t1] ∧ Below w.heap.size w w' := by
  have HC : Hid (∀ W, Calls Try.prog 6 #[.agg #[.bool c, .bool r0, .bool r1, .int .i64 t0, .int .i64 t1, .int .i64 u0, .int .i64 u1]] W fun e w' => e = .returned (.agg #[.int .i64 0, .int .i64 C1]) ∧ Below W.heap.size W w') := fun W => check_any W c r0 r1 t0 t1 u0 u1 0 C1 hC
  clear hC
  have xz0 : decide (0 < t0) = true := decide_eq_true hz0
  have xz1 : decide (0 < t1) = true := decide_eq_true hz1
  obtain ⟨W0, e0, hB, k0, k1, k2⟩ := three_new w (.cells #[.bool c, .bool r0, .bool r1, .int .i64 t0, .int .i64 t1, .int .i64 u0, .int .i64 u1] 25) (.cells #[.bool false, .bool false, .bool false, .int .i64 0, .int .i64 0, .int .i64 0, .int .i64 0] 25) (.cells #[.int .i64 0, .int .i64 0] 27)
  have HX := hide hB; have HE := hide e0; have HD := hide k0; have HZ := hide k1; have HG := hide k2
  clear hB e0 k0 k1 k2
  go_enter Try.func16, Try.ntmps16
  go_upto_region 1 with fail
  rw [unhide HE]
  clear HE
  obtain ⟨⟨p0, p1, p2, p3, p4, p5, p6⟩, ⟨pf0, pf1, pf2, pf3, pf4, pf5, pf6⟩, pl⟩ := block7 (unhide HD)
  go_upto_region 2 with (go_at_call 6; refine (unhide HC _).mono ?_; rintro e w1 ⟨rfl, hb1⟩; have HX' := hide (Below.next (unhide HX) hb1 (Nat.le_refl _)); have HD' := hide (keep_below (unhide HD) hb1); have HZ' := hide (keep_below (unhide HZ) hb1); have HG' := hide (keep_below (unhide HG) hb1); clear p0 p1 p2 p3 p4 p5 p6 pf0 pf1 pf2 pf3 pf4 pf5 pf6 pl ; clear HX HD HZ HG hb1; have HX := HX'; have HD := HD'; have HZ := HZ'; have HG := HG'; clear HX' HD' HZ' HG')
  obtain ⟨W1, e1, hB1, k1⟩ := one_new w1 (.cells #[.int .i64 0, .int .i64 C1] 27)
  rw [e1]
  have HX' := hide (Below.next (unhide HX) hB1 (Nat.le_refl _))
  have HD' := hide (keep_below (unhide HD) hB1)
  have HZ' := hide (keep_below (unhide HZ) hB1)
  have HG' := hide (keep_below (unhide HG) hB1)
  have hlD_F := size_of (unhide HD)
  have hlZ_F := size_of (unhide HZ)
  have hlG_F := size_of (unhide HG)
  have HF := hide k1
  clear e1 hB1 k1 HX HD HZ HG
  have HX := HX'; have HD := HD'; have HZ := HZ'; have HG := HG'
  clear HX' HD' HZ' HG'
  obtain ⟨TF, eTF⟩ : ∃ X, w1.heap.size = X := ⟨_, rfl⟩
  rw [eTF] at HF hlD_F hlZ_F hlG_F ⊢
  clear eTF
  obtain ⟨f0, f1, ff0, ff1, fl⟩ := block2 (unhide HF)
  obtain ⟨g0, g1, gf0, gf1, gl⟩ := block2 (unhide HG)
  obtain ⟨⟨p0, p1, p2, p3, p4, p5, p6⟩, ⟨pf0, pf1, pf2, pf3, pf4, pf5, pf6⟩, pl⟩ := block7 (unhide HD)
  obtain ⟨⟨z0, z1, z2, z3, z4, z5, z6⟩, ⟨zf0, zf1, zf2, zf3, zf4, zf5, zf6⟩, zl⟩ := block7 (unhide HZ)
  have uf : w.heap.size + 1 + 1 ≠ TF := by omega
  have uf2 : TF ≠ w.heap.size + 1 + 1 := by omega
  have ug : w.heap.size + 1 ≠ TF := by omega
  have ug2 : TF ≠ w.heap.size + 1 := by omega
  go_upto_region 5 with fail
  obtain ⟨W2, e2, hB2, k2⟩ := one_new W1 (.cells #[] 3)
  rw [e2]
  have HO := hide (show Own KI W1.heap.size W2 (.slice (some ⟨W1.heap.size, 0, none⟩) 0 0) [] by rw [← e2]; exact own_empty (K := KI) W1)
  have HX' := hide (Below.next (unhide HX) hB2 (Nat.le_refl _))
  have HD' := hide (keep_below (unhide HD) hB2); have HZ' := hide (keep_below (unhide HZ) hB2); have HG' := hide (keep_below (unhide HG) hB2)
  have HBQ : Hid (w.heap.size ≤ W1.heap.size) := (unhide HX).size
  have HBS := hide hB2.size
  obtain ⟨S, eS⟩ : ∃ S, W1.heap.size = S := ⟨_, rfl⟩
  rw [eS] at HO HBQ HBS ⊢
  clear e2 hB2 k2 eS HX HD HZ HG HF
  have HX := HX'; have HD := HD'; have HZ := HZ'; have HG := HG'
  clear HX' HD' HZ' HG' f0 f1 ff0 ff1 fl uf uf2 ug ug2
  clear p0 p1 p2 p3 p4 p5 p6 pf0 pf1 pf2 pf3 pf4 pf5 pf6 pl
  clear z0 z1 z2 z3 z4 z5 z6 zf0 zf1 zf2 zf3 zf4 zf5 zf6 zl g0 g1 gf0 gf1 gl
  obtain ⟨⟨p0, p1, p2, p3, p4, p5, p6⟩, ⟨pf0, pf1, pf2, pf3, pf4, pf5, pf6⟩, pl⟩ := block7 (unhide HD)
  go_wp2
  refine wp_loop_rounds 3 ?_
  rw [rounds_succ]
  go_upto_region 10 with (at_builtin; refine wpList_append ki rfl (.tmp 25) (.tmp 30) rfl S _ [] rfl ((unhide HO).below ((Below.refl _ _).alloc (Nat.le_refl _) (.cells #[.int .i64 t0] 3))) _ [t0] rfl (isl_one ki _ t0) 1 rfl (by decide) (by have := unhide HBS; have := (unhide HX).size; simp; omega) ?_; intro a0 c0 x0 ho hg; have HS9 := hide (own_size ho); have HX' := hide (((unhide HX).alloc (unhide HX).size (.cells #[.int .i64 t0] 3)).grown hg ((unhide HX).alloc (unhide HX).size (.cells #[.int .i64 t0] 3)).size (fun k hk => by have := ((unhide HO).lt k hk).1; have := unhide HBQ; omega)); have HD' := hide (keep_grown (keep_alloc (unhide HD) (.cells #[.int .i64 t0] 3)) hg (fun j hj => Own.ne ((unhide HO).below ((Below.refl _ _).alloc (Nat.le_refl _) (.cells #[.int .i64 t0] 3))) (keep_alloc (unhide HD) (.cells #[.int .i64 t0] 3)) (by decide) j hj)); have HZ' := hide (keep_grown (keep_alloc (unhide HZ) (.cells #[.int .i64 t0] 3)) hg (fun j hj => Own.ne ((unhide HO).below ((Below.refl _ _).alloc (Nat.le_refl _) (.cells #[.int .i64 t0] 3))) (keep_alloc (unhide HZ) (.cells #[.int .i64 t0] 3)) (by decide) j hj)); have HG' := hide (keep_grown (keep_alloc (unhide HG) (.cells #[.int .i64 t0] 3)) hg (fun j hj => Own.ne ((unhide HO).below ((Below.refl _ _).alloc (Nat.le_refl _) (.cells #[.int .i64 t0] 3))) (keep_alloc (unhide HG) (.cells #[.int .i64 t0] 3)) (by decide) j hj)); have HO' := hide ho; clear p0 p1 p2 p3 p4 p5 p6 pf0 pf1 pf2 pf3 pf4 pf5 pf6 pl; clear HX HD HZ HG HO hg ho; have HX := HX'; have HD := HD'; have HZ := HZ'; have HG := HG'; have HO := HO'; clear HX' HO' HD' HZ' HG'; clear HBS; have HBS := HS9; clear HS9; obtain ⟨⟨p0, p1, p2, p3, p4, p5, p6⟩, ⟨pf0, pf1, pf2, pf3, pf4, pf5, pf6⟩, pl⟩ := block7 (unhide HD))
  go_wp2_with fail
  rw [rounds_succ]
  go_upto_region 10 with (at_builtin; refine wpList_append ki rfl (.tmp 25) (.tmp 30) rfl S _ [t0] rfl ((unhide HO).below ((Below.refl _ _).alloc (Nat.le_refl _) (.cells #[.int .i64 t1] 3))) _ [t1] rfl (isl_one ki _ t1) 2 rfl (by decide) (by have := unhide HBS; have := (unhide HX).size; simp; omega) ?_; intro a1 c1 x1 ho hg; have HS9 := hide (own_size ho); have HX' := hide (((unhide HX).alloc (unhide HX).size (.cells #[.int .i64 t1] 3)).grown hg ((unhide HX).alloc (unhide HX).size (.cells #[.int .i64 t1] 3)).size (fun k hk => by have := ((unhide HO).lt k hk).1; have := unhide HBQ; omega)); have HD' := hide (keep_grown (keep_alloc (unhide HD) (.cells #[.int .i64 t1] 3)) hg (fun j hj => Own.ne ((unhide HO).below ((Below.refl _ _).alloc (Nat.le_refl _) (.cells #[.int .i64 t1] 3))) (keep_alloc (unhide HD) (.cells #[.int .i64 t1] 3)) (by decide) j hj)); have HZ' := hide (keep_grown (keep_alloc (unhide HZ) (.cells #[.int .i64 t1] 3)) hg (fun j hj => Own.ne ((unhide HO).below ((Below.refl _ _).alloc (Nat.le_refl _) (.cells #[.int .i64 t1] 3))) (keep_alloc (unhide HZ) (.cells #[.int .i64 t1] 3)) (by decide) j hj)); have HG' := hide (keep_grown (keep_alloc (unhide HG) (.cells #[.int .i64 t1] 3)) hg (fun j hj => Own.ne ((unhide HO).below ((Below.refl _ _).alloc (Nat.le_refl _) (.cells #[.int .i64 t1] 3))) (keep_alloc (unhide HG) (.cells #[.int .i64 t1] 3)) (by decide) j hj)); have HO' := hide ho; clear p0 p1 p2 p3 p4 p5 p6 pf0 pf1 pf2 pf3 pf4 pf5 pf6 pl; clear HX HD HZ HG HO hg ho; have HX := HX'; have HD := HD'; have HZ := HZ'; have HG := HG'; have HO := HO'; clear HX' HO' HD' HZ' HG'; clear HBS; have HBS := HS9; clear HS9; obtain ⟨⟨p0, p1, p2, p3, p4, p5, p6⟩, ⟨pf0, pf1, pf2, pf3, pf4, pf5, pf6⟩, pl⟩ := block7 (unhide HD))
  go_wp2_with fail
  rw [rounds_succ]
  obtain ⟨⟨z0, z1, z2, z3, z4, z5, z6⟩, ⟨zf0, zf1, zf2, zf3, zf4, zf5, zf6⟩, zl⟩ := block7 (unhide HZ)
  obtain ⟨g0, g1, gf0, gf1, gl⟩ := block2 (unhide HG)
  go_upto_region 11 with fail
  go_wp2_with fail
  have HO2 := hide ((unhide HO).base (unhide HBQ))
  go_region
  all_goals
    go_wp2_with fail
    refine bodyPost_ret (v := .tuple #[.agg #[.bool true, .bool false, .bool false, .int .i64 0, .int .i64 0, .int .i64 0, .int .i64 0], .slice a1 2 c1, .bool c, .agg #[.int .i64 0, .int .i64 0]]) (by simp [results, Try.results16, go_sem, g0, g1, z0, z1, z2, z3, z4, z5, z6]) rfl ⟨_, _, rfl, ?_, (by repeat (first | with_reducible exact unhide HX | with_reducible refine drew_below ?_ | (with_reducible refine below_set ?_ (by omega) _)))⟩
    refine (unhide HO2).keep (fun k hk => ?_)
    have q1 := Own.ne (unhide HO) (unhide HZ) (by decide) k hk
    have q2 := Own.ne (unhide HO) (unhide HG) (by decide) k hk
    repeat (first | rw [drew_at] | rw [Below.heap_setCell _ _ _ _ (by first | simpa using q1 | simpa using q2)])

end Go.Proofs.Ytmghfedlpndpiaa
