/-
  poll.Tick.
-/
import Derived.Test.YtmghfedlpndpiaaK
namespace Go.Proofs.Ytmghfedlpndpiaa
open Go.RowKit

/-- What is wrong with a Tick. -/
def tickF (C : Int × Int) (now : Int) : Int × Int := if C.1 ≠ 0 then C else if ¬ (0 ≤ now ∧ now ≤ 1000000000) then (3, -1) else (0, 0)

set_option maxRecDepth 100000 in
set_option maxHeartbeats 2000000 in
theorem tick_fault (w : World) (c r0 r1 : Bool) (t0 t1 u0 u1 now C0 C1 F0 F1 : Int) (hC : descF c r0 r1 t0 t1 u0 u1 = (C0, C1)) (hF : tickF (C0, C1) now = (F0, F1)) (hbad : F0 ≠ 0) :
    Calls Try.prog 15 #[.agg #[.bool c, .bool r0, .bool r1, .int .i64 t0, .int .i64 t1, .int .i64 u0, .int .i64 u1], .int .i64 now] w fun e w' => e = .returned (.tuple #[.agg #[.bool false, .bool false, .bool false, .int .i64 0, .int .i64 0, .int .i64 0, .int .i64 0], .slice none 0 0, .agg #[.int .i64 F0, .int .i64 F1]]) ∧ Below w.heap.size w w' := by
  unfold tickF at hF
  have HC : Hid (∀ W, Calls Try.prog 6 #[.agg #[.bool c, .bool r0, .bool r1, .int .i64 t0, .int .i64 t1, .int .i64 u0, .int .i64 u1]] W fun e w' => e = .returned (.agg #[.int .i64 C0, .int .i64 C1]) ∧ Below W.heap.size W w') := fun W => check_any W c r0 r1 t0 t1 u0 u1 C0 C1 hC
  have HT : Hid (∀ W, Calls Try.prog 24 #[.int .i64 now] W fun e w' => e = .returned (.bool (decide (0 ≤ now ∧ now ≤ 1000000000))) ∧ w' = W) := fun W => isTime_any W now
  by_cases hc : C0 = 0
  · rw [if_neg (by simpa using hc)] at hF
    have xc : (C0 != 0) = false := by simpa using hc
    by_cases hA : 0 ≤ now ∧ now ≤ 1000000000
    · rw [if_neg (by simpa using hA)] at hF
      cases hF
      exact absurd rfl hbad
    rw [if_pos hA] at hF
    rw [decide_eq_false hA] at HT
    cases hF
    clear hC hbad hA hc
    obtain ⟨W0, e0, hB, k0, k1, k2⟩ := three_new w (.cells #[.bool c, .bool r0, .bool r1, .int .i64 t0, .int .i64 t1, .int .i64 u0, .int .i64 u1] 25) (.cells #[.bool false, .bool false, .bool false, .int .i64 0, .int .i64 0, .int .i64 0, .int .i64 0] 25) (.cells #[.int .i64 0, .int .i64 0] 27)
    have HX := hide hB; have HE := hide e0; have HD := hide k0; have HZ := hide k1; have HG := hide k2
    clear hB e0 k0 k1 k2
    go_enter Try.func15, Try.ntmps15
    go_upto_region 1 with fail
    rw [unhide HE]
    clear HE
    obtain ⟨⟨p0, p1, p2, p3, p4, p5, p6⟩, ⟨pf0, pf1, pf2, pf3, pf4, pf5, pf6⟩, pl⟩ := block7 (unhide HD)
    go_upto_region 2 with (go_at_call 6; refine (unhide HC _).mono ?_; rintro e w1 ⟨rfl, hb1⟩; have HX' := hide (Below.next (unhide HX) hb1 (Nat.le_refl _)); have HD' := hide (keep_below (unhide HD) hb1); have HZ' := hide (keep_below (unhide HZ) hb1); have HG' := hide (keep_below (unhide HG) hb1); clear p0 p1 p2 p3 p4 p5 p6 pf0 pf1 pf2 pf3 pf4 pf5 pf6 pl ; clear HX HD HZ HG hb1; have HX := HX'; have HD := HD'; have HZ := HZ'; have HG := HG'; clear HX' HD' HZ' HG')
    obtain ⟨W1, e1, hB1, k1⟩ := one_new w1 (.cells #[.int .i64 C0, .int .i64 C1] 27)
    rw [e1]
    have HX' := hide (Below.next (unhide HX) hB1 (Nat.le_refl _))
    have HD' := hide (keep_below (unhide HD) hB1)
    have HZ' := hide (keep_below (unhide HZ) hB1)
    have HG' := hide (keep_below (unhide HG) hB1)
    have hlD_F := size_of (unhide HD)
    have hlZ_F := size_of (unhide HZ)
    have hlG_F := size_of (unhide HG)
    have HF := hide k1
    clear e1 hB1 k1 HX HD HZ HG
    have HX := HX'; have HD := HD'; have HZ := HZ'; have HG := HG'
    clear HX' HD' HZ' HG'
    obtain ⟨TF, eTF⟩ : ∃ X, w1.heap.size = X := ⟨_, rfl⟩
    rw [eTF] at HF hlD_F hlZ_F hlG_F ⊢
    clear eTF
    obtain ⟨f0, f1, ff0, ff1, fl⟩ := block2 (unhide HF)
    obtain ⟨g0, g1, gf0, gf1, gl⟩ := block2 (unhide HG)
    obtain ⟨⟨p0, p1, p2, p3, p4, p5, p6⟩, ⟨pf0, pf1, pf2, pf3, pf4, pf5, pf6⟩, pl⟩ := block7 (unhide HD)
    obtain ⟨⟨z0, z1, z2, z3, z4, z5, z6⟩, ⟨zf0, zf1, zf2, zf3, zf4, zf5, zf6⟩, zl⟩ := block7 (unhide HZ)
    have uf : w.heap.size + 1 + 1 ≠ TF := by omega
    have uf2 : TF ≠ w.heap.size + 1 + 1 := by omega
    have ug : w.heap.size + 1 ≠ TF := by omega
    have ug2 : TF ≠ w.heap.size + 1 := by omega
    go_wp2_with (go_at_call 24; refine (unhide HT _).mono ?_; rintro e W1 ⟨rfl, rfl⟩)
    exact bodyPost_ret (v := .tuple #[.agg #[.bool false, .bool false, .bool false, .int .i64 0, .int .i64 0, .int .i64 0, .int .i64 0], .slice none 0 0, .agg #[.int .i64 3, .int .i64 (-1)]]) (by simp [results, Try.results15, go_sem, g0, g1, z0, z1, z2, z3, z4, z5, z6]) rfl ⟨rfl, (by repeat (first | with_reducible exact unhide HX | with_reducible refine drew_below ?_ | (with_reducible refine below_set ?_ (by omega) _)))⟩
  · rw [if_pos hc] at hF
    have xc : (C0 != 0) = true := by simpa using hc
    cases hF
    clear hC hbad hc
    obtain ⟨W0, e0, hB, k0, k1, k2⟩ := three_new w (.cells #[.bool c, .bool r0, .bool r1, .int .i64 t0, .int .i64 t1, .int .i64 u0, .int .i64 u1] 25) (.cells #[.bool false, .bool false, .bool false, .int .i64 0, .int .i64 0, .int .i64 0, .int .i64 0] 25) (.cells #[.int .i64 0, .int .i64 0] 27)
    have HX := hide hB; have HE := hide e0; have HD := hide k0; have HZ := hide k1; have HG := hide k2
    clear hB e0 k0 k1 k2
    go_enter Try.func15, Try.ntmps15
    go_upto_region 1 with fail
    rw [unhide HE]
    clear HE
    obtain ⟨⟨p0, p1, p2, p3, p4, p5, p6⟩, ⟨pf0, pf1, pf2, pf3, pf4, pf5, pf6⟩, pl⟩ := block7 (unhide HD)
    go_upto_region 2 with (go_at_call 6; refine (unhide HC _).mono ?_; rintro e w1 ⟨rfl, hb1⟩; have HX' := hide (Below.next (unhide HX) hb1 (Nat.le_refl _)); have HD' := hide (keep_below (unhide HD) hb1); have HZ' := hide (keep_below (unhide HZ) hb1); have HG' := hide (keep_below (unhide HG) hb1); clear p0 p1 p2 p3 p4 p5 p6 pf0 pf1 pf2 pf3 pf4 pf5 pf6 pl ; clear HX HD HZ HG hb1; have HX := HX'; have HD := HD'; have HZ := HZ'; have HG := HG'; clear HX' HD' HZ' HG')
    obtain ⟨W1, e1, hB1, k1⟩ := one_new w1 (.cells #[.int .i64 C0, .int .i64 C1] 27)
    rw [e1]
    have HX' := hide (Below.next (unhide HX) hB1 (Nat.le_refl _))
    have HD' := hide (keep_below (unhide HD) hB1)
    have HZ' := hide (keep_below (unhide HZ) hB1)
    have HG' := hide (keep_below (unhide HG) hB1)
    have hlD_F := size_of (unhide HD)
    have hlZ_F := size_of (unhide HZ)
    have hlG_F := size_of (unhide HG)
    have HF := hide k1
    clear e1 hB1 k1 HX HD HZ HG
    have HX := HX'; have HD := HD'; have HZ := HZ'; have HG := HG'
    clear HX' HD' HZ' HG'
    obtain ⟨TF, eTF⟩ : ∃ X, w1.heap.size = X := ⟨_, rfl⟩
    rw [eTF] at HF hlD_F hlZ_F hlG_F ⊢
    clear eTF
    obtain ⟨f0, f1, ff0, ff1, fl⟩ := block2 (unhide HF)
    obtain ⟨g0, g1, gf0, gf1, gl⟩ := block2 (unhide HG)
    obtain ⟨⟨p0, p1, p2, p3, p4, p5, p6⟩, ⟨pf0, pf1, pf2, pf3, pf4, pf5, pf6⟩, pl⟩ := block7 (unhide HD)
    obtain ⟨⟨z0, z1, z2, z3, z4, z5, z6⟩, ⟨zf0, zf1, zf2, zf3, zf4, zf5, zf6⟩, zl⟩ := block7 (unhide HZ)
    have uf : w.heap.size + 1 + 1 ≠ TF := by omega
    have uf2 : TF ≠ w.heap.size + 1 + 1 := by omega
    have ug : w.heap.size + 1 ≠ TF := by omega
    have ug2 : TF ≠ w.heap.size + 1 := by omega
    go_upto_region 3 with fail
    go_wp2_with fail
    go_region
    all_goals
      go_wp2_with fail
      exact bodyPost_ret (v := .tuple #[.agg #[.bool false, .bool false, .bool false, .int .i64 0, .int .i64 0, .int .i64 0, .int .i64 0], .slice none 0 0, .agg #[.int .i64 C0, .int .i64 C1]]) (by simp [results, Try.results15, go_sem, g0, g1, z0, z1, z2, z3, z4, z5, z6]) rfl ⟨rfl, (by repeat (first | with_reducible exact unhide HX | with_reducible refine drew_below ?_ | (with_reducible refine below_set ?_ (by omega) _)))⟩

end Go.Proofs.Ytmghfedlpndpiaa
