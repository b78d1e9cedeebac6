/-
  taskmilllaw.pollBegun, taskmilllaw.wayFault.
-/
import Derived.Test.YtmghfedlpndpiaaH
import Derived.Test.YtmghfedlpndpiaaK
namespace Go.Proofs.Ytmghfedlpndpiaa
open Go.RowKit

theorem Try.info4 : (Try.prog.info? 4).map (fun i => (i.zero, i.size, i.bytes)) = some (some (.bool false), 1, 1) := by kernel_rfl
theorem arr_i (w : World) (t c : Int) : (Op.equalIn 9999 23 (.agg #[.int .i64 t, .int .i64 c]) (.agg #[.int .i64 t, .int .i64 c])).run Try.prog w = .ok true w := by
  obtain ⟨i0, hi, h0, h1, h2⟩ := info_parts Try.info3
  have hu : Try.prog.underlying 23 = some (.array 2 3) := by kernel_rfl
  have hc : Try.prog.cellsOf 3 = 1 := by kernel_rfl
  have hd : ∀ (d : Nat) (a b : Int), (Op.equalIn (d + 1) 3 (.int .i64 a) (.int .i64 b)).run Try.prog w = .ok (a == b) w := fun d a b => by
    simp [Op.equalIn, run_underlying Try.underlying3]
  have he : ∀ a b : Int, (Op.equalIn 9998 3 (.int .i64 a) (.int .i64 b)).run Try.prog w = .ok (a == b) w := fun a b => hd 9997 a b
  have hp : ∀ (xs : Array Value) (j : Nat) (v : Value), xs[j]? = some v → (part 3 xs j).run Try.prog w = .ok v w := fun xs j v hv => by
    simp [part, sizeOf, typeInfo, hi, h1, hv]
  rw [show (9999 : Nat) = 9998 + 1 from rfl, run_equalIn_array w 9998 _ _ hu hi, hc]
  simp only [show List.range 2 = [0, 1] from rfl, Op.eqItems, Sem.run_bind, Nat.zero_mul, Nat.one_mul]
  have p0 := hp #[.int .i64 t, .int .i64 c] 0 (.int .i64 t) rfl
  have p1 := hp #[.int .i64 t, .int .i64 c] 1 (.int .i64 c) rfl
  simp [p0, p1, he]
theorem arr_b (w : World) (t c : Bool) : (Op.equalIn 9999 22 (.agg #[.bool t, .bool c]) (.agg #[.bool t, .bool c])).run Try.prog w = .ok true w := by
  obtain ⟨i0, hi, h0, h1, h2⟩ := info_parts Try.info4
  have hu : Try.prog.underlying 22 = some (.array 2 4) := by kernel_rfl
  have hc : Try.prog.cellsOf 4 = 1 := by kernel_rfl
  have hd : ∀ (d : Nat) (a b : Bool), (Op.equalIn (d + 1) 4 (.bool a) (.bool b)).run Try.prog w = .ok (a == b) w := fun d a b => by
    simp [Op.equalIn, run_underlying Try.underlying4]
  have he : ∀ a b : Bool, (Op.equalIn 9998 4 (.bool a) (.bool b)).run Try.prog w = .ok (a == b) w := fun a b => hd 9997 a b
  have hp : ∀ (xs : Array Value) (j : Nat) (v : Value), xs[j]? = some v → (part 4 xs j).run Try.prog w = .ok v w := fun xs j v hv => by
    simp [part, sizeOf, typeInfo, hi, h1, hv]
  rw [show (9999 : Nat) = 9998 + 1 from rfl, run_equalIn_array w 9998 _ _ hu hi, hc]
  simp only [show List.range 2 = [0, 1] from rfl, Op.eqItems, Sem.run_bind, Nat.zero_mul, Nat.one_mul]
  have p0 := hp #[.bool t, .bool c] 0 (.bool t) rfl
  have p1 := hp #[.bool t, .bool c] 1 (.bool c) rfl
  simp [p0, p1, he]

set_option maxRecDepth 100000 in
set_option maxHeartbeats 2000000 in
theorem begun_any (w : World) : Calls Try.prog 9 #[] w fun e w' => e = .returned (.bool true) ∧ Below w.heap.size w w' := by
  have HW : Hid (∀ W, Calls Try.prog 7 #[.agg #[.bool false, .bool false, .bool false, .int .i64 0, .int .i64 0, .int .i64 0, .int .i64 0], .int .i64 0, .int .i64 1, .int .i64 0] W fun e w' => e = .returned (.tuple #[.agg #[.bool false, .bool false, .bool false, .int .i64 1, .int .i64 0, .int .i64 0, .int .i64 0], .int .i64 0, .agg #[.int .i64 0, .int .i64 0]]) ∧ Below W.heap.size W w') := fun W => wait0_waits W false false false 0 0 0 0 1 0 0 0 0 (by decide) (by decide) rfl (by decide) rfl
  have HF : Hid (∀ W, Calls Try.prog 8 #[.agg #[.bool false, .bool false, .bool false, .int .i64 1, .int .i64 0, .int .i64 0, .int .i64 0], .int .i64 0] W fun e w' => e = .returned (.tuple #[.agg #[.bool false, .bool false, .bool false, .int .i64 0, .int .i64 0, .int .i64 0, .int .i64 0], .int .i64 1, .agg #[.int .i64 0, .int .i64 0]]) ∧ Below W.heap.size W w') := fun W => fire0_well W false false false 1 0 0 0 0 0 0 (by decide) (by decide) rfl
  go_enter Try.func9, Try.ntmps9
  go_upto_region 2 with (go_at_call 7; refine (unhide HW _).mono ?_; rintro e w1 ⟨rfl, hb1⟩; have HX1 := hide hb1; clear hb1)
  obtain ⟨W1, e1, hB1, k0, k1⟩ := two_new w1 (.cells #[.bool false, .bool false, .bool false, .int .i64 1, .int .i64 0, .int .i64 0, .int .i64 0] 25) (.cells #[.int .i64 0, .int .i64 0] 27)
  rw [e1]
  have HX2 := hide (Below.next (unhide HX1) hB1 (Nat.le_refl _)); have HD := hide k0; have HG := hide k1
  clear e1 hB1 k0 k1 HX1
  obtain ⟨C, eC⟩ : ∃ C, w1.heap.size = C := ⟨_, rfl⟩
  rw [eC] at HD HG ⊢
  clear eC
  obtain ⟨⟨p0, p1, p2, p3, p4, p5, p6⟩, ⟨pf0, pf1, pf2, pf3, pf4, pf5, pf6⟩, pl⟩ := block7 (unhide HD)
  go_upto_region 3 with (go_at_call 8; refine (unhide HF _).mono ?_; rintro e w2 ⟨rfl, hb2⟩; have HX3 := hide (Below.next (unhide HX2) hb2 (Nat.le_refl _)); have HG3 := hide (keep_below (unhide HG) hb2); clear hb2; clear p0 p1 p2 p3 p4 p5 p6 pf0 pf1 pf2 pf3 pf4 pf5 pf6 pl)
  obtain ⟨W2, e2, hB2, k0, k1⟩ := two_new w2 (.cells #[.bool false, .bool false, .bool false, .int .i64 0, .int .i64 0, .int .i64 0, .int .i64 0] 25) (.cells #[.int .i64 0, .int .i64 0] 27)
  rw [e2]
  have HX4 := hide (Below.next (unhide HX3) hB2 (Nat.le_refl _)); have HG4 := hide (keep_below (unhide HG3) hB2); have HZ := hide k0; have HK := hide k1
  clear e2 hB2 k0 k1 HX3 HG3
  obtain ⟨G, eG⟩ : ∃ G, w2.heap.size = G := ⟨_, rfl⟩
  rw [eG] at HZ HK ⊢
  clear eG
  obtain ⟨g0, g1, gf0, gf1, gl⟩ := block2 (unhide HG4)
  obtain ⟨h0, h1, hf0, hf1, hl⟩ := block2 (unhide HK)
  obtain ⟨⟨z0, z1, z2, z3, z4, z5, z6⟩, ⟨zf0, zf1, zf2, zf3, zf4, zf5, zf6⟩, zl⟩ := block7 (unhide HZ)
  have xi := arr_i; have xb := arr_b
  go_wp2_with fail
  go_ret
  exact ⟨rfl, unhide HX4⟩

set_option maxRecDepth 100000 in
set_option maxHeartbeats 2000000 in
theorem wayFault_any (w : World) (c r0 r1 : Bool) (t0 t1 u0 u1 way C0 C1 F0 F1 : Int) (hC : descF c r0 r1 t0 t1 u0 u1 = (C0, C1)) (hF : onF (C0, C1) way = (F0, F1)) :
    Calls Try.prog 11 #[.agg #[.bool c, .bool r0, .bool r1, .int .i64 t0, .int .i64 t1, .int .i64 u0, .int .i64 u1], .int .i64 way] w fun e w' => e = .returned (.agg #[.int .i64 F0, .int .i64 F1]) ∧ Below w.heap.size w w' := by
  unfold onF at hF
  have HC : Hid (∀ W, Calls Try.prog 10 #[.agg #[.bool c, .bool r0, .bool r1, .int .i64 t0, .int .i64 t1, .int .i64 u0, .int .i64 u1]] W fun e w' => e = .returned (.agg #[.int .i64 C0, .int .i64 C1]) ∧ Below W.heap.size W w') := fun W => descFault_any W c r0 r1 t0 t1 u0 u1 C0 C1 hC
  have hC1 : C0 = 0 → C1 = 0 := fun h0 => by
    have := hC
    unfold descF at this
    split at this
    · rename_i h
      exact absurd ((congrArg Prod.fst this).trans h0) h
    · split at this
      · rename_i h
        exact absurd ((congrArg Prod.fst this).trans h0) h
      · split at this
        · exact absurd ((congrArg Prod.fst this).trans h0) (by decide)
        · exact (congrArg Prod.snd this).symm
  have HF0 := hide hF
  have HC1 := hide hC1
  clear hF hC hC1
  obtain ⟨W0, e0, hB, k0, k1⟩ := two_new w (.cells #[.bool c, .bool r0, .bool r1, .int .i64 t0, .int .i64 t1, .int .i64 u0, .int .i64 u1] 25) (.cells #[.int .i64 0, .int .i64 0] 27)
  have HX := hide hB; have HE := hide e0; have HD := hide k0; have HG := hide k1
  clear hB e0 k0 k1
  go_enter Try.func11, Try.ntmps11
  go_upto_region 1 with fail
  rw [unhide HE]
  clear HE
  obtain ⟨⟨p0, p1, p2, p3, p4, p5, p6⟩, ⟨pf0, pf1, pf2, pf3, pf4, pf5, pf6⟩, pl⟩ := block7 (unhide HD)
  go_upto_region 2 with (go_at_call 10; refine (unhide HC _).mono ?_; rintro e w1 ⟨rfl, hb1⟩; have HX' := hide (Below.next (unhide HX) hb1 (Nat.le_refl _)); have HD' := hide (keep_below (unhide HD) hb1); have HG' := hide (keep_below (unhide HG) hb1); clear p0 p1 p2 p3 p4 p5 p6 pf0 pf1 pf2 pf3 pf4 pf5 pf6 pl HX HD HG; clear hb1; have HX := HX'; have HD := HD'; have HG := HG'; clear HX' HD' HG')
  obtain ⟨W1, e1, hB1, k1⟩ := one_new w1 (.cells #[.int .i64 C0, .int .i64 C1] 27)
  rw [e1]
  have HX' := hide (Below.next (unhide HX) hB1 (Nat.le_refl _)); have HD' := hide (keep_below (unhide HD) hB1); have HG' := hide (keep_below (unhide HG) hB1); have HF := hide k1
  have hld := size_of (unhide HD); have hlg := size_of (unhide HG)
  clear e1 hB1 k1 HX HD HG
  have HX := HX'; have HD := HD'; have HG := HG'; clear HX' HD' HG'
  obtain ⟨TF, eTF⟩ : ∃ X, w1.heap.size = X := ⟨_, rfl⟩
  rw [eTF] at HF hld hlg ⊢
  clear eTF
  obtain ⟨f0, f1, ff0, ff1, fl⟩ := block2 (unhide HF)
  obtain ⟨g0, g1, gf0, gf1, gl⟩ := block2 (unhide HG)
  obtain ⟨⟨p0, p1, p2, p3, p4, p5, p6⟩, ⟨pf0, pf1, pf2, pf3, pf4, pf5, pf6⟩, pl⟩ := block7 (unhide HD)
  have uf : w.heap.size + 1 ≠ TF := by omega
  have uf2 : TF ≠ w.heap.size + 1 := by omega
  by_cases hc : C0 = 0
  · skip
    have hz := unhide HC1 hc
    subst hz
    subst hc
    have xc : ((0 : Int) == 0) = true := rfl
    have hr := unhide HF0
    rw [if_neg (by simp)] at hr
    by_cases h1 : way = 0
    · subst h1
      rw [if_neg (by omega)] at hr
      cases hr
      go_wp2_with fail
      exact bodyPost_ret (v := .agg #[.int .i64 0, .int .i64 0]) (by simp [results, Try.results11, go_sem, g0, g1]) rfl ⟨rfl, (by repeat (first | with_reducible exact unhide HX | with_reducible refine drew_below ?_ | (with_reducible refine below_set ?_ (by omega) _)))⟩
    have x1 : (way != 0) = true := by simpa using h1
    by_cases h2 : way = 1
    · subst h2
      rw [if_neg (by omega)] at hr
      cases hr
      go_wp2_with fail
      exact bodyPost_ret (v := .agg #[.int .i64 0, .int .i64 0]) (by simp [results, Try.results11, go_sem, g0, g1]) rfl ⟨rfl, (by repeat (first | with_reducible exact unhide HX | with_reducible refine drew_below ?_ | (with_reducible refine below_set ?_ (by omega) _)))⟩
    have x2 : (way != 1) = true := by simpa using h2
    rw [if_pos (by omega)] at hr
    cases hr
    go_wp2_with (go_at_call 12; refine (f_any _ _ _).mono ?_; rintro e w9 ⟨rfl, hb9⟩; have HX' := hide (Below.next (unhide HX) hb9 (Nat.le_refl _)); have HF' := hide (keep_below (unhide HF) hb9); have HG' := hide (keep_below (unhide HG) hb9); clear p0 p1 p2 p3 p4 p5 p6 pf0 pf1 pf2 pf3 pf4 pf5 pf6 pl; clear HX HD HG HF hb9 f0 f1 ff0 ff1 fl g0 g1 gf0 gf1 gl; have HX := HX'; have HF := HF'; have HG := HG'; clear HX' HF' HG'; obtain ⟨f0, f1, ff0, ff1, fl⟩ := block2 (unhide HF); obtain ⟨g0, g1, gf0, gf1, gl⟩ := block2 (unhide HG))
    exact bodyPost_ret (v := .agg #[.int .i64 4, .int .i64 (-1)]) (by simp [results, Try.results11, go_sem, g0, g1]) rfl ⟨rfl, (by repeat (first | with_reducible exact unhide HX | with_reducible refine drew_below ?_ | (with_reducible refine below_set ?_ (by omega) _)))⟩
  · have xc : (C0 == 0) = false := by simpa using hc
    have hr := unhide HF0
    rw [if_pos hc] at hr
    cases hr
    go_wp2_with fail
    exact bodyPost_ret (v := .agg #[.int .i64 C0, .int .i64 C1]) (by simp [results, Try.results11, go_sem, g0, g1]) rfl ⟨rfl, (by repeat (first | with_reducible exact unhide HX | with_reducible refine drew_below ?_ | (with_reducible refine below_set ?_ (by omega) _)))⟩


end Go.Proofs.Ytmghfedlpndpiaa
