/-
  taskmilllaw.RingPuts returns true where the task is there.
-/
import Derived.Test.YtcdnennfimbgoaaS
namespace Go.Proofs.Ytcdnennfimbgoaa
open Go.RowKit

theorem line_has {nx t : Int} {zs : List Int} (hx : ¬ nx < 0) (ht : ¬ t < 1) : (lineL nx zs).contains t = true ↔ (t = nx ∨ zs.contains t = true) := by
  rw [List.contains_iff_mem, List.contains_iff_mem]
  unfold lineL
  split
  · rw [List.mem_cons]
  · constructor
    · exact Or.inr
    · rintro (h | h)
      · omega
      · exact h

set_option maxRecDepth 100000 in
set_option maxHeartbeats 1000000 in
theorem puts_twice (w : World) (nx : Int) (v : Value) (zs : List Int) (t : Int) (next : Bool) (h : IsInts w v zs) (hv : Fits v) (hn : zs.length ≤ 2000) (hf : ringF nx zs = (0, 0)) (ht : ¬ t < 1) (hor : t = nx ∨ zs.contains t = true) :
    Calls Try.prog 3 #[.agg #[.int .i64 nx, v], .int .i64 t, .bool next] w fun e w' => e = .returned (.bool true) ∧ Below w.heap.size w w' := by
  have hnot : ∀ (x : Bool) (w : World), (Op.unary .not (.bool x)).run Try.prog w = .ok (.bool (!x)) w := fun _ _ => rfl
  obtain ⟨a, c, rfl⟩ := Rd.form h
  have h1 : ¬ (2000 : Int) < (zs.length : Int) := by omega
  have hpf : putF nx zs t = (10, -1) := by unfold putF; rw [hf, if_neg (by simp), if_neg ht, if_pos hor]
  have hhas := (line_has (ringF_next hf) ht).2 hor
  have HOR : Hid (∀ W, Below (w.heap.size + 1) (w.alloc (.cells #[.int .i64 nx, (.slice a zs.length c)] 24)) W → Calls Try.prog 10 #[.agg #[.int .i64 nx, (.slice a zs.length c)]] W fun e w' => ∃ a' c', e = .returned (.agg #[.int .i64 nx, .slice a' zs.length c']) ∧ Own W.heap.size w' (.slice a' zs.length c') zs ∧ Below W.heap.size W w') := fun W hW => ownRing_any W nx _ zs (Rd.below h (below1 hW)) (by omega)
  have HCK : Hid (∀ W v', IsInts W v' zs → Calls Try.prog 11 #[.agg #[.int .i64 nx, v']] W fun e w' => e = .returned (.agg #[.int .i64 0, .int .i64 0]) ∧ Below W.heap.size W w') := fun W v' hW => by
    have := rcheck_any W nx v' zs hW (by unfold maxLen; omega)
    rw [hf] at this
    exact this
  have HPT : Hid (∀ W v', IsList W v' zs → Calls Try.prog 12 #[.agg #[.int .i64 nx, v'], .int .i64 t, .bool next] W fun e w' => e = .returned (.tuple #[.agg #[.int .i64 0, .slice none 0 0], .slice none 0 0, .agg #[.int .i64 10, .int .i64 (-1)]]) ∧ Below W.heap.size W w') := fun W v' hW => put_fault W nx v' zs t next hW.1 (by unfold maxLen; omega) _ _ hpf (by decide)
  have HRF : Hid (∀ W, Below w.heap.size w W → Calls Try.prog 13 #[.agg #[.int .i64 nx, (.slice a zs.length c)]] W fun e w' => e = .returned (.agg #[.int .i64 0, .int .i64 0]) ∧ Below W.heap.size W w') := fun W hW => by
    have := rfault_any W nx _ zs (Rd.below h hW) hv (by unfold maxLen; omega)
    rw [hf] at this
    exact this
  have HV := hide h
  have HLN : Hid (∀ W, Below w.heap.size w W → Calls Try.prog 17 #[.agg #[.int .i64 nx, (.slice a zs.length c)]] W fun e w' => ∃ a' c', e = .returned (.slice a' (lineL nx zs).length c') ∧ Own W.heap.size w' (.slice a' (lineL nx zs).length c') (lineL nx zs) ∧ Below W.heap.size W w') := fun W hW => line_any W nx _ zs (Rd.below h hW) (by omega)
  have HHS : Hid (∀ W v', IsInts W v' (lineL nx zs) → Calls Try.prog 16 #[v', .int .i64 t] W fun e w' => e = .returned (.bool true) ∧ Below W.heap.size W w') := fun W v' hW => by
    have hle : (lineL nx zs).length ≤ zs.length + 1 := by unfold lineL; split <;> simp
    have := has_any W v' (lineL nx zs) t hW (by unfold maxLen; omega)
    rw [hhas] at this
    exact this
  obtain ⟨ln, hln⟩ : ∃ l, lineL nx zs = l := ⟨_, rfl⟩
  rw [hln] at HLN HHS
  clear hln
  clear h hv hf hpf hor
  go_enter Try.func3, Try.ntmps3
  go_upto_region 9 with (first
    | (go_at_call 9; refine (begun_any _).mono ?_; rintro e w1 ⟨rfl, hb1⟩; have hx1 := hb1.mono (show w.heap.size + 1 ≤ _ by simp); obtain ⟨x0, x1, s1⟩ := arg1 hx1; have HX1 := hide hx1; clear hb1 hx1)
    | (go_at_call 10; refine (unhide HOR _ (unhide HX1)).mono ?_; rintro e w2 ⟨a2, c2, rfl, ho2, hb2⟩; have HO2 := hide ho2; have HB2 := hide hb2; have HX2 := hide (next1 (unhide HX1) hb2); clear ho2 hb2 x0 x1 s1)
    | (go_at_call 11; refine (unhide HCK _ _ (Rd.below (unhide HO2).list.1 ((Below.refl _ _).alloc (Nat.le_refl _) _))).mono ?_; rintro e w3 ⟨rfl, hb3⟩; obtain ⟨y0, y1, _, _, sy⟩ := block2 (keep_below (new_block w2 (.cells #[.int .i64 nx, .slice a2 zs.length c2] 24)) hb3); have HB3 := hide hb3; have HX3 := hide (next1a (unhide HX2) hb3); have HI3 := hide (IsList.below (IsList.below (unhide HO2).list ((Below.refl _ _).alloc (Nat.le_refl _) _)) hb3); clear hb3)
    | (go_at_call 12; refine (unhide HPT _ _ (IsList.below (unhide HI3) ((Below.refl _ _).alloc (Nat.le_refl _) _))).mono ?_; rintro e w4 ⟨rfl, hb4⟩; have HB4 := hide hb4; have hx4 := next1a (unhide HX3) hb4; obtain ⟨x0, x1, s1⟩ := arg1 hx4; have HX4 := hide hx4; clear hb4 hx4 y0 y1 sy)
    | (go_at_call 13; refine (unhide HRF _ ((below1 (unhide HX4)).trans ((below_new2 w4 _ _).mono (below1 (unhide HX4)).size))).mono ?_; rintro e w5 ⟨rfl, hb5⟩; have HB5 := hide hb5; clear hb5 x0 x1 s1))
  have HVR := hide (puts_vars (g0 := .int .i64 0) (g1 := .int .i64 0) (unhide HX1) (unhide HB2) (unhide HB3) (unhide HB4) (unhide HB5))
  have HL7 := hide (IsInts.below (unhide HI3).1 (puts_below3 (o12 := .cells #[.int .i64 0, .int .i64 0] 28) (unhide HB4) (unhide HB5)))
  have HL3 := hide (IsInts.below (unhide HV) (unhide HVR).below)
  obtain ⟨s7, e7⟩ : ∃ s, w2.heap.size = s := ⟨_, rfl⟩
  obtain ⟨s8, e8⟩ : ∃ s, w3.heap.size = s := ⟨_, rfl⟩
  obtain ⟨s9, e9⟩ : ∃ s, w4.heap.size = s := ⟨_, rfl⟩
  obtain ⟨s12, e12⟩ : ∃ s, w5.heap.size = s := ⟨_, rfl⟩
  obtain ⟨W6, e6⟩ : ∃ W, w5.alloc (.cells #[.int .i64 0, .int .i64 0] 28) = W := ⟨_, rfl⟩
  rw [e7, e8, e9, e12, e6] at HVR
  rw [e6] at HL3 HL7
  rw [e7, e8, e9, e12, e6]
  clear e7 e8 e9 e12 e6 HB2 HB3 HB4 HB5 HX1 HX2 HX3 HX4 HO2 HI3 HOR HCK HPT HRF
  obtain ⟨⟨q30, q31⟩, ⟨q70, q71⟩, ⟨q80, q81⟩, ⟨q90, q91⟩, ⟨q110, q111⟩, ⟨q120, q121⟩, z0, z1⟩ := (unhide HVR).cells
  go_upto_region 15 with (first
    | (go_at_call 14; refine (sameRing_any _ _ _ _ zs (unhide HL7) (unhide HL3) (by unfold maxLen; omega)).mono ?_; rintro e w7 ⟨rfl, hb7⟩; clear q30 q31 q70 q71 q80 q81 q90 q91 q110 q111 q120 q121 z0 z1; have HVR7 := hide ((unhide HVR).keep hb7); have HB7 := hide hb7; obtain ⟨⟨q30, q31⟩, ⟨q70, q71⟩, ⟨q80, q81⟩, ⟨q90, q91⟩, ⟨q110, q111⟩, ⟨q120, q121⟩, z0, z1⟩ := (unhide HVR7).cells; clear hb7)
    | (go_at_call 17; refine (unhide HLN _ (unhide HVR7).below).mono ?_; rintro e w75 ⟨a75, c75, rfl, ho75, hb75⟩; have HO75 := hide ho75; have HVR75 := hide ((unhide HVR7).keep hb75); clear ho75 hb75)
    | (go_at_call 16; refine (unhide HHS _ _ (unhide HO75).list.1).mono ?_; rintro e w76 ⟨rfl, hb76⟩; clear q30 q31 q70 q71 q80 q81 q90 q91 q110 q111 q120 q121 z0 z1; have HVR76 := hide ((unhide HVR75).keep hb76); have HB76 := hide hb76; obtain ⟨⟨q30, q31⟩, ⟨q70, q71⟩, ⟨q80, q81⟩, ⟨q90, q91⟩, ⟨q110, q111⟩, ⟨q120, q121⟩, z0, z1⟩ := (unhide HVR76).cells; clear hb76)
    | (go_at_call 15; refine (f_any _ _ _).mono ?_; rintro e w8 ⟨rfl, hb8⟩; clear q30 q31 q70 q71 q80 q81 q90 q91 q110 q111 q120 q121 z0 z1; have HVR8 := hide ((unhide HVR76).keep hb8); obtain ⟨⟨q30, q31⟩, ⟨q70, q71⟩, ⟨q80, q81⟩, ⟨q90, q91⟩, ⟨q110, q111⟩, ⟨q120, q121⟩, z0, z1⟩ := (unhide HVR8).cells; clear hb8))
  have HVR9 := hide ((unhide HVR8).set (.int .i64 10) (.int .i64 (-1)))
  obtain ⟨W9, e9⟩ : ∃ W, (w8.setCell ⟨s12, 0, none⟩ (.int .i64 10)).setCell ⟨s12, 1, none⟩ (.int .i64 (-1)) = W := ⟨_, rfl⟩
  rw [e9] at HVR9 ⊢
  clear e9 q30 q31 q70 q71 q80 q81 q90 q91 q110 q111 q120 q121 z0 z1
  obtain ⟨⟨q30, q31⟩, ⟨q70, q71⟩, ⟨q80, q81⟩, ⟨q90, q91⟩, ⟨q110, q111⟩, ⟨q120, q121⟩, z0, z1⟩ := (unhide HVR9).cells
  go_wp2_with (go_at_call 18; refine (noRing_none _ _ _).mono ?_; rintro e w10 ⟨rfl, hb10⟩; have HB10 := hide ((unhide HVR9).keep hb10).below; clear hb10)
  go_ret
  exact ⟨rfl, unhide HB10⟩

end Go.Proofs.Ytcdnennfimbgoaa
