/-
  taskmilllaw.RingPuts returns true where a task is put as Next.
-/
import Derived.Test.YtcdnennfimbgoaaT
namespace Go.Proofs.Ytcdnennfimbgoaa
open Go.RowKit

set_option maxRecDepth 100000 in
set_option maxHeartbeats 1000000 in
theorem puts_next (w : World) (nx : Int) (v : Value) (zs : List Int) (t : Int) (h : IsInts w v zs) (hv : Fits v) (hn : zs.length ≤ 2000) (hf : ringF nx zs = (0, 0)) (ht : ¬ t < 1) (hno : ¬ (t = nx ∨ zs.contains t = true)) (hp : 0 < nx) (L1 L2 : List Int) (n1 n2 : Nat) (e1 : L1.length = n1) (e2 : L2.length = n2) (hm1 : n1 ≤ 2000) (hm2 : n2 ≤ 2000)
    (hpt : ∀ W v', IsList W v' zs → Calls Try.prog 12 #[.agg #[.int .i64 nx, v'], .int .i64 t, .bool true] W fun e w' => ∃ a1 c1 a2 c2, e = .returned (.tuple #[.agg #[.int .i64 t, .slice a1 n1 c1], .slice a2 n2 c2, .agg #[.int .i64 0, .int .i64 0]]) ∧ Own W.heap.size w' (.slice a1 n1 c1) L1 ∧ Own W.heap.size w' (.slice a2 n2 c2) L2 ∧ Below W.heap.size W w') (hq : ∀ W, Below w.heap.size w W → Calls Try.prog 19 #[v, .int .i64 nx] W fun e w' => ∃ a3 c3 a4 c4, e = .returned (.tuple #[.slice a3 n1 c3, .slice a4 n2 c4]) ∧ Own W.heap.size w' (.slice a3 n1 c3) L1 ∧ Own W.heap.size w' (.slice a4 n2 c4) L2 ∧ Below W.heap.size W w') :
    Calls Try.prog 3 #[.agg #[.int .i64 nx, v], .int .i64 t, .bool true] w fun e w' => e = .returned (.bool true) ∧ Below w.heap.size w w' := by
  have hnot : ∀ (x : Bool) (w : World), (Op.unary .not (.bool x)).run Try.prog w = .ok (.bool (!x)) w := fun _ _ => rfl
  obtain ⟨a, c, rfl⟩ := Rd.form h
  have h1 : ¬ (2000 : Int) < (zs.length : Int) := by omega
  have hhas : (lineL nx zs).contains t = false := by
    cases hc : (lineL nx zs).contains t with
    | false => rfl
    | true => exact absurd ((line_has (ringF_next hf) ht).1 hc) hno
  have HOR : Hid (∀ W, Below (w.heap.size + 1) (w.alloc (.cells #[.int .i64 nx, (.slice a zs.length c)] 24)) W → Calls Try.prog 10 #[.agg #[.int .i64 nx, (.slice a zs.length c)]] W fun e w' => ∃ a' c', e = .returned (.agg #[.int .i64 nx, .slice a' zs.length c']) ∧ Own W.heap.size w' (.slice a' zs.length c') zs ∧ Below W.heap.size W w') := fun W hW => ownRing_any W nx _ zs (Rd.below h (below1 hW)) (by omega)
  have HCK : Hid (∀ W v', IsInts W v' zs → Calls Try.prog 11 #[.agg #[.int .i64 nx, v']] W fun e w' => e = .returned (.agg #[.int .i64 0, .int .i64 0]) ∧ Below W.heap.size W w') := fun W v' hW => by
    have := rcheck_any W nx v' zs hW (by unfold maxLen; omega)
    rw [hf] at this
    exact this
  have HPT : Hid (∀ W v', IsList W v' zs → Calls Try.prog 12 #[.agg #[.int .i64 nx, v'], .int .i64 t, .bool true] W fun e w' => ∃ a1 c1 a2 c2, e = .returned (.tuple #[.agg #[.int .i64 t, .slice a1 n1 c1], .slice a2 n2 c2, .agg #[.int .i64 0, .int .i64 0]]) ∧ Own W.heap.size w' (.slice a1 n1 c1) L1 ∧ Own W.heap.size w' (.slice a2 n2 c2) L2 ∧ Below W.heap.size W w') := hpt
  have HRF : Hid (∀ W, Below w.heap.size w W → Calls Try.prog 13 #[.agg #[.int .i64 nx, (.slice a zs.length c)]] W fun e w' => e = .returned (.agg #[.int .i64 0, .int .i64 0]) ∧ Below W.heap.size W w') := fun W hW => by
    have := rfault_any W nx _ zs (Rd.below h hW) hv (by unfold maxLen; omega)
    rw [hf] at this
    exact this
  have HV := hide h
  have HLN : Hid (∀ W, Below w.heap.size w W → Calls Try.prog 17 #[.agg #[.int .i64 nx, (.slice a zs.length c)]] W fun e w' => ∃ a' c', e = .returned (.slice a' (lineL nx zs).length c') ∧ Own W.heap.size w' (.slice a' (lineL nx zs).length c') (lineL nx zs) ∧ Below W.heap.size W w') := fun W hW => line_any W nx _ zs (Rd.below h hW) (by omega)
  have HHS : Hid (∀ W v', IsInts W v' (lineL nx zs) → Calls Try.prog 16 #[v', .int .i64 t] W fun e w' => e = .returned (.bool false) ∧ Below W.heap.size W w') := fun W v' hW => by
    have hle : (lineL nx zs).length ≤ zs.length + 1 := by unfold lineL; split <;> simp
    have := has_any W v' (lineL nx zs) t hW (by unfold maxLen; omega)
    rw [hhas] at this
    exact this
  obtain ⟨ln, hln⟩ : ∃ l, lineL nx zs = l := ⟨_, rfl⟩
  rw [hln] at HLN HHS
  clear hln
  have HE1 := hide e1; have HE2 := hide e2
  have HQU := hide hq
  clear hq
  clear h hv hf hpt hno e1 e2
  go_enter Try.func3, Try.ntmps3
  go_upto_region 9 with (first
    | (go_at_call 9; refine (begun_any _).mono ?_; rintro e w1 ⟨rfl, hb1⟩; have hx1 := hb1.mono (show w.heap.size + 1 ≤ _ by simp); obtain ⟨x0, x1, s1⟩ := arg1 hx1; have HX1 := hide hx1; clear hb1 hx1)
    | (go_at_call 10; refine (unhide HOR _ (unhide HX1)).mono ?_; rintro e w2 ⟨a2, c2, rfl, ho2, hb2⟩; have HO2 := hide ho2; have HB2 := hide hb2; have HX2 := hide (next1 (unhide HX1) hb2); clear ho2 hb2 x0 x1 s1)
    | (go_at_call 11; refine (unhide HCK _ _ (Rd.below (unhide HO2).list.1 ((Below.refl _ _).alloc (Nat.le_refl _) _))).mono ?_; rintro e w3 ⟨rfl, hb3⟩; obtain ⟨y0, y1, _, _, sy⟩ := block2 (keep_below (new_block w2 (.cells #[.int .i64 nx, .slice a2 zs.length c2] 24)) hb3); have HB3 := hide hb3; have HX3 := hide (next1a (unhide HX2) hb3); have HI3 := hide (IsList.below (IsList.below (unhide HO2).list ((Below.refl _ _).alloc (Nat.le_refl _) _)) hb3); clear hb3)
    | (go_at_call 12; refine (unhide HPT _ _ (IsList.below (unhide HI3) ((Below.refl _ _).alloc (Nat.le_refl _) _))).mono ?_; rintro e w4 ⟨a9, c9, a10, c10, rfl, hq1, hq2, hb4⟩; have HB4 := hide hb4; have hx4 := next1a (unhide HX3) hb4; obtain ⟨x0, x1, s1⟩ := arg1 hx4; have HX4 := hide hx4; have HQ1 := hide hq1; have HQ2 := hide hq2; clear hq1 hq2; clear hb4 hx4 y0 y1 sy)
    | (go_at_call 13; refine (unhide HRF _ ((below1 (unhide HX4)).trans ((below_new2 w4 _ _).mono (below1 (unhide HX4)).size))).mono ?_; rintro e w5 ⟨rfl, hb5⟩; have HB5 := hide hb5; clear hb5 x0 x1 s1))
  have HVR := hide (puts_vars (g0 := .int .i64 0) (g1 := .int .i64 0) (unhide HX1) (unhide HB2) (unhide HB3) (unhide HB4) (unhide HB5))
  have HL7 := hide (IsInts.below (unhide HI3).1 (puts_below3 (o12 := .cells #[.int .i64 0, .int .i64 0] 28) (unhide HB4) (unhide HB5)))
  have HL3 := hide (IsInts.below (unhide HV) (unhide HVR).below)
  have HL9 := hide (IsInts.below (unhide HQ1).list.1 (puts_below4 (o12 := .cells #[.int .i64 0, .int .i64 0] 28) (unhide HB5)))
  have HL10 := hide (IsInts.below (unhide HQ2).list.1 (puts_below4 (o12 := .cells #[.int .i64 0, .int .i64 0] 28) (unhide HB5)))
  obtain ⟨s7, e7⟩ : ∃ s, w2.heap.size = s := ⟨_, rfl⟩
  obtain ⟨s8, e8⟩ : ∃ s, w3.heap.size = s := ⟨_, rfl⟩
  obtain ⟨s9, e9⟩ : ∃ s, w4.heap.size = s := ⟨_, rfl⟩
  obtain ⟨s12, e12⟩ : ∃ s, w5.heap.size = s := ⟨_, rfl⟩
  obtain ⟨W6, e6⟩ : ∃ W, w5.alloc (.cells #[.int .i64 0, .int .i64 0] 28) = W := ⟨_, rfl⟩
  rw [e7, e8, e9, e12, e6] at HVR
  rw [e6] at HL3 HL7 HL9 HL10
  rw [e7, e8, e9, e12, e6]
  clear e7 e8 e9 e12 e6 HB2 HB3 HB4 HB5 HX1 HX2 HX3 HX4 HO2 HI3 HOR HCK HPT HRF
  obtain ⟨⟨q30, q31⟩, ⟨q70, q71⟩, ⟨q80, q81⟩, ⟨q90, q91⟩, ⟨q110, q111⟩, ⟨q120, q121⟩, z0, z1⟩ := (unhide HVR).cells
  go_upto_region 19 with (first
    | (go_at_call 14; refine (sameRing_any _ _ _ _ zs (unhide HL7) (unhide HL3) (by unfold maxLen; omega)).mono ?_; rintro e w7 ⟨rfl, hb7⟩; have hb7x := hb7; clear q30 q31 q70 q71 q80 q81 q90 q91 q110 q111 q120 q121 z0 z1; have HVR7 := hide ((unhide HVR).keep hb7); have HB7 := hide hb7; obtain ⟨⟨q30, q31⟩, ⟨q70, q71⟩, ⟨q80, q81⟩, ⟨q90, q91⟩, ⟨q110, q111⟩, ⟨q120, q121⟩, z0, z1⟩ := (unhide HVR7).cells; have HBW7 := hide hb7x; clear hb7 hb7x)
    | (go_at_call 17; refine (unhide HLN _ (unhide HVR7).below).mono ?_; rintro e w75 ⟨a75, c75, rfl, ho75, hb75⟩; have HO75 := hide ho75; have HVR75 := hide ((unhide HVR7).keep hb75); have HBW75 := hide ((unhide HBW7).trans (hb75.mono (unhide HBW7).size)); clear ho75 hb75)
    | (go_at_call 16; refine (unhide HHS _ _ (unhide HO75).list.1).mono ?_; rintro e w76 ⟨rfl, hb76⟩; clear q30 q31 q70 q71 q80 q81 q90 q91 q110 q111 q120 q121 z0 z1; have HVR76 := hide ((unhide HVR75).keep hb76); have HB76 := hide hb76; obtain ⟨⟨q30, q31⟩, ⟨q70, q71⟩, ⟨q80, q81⟩, ⟨q90, q91⟩, ⟨q110, q111⟩, ⟨q120, q121⟩, z0, z1⟩ := (unhide HVR76).cells; have HBW76 := hide ((unhide HBW75).trans (hb76.mono (unhide HBW75).size)); clear hb76))
  have n3 : w.heap.size < w76.heap.size := (block2 (unhide HVR76).b3).2.2.2.2
  have n9 : s9 < w76.heap.size := (block2 (unhide HVR76).b9).2.2.2.2
  clear q70 q71 q80 q81 q110 q111 q120 q121 z0 z1
  go_upto_region 25 with fail
  have HVW := hide ((unhide HVR76).keep ((Below.refl _ _).alloc (Nat.le_refl _) (.cells #[.int .i64 t, (.slice a zs.length c)] 24)))
  have HBW := hide ((unhide HBW76).alloc (unhide HBW76).size (.cells #[.int .i64 t, (.slice a zs.length c)] 24))
  have HNB := hide (new_block w76 (.cells #[.int .i64 t, (.slice a zs.length c)] 24))
  have HNS : Hid (w76.heap.size < (w76.alloc (.cells #[.int .i64 t, (.slice a zs.length c)] 24)).heap.size) := by simp [Hid]
  obtain ⟨s13, e13⟩ : ∃ s, w76.heap.size = s := ⟨_, rfl⟩
  obtain ⟨W8, e8⟩ : ∃ W, w76.alloc (.cells #[.int .i64 t, (.slice a zs.length c)] 24) = W := ⟨_, rfl⟩
  have HW13 : Hid (W6.heap.size ≤ s13) := by rw [← e13]; exact (unhide HBW76).size
  rw [e8] at HVW HBW
  rw [e8, e13] at HNB HNS
  rw [e13] at n3 n9
  rw [e8, e13]
  clear e8 e13 q30 q31 q90 q91 HVR76 HBW76 HBW75 HBW7 HVR75 HVR7
  obtain ⟨⟨q30, q31⟩, _, _, ⟨q90, q91⟩, _, _, _, _⟩ := (unhide HVW).cells
  obtain ⟨r0, r1, r2, r3, _⟩ := block2 (unhide HNB)
  go_upto_region 26 with (go_at_call 19; refine (unhide HQU _ (unhide HVW).below).mono ?_; rintro e w8 ⟨a11, c11, a12, c12, rfl, hq1, hq2, hb8⟩; clear q30 q31 q90 q91 r0 r1 r2 r3; have HVW8 := hide ((unhide HVW).keep hb8); have HBW8 := hide ((unhide HBW).trans (hb8.mono (unhide HBW).size)); obtain ⟨⟨q30, q31⟩, _, _, ⟨q90, q91⟩, _, _, _, _⟩ := (unhide HVW8).cells; obtain ⟨r0, r1, r2, r3, _⟩ := block2 (keep_below (unhide HNB) hb8); have HQ11 := hide hq1; have HQ12 := hide hq2; clear hq1 hq2 hb8)
  have HF11 := hide ((unhide HQ11).keep (w' := w8.setCell ⟨s13, 1, none⟩ (.slice a11 n1 c11)) (fun k hk _ => Below.heap_setCell _ _ _ _ (by show k ≠ s13; have := unhide HNS; omega)))
  have HF12 := hide ((unhide HQ12).keep (w' := w8.setCell ⟨s13, 1, none⟩ (.slice a11 n1 c11)) (fun k hk _ => Below.heap_setCell _ _ _ _ (by show k ≠ s13; have := unhide HNS; omega)))
  have HBF := hide ((unhide HBW8).setCell (p := ⟨s13, 1, none⟩) (unhide HW13) (.slice a11 n1 c11))
  have HBB := hide ((unhide HVW8).below.setCell (p := ⟨s13, 1, none⟩) (Nat.le_of_lt n3) (.slice a11 n1 c11))
  have m9 : s9 ≠ s13 := by omega
  have m9' : s13 ≠ s9 := by omega
  clear q30 q31 HVW HVW8 HNB
  go_wp2_with (first
    | (go_at_call 14; refine (sameRing_any _ _ _ _ L1 (IsInts.below (unhide HL9) (unhide HBF)) (unhide HF11).list.1 (by rw [unhide HE1]; unfold maxLen; omega)).mono ?_; rintro e w9 ⟨rfl, hb9⟩; have HBF9 := hide ((unhide HBF).trans (hb9.mono (unhide HBF).size)); have HBB9 := hide ((unhide HBB).trans (hb9.mono (unhide HBB).size)); have HF12' := hide (IsInts.below (unhide HF12).list.1 hb9); clear hb9)
    | (go_at_call 20; refine (ints_same _ _ _ L2 (IsInts.below (unhide HL10) (unhide HBF9)) (unhide HF12') (by rw [unhide HE2]; unfold maxLen; omega)).mono ?_; rintro e w10 ⟨rfl, hb10⟩; have HBB10 := hide ((unhide HBB9).trans (hb10.mono (unhide HBB9).size)); clear hb10))
  go_ret
  exact ⟨rfl, unhide HBB10⟩

end Go.Proofs.Ytcdnennfimbgoaa
