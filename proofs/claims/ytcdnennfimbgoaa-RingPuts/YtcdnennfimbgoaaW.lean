/-
  taskmilllaw.RingPuts returns true.
-/
import Derived.Test.YtcdnennfimbgoaaU
import Derived.Test.YtcdnennfimbgoaaV
namespace Go.Proofs.Ytcdnennfimbgoaa
open Go.RowKit

set_option maxRecDepth 100000 in
set_option maxHeartbeats 1000000 in
theorem puts_first (w : World) (nx : Int) (v : Value) (zs : List Int) (t : Int) (h : IsInts w v zs) (hv : Fits v) (hn : zs.length ≤ 2000) (hf : ringF nx zs = (0, 0)) (ht : ¬ t < 1) (hno : ¬ (t = nx ∨ zs.contains t = true)) (hp : ¬ 0 < nx) (L1 L2 : List Int) (n1 n2 : Nat) (e1 : L1.length = n1) (e2 : L2.length = n2) (hm1 : n1 ≤ 2000) (hm2 : n2 ≤ 2000)
    (hpt : ∀ W v', IsList W v' zs → Calls Try.prog 12 #[.agg #[.int .i64 nx, v'], .int .i64 t, .bool true] W fun e w' => ∃ a1 c1 a2 c2, e = .returned (.tuple #[.agg #[.int .i64 t, .slice a1 n1 c1], .slice a2 n2 c2, .agg #[.int .i64 0, .int .i64 0]]) ∧ Own W.heap.size w' (.slice a1 n1 c1) L1 ∧ Own W.heap.size w' (.slice a2 n2 c2) L2 ∧ Below W.heap.size W w') (hL1 : L1 = zs) (hL2 : L2 = []) (hn2 : n2 = 0) :
    Calls Try.prog 3 #[.agg #[.int .i64 nx, v], .int .i64 t, .bool true] w fun e w' => e = .returned (.bool true) ∧ Below w.heap.size w w' := by
  have hnot : ∀ (x : Bool) (w : World), (Op.unary .not (.bool x)).run Try.prog w = .ok (.bool (!x)) w := fun _ _ => rfl
  obtain ⟨a, c, rfl⟩ := Rd.form h
  have h1 : ¬ (2000 : Int) < (zs.length : Int) := by omega
  have hhas : (lineL nx zs).contains t = false := by
    cases hc : (lineL nx zs).contains t with
    | false => rfl
    | true => exact absurd ((line_has (ringF_next hf) ht).1 hc) hno
  have HOR : Hid (∀ W, Below (w.heap.size + 1) (w.alloc (.cells #[.int .i64 nx, (.slice a zs.length c)] 24)) W → Calls Try.prog 10 #[.agg #[.int .i64 nx, (.slice a zs.length c)]] W fun e w' => ∃ a' c', e = .returned (.agg #[.int .i64 nx, .slice a' zs.length c']) ∧ Own W.heap.size w' (.slice a' zs.length c') zs ∧ Below W.heap.size W w') := fun W hW => ownRing_any W nx _ zs (Rd.below h (below1 hW)) (by omega)
  have HCK : Hid (∀ W v', IsInts W v' zs → Calls Try.prog 11 #[.agg #[.int .i64 nx, v']] W fun e w' => e = .returned (.agg #[.int .i64 0, .int .i64 0]) ∧ Below W.heap.size W w') := fun W v' hW => by
    have := rcheck_any W nx v' zs hW (by unfold maxLen; omega)
    rw [hf] at this
    exact this
  have HPT : Hid (∀ W v', IsList W v' zs → Calls Try.prog 12 #[.agg #[.int .i64 nx, v'], .int .i64 t, .bool true] W fun e w' => ∃ a1 c1 a2 c2, e = .returned (.tuple #[.agg #[.int .i64 t, .slice a1 n1 c1], .slice a2 n2 c2, .agg #[.int .i64 0, .int .i64 0]]) ∧ Own W.heap.size w' (.slice a1 n1 c1) L1 ∧ Own W.heap.size w' (.slice a2 n2 c2) L2 ∧ Below W.heap.size W w') := hpt
  have HRF : Hid (∀ W, Below w.heap.size w W → Calls Try.prog 13 #[.agg #[.int .i64 nx, (.slice a zs.length c)]] W fun e w' => e = .returned (.agg #[.int .i64 0, .int .i64 0]) ∧ Below W.heap.size W w') := fun W hW => by
    have := rfault_any W nx _ zs (Rd.below h hW) hv (by unfold maxLen; omega)
    rw [hf] at this
    exact this
  have HV := hide h
  have HLN : Hid (∀ W, Below w.heap.size w W → Calls Try.prog 17 #[.agg #[.int .i64 nx, (.slice a zs.length c)]] W fun e w' => ∃ a' c', e = .returned (.slice a' (lineL nx zs).length c') ∧ Own W.heap.size w' (.slice a' (lineL nx zs).length c') (lineL nx zs) ∧ Below W.heap.size W w') := fun W hW => line_any W nx _ zs (Rd.below h hW) (by omega)
  have HHS : Hid (∀ W v', IsInts W v' (lineL nx zs) → Calls Try.prog 16 #[v', .int .i64 t] W fun e w' => e = .returned (.bool false) ∧ Below W.heap.size W w') := fun W v' hW => by
    have hle : (lineL nx zs).length ≤ zs.length + 1 := by unfold lineL; split <;> simp
    have := has_any W v' (lineL nx zs) t hW (by unfold maxLen; omega)
    rw [hhas] at this
    exact this
  obtain ⟨ln, hln⟩ : ∃ l, lineL nx zs = l := ⟨_, rfl⟩
  rw [hln] at HLN HHS
  clear hln
  have HE1 := hide e1; have HE2 := hide e2
  have HL1 := hide hL1; have HL2 := hide hL2
  clear hL1 hL2
  subst hn2
  clear h hv hf hpt hno e1 e2
  go_enter Try.func3, Try.ntmps3
  go_upto_region 9 with (first
    | (go_at_call 9; refine (begun_any _).mono ?_; rintro e w1 ⟨rfl, hb1⟩; have hx1 := hb1.mono (show w.heap.size + 1 ≤ _ by simp); obtain ⟨x0, x1, s1⟩ := arg1 hx1; have HX1 := hide hx1; clear hb1 hx1)
    | (go_at_call 10; refine (unhide HOR _ (unhide HX1)).mono ?_; rintro e w2 ⟨a2, c2, rfl, ho2, hb2⟩; have HO2 := hide ho2; have HB2 := hide hb2; have HX2 := hide (next1 (unhide HX1) hb2); clear ho2 hb2 x0 x1 s1)
    | (go_at_call 11; refine (unhide HCK _ _ (Rd.below (unhide HO2).list.1 ((Below.refl _ _).alloc (Nat.le_refl _) _))).mono ?_; rintro e w3 ⟨rfl, hb3⟩; obtain ⟨y0, y1, _, _, sy⟩ := block2 (keep_below (new_block w2 (.cells #[.int .i64 nx, .slice a2 zs.length c2] 24)) hb3); have HB3 := hide hb3; have HX3 := hide (next1a (unhide HX2) hb3); have HI3 := hide (IsList.below (IsList.below (unhide HO2).list ((Below.refl _ _).alloc (Nat.le_refl _) _)) hb3); clear hb3)
    | (go_at_call 12; refine (unhide HPT _ _ (IsList.below (unhide HI3) ((Below.refl _ _).alloc (Nat.le_refl _) _))).mono ?_; rintro e w4 ⟨a9, c9, a10, c10, rfl, hq1, hq2, hb4⟩; have HB4 := hide hb4; have hx4 := next1a (unhide HX3) hb4; obtain ⟨x0, x1, s1⟩ := arg1 hx4; have HX4 := hide hx4; have HQ1 := hide hq1; have HQ2 := hide hq2; clear hq1 hq2; clear hb4 hx4 y0 y1 sy)
    | (go_at_call 13; refine (unhide HRF _ ((below1 (unhide HX4)).trans ((below_new2 w4 _ _).mono (below1 (unhide HX4)).size))).mono ?_; rintro e w5 ⟨rfl, hb5⟩; have HB5 := hide hb5; clear hb5 x0 x1 s1))
  have HVR := hide (puts_vars (g0 := .int .i64 0) (g1 := .int .i64 0) (unhide HX1) (unhide HB2) (unhide HB3) (unhide HB4) (unhide HB5))
  have HL7 := hide (IsInts.below (unhide HI3).1 (puts_below3 (o12 := .cells #[.int .i64 0, .int .i64 0] 28) (unhide HB4) (unhide HB5)))
  have HL3 := hide (IsInts.below (unhide HV) (unhide HVR).below)
  have HL9 := hide (IsInts.below (unhide HQ1).list.1 (puts_below4 (o12 := .cells #[.int .i64 0, .int .i64 0] 28) (unhide HB5)))
  have HL10 := hide (IsInts.below (unhide HQ2).list.1 (puts_below4 (o12 := .cells #[.int .i64 0, .int .i64 0] 28) (unhide HB5)))
  obtain ⟨s7, e7⟩ : ∃ s, w2.heap.size = s := ⟨_, rfl⟩
  obtain ⟨s8, e8⟩ : ∃ s, w3.heap.size = s := ⟨_, rfl⟩
  obtain ⟨s9, e9⟩ : ∃ s, w4.heap.size = s := ⟨_, rfl⟩
  obtain ⟨s12, e12⟩ : ∃ s, w5.heap.size = s := ⟨_, rfl⟩
  obtain ⟨W6, e6⟩ : ∃ W, w5.alloc (.cells #[.int .i64 0, .int .i64 0] 28) = W := ⟨_, rfl⟩
  rw [e7, e8, e9, e12, e6] at HVR
  rw [e6] at HL3 HL7 HL9 HL10
  rw [e7, e8, e9, e12, e6]
  clear e7 e8 e9 e12 e6 HB2 HB3 HB4 HB5 HX1 HX2 HX3 HX4 HO2 HI3 HOR HCK HPT HRF
  obtain ⟨⟨q30, q31⟩, ⟨q70, q71⟩, ⟨q80, q81⟩, ⟨q90, q91⟩, ⟨q110, q111⟩, ⟨q120, q121⟩, z0, z1⟩ := (unhide HVR).cells
  go_upto_region 19 with (first
    | (go_at_call 14; refine (sameRing_any _ _ _ _ zs (unhide HL7) (unhide HL3) (by unfold maxLen; omega)).mono ?_; rintro e w7 ⟨rfl, hb7⟩; have hb7x := hb7; clear q30 q31 q70 q71 q80 q81 q90 q91 q110 q111 q120 q121 z0 z1; have HVR7 := hide ((unhide HVR).keep hb7); have HB7 := hide hb7; obtain ⟨⟨q30, q31⟩, ⟨q70, q71⟩, ⟨q80, q81⟩, ⟨q90, q91⟩, ⟨q110, q111⟩, ⟨q120, q121⟩, z0, z1⟩ := (unhide HVR7).cells; have HBW7 := hide hb7x; clear hb7 hb7x)
    | (go_at_call 17; refine (unhide HLN _ (unhide HVR7).below).mono ?_; rintro e w75 ⟨a75, c75, rfl, ho75, hb75⟩; have HO75 := hide ho75; have HVR75 := hide ((unhide HVR7).keep hb75); have HBW75 := hide ((unhide HBW7).trans (hb75.mono (unhide HBW7).size)); clear ho75 hb75)
    | (go_at_call 16; refine (unhide HHS _ _ (unhide HO75).list.1).mono ?_; rintro e w76 ⟨rfl, hb76⟩; clear q30 q31 q70 q71 q80 q81 q90 q91 q110 q111 q120 q121 z0 z1; have HVR76 := hide ((unhide HVR75).keep hb76); have HB76 := hide hb76; obtain ⟨⟨q30, q31⟩, ⟨q70, q71⟩, ⟨q80, q81⟩, ⟨q90, q91⟩, ⟨q110, q111⟩, ⟨q120, q121⟩, z0, z1⟩ := (unhide HVR76).cells; have HBW76 := hide ((unhide HBW75).trans (hb76.mono (unhide HBW75).size)); clear hb76))
  have n3 : w.heap.size < w76.heap.size := (block2 (unhide HVR76).b3).2.2.2.2
  have n9 : s9 < w76.heap.size := (block2 (unhide HVR76).b9).2.2.2.2
  clear q70 q71 q80 q81 q110 q111 q120 q121 z0 z1
  go_upto_region 26 with fail
  have HVW := hide ((unhide HVR76).keep ((Below.refl _ _).alloc (Nat.le_refl _) (.cells #[.int .i64 t, (.slice a zs.length c)] 24)))
  have HBW := hide ((unhide HBW76).alloc (unhide HBW76).size (.cells #[.int .i64 t, (.slice a zs.length c)] 24))
  have HNB := hide (new_block w76 (.cells #[.int .i64 t, (.slice a zs.length c)] 24))
  obtain ⟨s13, e13⟩ : ∃ s, w76.heap.size = s := ⟨_, rfl⟩
  obtain ⟨W8, e8⟩ : ∃ W, w76.alloc (.cells #[.int .i64 t, (.slice a zs.length c)] 24) = W := ⟨_, rfl⟩
  rw [e8] at HVW HBW
  rw [e8, e13] at HNB
  rw [e8, e13]
  clear e8 e13 n3 n9 q30 q31 q90 q91 HVR76 HBW76 HBW75 HBW7 HVR75 HVR7
  obtain ⟨_, _, _, ⟨q90, q91⟩, _, _, _, _⟩ := (unhide HVW).cells
  obtain ⟨r0, r1, _, _, _⟩ := block2 (unhide HNB)
  go_wp2_with (first
    | (go_at_call 14; refine (sameRing_any _ _ _ _ L1 (IsInts.below (unhide HL9) (unhide HBW)) (by rw [unhide HL1]; exact IsInts.below (unhide HV) (unhide HVW).below) (by rw [unhide HE1]; unfold maxLen; omega)).mono ?_; rintro e w9 ⟨rfl, hb9⟩; have HBF9 := hide ((unhide HBW).trans (hb9.mono (unhide HBW).size)); have HBB9 := hide ((unhide HVW).keep hb9).below; clear hb9)
    | (go_at_call 20; refine (ints_same _ _ _ L2 (IsInts.below (unhide HL10) (unhide HBF9)) (by rw [unhide HL2]; exact ⟨rfl, Or.inl ⟨rfl, rfl⟩⟩) (by rw [unhide HE2]; unfold maxLen; omega)).mono ?_; rintro e w10 ⟨rfl, hb10⟩; have HBB10 := hide ((unhide HBB9).trans (hb10.mono (unhide HBB9).size)); clear hb10))
  go_ret
  exact ⟨rfl, unhide HBB10⟩

set_option maxRecDepth 100000 in
set_option maxHeartbeats 1000000 in
theorem puts_long (w : World) (nx t : Int) (next : Bool) (a : Option Addr) (n c : Nat) (hn : 2000 < n) (hm : n ≤ maxLen) :
    Calls Try.prog 3 #[.agg #[.int .i64 nx, .slice a n c], .int .i64 t, .bool next] w fun e w' => e = .returned (.bool true) ∧ Below w.heap.size w w' := by
  have hnot : ∀ (x : Bool) (w : World), (Op.unary .not (.bool x)).run Try.prog w = .ok (.bool (!x)) w := fun _ _ => rfl
  unfold maxLen at hm
  have h1 : (2000 : Int) < (n : Int) := by omega
  go_enter Try.func3, Try.ntmps3
  go_wp2_with (go_at_call 9; refine (begun_any _).mono ?_; rintro e w1 ⟨rfl, hb1⟩; have hx1 := hb1.mono (show w.heap.size + 1 ≤ _ by simp); obtain ⟨x0, x1, s1⟩ := arg1 hx1; have HX1 := hide hx1; clear hb1 hx1)
  go_ret
  exact ⟨rfl, below1 (unhide HX1)⟩

theorem hpl_full (v : Value) (zs : List Int) (t : Int) (hl : zs.length = 256) (hv : Fits v) (ht : t ≠ 0) (W : World) (h : IsInts W v zs) :
    Calls Try.prog 29 #[v, .int .i64 t] W fun e w' => ∃ a1 c1 a2 c2, e = .returned (.tuple #[.slice a1 (zs.drop 128).length c1, .slice a2 (zs.take 128 ++ [t]).length c2]) ∧ Own W.heap.size w' (.slice a1 (zs.drop 128).length c1) (zs.drop 128) ∧ Own W.heap.size w' (.slice a2 (zs.take 128 ++ [t]).length c2) (zs.take 128 ++ [t]) ∧ Below W.heap.size W w' := by
  obtain ⟨b, off, c, e, _, _⟩ := IsInts.at h (by omega)
  subst e
  rw [hl] at h hv ⊢
  have e1 : (zs.drop 128).length = 128 := by rw [List.length_drop, hl]
  have e2 : (zs.take 128 ++ [t]).length = 129 := by rw [List.length_append, List.length_take, hl]; rfl
  rw [e1, e2]
  exact putLast_full W b off c zs t hl h (hv _ _ _ rfl) ht

/-- What a Put leaves, and what spills. -/
def stayL (zs : List Int) (t : Int) : List Int := if zs.length = 256 then zs.drop 128 else zs ++ [t]
def spiltL (zs : List Int) (t : Int) : List Int := if zs.length = 256 then zs.take 128 ++ [t] else []

theorem hpl_any (v : Value) (zs : List Int) (t : Int) (hl : zs.length ≤ 256) (hv : Fits v) (ht : t ≠ 0) (W : World) (h : IsInts W v zs) :
    Calls Try.prog 29 #[v, .int .i64 t] W fun e w' => ∃ a1 c1 a2 c2, e = .returned (.tuple #[.slice a1 (stayL zs t).length c1, .slice a2 (spiltL zs t).length c2]) ∧ Own W.heap.size w' (.slice a1 (stayL zs t).length c1) (stayL zs t) ∧ Own W.heap.size w' (.slice a2 (spiltL zs t).length c2) (spiltL zs t) ∧ Below W.heap.size W w' := by
  unfold stayL spiltL
  by_cases e : zs.length = 256
  · rw [if_pos e, if_pos e]; exact hpl_full v zs t e hv ht W h
  · rw [if_neg e, if_neg e]; exact hpl_room v zs t (by omega) ht W h

theorem queued_any (w : World) (v : Value) (zs : List Int) (t : Int) (hl : zs.length ≤ 256) (hv : Fits v) (h : IsInts w v zs) :
    Calls Try.prog 19 #[v, .int .i64 t] w fun e w' => ∃ a3 c3 a4 c4, e = .returned (.tuple #[.slice a3 (stayL zs t).length c3, .slice a4 (spiltL zs t).length c4]) ∧ Own w.heap.size w' (.slice a3 (stayL zs t).length c3) (stayL zs t) ∧ Own w.heap.size w' (.slice a4 (spiltL zs t).length c4) (spiltL zs t) ∧ Below w.heap.size w w' := by
  unfold stayL spiltL
  by_cases e : zs.length = 256
  · rw [if_pos e, if_pos e]
    obtain ⟨b, off, c, e', _, _⟩ := IsInts.at h (by omega)
    subst e'
    rw [e] at h hv ⊢
    have e1 : (zs.drop 128).length = 128 := by rw [List.length_drop, e]
    have e2 : (zs.take 128 ++ [t]).length = 129 := by rw [List.length_append, List.length_take, e]; rfl
    rw [e1, e2]
    exact queued_full w b off c zs t e h (hv _ _ _ rfl)
  · rw [if_neg e, if_neg e, List.length_append]
    exact queued_room w v zs t h (by omega)

theorem stay_le {zs : List Int} {t : Int} (h : zs.length ≤ 256) : (stayL zs t).length ≤ 2000 ∧ (spiltL zs t).length ≤ 2000 := by
  unfold stayL spiltL
  split
  · rw [List.length_drop, List.length_append, List.length_take]; simp; omega
  · rw [List.length_append]; simp; omega

theorem puts_walk (w : World) (nx : Int) (v : Value) (zs : List Int) (t : Int) (next : Bool) (h : IsInts w v zs) (hv : Fits v) (hm : zs.length ≤ maxLen) :
    Calls Try.prog 3 #[.agg #[.int .i64 nx, v], .int .i64 t, .bool next] w fun e w' => e = .returned (.bool true) ∧ Below w.heap.size w w' := by
  by_cases hl : 2000 < zs.length
  · obtain ⟨a, c, rfl⟩ := Rd.form h
    exact puts_long w nx t next a _ c hl hm
  · by_cases hx : (ringF nx zs).1 = 0
    · have hf : ringF nx zs = (0, 0) := ringF_zero hx
      have hnn : ¬ nx < 0 := ringF_next hf
      have h256 : zs.length ≤ 256 := ringF_len hf
      by_cases ht : t < 1
      · exact puts_small w nx v zs t next h hv (by omega) hf ht
      · by_cases hor : t = nx ∨ zs.contains t = true
        · exact puts_twice w nx v zs t next h hv (by omega) hf ht hor
        · have hpf : putF nx zs t = (0, 0) := by unfold putF; rw [hf, if_neg (by simp), if_neg ht, if_neg hor]
          have hs := fun x => stay_le (zs := zs) (t := x) h256
          cases next with
          | false =>
            exact puts_last w nx v zs t h hv (by omega) hf ht hor (stayL zs t) (spiltL zs t) _ _ rfl rfl (hs t).1 (hs t).2 (fun W v' hW => put_last W nx v' zs t hW.1 hm hpf (stayL zs t) (spiltL zs t) (fun W' hW' => hpl_any v' zs t h256 hW.2 (by omega) W' hW')) (fun W hW => queued_any W v zs t h256 hv (IsInts.below h hW))
          | true =>
            by_cases hp : 0 < nx
            · exact puts_next w nx v zs t h hv (by omega) hf ht hor hp (stayL zs nx) (spiltL zs nx) _ _ rfl rfl (hs nx).1 (hs nx).2 (fun W v' hW => put_next W nx v' zs t hW.1 hm hpf (stayL zs nx) (spiltL zs nx) (fun W' hW' => hpl_any v' zs nx h256 hW.2 (by omega) W' hW')) (fun W hW => queued_any W v zs nx h256 hv (IsInts.below h hW))
            · have h0 : nx = 0 := by omega
              refine puts_first w nx v zs t h hv (by omega) hf ht hor hp zs [] _ _ rfl rfl (by omega) (by simp) (fun W v' hW => ?_) rfl rfl rfl
              refine put_next W nx v' zs t hW.1 hm hpf zs [] (fun W' hW' => ?_)
              rw [h0]
              exact hpl_zero v' zs (by omega) W' hW'
    · exact puts_fault w nx v zs t next h hv (by omega) _ _ rfl hx
end Go.Proofs.Ytcdnennfimbgoaa
