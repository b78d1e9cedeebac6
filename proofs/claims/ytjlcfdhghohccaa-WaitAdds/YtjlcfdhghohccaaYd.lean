/-
  taskmilllaw.WaitAdds returns true, where the task is too low.
-/
import Derived.Test.YtjlcfdhghohccaaYb
namespace Go.Proofs.Ytjlcfdhghohccaa
open Go.RowKit

set_option maxRecDepth 100000 in
set_option maxHeartbeats 8000000 in
theorem adds_low (w : World) (a : Option Addr) (n c : Nat) (x task : Int) (fst : Bool) (ls : List Ln) (h : Arg w a n c ls) (h6 : ¬ (6000 < n ∨ 6000 < (waitL ls).length)) (hlf : linesF ls = (0, 0)) (ht : task < 1) :
    Calls Try.prog 3 #[.slice a n c, .int .i64 x, .int .i64 task, .bool fst] w fun e w' => e = .returned (.bool true) ∧ Below w.heap.size w w' := by
  have haf : addF ls task = (3, -1) := by unfold addF; rw [hlf, if_neg (by simp), if_pos ht]
  have hu : (3 : Int) ≠ 0 := by decide
  have hnot : ∀ (x : Bool) (w : World), (Op.unary .not (.bool x)).run Try.prog w = .ok (.bool (!x)) w := fun _ _ => rfl
  have hl := h.rd.len
  obtain ⟨b1, b2, b3, b4, hb0⟩ := four_alloc w (.cells #[.slice a n c] 22) (.cells #[.int .i64 x] 3) (.cells #[.int .i64 task] 3) (.cells #[.bool fst] 4)
  have HVS : Hid (∀ W, Below w.heap.size w W → Calls Try.prog 9 #[.slice a n c] W fun e w' => e = .returned (.bool false) ∧ Below W.heap.size W w') := fun W hW => by
    have := vast_bool W a n c ls hl (h.rd.below hW) h.max h.each
    rw [decide_eq_false h6] at this
    refine this.mono ?_
    rintro e w' ⟨h1, h2⟩
    exact ⟨h1, by rw [h2]; exact Below.refl _ _⟩
  have HOL : Hid (∀ W, Below w.heap.size w W → Calls Try.prog 10 #[.slice a n c] W fun e w' => ∃ a' c', e = .returned (.slice a' n c') ∧ IsLs w' (.slice a' n c') ls ∧ Below W.heap.size W w') := fun W hW => ownlines_any W a n c ls hl (h.rd.below hW) (by omega) (by omega)
  have HCK : Hid (∀ W a c, IsLs W (.slice a n c) ls → Calls Try.prog 11 #[.slice a n c] W fun e w' => e = .returned (.agg #[.int .i64 0, .int .i64 0]) ∧ Below W.heap.size W w') := fun W a c hi => by
    have := check_any W a n c ls hi h.max h.each
    rw [hlf] at this
    exact this
  have HAD : Hid (∀ W a c, IsLs W (.slice a n c) ls → Calls Try.prog 12 #[.slice a n c, .int .i64 x, .int .i64 task, .bool fst] W fun e w' => e = .returned (.tuple #[.slice none 0 0, .agg #[.int .i64 3, .int .i64 (-1)]]) ∧ Below W.heap.size W w') := fun W a c hi => add_fault W a n c x task fst ls ⟨hi, h.max, h.each⟩ _ _ haf hu
  have HLF : Hid (∀ W, Below w.heap.size w W → Calls Try.prog 13 #[.slice a n c] W fun e w' => e = .returned (.agg #[.int .i64 0, .int .i64 0]) ∧ Below W.heap.size W w') := fun W hW => by
    have := lf_any W a n c ls (h.rd.below hW) h.max h.each
    rw [hlf] at this
    exact this
  have HSM : Hid (∀ W a1 c1, Below w.heap.size w W → IsLs W (.slice a1 n c1) ls → Calls Try.prog 14 #[.slice a1 n c1, .slice a n c] W fun e w' => e = .returned (.bool true) ∧ Below W.heap.size W w') := fun W a1 c1 hW h1 => samelines_any W a1 a n c1 c ls hl h1 (h.rd.below hW) (by omega) (by omega)
  have HWA : Hid (∀ W, Below w.heap.size w W → Calls Try.prog 17 #[.slice a n c] W fun e w' => ∃ a' c', e = .returned (.slice a' (waitL ls).length c') ∧ IsInts w' (.slice a' (waitL ls).length c') (waitL ls) ∧ Below W.heap.size W w') := fun W hW => waiting_any W a n c ls hl (h.rd.below hW) (by omega) (by omega)
  have HLA : Hid (∀ W k caps, Calls Try.prog 18 #[.slice none 0 0, .agg #[.int .i64 3, .int .i64 (-1)], .agg #[.int .i64 3, .int .i64 (-1)], .func (.func k) #[] caps] W fun e w' => e = .returned (.bool true) ∧ Below W.heap.size W w') := fun W k caps => linesas_fault W _ _ hu k caps
  have HB0 := hide hb0; have B1 := hide b1; have B2 := hide b2; have B3 := hide b3; have B4 := hide b4
  clear h h6 hlf hu haf hl hb0 b1 b2 b3 b4
  go_enter Try.func3, Try.ntmps3
  go_upto_region 1 with fail
  obtain ⟨W0, eW0⟩ : ∃ W, (((w.alloc (.cells #[.slice a n c] 22)).alloc (.cells #[.int .i64 x] 3)).alloc (.cells #[.int .i64 task] 3)).alloc (.cells #[.bool fst] 4) = W := ⟨_, rfl⟩
  rw [eW0] at HB0 B1 B2 B3 B4
  rw [eW0]
  clear eW0
  have HF : Hid (∀ W, Below W0.heap.size W0 W → W.cell? ⟨w.heap.size, 0, none⟩ = some (.slice a n c) ∧ W.cell? ⟨w.heap.size + 1, 0, none⟩ = some (.int .i64 x) ∧ W.cell? ⟨w.heap.size + 2, 0, none⟩ = some (.int .i64 task) ∧ W.cell? ⟨w.heap.size + 3, 0, none⟩ = some (.bool fst)) := fun W hW => ⟨(block1 (keep_below (unhide B1) hW)).1, (block1 (keep_below (unhide B2) hW)).1, (block1 (keep_below (unhide B3) hW)).1, (block1 (keep_below (unhide B4) hW)).1⟩
  have HW : Hid (∀ W, Below W0.heap.size W0 W → Below w.heap.size w W) := fun W hW => Below.next (unhide HB0) hW (Nat.le_refl _)
  go_upto_region 7 with (first
    | (go_at_call 8; refine (begun_any _).mono ?_; rintro e w1 ⟨rfl, hb1⟩; have HX1 := hide hb1; obtain ⟨q0, _⟩ := unhide HF w1 hb1; clear hb1)
    | (go_at_call 9; refine (unhide HVS _ (unhide HW _ (unhide HX1))).mono ?_; rintro e w2 ⟨rfl, hb2⟩; have HX2 := hide (Below.next (unhide HX1) hb2 (Nat.le_refl _)); clear q0 hb2; obtain ⟨q0, _⟩ := unhide HF w2 (unhide HX2))
    | (go_at_call 10; refine (unhide HOL _ (unhide HW _ (unhide HX2))).mono ?_; rintro e w3 ⟨a3, c3, rfl, hi3, hb3⟩; have HI3 := hide hi3; have HX3 := hide (Below.next (unhide HX2) hb3 (Nat.le_refl _)); clear hi3 hb3 q0)
    | (go_at_call 11; refine (unhide HCK _ _ _ (unhide HI3)).mono ?_; rintro e w4 ⟨rfl, hb4⟩; have HI4 := hide ((unhide HI3).below hb4); have HX4 := hide (Below.next (unhide HX3) hb4 (Nat.le_refl _)); clear hb4))
  have B10 := hide (new_block w4 (.cells #[.int .i64 0, .int .i64 0] 27))
  have HBA := hide ((Below.refl w4.heap.size w4).alloc (Nat.le_refl _) (.cells #[.int .i64 0, .int .i64 0] 27))
  have HX5 := hide (Below.next (unhide HX4) (unhide HBA) (Nat.le_refl _))
  have HI5 := hide ((unhide HI4).below (unhide HBA))
  obtain ⟨T10, h10⟩ : ∃ T, w4.heap.size = T := ⟨_, rfl⟩
  obtain ⟨W5, hW5⟩ : ∃ W, w4.alloc (.cells #[.int .i64 0, .int .i64 0] 27) = W := ⟨_, rfl⟩
  rw [h10, hW5] at B10
  rw [hW5] at HX5 HI5
  rw [h10, hW5]
  clear h10 hW5 HBA HX1 HX2 HX3 HX4 HI3 HI4 HVS HOL HCK
  obtain ⟨_, qx, qt, qf⟩ := unhide HF W5 (unhide HX5)
  go_upto_region 8 with (go_at_call 12; refine (unhide HAD _ _ _ (unhide HI5)).mono ?_; rintro e w6 ⟨rfl, hb6⟩; have HB6 := hide hb6; clear hb6 qx qt qf)
  have B12 := hide (new_block w6 (.cells #[.int .i64 3, .int .i64 (-1)] 27))
  have HBA := hide ((Below.refl w6.heap.size w6).alloc (Nat.le_refl _) (.cells #[.int .i64 3, .int .i64 (-1)] 27))
  have HB7 := hide (Below.next (unhide HB6) (unhide HBA) (Nat.le_refl _))
  obtain ⟨T12, h12⟩ : ∃ T, w6.heap.size = T := ⟨_, rfl⟩
  obtain ⟨W7, hW7⟩ : ∃ W, w6.alloc (.cells #[.int .i64 3, .int .i64 (-1)] 27) = W := ⟨_, rfl⟩
  rw [h12, hW7] at B12
  rw [hW7] at HB7
  rw [h12, hW7]
  have HX7 := hide (Below.next (unhide HX5) (unhide HB7) (Nat.le_refl _))
  have HI7 := hide ((unhide HI5).below (unhide HB7))
  have B107 := hide (keep_below (unhide B10) (unhide HB7))
  clear h12 hW7 HBA HB6 HB7 HX5 HI5 B10 HAD
  obtain ⟨q0, _⟩ := unhide HF W7 (unhide HX7)
  go_upto_region 9 with (go_at_call 13; refine (unhide HLF _ (unhide HW _ (unhide HX7))).mono ?_; rintro e w8 ⟨rfl, hb8⟩; have HB8 := hide hb8; clear hb8 q0)
  have B13 := hide (new_block w8 (.cells #[.int .i64 0, .int .i64 0] 27))
  have HBA := hide ((Below.refl w8.heap.size w8).alloc (Nat.le_refl _) (.cells #[.int .i64 0, .int .i64 0] 27))
  have HB9 := hide (Below.next (unhide HB8) (unhide HBA) (Nat.le_refl _))
  have HLT := hide (show T12 < w8.heap.size from Nat.lt_of_lt_of_le (block2 (unhide B12)).2.2.2.2 (unhide HB8).size)
  have HGE := hide (show W0.heap.size ≤ w8.heap.size from (Below.next (unhide HX7) (unhide HB8) (Nat.le_refl _)).size)
  obtain ⟨T13, h13⟩ : ∃ T, w8.heap.size = T := ⟨_, rfl⟩
  obtain ⟨W9, hW9⟩ : ∃ W, w8.alloc (.cells #[.int .i64 0, .int .i64 0] 27) = W := ⟨_, rfl⟩
  rw [h13, hW9] at B13
  rw [h13] at HLT HGE
  rw [hW9] at HB9
  rw [h13, hW9]
  have HX9 := hide (Below.next (unhide HX7) (unhide HB9) (Nat.le_refl _))
  have HI9 := hide ((unhide HI7).below (unhide HB9))
  have B109 := hide (keep_below (unhide B107) (unhide HB9))
  have B129 := hide (keep_below (unhide B12) (unhide HB9))
  clear h13 hW9 HBA HB8 HB9 HX7 HI7 B107 B12 HLF
  obtain ⟨q0, _, qt, _⟩ := unhide HF W9 (unhide HX9)
  obtain ⟨t0, t1, _, _, _⟩ := block2 (unhide B109)
  obtain ⟨u0, u1, _, _, _⟩ := block2 (unhide B13)
  go_upto_region 13 with (first
    | (go_at_call 14; refine (unhide HSM _ _ _ (unhide HW _ (unhide HX9)) (unhide HI9)).mono ?_; rintro e w10 ⟨rfl, hb10⟩; have HB10 := hide hb10; clear hb10 q0 qt t0 t1 u0 u1; obtain ⟨q0, _, qt, _⟩ := unhide HF w10 (Below.next (unhide HX9) (unhide HB10) (Nat.le_refl _)); obtain ⟨u0, u1, u2, u3, _⟩ := block2 (keep_below (unhide B13) (unhide HB10)))
    | (go_at_call 15; refine (f_any _ _ _).mono ?_; rintro e wz ⟨rfl, hbz⟩; have HBZ := hide (Below.next (unhide HB10) hbz (Nat.le_refl _)); clear hbz u0 u1; obtain ⟨r0, r1, f0, f1, _⟩ := block2 (keep_below (unhide B13) (unhide HBZ))))
  have UBZ := hide (block2_set (x' := .int .i64 3) (y' := .int .i64 (-1)) (keep_below (unhide B13) (unhide HBZ)))
  have TBZ : Hid (((wz.setCell ⟨T13, 0, none⟩ (.int .i64 3)).setCell ⟨T13, 1, none⟩ (.int .i64 (-1))).heap[T12]? = some (.cells #[.int .i64 3, .int .i64 (-1)] 27 (0, 0))) := hide (by
    have hne : T12 ≠ T13 := Nat.ne_of_lt (unhide HLT)
    rw [Below.heap_setCell _ _ _ _ (by simpa using hne), Below.heap_setCell _ _ _ _ (by simpa using hne)]
    exact keep_below (unhide B129) (unhide HBZ))
  have HXZ := hide (((Below.next (unhide HX9) (unhide HBZ) (Nat.le_refl _)).setCell (p := ⟨T13, 0, none⟩) (unhide HGE) (.int .i64 3)).setCell (p := ⟨T13, 1, none⟩) (unhide HGE) (.int .i64 (-1)))
  obtain ⟨V, eV⟩ : ∃ W, (wz.setCell ⟨T13, 0, none⟩ (.int .i64 3)).setCell ⟨T13, 1, none⟩ (.int .i64 (-1)) = W := ⟨_, rfl⟩
  rw [eV] at UBZ TBZ HXZ
  rw [eV]
  clear eV r0 r1 f0 f1
  obtain ⟨u0, u1, _, _, _⟩ := block2 (unhide UBZ)
  have c9 : ((3 : Int) == 0) = false := by decide
  go_quiet (fail)
  obtain ⟨V2, eV2⟩ : ∃ W, V.drewN nq = W := ⟨_, rfl⟩
  have HDN := hide (below_drewN (Below.refl V.heap.size V) nq)
  rw [eV2] at HDN
  rw [eV2]
  have HXZ := hide (Below.next (unhide HXZ) (unhide HDN) (Nat.le_refl _))
  clear eV2 u0 u1
  obtain ⟨t0, t1, _, _, _⟩ := block2 (keep_below (unhide TBZ) (unhide HDN))
  obtain ⟨u0, u1, _, _, _⟩ := block2 (keep_below (unhide UBZ) (unhide HDN))
  go_wp2_with (go_at_call 18; refine (unhide HLA _ _ _).mono ?_; rintro e w14 ⟨rfl, hb14⟩; have HX14 := hide (Below.next (unhide HW _ (unhide HXZ)) hb14 (Nat.le_refl _)); clear hb14)
  go_ret
  exact ⟨rfl, unhide HX14⟩
end Go.Proofs.Ytjlcfdhghohccaa
