/-
  code.wordOf and code.lineOf at the document's example.
-/
import Derived.Test.YtgeinjldjpaleaaDoorJ
import Derived.Test.YtgeinjldjpaleaaDoorSh
namespace Go.Proofs.YtgeinjldjpaleaaDoor
open Go.RowKit

set_option maxRecDepth 100000 in
set_option maxHeartbeats 1000000 in
theorem word_r0 (w : World) (ht : Tabs w) :
    Calls Tryd.prog 43 #[.int .i64 1, .int .i64 0] w fun e w' => e = .returned (.string ⟨#[32, 114, 48]⟩) ∧ Below w.heap.size w w' := by
  have t0 : w.cell? ⟨3, 1, none⟩ = some (.string (lt 1)) := ht.let' 1 (by decide)
  have e0 : lt 1 = ⟨#[114]⟩ := rfl
  rw [e0] at t0
  have HI : Hid (∀ W, Calls Tryd.prog 50 #[.int .i64 0] W fun e w' => e = .returned (.string ⟨#[48]⟩) ∧ w' = W) := fun W => by have := Tryd.strconv_Itoa_small 0 (by decide) W; rw [show Lib.decDigits 0 = [48] by first | kernel_rfl | decide +kernel] at this; exact this
  have HSS : Hid (∀ W : World, W.heap = w.heap → W.cell? ⟨3, 1, none⟩ = some (.string ⟨#[114]⟩) ∧ W.heap = w.heap) := fun W hW => ⟨by rw [World.cell?_of_block (w := w) (by rw [hW])]; exact t0, hW⟩
  clear e0 ht
  go_enter Tryd.func43, Tryd.ntmps43
  go_upto_region 3 with fail
  go_region_held3 (fun W => W.cell? ⟨3, 1, none⟩ = some (.string ⟨#[114]⟩) ∧ W.heap = w.heap)
    (first | with_reducible exact unhide HSS _ rfl | with_reducible assumption)
    (first | (go_at_call 50; refine (unhide HI _).mono ?_; rintro e w5 ⟨rfl, rfl⟩))
  all_goals
    go_wp2_with fail
    go_ret
    exact ⟨by first | rfl | kernel_rfl, (Below.refl _ _).drew⟩

set_option maxRecDepth 100000 in
set_option maxHeartbeats 1000000 in
theorem word_5 (w : World) (ht : Tabs w) :
    Calls Tryd.prog 43 #[.int .i64 2, .int .i64 5] w fun e w' => e = .returned (.string ⟨#[32, 53]⟩) ∧ Below w.heap.size w w' := by
  have t0 : w.cell? ⟨3, 2, none⟩ = some (.string (lt 2)) := ht.let' 2 (by decide)
  have e0 : lt 2 = ⟨#[]⟩ := rfl
  rw [e0] at t0
  have HI : Hid (∀ W, Calls Tryd.prog 50 #[.int .i64 5] W fun e w' => e = .returned (.string ⟨#[53]⟩) ∧ w' = W) := fun W => by have := Tryd.strconv_Itoa_small 5 (by decide) W; rw [show Lib.decDigits 5 = [53] by first | kernel_rfl | decide +kernel] at this; exact this
  have HSS : Hid (∀ W : World, W.heap = w.heap → W.cell? ⟨3, 2, none⟩ = some (.string ⟨#[]⟩) ∧ W.heap = w.heap) := fun W hW => ⟨by rw [World.cell?_of_block (w := w) (by rw [hW])]; exact t0, hW⟩
  clear e0 ht
  go_enter Tryd.func43, Tryd.ntmps43
  go_upto_region 3 with fail
  go_region_held3 (fun W => W.cell? ⟨3, 2, none⟩ = some (.string ⟨#[]⟩) ∧ W.heap = w.heap)
    (first | with_reducible exact unhide HSS _ rfl | with_reducible assumption)
    (first | (go_at_call 50; refine (unhide HI _).mono ?_; rintro e w5 ⟨rfl, rfl⟩))
  all_goals
    go_wp2_with fail
    go_ret
    exact ⟨by first | rfl | kernel_rfl, (Below.refl _ _).drew⟩

set_option maxRecDepth 100000 in
set_option maxHeartbeats 1000000 in
theorem word_p1 (w : World) (ht : Tabs w) :
    Calls Tryd.prog 43 #[.int .i64 5, .int .i64 1] w fun e w' => e = .returned (.string ⟨#[32, 112, 49]⟩) ∧ Below w.heap.size w w' := by
  have t0 : w.cell? ⟨3, 5, none⟩ = some (.string (lt 5)) := ht.let' 5 (by decide)
  have e0 : lt 5 = ⟨#[112]⟩ := rfl
  rw [e0] at t0
  have HI : Hid (∀ W, Calls Tryd.prog 50 #[.int .i64 1] W fun e w' => e = .returned (.string ⟨#[49]⟩) ∧ w' = W) := fun W => by have := Tryd.strconv_Itoa_small 1 (by decide) W; rw [show Lib.decDigits 1 = [49] by first | kernel_rfl | decide +kernel] at this; exact this
  have HSS : Hid (∀ W : World, W.heap = w.heap → W.cell? ⟨3, 5, none⟩ = some (.string ⟨#[112]⟩) ∧ W.heap = w.heap) := fun W hW => ⟨by rw [World.cell?_of_block (w := w) (by rw [hW])]; exact t0, hW⟩
  clear e0 ht
  go_enter Tryd.func43, Tryd.ntmps43
  go_upto_region 3 with fail
  go_region_held3 (fun W => W.cell? ⟨3, 5, none⟩ = some (.string ⟨#[112]⟩) ∧ W.heap = w.heap)
    (first | with_reducible exact unhide HSS _ rfl | with_reducible assumption)
    (first | (go_at_call 50; refine (unhide HI _).mono ?_; rintro e w5 ⟨rfl, rfl⟩))
  all_goals
    go_wp2_with fail
    go_ret
    exact ⟨by first | rfl | kernel_rfl, (Below.refl _ _).drew⟩

set_option maxRecDepth 100000 in
set_option maxHeartbeats 1000000 in
theorem line_a (w : World) (ht : Tabs w) :
    Calls Tryd.prog 30 #[.agg #[.int .i64 1, .int .i64 0, .int .i64 5]] w fun e w' => e = .returned (.string ⟨#[115, 101, 116, 32, 114, 48, 32, 53]⟩) ∧ Below w.heap.size w w' := by
  obtain ⟨W0, e0, hB, k0⟩ := one_new w (.cells #[.int .i64 1, .int .i64 0, .int .i64 5] 38)
  have HX := hide hB; have HE := hide e0; have HK := hide k0
  have HT := hide (ht.below hB)
  have HR : Hid (W0.cell? ⟨2, 3, none⟩ = some (.string ⟨#[115, 101, 116]⟩) ∧ W0.cell? ⟨2, 4, none⟩ = some (.int .i64 1) ∧ W0.cell? ⟨2, 5, none⟩ = some (.int .i64 2)) := (ht.below hB).row 1 (by decide)
  clear hB e0 k0 ht
  go_enter Tryd.func30, Tryd.ntmps30
  go_upto_region 1 with fail
  rw [unhide HE]
  clear HE
  obtain ⟨⟨k0, k1, k2⟩, -, kl⟩ := block3 (unhide HK)
  obtain ⟨t0, t1, t2⟩ := unhide HR
  go_upto_region 2 with fail
  obtain ⟨W2, e2, b2, z2⟩ := one_new W0 (.cells #[.string ⟨#[115, 101, 116]⟩, .int .i64 1, .int .i64 2] 83)
  rw [e2]
  have HX2 := hide ((unhide HX).trans (b2.mono (unhide HX).size))
  have HK2 := hide (keep_below (unhide HK) b2)
  have HT2 := hide ((unhide HT).below b2)
  have HZ2 := hide z2
  obtain ⟨R, eR⟩ : ∃ R, W0.heap.size = R := ⟨_, rfl⟩
  rw [eR] at HZ2 ⊢
  clear e2 b2 z2 k0 k1 k2 t0 t1 t2 HX HK HT HR eR
  have HSS : Hid (∀ W : World, Below W2.heap.size W2 W → (W.cell? ⟨R, 0, none⟩ = some (.string ⟨#[115, 101, 116]⟩) ∧ W.cell? ⟨R, 1, none⟩ = some (.int .i64 1) ∧ W.cell? ⟨R, 2, none⟩ = some (.int .i64 2)) ∧ (W.cell? ⟨w.heap.size, 0, none⟩ = some (.int .i64 1) ∧ W.cell? ⟨w.heap.size, 1, none⟩ = some (.int .i64 0) ∧ W.cell? ⟨w.heap.size, 2, none⟩ = some (.int .i64 5)) ∧ Below W2.heap.size W2 W) := fun W hW => ⟨(block3 (keep_below (unhide HZ2) hW)).1, (block3 (keep_below (unhide HK2) hW)).1, hW⟩
  have HW1 := hide fun W (hW : Below W2.heap.size W2 W) => word_r0 W ((unhide HT2).below hW)
  have HW2 := hide fun W (hW : Below W2.heap.size W2 W) => word_5 W ((unhide HT2).below hW)
  go_region_held3 (fun W => (W.cell? ⟨R, 0, none⟩ = some (.string ⟨#[115, 101, 116]⟩) ∧ W.cell? ⟨R, 1, none⟩ = some (.int .i64 1) ∧ W.cell? ⟨R, 2, none⟩ = some (.int .i64 2)) ∧ (W.cell? ⟨w.heap.size, 0, none⟩ = some (.int .i64 1) ∧ W.cell? ⟨w.heap.size, 1, none⟩ = some (.int .i64 0) ∧ W.cell? ⟨w.heap.size, 2, none⟩ = some (.int .i64 5)) ∧ Below W2.heap.size W2 W)
    (first | with_reducible exact unhide HSS _ (Below.refl _ _) | with_reducible exact unhide HSS _ (Below.refl _ _).drew | with_reducible exact unhide HSS _ (unhide HY2) | with_reducible exact unhide HSS _ (unhide HY1))
    (first | (go_at_call 43; refine (unhide HW1 _ (by go_split_ands; assumption)).mono ?_; rintro e w5 ⟨rfl, b5⟩; have HY1 : Hid (Below W2.heap.size W2 w5) := Below.next (by go_split_ands; assumption) b5 (Nat.le_refl _); clear b5 HW1) | (go_at_call 43; refine (unhide HW2 _ (by go_split_ands; assumption)).mono ?_; rintro e w6 ⟨rfl, b6⟩; have HY2 : Hid (Below W2.heap.size W2 w6) := Below.next (by go_split_ands; assumption) b6 (Nat.le_refl _); clear b6))
  all_goals
    go_wp2_with fail
    go_ret
    first
      | exact ⟨by first | rfl | kernel_rfl, (unhide HX2).trans ((unhide HY2).mono (unhide HX2).size)⟩
      | exact ⟨by first | rfl | kernel_rfl, (unhide HX2).trans ((unhide HY1).mono (unhide HX2).size)⟩

set_option maxRecDepth 100000 in
set_option maxHeartbeats 1000000 in
theorem line_b (w : World) (ht : Tabs w) :
    Calls Tryd.prog 30 #[.agg #[.int .i64 14, .int .i64 1, .int .i64 0]] w fun e w' => e = .returned (.string ⟨#[115, 101, 110, 100, 32, 112, 49, 32, 114, 48]⟩) ∧ Below w.heap.size w w' := by
  obtain ⟨W0, e0, hB, k0⟩ := one_new w (.cells #[.int .i64 14, .int .i64 1, .int .i64 0] 38)
  have HX := hide hB; have HE := hide e0; have HK := hide k0
  have HT := hide (ht.below hB)
  have HR : Hid (W0.cell? ⟨2, 42, none⟩ = some (.string ⟨#[115, 101, 110, 100]⟩) ∧ W0.cell? ⟨2, 43, none⟩ = some (.int .i64 5) ∧ W0.cell? ⟨2, 44, none⟩ = some (.int .i64 1)) := (ht.below hB).row 14 (by decide)
  clear hB e0 k0 ht
  go_enter Tryd.func30, Tryd.ntmps30
  go_upto_region 1 with fail
  rw [unhide HE]
  clear HE
  obtain ⟨⟨k0, k1, k2⟩, -, kl⟩ := block3 (unhide HK)
  obtain ⟨t0, t1, t2⟩ := unhide HR
  go_upto_region 2 with fail
  obtain ⟨W2, e2, b2, z2⟩ := one_new W0 (.cells #[.string ⟨#[115, 101, 110, 100]⟩, .int .i64 5, .int .i64 1] 83)
  rw [e2]
  have HX2 := hide ((unhide HX).trans (b2.mono (unhide HX).size))
  have HK2 := hide (keep_below (unhide HK) b2)
  have HT2 := hide ((unhide HT).below b2)
  have HZ2 := hide z2
  obtain ⟨R, eR⟩ : ∃ R, W0.heap.size = R := ⟨_, rfl⟩
  rw [eR] at HZ2 ⊢
  clear e2 b2 z2 k0 k1 k2 t0 t1 t2 HX HK HT HR eR
  have HSS : Hid (∀ W : World, Below W2.heap.size W2 W → (W.cell? ⟨R, 0, none⟩ = some (.string ⟨#[115, 101, 110, 100]⟩) ∧ W.cell? ⟨R, 1, none⟩ = some (.int .i64 5) ∧ W.cell? ⟨R, 2, none⟩ = some (.int .i64 1)) ∧ (W.cell? ⟨w.heap.size, 0, none⟩ = some (.int .i64 14) ∧ W.cell? ⟨w.heap.size, 1, none⟩ = some (.int .i64 1) ∧ W.cell? ⟨w.heap.size, 2, none⟩ = some (.int .i64 0)) ∧ Below W2.heap.size W2 W) := fun W hW => ⟨(block3 (keep_below (unhide HZ2) hW)).1, (block3 (keep_below (unhide HK2) hW)).1, hW⟩
  have HW1 := hide fun W (hW : Below W2.heap.size W2 W) => word_p1 W ((unhide HT2).below hW)
  have HW2 := hide fun W (hW : Below W2.heap.size W2 W) => word_r0 W ((unhide HT2).below hW)
  go_region_held3 (fun W => (W.cell? ⟨R, 0, none⟩ = some (.string ⟨#[115, 101, 110, 100]⟩) ∧ W.cell? ⟨R, 1, none⟩ = some (.int .i64 5) ∧ W.cell? ⟨R, 2, none⟩ = some (.int .i64 1)) ∧ (W.cell? ⟨w.heap.size, 0, none⟩ = some (.int .i64 14) ∧ W.cell? ⟨w.heap.size, 1, none⟩ = some (.int .i64 1) ∧ W.cell? ⟨w.heap.size, 2, none⟩ = some (.int .i64 0)) ∧ Below W2.heap.size W2 W)
    (first | with_reducible exact unhide HSS _ (Below.refl _ _) | with_reducible exact unhide HSS _ (Below.refl _ _).drew | with_reducible exact unhide HSS _ (unhide HY2) | with_reducible exact unhide HSS _ (unhide HY1))
    (first | (go_at_call 43; refine (unhide HW1 _ (by go_split_ands; assumption)).mono ?_; rintro e w5 ⟨rfl, b5⟩; have HY1 : Hid (Below W2.heap.size W2 w5) := Below.next (by go_split_ands; assumption) b5 (Nat.le_refl _); clear b5 HW1) | (go_at_call 43; refine (unhide HW2 _ (by go_split_ands; assumption)).mono ?_; rintro e w6 ⟨rfl, b6⟩; have HY2 : Hid (Below W2.heap.size W2 w6) := Below.next (by go_split_ands; assumption) b6 (Nat.le_refl _); clear b6))
  all_goals
    go_wp2_with fail
    go_ret
    first
      | exact ⟨by first | rfl | kernel_rfl, (unhide HX2).trans ((unhide HY2).mono (unhide HX2).size)⟩
      | exact ⟨by first | rfl | kernel_rfl, (unhide HX2).trans ((unhide HY1).mono (unhide HX2).size)⟩

end Go.Proofs.YtgeinjldjpaleaaDoor
