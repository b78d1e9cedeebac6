/-
  taskmilllaw.syncBegun; rows that are built whole.
-/
import Derived.Test.YtpogcfdmkeebmaaL
namespace Go.Proofs.Ytpogcfdmkeebmaa
open Go.RowKit

theorem isl_built {α : Type} {K : Kind α} (hK : K.Ok) {w : World} {S : Nat} {xs : List α} (h : w.heap[S]? = some (.cells (xs.flatMap K.f).toArray K.e)) : IsL K w (.slice (some ⟨S, 0, none⟩) xs.length xs.length) xs := by
  refine ⟨⟨flat_length hK xs, Or.inr ⟨_, _, rfl, fun j u hj => ?_⟩⟩, fits_of (Nat.le_refl _)⟩
  rw [WideShapes.add_plain]
  simp only [World.cell?, h]
  simpa using hj
theorem begun_give : giveR (1 + 1) [(1, false, 2), (2, false, 1)] = ((0, [(2, false, 1)]), [1]) := by rfl
theorem begun_good : (relF 1 [(1, false, 2), (2, false, 1)] 1).1 = 0 := by decide

set_option maxRecDepth 100000 in
set_option maxHeartbeats 1000000 in
theorem begun_any (w : World) : Calls Try.prog 9 #[] w fun e w' => e = .returned (.bool true) ∧ Below w.heap.size w w' := by
  have k0 := new_block w (.cells #[.int .i64 1, .bool false, .int .i64 2, .int .i64 2, .bool false, .int .i64 1] 63)
  have hB := (Below.refl w.heap.size w).alloc (Nat.le_refl _) (.cells #[.int .i64 1, .bool false, .int .i64 2, .int .i64 2, .bool false, .int .i64 1] 63)
  obtain ⟨W0, e0⟩ : ∃ W, w.alloc (.cells #[.int .i64 1, .bool false, .int .i64 2, .int .i64 2, .bool false, .int .i64 1] 63) = W := ⟨_, rfl⟩
  rw [e0] at k0 hB
  have HIL : Hid (IsL KP W0 (.slice (some ⟨w.heap.size, 0, none⟩) 2 2) [(1, false, 2), (2, false, 1)]) := isl_built kp (xs := [(1, false, 2), (2, false, 1)]) k0
  have HLV : Hid (Calls Try.prog 25 #[.agg #[.int .i64 1, .slice (some ⟨w.heap.size, 0, none⟩) 2 2], .int .i64 1] W0 fun e w' => ∃ a c a' c', e = .returned (.tuple #[.agg #[.int .i64 0, .slice a 1 c], .slice a' 1 c', .agg #[.int .i64 0, .int .i64 0]]) ∧ IsL KI w' (.slice a' 1 c') [1] ∧ Below W0.heap.size W0 w') := (release_ok W0 _ 1 [(1, false, 2), (2, false, 1)] 1 ⟨_, rfl, unhide HIL⟩ begun_good).mono fun e w' ⟨v1, v2, h1, h2, h3, h4⟩ => by
    rw [begun_give] at h2 h3
    obtain ⟨a, c, rfl, -⟩ := h2.form
    obtain ⟨a', c', rfl⟩ := h3.1.form
    exact ⟨a, c, a', c', h1, h3.1, h4⟩
  have HX := hide hB; have HE := hide e0
  clear hB k0 e0 HIL
  go_enter Try.func9, Try.ntmps9
  go_upto_region 1 with fail
  have HLV2 : Hid (Calls Try.prog 25 #[.agg #[.int .i64 1, .slice (some ⟨w.heap.size, 0, none⟩) 2 2], .int .i64 1] (w.alloc (.cells #[.int .i64 1, .bool false, .int .i64 2, .int .i64 2, .bool false, .int .i64 1] 63)) fun e w' => ∃ a c a' c', e = .returned (.tuple #[.agg #[.int .i64 0, .slice a 1 c], .slice a' 1 c', .agg #[.int .i64 0, .int .i64 0]]) ∧ IsL KI w' (.slice a' 1 c') [1] ∧ Below W0.heap.size W0 w') := by rw [unhide HE]; exact unhide HLV
  go_upto_region 2 with (go_at_call 25; refine (unhide HLV2).mono ?_; rintro e w1 ⟨a, c, a', c', rfl, hi1, hb1⟩; have HI1 := hide hi1; have HX_1 := hide (Below.next (unhide HX) hb1 (by first | exact Nat.le_refl _ | (have := unhide HBA; omega))); clear HX; clear hb1 hi1)
  clear HLV HLV2 HE
  obtain ⟨W2, eW2, hBW2, k0_2, k1_2⟩ := two_new w1 (.cells #[.int .i64 0, .slice a 1 c] 51) (.cells #[.int .i64 0, .int .i64 0] 29)
  rw [eW2]
  clear eW2
  (have HX_2 := hide (Below.next (unhide HX_1) hBW2 (by first | exact Nat.le_refl _ | (have := unhide HBA; omega))); have FI_2 := hide ((unhide HI1).below hBW2); clear HX_1 HI1)
  obtain ⟨M, eM⟩ : ∃ X, w1.heap.size = X := ⟨_, rfl⟩
  rw [eM] at k0_2 k1_2 ⊢
  have Km_2 := hide k0_2
  have Kf_2 := hide k1_2
  clear eM hBW2 k0_2 k1_2
  obtain ⟨m0, m1, mf0, mf1, ml⟩ := block2 (unhide Km_2)
  obtain ⟨f0, f1, ff0, ff1, fl⟩ := block2 (unhide Kf_2)
  have HI3 := hide (isl_one ki W2 1)
  have HI2 := hide ((unhide FI_2).below ((Below.refl _ _).alloc (Nat.le_refl _) (.cells #[.int .i64 1] 3)))
  have HX3 := hide ((unhide HX_2).alloc (unhide HX_2).size (.cells #[.int .i64 1] 3))
  have HM3 := hide (keep_alloc (unhide Km_2) (.cells #[.int .i64 1] 3))
  go_wp2_with (go_at_call 17; refine (ints_same _ _ _ [1] (unhide HI2) (unhide HI3) (by decide)).mono ?_; rintro e w3 ⟨rfl, hb3⟩; have HX4 := hide (Below.next (unhide HX3) hb3 (Nat.le_refl _)); have HM4 := hide (keep_below (unhide HM3) hb3); clear hb3 m0 m1 mf0 mf1 ml; obtain ⟨m0, m1, -, -, ml⟩ := block2 (unhide HM4))
  go_ret
  exact ⟨rfl, unhide HX4⟩
end Go.Proofs.Ytpogcfdmkeebmaa
