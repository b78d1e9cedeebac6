/-
  A timer rises in its own row: alarm.rise.
-/
import Derived.Test.YtcfjpjojckngeaaE
namespace Go.Proofs.Ytcfjpjojckngeaa
open Go.RowKit

set_option maxRecDepth 100000 in
set_option maxHeartbeats 2000000 in
theorem rise_any (w : World) (g c n i : Nat) (ts : List Tm) (hl : ts.length = n) (hi : i < n) (hn : n ≤ 10000) (h : Row w g c ts) :
    Calls Try.prog 28 #[.slice (some ⟨g, 0, none⟩) n c, .int .i64 i] w fun e w' => e = .returned (.int .i64 ((riseL ts i).2 : Nat)) ∧ Row w' g c (riseL ts i).1 ∧ But g w w' := by
  obtain ⟨R, hR⟩ : ∃ R, R = riseL ts i := ⟨_, rfl⟩
  rw [← hR]
  have HE : Hid (R = riseF i ts i) := hR
  have HL := hide hl
  have HW := hide h
  clear h hR hl
  go_enter Try.func28, Try.ntmps28
  go_wp2
  go_loopw [1] (fun si wr => ∃ (j f : Nat) (us : List Tm), si = .int .i64 j ∧ j < n ∧ j ≤ f ∧ us.length = n ∧ R = riseF f us j ∧ Row wr g c us ∧ But g w wr) (fun si _ => (intOf si).toNat)
  case atStart => exact ⟨i, i, ts, rfl, hi, Nat.le_refl _, unhide HL, unhide HE, unhide HW, But.refl _ _⟩
  case round =>
    clear HW HE
    obtain ⟨j, f, us, rfl, hj, hjf, hul, hE, hrow, hbut⟩ := hrel
    have HE := hide hE; have HU := hide hul; have HW := hide hrow; have HT := hide hbut
    clear hE hul hbut
    by_cases hj0 : 0 < j
    · obtain ⟨K, hK⟩ : ∃ K, (j - 1) / 4 = K := ⟨_, rfl⟩
      have hKj : K < j := by omega
      have hKn : K < n := by omega
      have HAB := hide (fun W => above_any W j hj0 (by unfold maxLen; omega))
      rw [hK] at HAB
      obtain ⟨x, y, hxy⟩ : ∃ x y, tAt us j = (x, y) := ⟨_, _, rfl⟩
      obtain ⟨u, v, huv⟩ : ∃ u v, tAt us K = (u, v) := ⟨_, _, rfl⟩
      have HC : Hid (∀ W, Row W g c us → W.cell? ⟨g, j * 2, none⟩ = some (.int .i64 x) ∧ W.cell? ⟨g, j * 2 + 1, none⟩ = some (.int .i64 y) ∧ W.cell? ⟨g, K * 2, none⟩ = some (.int .i64 u) ∧ W.cell? ⟨g, K * 2 + 1, none⟩ = some (.int .i64 v) ∧ W.frozen? ⟨g, j * 2, none⟩ = false ∧ W.frozen? ⟨g, j * 2 + 1, none⟩ = false ∧ W.frozen? ⟨g, K * 2, none⟩ = false ∧ W.frozen? ⟨g, K * 2 + 1, none⟩ = false) := fun W hW =>
        have h1 := hW.at (by rw [unhide HU]; exact hj) hxy
        have h2 := hW.at (by rw [unhide HU]; exact hKn) huv
        ⟨h1.1, h1.2, h2.1, h2.2, hW.free _, hW.free _, hW.free _, hW.free _⟩
      have HCOND : Hid ((0 < j ∧ (tAt us j).1 < (tAt us ((j - 1) / 4)).1) ↔ x < u) := by
        show _ ↔ _
        rw [hK, hxy, huv]
        exact ⟨fun h => h.2, fun h => ⟨hj0, h⟩⟩
      have HSW : Hid (∀ W, Row W g c us → Row (put2 (put2 W g (j * 2) (u, v)) g (K * 2) (x, y)) g c (swapT us j K)) := fun W hW => hW.swap hxy huv
      have HK := hide hK
      clear hxy huv hrow hK
      have HSS : Hid (∀ W, Below wr.heap.size wr W → (W.cell? ⟨g, j * 2, none⟩ = some (.int .i64 x) ∧ W.cell? ⟨g, j * 2 + 1, none⟩ = some (.int .i64 y) ∧ W.cell? ⟨g, K * 2, none⟩ = some (.int .i64 u) ∧ W.cell? ⟨g, K * 2 + 1, none⟩ = some (.int .i64 v)) ∧ Below wr.heap.size wr W) := fun W hW =>
        have hh := unhide HC W ((unhide HW).below hW (unhide HW).lt)
        ⟨⟨hh.1, hh.2.1, hh.2.2.1, hh.2.2.2.1⟩, hW⟩
      have g1 : (0 : Int) < (j : Int) := by omega
      have g2 : (0 : Int) ≤ (K : Int) := by omega
      have g3 : (K : Int) < (n : Int) := by omega
      have g4 : (0 : Int) ≤ (j : Int) := by omega
      have g5 : (j : Int) < (n : Int) := by omega
      by_cases hs : x < u
      · have hs1 : decide (x < u) = true := decide_eq_true hs
        go_wp2_with fail
        go_region_held3 (fun W => (W.cell? ⟨g, j * 2, none⟩ = some (.int .i64 x) ∧ W.cell? ⟨g, j * 2 + 1, none⟩ = some (.int .i64 y) ∧ W.cell? ⟨g, K * 2, none⟩ = some (.int .i64 u) ∧ W.cell? ⟨g, K * 2 + 1, none⟩ = some (.int .i64 v)) ∧ Below wr.heap.size wr W)
          (first | with_reducible exact unhide HSS _ (Below.refl _ _).drew | with_reducible exact unhide HSS _ (unhide HB4))
          (first
            | (go_at_call 25; refine (unhide HAB _).mono ?_; rintro e w3 ⟨rfl, rfl⟩)
            | (go_at_call 24; refine (sooner_any _ _ _ _ _).mono ?_; rintro e w4 ⟨rfl, hb4⟩; have HB4 : Hid (Below wr.heap.size wr w4) := Below.trans (B := wr.heap.size) (by go_split_ands; assumption) (hb4.mono (Below.size (B := wr.heap.size) (by go_split_ands; assumption))); clear hb4))
        have HW4 := hide ((unhide HW).below (unhide HB4) (unhide HW).lt)
        have HT4 := hide ((unhide HT).call (unhide HB4))
        obtain ⟨k0, k1, l0, l1, f0, f1, f2, f3⟩ := unhide HC _ (unhide HW4)
        have n1 : j * 2 ≠ K * 2 := by omega
        have n2 : j * 2 ≠ K * 2 + 1 := by omega
        have n3 : j * 2 + 1 ≠ K * 2 := by omega
        have n4 : j * 2 + 1 ≠ K * 2 + 1 := by omega
        have m1 : K * 2 ≠ j * 2 := by omega
        have m2 : K * 2 + 1 ≠ j * 2 := by omega
        have m3 : K * 2 ≠ j * 2 + 1 := by omega
        have m4 : K * 2 + 1 ≠ j * 2 + 1 := by omega
        go_wp2_with fail
        go_region_with (go_at_call 25; refine (unhide HAB _).mono ?_; rintro e w5 ⟨rfl, rfl⟩)
        all_goals go_wp2_with (go_at_call 25; refine (unhide HAB _).mono ?_; rintro e w5 ⟨rfl, rfl⟩)
        all_goals
          go_roundw
          case rel => exact ⟨K, f - 1, swapT us j K, by go_num, by omega, by omega, by rw [swapT_length]; exact unhide HU, (unhide HE).trans (riseF_go ((unhide HCOND).2 hs) (by omega) (unhide HK)), unhide HSW _ (unhide HW4), ((unhide HT4).swap _ _ (u, v) (x, y)).drew⟩
          case measure => simp [intOf]; omega
      · have hs1 : decide (x < u) = false := decide_eq_false hs
        have HER := hide ((unhide HE).trans (riseF_stop (fun h => hs ((unhide HCOND).1 h))))
        go_wp2_with fail
        go_region_held3 (fun W => (W.cell? ⟨g, j * 2, none⟩ = some (.int .i64 x) ∧ W.cell? ⟨g, j * 2 + 1, none⟩ = some (.int .i64 y) ∧ W.cell? ⟨g, K * 2, none⟩ = some (.int .i64 u) ∧ W.cell? ⟨g, K * 2 + 1, none⟩ = some (.int .i64 v)) ∧ Below wr.heap.size wr W)
          (first | with_reducible exact unhide HSS _ (Below.refl _ _).drew | with_reducible exact unhide HSS _ (unhide HB4))
          (first
            | (go_at_call 25; refine (unhide HAB _).mono ?_; rintro e w3 ⟨rfl, rfl⟩)
            | (go_at_call 24; refine (sooner_any _ _ _ _ _).mono ?_; rintro e w4 ⟨rfl, hb4⟩; have HB4 : Hid (Below wr.heap.size wr w4) := Below.trans (B := wr.heap.size) (by go_split_ands; assumption) (hb4.mono (Below.size (B := wr.heap.size) (by go_split_ands; assumption))); clear hb4))
        go_wp2_with fail
        have eR := unhide HER
        have HROW := (unhide HW).below (unhide HB4) (unhide HW).lt
        have HBUT := (unhide HT).call (unhide HB4)
        exact bodyPost_ret (v := .int .i64 (j : Int)) (by simp [results, Try.results28, go_sem]) rfl ⟨by rw [eR], by rw [eR]; exact HROW, HBUT⟩
    · have hd : decide ((0 : Int) < (j : Int)) = false := by simp; omega
      have HER := hide ((unhide HE).trans (riseF_stop (fun h => hj0 h.1)))
      clear hrow
      go_wp2_with fail
      go_quiet (fail)
      go_wp2_with fail
      have eR := unhide HER
      have HROW := (unhide HW).below (below_drewN (Below.refl wr.heap.size wr) nq) (unhide HW).lt
      have HBUT := (unhide HT).call (below_drewN (Below.refl wr.heap.size wr) nq)
      exact bodyPost_ret (v := .int .i64 (j : Int)) (by simp [results, Try.results28, go_sem]) rfl ⟨by rw [eR], by rw [eR]; exact HROW, HBUT⟩
end Go.Proofs.Ytcfjpjojckngeaa
