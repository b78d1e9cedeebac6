/-
  sweep.wrongCycle, sweep.Cycle where something is wrong ahead of the first act.
-/
import Derived.Test.YtmkehjncnaokoaaCp
namespace Go.Proofs.Ytmkehjncnaokoaa
open Go.RowKit

/-- What is wrong with a cycle ahead of its acts. -/
def cyF (os : List (List Int)) (rs : List Int) (z : Int) (na : Nat) : Int × Int := if (heapF os rs).1 ≠ 0 then heapF os rs else if z < 0 ∨ 3 < z then (4, -1) else if 5000 < na then (2, -1) else (0, 0)

set_option maxRecDepth 100000 in
set_option maxHeartbeats 4000000 in
theorem wc_heap (w : World) (ao : Option Addr) (no co : Nat) (ar : Option Addr) (nr cr : Nat) (us : List Sl) (os : List (List Int)) (rs : List Int) (hO : IsLL w (.slice ao no co) us os) (hR : IsL KI w (.slice ar nr cr) rs) (fc fa : Int) (hf : heapF os rs = (fc, fa)) (hfc : fc ≠ 0) (z : Int) (aa : Option Addr) (na ca : Nat) :
    Calls Try.prog 29 #[.agg #[.slice ao no co, .slice ar nr cr], .int .i64 z, .slice aa na ca] w fun e w' => e = .returned (.agg #[.int .i64 fc, .int .i64 fa]) ∧ Below w.heap.size w w' := by
  have HCK : Hid (∀ W, Below w.heap.size w W → Calls Try.prog 11 #[.agg #[.slice ao no co, .slice ar nr cr]] W fun e w' => e = .returned (.agg #[.int .i64 fc, .int .i64 fa]) ∧ Below W.heap.size W w') := fun W hW => by
    have h_ := check_any W ao no co ar nr cr us os rs (hO.below hW) (hR.below hW)
    rwa [hf] at h_
  have x1 : (fc == 0) = false := by simpa using hfc
  have x2 : (fc != 0) = true := by simpa using hfc
  clear hfc
  obtain ⟨W2, e2, hx, hh, hq⟩ := two_new w (.cells #[.slice ao no co, .slice ar nr cr] 25) (.cells #[.int .i64 0, .int .i64 0] 30)
  have HX := hide hx; have HH := hide hh; have HQ := hide hq; have HE2 := hide e2
  clear hx hh hq e2 hO hR hf
  go_enter Try.func29, Try.ntmps29
  go_upto_region 1 with fail
  rw [unhide HE2]
  clear HE2
  obtain ⟨b0, b1, bf0, bf1, bl⟩ := block2 (unhide HH)
  go_upto_region 2 with (go_at_call 11; (with_reducible refine Calls.mono (unhide HCK _ (unhide HX)) ?_); rintro e w3 ⟨rfl, hb3⟩; have HX3 := hide (Below.next (unhide HX) hb3 (Nat.le_refl _)); have HQ3 := hide (keep_below (unhide HQ) hb3); clear hb3)
  have HX4 := hide ((unhide HX3).alloc (unhide HX3).size (.cells #[.int .i64 fc, .int .i64 fa] 30)); have HQ4 := hide (keep_alloc (unhide HQ3) (.cells #[.int .i64 fc, .int .i64 fa] 30)); have HF4 := hide (new_block w3 (.cells #[.int .i64 fc, .int .i64 fa] 30))
  obtain ⟨F, eF⟩ : ∃ X, w3.heap.size = X := ⟨_, rfl⟩
  obtain ⟨W4, e4⟩ : ∃ X, w3.alloc (.cells #[.int .i64 fc, .int .i64 fa] 30) = X := ⟨_, rfl⟩
  rw [e4] at HX4 HQ4; rw [eF, e4] at HF4; rw [eF, e4]
  clear eF e4 HX HH HQ HX3 HQ3 HCK b0 b1 bf0 bf1 bl
  obtain ⟨g0, g1, gf0, gf1, gl⟩ := block2 (unhide HF4)
  obtain ⟨q0, q1, f0, f1, ql⟩ := block2 (unhide HQ4)
  have hnw : (put2 W4 (w.heap.size + 1) (.int .i64 fc) (.int .i64 fa)).heap[w.heap.size + 1]? = some (.cells #[.int .i64 fc, .int .i64 fa] 30 (0, 0)) := put2_new (unhide HQ4)
  obtain ⟨y0, y1, _, _, _⟩ := block2 hnw
  unfold put2 at y0 y1
  clear hnw
  have HY0 := hide y0; have HY1 := hide y1
  clear y0 y1
  go_wp2_with fail
  have y0 := unhide HY0; have y1 := unhide HY1
  exact bodyPost_ret (v := .agg #[.int .i64 fc, .int .i64 fa]) (by simp [results, Try.results29, go_sem, y0, y1]) rfl ⟨rfl, below_set2 (unhide HX4) (Nat.le_succ _) _ _⟩

set_option maxRecDepth 100000 in
set_option maxHeartbeats 4000000 in
theorem wc_z0 (w : World) (ao : Option Addr) (no co : Nat) (ar : Option Addr) (nr cr : Nat) (us : List Sl) (os : List (List Int)) (rs : List Int) (hO : IsLL w (.slice ao no co) us os) (hR : IsL KI w (.slice ar nr cr) rs) (hf : heapF os rs = (0, 0)) (z : Int) (aa : Option Addr) (na ca : Nat) (h1 : z < 0) :
    Calls Try.prog 29 #[.agg #[.slice ao no co, .slice ar nr cr], .int .i64 z, .slice aa na ca] w fun e w' => e = .returned (.agg #[.int .i64 4, .int .i64 (-1)]) ∧ Below w.heap.size w w' := by
  have HCK : Hid (∀ W, Below w.heap.size w W → Calls Try.prog 11 #[.agg #[.slice ao no co, .slice ar nr cr]] W fun e w' => e = .returned (.agg #[.int .i64 0, .int .i64 0]) ∧ Below W.heap.size W w') := fun W hW => by
    have h_ := check_any W ao no co ar nr cr us os rs (hO.below hW) (hR.below hW)
    rwa [hf] at h_
  obtain ⟨W2, e2, hx, hh, hq⟩ := two_new w (.cells #[.slice ao no co, .slice ar nr cr] 25) (.cells #[.int .i64 0, .int .i64 0] 30)
  have HX := hide hx; have HH := hide hh; have HQ := hide hq; have HE2 := hide e2
  clear hx hh hq e2 hO hR hf
  go_enter Try.func29, Try.ntmps29
  go_upto_region 1 with fail
  rw [unhide HE2]
  clear HE2
  obtain ⟨b0, b1, bf0, bf1, bl⟩ := block2 (unhide HH)
  go_upto_region 2 with (go_at_call 11; (with_reducible refine Calls.mono (unhide HCK _ (unhide HX)) ?_); rintro e w3 ⟨rfl, hb3⟩; have HX3 := hide (Below.next (unhide HX) hb3 (Nat.le_refl _)); have HQ3 := hide (keep_below (unhide HQ) hb3); clear hb3)
  have HX4 := hide ((unhide HX3).alloc (unhide HX3).size (.cells #[.int .i64 0, .int .i64 0] 30)); have HQ4 := hide (keep_alloc (unhide HQ3) (.cells #[.int .i64 0, .int .i64 0] 30)); have HF4 := hide (new_block w3 (.cells #[.int .i64 0, .int .i64 0] 30))
  obtain ⟨F, eF⟩ : ∃ X, w3.heap.size = X := ⟨_, rfl⟩
  obtain ⟨W4, e4⟩ : ∃ X, w3.alloc (.cells #[.int .i64 0, .int .i64 0] 30) = X := ⟨_, rfl⟩
  rw [e4] at HX4 HQ4; rw [eF, e4] at HF4; rw [eF, e4]
  clear eF e4 HX HH HQ HX3 HQ3 HCK b0 b1 bf0 bf1 bl
  obtain ⟨g0, g1, gf0, gf1, gl⟩ := block2 (unhide HF4)
  obtain ⟨q0, q1, f0, f1, ql⟩ := block2 (unhide HQ4)
  have hnw : (put2 W4 (w.heap.size + 1) (.int .i64 4) (.int .i64 (-1))).heap[w.heap.size + 1]? = some (.cells #[.int .i64 4, .int .i64 (-1)] 30 (0, 0)) := put2_new (unhide HQ4)
  obtain ⟨y0, y1, _, _, _⟩ := block2 hnw
  unfold put2 at y0 y1
  clear hnw
  have HY0 := hide y0; have HY1 := hide y1
  clear y0 y1
  go_wp2_with fail
  have y0 := unhide HY0; have y1 := unhide HY1
  exact bodyPost_ret (v := .agg #[.int .i64 4, .int .i64 (-1)]) (by simp [results, Try.results29, go_sem, y0, y1]) rfl ⟨rfl, below_set2 (unhide HX4) (Nat.le_succ _) _ _⟩

set_option maxRecDepth 100000 in
set_option maxHeartbeats 4000000 in
theorem wc_z3 (w : World) (ao : Option Addr) (no co : Nat) (ar : Option Addr) (nr cr : Nat) (us : List Sl) (os : List (List Int)) (rs : List Int) (hO : IsLL w (.slice ao no co) us os) (hR : IsL KI w (.slice ar nr cr) rs) (hf : heapF os rs = (0, 0)) (z : Int) (aa : Option Addr) (na ca : Nat) (h1 : 3 < z) :
    Calls Try.prog 29 #[.agg #[.slice ao no co, .slice ar nr cr], .int .i64 z, .slice aa na ca] w fun e w' => e = .returned (.agg #[.int .i64 4, .int .i64 (-1)]) ∧ Below w.heap.size w w' := by
  have HCK : Hid (∀ W, Below w.heap.size w W → Calls Try.prog 11 #[.agg #[.slice ao no co, .slice ar nr cr]] W fun e w' => e = .returned (.agg #[.int .i64 0, .int .i64 0]) ∧ Below W.heap.size W w') := fun W hW => by
    have h_ := check_any W ao no co ar nr cr us os rs (hO.below hW) (hR.below hW)
    rwa [hf] at h_
  have i1 : ¬ z < 0 := by omega
  obtain ⟨W2, e2, hx, hh, hq⟩ := two_new w (.cells #[.slice ao no co, .slice ar nr cr] 25) (.cells #[.int .i64 0, .int .i64 0] 30)
  have HX := hide hx; have HH := hide hh; have HQ := hide hq; have HE2 := hide e2
  clear hx hh hq e2 hO hR hf
  go_enter Try.func29, Try.ntmps29
  go_upto_region 1 with fail
  rw [unhide HE2]
  clear HE2
  obtain ⟨b0, b1, bf0, bf1, bl⟩ := block2 (unhide HH)
  go_upto_region 2 with (go_at_call 11; (with_reducible refine Calls.mono (unhide HCK _ (unhide HX)) ?_); rintro e w3 ⟨rfl, hb3⟩; have HX3 := hide (Below.next (unhide HX) hb3 (Nat.le_refl _)); have HQ3 := hide (keep_below (unhide HQ) hb3); clear hb3)
  have HX4 := hide ((unhide HX3).alloc (unhide HX3).size (.cells #[.int .i64 0, .int .i64 0] 30)); have HQ4 := hide (keep_alloc (unhide HQ3) (.cells #[.int .i64 0, .int .i64 0] 30)); have HF4 := hide (new_block w3 (.cells #[.int .i64 0, .int .i64 0] 30))
  obtain ⟨F, eF⟩ : ∃ X, w3.heap.size = X := ⟨_, rfl⟩
  obtain ⟨W4, e4⟩ : ∃ X, w3.alloc (.cells #[.int .i64 0, .int .i64 0] 30) = X := ⟨_, rfl⟩
  rw [e4] at HX4 HQ4; rw [eF, e4] at HF4; rw [eF, e4]
  clear eF e4 HX HH HQ HX3 HQ3 HCK b0 b1 bf0 bf1 bl
  obtain ⟨g0, g1, gf0, gf1, gl⟩ := block2 (unhide HF4)
  obtain ⟨q0, q1, f0, f1, ql⟩ := block2 (unhide HQ4)
  have hnw : (put2 W4 (w.heap.size + 1) (.int .i64 4) (.int .i64 (-1))).heap[w.heap.size + 1]? = some (.cells #[.int .i64 4, .int .i64 (-1)] 30 (0, 0)) := put2_new (unhide HQ4)
  obtain ⟨y0, y1, _, _, _⟩ := block2 hnw
  unfold put2 at y0 y1
  clear hnw
  have HY0 := hide y0; have HY1 := hide y1
  clear y0 y1
  go_wp2_with fail
  have y0 := unhide HY0; have y1 := unhide HY1
  exact bodyPost_ret (v := .agg #[.int .i64 4, .int .i64 (-1)]) (by simp [results, Try.results29, go_sem, y0, y1]) rfl ⟨rfl, below_set2 (unhide HX4) (Nat.le_succ _) _ _⟩

set_option maxRecDepth 100000 in
set_option maxHeartbeats 4000000 in
theorem wc_na (w : World) (ao : Option Addr) (no co : Nat) (ar : Option Addr) (nr cr : Nat) (us : List Sl) (os : List (List Int)) (rs : List Int) (hO : IsLL w (.slice ao no co) us os) (hR : IsL KI w (.slice ar nr cr) rs) (hf : heapF os rs = (0, 0)) (z : Int) (aa : Option Addr) (na ca : Nat) (h0 : 0 ≤ z) (h1 : z ≤ 3) (h2 : 5000 < na) :
    Calls Try.prog 29 #[.agg #[.slice ao no co, .slice ar nr cr], .int .i64 z, .slice aa na ca] w fun e w' => e = .returned (.agg #[.int .i64 2, .int .i64 (-1)]) ∧ Below w.heap.size w w' := by
  have HCK : Hid (∀ W, Below w.heap.size w W → Calls Try.prog 11 #[.agg #[.slice ao no co, .slice ar nr cr]] W fun e w' => e = .returned (.agg #[.int .i64 0, .int .i64 0]) ∧ Below W.heap.size W w') := fun W hW => by
    have h_ := check_any W ao no co ar nr cr us os rs (hO.below hW) (hR.below hW)
    rwa [hf] at h_
  have i1 : ¬ z < 0 := by omega
  have i2 : ¬ 3 < z := by omega
  have i3 : (5000 : Int) < (na : Int) := by omega
  obtain ⟨W2, e2, hx, hh, hq⟩ := two_new w (.cells #[.slice ao no co, .slice ar nr cr] 25) (.cells #[.int .i64 0, .int .i64 0] 30)
  have HX := hide hx; have HH := hide hh; have HQ := hide hq; have HE2 := hide e2
  clear hx hh hq e2 hO hR hf
  go_enter Try.func29, Try.ntmps29
  go_upto_region 1 with fail
  rw [unhide HE2]
  clear HE2
  obtain ⟨b0, b1, bf0, bf1, bl⟩ := block2 (unhide HH)
  go_upto_region 2 with (go_at_call 11; (with_reducible refine Calls.mono (unhide HCK _ (unhide HX)) ?_); rintro e w3 ⟨rfl, hb3⟩; have HX3 := hide (Below.next (unhide HX) hb3 (Nat.le_refl _)); have HQ3 := hide (keep_below (unhide HQ) hb3); clear hb3)
  have HX4 := hide ((unhide HX3).alloc (unhide HX3).size (.cells #[.int .i64 0, .int .i64 0] 30)); have HQ4 := hide (keep_alloc (unhide HQ3) (.cells #[.int .i64 0, .int .i64 0] 30)); have HF4 := hide (new_block w3 (.cells #[.int .i64 0, .int .i64 0] 30))
  obtain ⟨F, eF⟩ : ∃ X, w3.heap.size = X := ⟨_, rfl⟩
  obtain ⟨W4, e4⟩ : ∃ X, w3.alloc (.cells #[.int .i64 0, .int .i64 0] 30) = X := ⟨_, rfl⟩
  rw [e4] at HX4 HQ4; rw [eF, e4] at HF4; rw [eF, e4]
  clear eF e4 HX HH HQ HX3 HQ3 HCK b0 b1 bf0 bf1 bl
  obtain ⟨g0, g1, gf0, gf1, gl⟩ := block2 (unhide HF4)
  obtain ⟨q0, q1, f0, f1, ql⟩ := block2 (unhide HQ4)
  have hnw : (put2 W4 (w.heap.size + 1) (.int .i64 2) (.int .i64 (-1))).heap[w.heap.size + 1]? = some (.cells #[.int .i64 2, .int .i64 (-1)] 30 (0, 0)) := put2_new (unhide HQ4)
  obtain ⟨y0, y1, _, _, _⟩ := block2 hnw
  unfold put2 at y0 y1
  clear hnw
  have HY0 := hide y0; have HY1 := hide y1
  clear y0 y1
  go_wp2_with fail
  have y0 := unhide HY0; have y1 := unhide HY1
  exact bodyPost_ret (v := .agg #[.int .i64 2, .int .i64 (-1)]) (by simp [results, Try.results29, go_sem, y0, y1]) rfl ⟨rfl, below_set2 (unhide HX4) (Nat.le_succ _) _ _⟩

theorem wrongCycle_any (w : World) (ao : Option Addr) (no co : Nat) (ar : Option Addr) (nr cr : Nat) (us : List Sl) (os : List (List Int)) (rs : List Int) (hO : IsLL w (.slice ao no co) us os) (hR : IsL KI w (.slice ar nr cr) rs) (z : Int) (aa : Option Addr) (na ca : Nat) :
    Calls Try.prog 29 #[.agg #[.slice ao no co, .slice ar nr cr], .int .i64 z, .slice aa na ca] w fun e w' => e = .returned (.agg #[.int .i64 (cyF os rs z na).1, .int .i64 (cyF os rs z na).2]) ∧ Below w.heap.size w w' := by
  unfold cyF
  by_cases h0 : (heapF os rs).1 ≠ 0
  · rw [if_pos h0]
    exact wc_heap w ao no co ar nr cr us os rs hO hR _ _ rfl h0 z aa na ca
  · rw [if_neg h0]
    have hf := heapF_zero (by simpa using h0)
    by_cases h1 : z < 0 ∨ 3 < z
    · rw [if_pos h1]
      rcases h1 with h1 | h1
      · exact wc_z0 w ao no co ar nr cr us os rs hO hR hf z aa na ca h1
      · exact wc_z3 w ao no co ar nr cr us os rs hO hR hf z aa na ca h1
    · rw [if_neg h1]
      by_cases h2 : 5000 < na
      · rw [if_pos h2]
        exact wc_na w ao no co ar nr cr us os rs hO hR hf z aa na ca (by omega) (by omega) h2
      · rw [if_neg h2]
        exact wrongCycle_ok w ao no co ar nr cr us os rs hO hR hf z (by omega) (by omega) aa na ca (by omega)

set_option maxRecDepth 100000 in
set_option maxHeartbeats 4000000 in
theorem cycle_fault (w : World) (ao : Option Addr) (no co : Nat) (ar : Option Addr) (nr cr : Nat) (us : List Sl) (os : List (List Int)) (rs : List Int) (hO : IsLL w (.slice ao no co) us os) (hR : IsL KI w (.slice ar nr cr) rs) (z : Int) (aa : Option Addr) (na ca : Nat) (fc fa : Int) (hf : cyF os rs z na = (fc, fa)) (hfc : fc ≠ 0) :
    Calls Try.prog 19 #[.agg #[.slice ao no co, .slice ar nr cr], .int .i64 z, .slice aa na ca] w fun e w' => e = .returned (.tuple #[.agg #[.slice none 0 0, .slice none 0 0], .slice none 0 0, .agg #[.int .i64 fc, .int .i64 fa]]) ∧ Below w.heap.size w w' := by
  have HWC : Hid (∀ W, Below w.heap.size w W → Calls Try.prog 29 #[.agg #[.slice ao no co, .slice ar nr cr], .int .i64 z, .slice aa na ca] W fun e w' => e = .returned (.agg #[.int .i64 fc, .int .i64 fa]) ∧ Below W.heap.size W w') := fun W hW => by
    have h_ := wrongCycle_any W ao no co ar nr cr us os rs (hO.below hW) (hR.below hW) z aa na ca
    rwa [hf] at h_
  have x1 : (fc == 0) = false := by simpa using hfc
  have x2 : (fc != 0) = true := by simpa using hfc
  obtain ⟨W3, e3, hx, hh, hq, hp⟩ := three_new w (.cells #[.slice ao no co, .slice ar nr cr] 25) (.cells #[.slice none 0 0, .slice none 0 0] 25) (.cells #[.int .i64 0, .int .i64 0] 30)
  have HX := hide hx; have HH := hide hh; have HQ := hide hq; have HP := hide hp; have HE := hide e3
  clear hx hh hq hp e3 hO hR hf hfc
  go_enter Try.func19, Try.ntmps19
  go_upto_region 1 with fail
  rw [unhide HE]
  clear HE
  obtain ⟨b0, b1, bf0, bf1, bl⟩ := block2 (unhide HH)
  go_upto_region 2 with (go_at_call 29; (with_reducible refine Calls.mono (unhide HWC _ (unhide HX)) ?_); rintro e w4 ⟨rfl, hb4⟩; have HX4 := hide (Below.next (unhide HX) hb4 (Nat.le_refl _)); have HQ4 := hide (keep_below (unhide HQ) hb4); have HP4 := hide (keep_below (unhide HP) hb4); clear hb4)
  have HX5 := hide ((unhide HX4).alloc (unhide HX4).size (.cells #[.int .i64 fc, .int .i64 fa] 30)); have HQ5 := hide (keep_alloc (unhide HQ4) (.cells #[.int .i64 fc, .int .i64 fa] 30)); have HP5 := hide (keep_alloc (unhide HP4) (.cells #[.int .i64 fc, .int .i64 fa] 30)); have HF5 := hide (new_block w4 (.cells #[.int .i64 fc, .int .i64 fa] 30))
  have HFG : Hid (w.heap.size + 1 + 1 < w4.heap.size) := size_of (unhide HP4)
  obtain ⟨F, eF⟩ : ∃ X, w4.heap.size = X := ⟨_, rfl⟩
  obtain ⟨W5, e5⟩ : ∃ X, w4.alloc (.cells #[.int .i64 fc, .int .i64 fa] 30) = X := ⟨_, rfl⟩
  rw [e5] at HX5 HQ5 HP5; rw [eF, e5] at HF5; rw [eF] at HFG; rw [eF, e5]
  clear eF e5 HX HH HQ HP HX4 HQ4 HP4 HWC b0 b1 bf0 bf1 bl
  obtain ⟨g0, g1, gf0, gf1, gl⟩ := block2 (unhide HF5)
  go_upto_region 3 with fail
  clear g0 g1 gf0 gf1 gl
  have hfg := unhide HFG
  have ne1 : F ≠ w.heap.size + 1 := by omega
  have ne2 : F ≠ w.heap.size + 1 + 1 := by omega
  have HS0 : Hid (W5.cell? ⟨F, 0, none⟩ = some (.int .i64 fc) ∧ W5.cell? ⟨F, 1, none⟩ = some (.int .i64 fa)) := ⟨(block2 (unhide HF5)).1, (block2 (unhide HF5)).2.1⟩
  have HS1 : Hid (W5.drew.cell? ⟨F, 0, none⟩ = some (.int .i64 fc) ∧ W5.drew.cell? ⟨F, 1, none⟩ = some (.int .i64 fa)) := unhide HS0
  have HSH : Hid (∀ (W : World) (o : Nat) (v : Value), (W.cell? ⟨F, 0, none⟩ = some (.int .i64 fc) ∧ W.cell? ⟨F, 1, none⟩ = some (.int .i64 fa)) → ((W.setCell ⟨w.heap.size + 1, o, none⟩ v).cell? ⟨F, 0, none⟩ = some (.int .i64 fc) ∧ (W.setCell ⟨w.heap.size + 1, o, none⟩ v).cell? ⟨F, 1, none⟩ = some (.int .i64 fa))) := fun W o v h => ⟨cell_other h.1 (Or.inl ne1) v, cell_other h.2 (Or.inl ne1) v⟩
  have HSF : Hid (∀ (W : World) (o : Nat) (v : Value), (W.cell? ⟨F, 0, none⟩ = some (.int .i64 fc) ∧ W.cell? ⟨F, 1, none⟩ = some (.int .i64 fa)) → ((W.setCell ⟨w.heap.size + 1 + 1, o, none⟩ v).cell? ⟨F, 0, none⟩ = some (.int .i64 fc) ∧ (W.setCell ⟨w.heap.size + 1 + 1, o, none⟩ v).cell? ⟨F, 1, none⟩ = some (.int .i64 fa))) := fun W o v h => ⟨cell_other h.1 (Or.inl ne2) v, cell_other h.2 (Or.inl ne2) v⟩
  have HSD : Hid (∀ W : World, (W.cell? ⟨F, 0, none⟩ = some (.int .i64 fc) ∧ W.cell? ⟨F, 1, none⟩ = some (.int .i64 fa)) → (W.drew.cell? ⟨F, 0, none⟩ = some (.int .i64 fc) ∧ W.drew.cell? ⟨F, 1, none⟩ = some (.int .i64 fa))) := fun W h => h
  obtain ⟨h0, h1, hf0, hf1, hl⟩ := block2 (unhide HQ5)
  obtain ⟨p0, p1, pf0, pf1, pl⟩ := block2 (unhide HP5)
  obtain ⟨h0', h1', hf0', hf1', hl'⟩ := block2 (show W5.drew.heap[w.heap.size + 1]? = _ from unhide HQ5)
  obtain ⟨p0', p1', pf0', pf1', pl'⟩ := block2 (show W5.drew.heap[w.heap.size + 1 + 1]? = _ from unhide HP5)
  have ne3 : w.heap.size + 1 + 1 ≠ w.heap.size + 1 := by omega
  have ne4 : w.heap.size + 1 ≠ w.heap.size + 1 + 1 := by omega
  go_region_held3 (fun W => W.cell? ⟨F, 0, none⟩ = some (.int .i64 fc) ∧ W.cell? ⟨F, 1, none⟩ = some (.int .i64 fa))
    (first | with_reducible exact unhide HS0 | with_reducible exact unhide HS1 | (repeat (first | with_reducible exact unhide HS0 | with_reducible exact unhide HS1 | with_reducible refine unhide HSH _ _ _ ?_ | with_reducible refine unhide HSF _ _ _ ?_ | with_reducible refine unhide HSD _ ?_)))
    (fail)
  clear h0 h1 hf0 hf1 hl p0 p1 pf0 pf1 pl h0' h1' hf0' hf1' hl' p0' p1' pf0' pf1' pl'
  have hh2 : (put2 (put2 W5 (w.heap.size + 1) (.slice none 0 0) (.slice none 0 0)) (w.heap.size + 1 + 1) (.int .i64 fc) (.int .i64 fa)).drew.heap[w.heap.size + 1]? = some (.cells #[.slice none 0 0, .slice none 0 0] 25 (0, 0)) := (put2_keep ne4).trans (put2_new (unhide HQ5))
  have hf2 : (put2 (put2 W5 (w.heap.size + 1) (.slice none 0 0) (.slice none 0 0)) (w.heap.size + 1 + 1) (.int .i64 fc) (.int .i64 fa)).drew.heap[w.heap.size + 1 + 1]? = some (.cells #[.int .i64 fc, .int .i64 fa] 30 (0, 0)) := put2_new ((put2_keep ne3).trans (unhide HP5))
  have hbx : Below w.heap.size w (put2 (put2 W5 (w.heap.size + 1) (.slice none 0 0) (.slice none 0 0)) (w.heap.size + 1 + 1) (.int .i64 fc) (.int .i64 fa)).drew := (put2_below (put2_below (unhide HX5) (by omega)) (by omega)).drew
  obtain ⟨z0, z1, _, _, _⟩ := block2 hh2
  obtain ⟨y0, y1, _, _, _⟩ := block2 hf2
  unfold put2 at z0 z1 y0 y1 hbx
  have Z0 := hide z0; have Z1 := hide z1; have Y0 := hide y0; have Y1 := hide y1
  clear z0 z1 y0 y1 hh2 hf2
  all_goals
    go_wp2_with fail
    have z0 := unhide Z0; have z1 := unhide Z1; have y0 := unhide Y0; have y1 := unhide Y1
    exact bodyPost_ret (v := .tuple #[.agg #[.slice none 0 0, .slice none 0 0], .slice none 0 0, .agg #[.int .i64 fc, .int .i64 fa]]) (by simp [results, Try.results19, go_sem, z0, z1, y0, y1]) rfl ⟨rfl, hbx⟩
end Go.Proofs.Ytmkehjncnaokoaa
