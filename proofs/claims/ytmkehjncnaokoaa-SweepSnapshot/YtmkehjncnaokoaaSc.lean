/-
  law.SweepStopped: what ends ahead of the cycle.
-/
import Derived.Test.YtmkehjncnaokoaaSb
namespace Go.Proofs.Ytmkehjncnaokoaa
open Go.RowKit

theorem fld0 (w : World) (a b : Int) : (Instr.field 30 (.agg #[.int .i64 a, .int .i64 b]) 0).run Try.prog w = .ok (.int .i64 a) w := by kernel_rfl

set_option maxRecDepth 100000 in
set_option maxHeartbeats 4000000 in
theorem stopped_vast (w : World) (ao : Option Addr) (no co : Nat) (ar : Option Addr) (nr cr : Nat) (z k : Int) (us : List Sl) (os : List (List Int)) (rs : List Int) (hO : IsLL w (.slice ao no co) us os) (hR : IsL KI w (.slice ar nr cr) rs) (hbeg : ∀ W : World, Calls Try.prog 8 #[] W fun e w' => e = .returned (.bool true) ∧ Below W.heap.size W w') (hno : no ≤ 1000000000000000) (hv : vastB os rs = true) :
    Calls Try.prog 7 #[.agg #[.slice ao no co, .slice ar nr cr], .int .i64 z, .int .i64 k] w fun e w' => e = .returned (.bool true) ∧ Below w.heap.size w w' := by
  have HX := hide ((Below.refl w.heap.size w).alloc (Nat.le_refl _) (.cells #[.slice ao no co, .slice ar nr cr] 25))
  have HH := hide (new_block w (.cells #[.slice ao no co, .slice ar nr cr] 25))
  have HO := hide hO; have HR := hide hR; have HV := hide hv; have HBG := hide hbeg
  obtain ⟨W, eW⟩ : ∃ X, w.alloc (.cells #[.slice ao no co, .slice ar nr cr] 25) = X := ⟨_, rfl⟩
  rw [eW] at HX HH
  have HE := hide eW
  clear eW hO hR hv hbeg
  have hfl := fld0
  go_enter Try.func7, Try.ntmps7
  go_upto_region 1 with fail
  rw [unhide HE]
  clear HE
  go_upto_region 3 with (go_at_call 8; (with_reducible refine Calls.mono (unhide HBG _) ?_); rintro e w1 ⟨rfl, hb1⟩; have HX1 := hide (Below.next (unhide HX) hb1 (Nat.le_refl _)); have HH1 := hide (keep_below (unhide HH) hb1); clear hb1)
  obtain ⟨b0, b1, bf0, bf1, bl⟩ := block2 (unhide HH1)
  go_wp2_with (go_at_call 9; (with_reducible refine Calls.mono (vastHeap_any _ ao no co ar nr cr us os rs ((unhide HO).below (unhide HX1)) ((unhide HR).below (unhide HX1)) hno) ?_); rintro e w2 ⟨rfl, hb2⟩; rw [unhide HV]; have HX2 := hide (Below.next (unhide HX1) hb2 (Nat.le_refl _)); clear hb2)
  go_ret
  exact ⟨rfl, unhide HX2⟩

set_option maxRecDepth 100000 in
set_option maxHeartbeats 4000000 in
theorem stopped_fault (w : World) (ao : Option Addr) (no co : Nat) (ar : Option Addr) (nr cr : Nat) (z k : Int) (us : List Sl) (os : List (List Int)) (rs : List Int) (hO : IsLL w (.slice ao no co) us os) (hR : IsL KI w (.slice ar nr cr) rs) (hbeg : ∀ W : World, Calls Try.prog 8 #[] W fun e w' => e = .returned (.bool true) ∧ Below W.heap.size W w') (hno : no ≤ 1000000000000000) (hv : vastB os rs = false) (fc fa : Int) (hf : heapF os rs = (fc, fa)) (hfc : fc ≠ 0) :
    Calls Try.prog 7 #[.agg #[.slice ao no co, .slice ar nr cr], .int .i64 z, .int .i64 k] w fun e w' => e = .returned (.bool true) ∧ Below w.heap.size w w' := by
  have HX := hide ((Below.refl w.heap.size w).alloc (Nat.le_refl _) (.cells #[.slice ao no co, .slice ar nr cr] 25))
  have HH := hide (new_block w (.cells #[.slice ao no co, .slice ar nr cr] 25))
  have HO := hide hO; have HR := hide hR; have HV := hide hv; have HBG := hide hbeg; have HF := hide hf
  have x2 : (fc != 0) = true := by simpa using hfc
  obtain ⟨W, eW⟩ : ∃ X, w.alloc (.cells #[.slice ao no co, .slice ar nr cr] 25) = X := ⟨_, rfl⟩
  rw [eW] at HX HH
  have HE := hide eW
  clear eW hO hR hv hbeg hf
  have hfl := fld0
  go_enter Try.func7, Try.ntmps7
  go_upto_region 1 with fail
  rw [unhide HE]
  clear HE
  go_upto_region 3 with (go_at_call 8; (with_reducible refine Calls.mono (unhide HBG _) ?_); rintro e w1 ⟨rfl, hb1⟩; have HX1 := hide (Below.next (unhide HX) hb1 (Nat.le_refl _)); have HH1 := hide (keep_below (unhide HH) hb1); clear hb1)
  obtain ⟨b0, b1, bf0, bf1, bl⟩ := block2 (unhide HH1)
  go_wp2_with (first | (go_at_call 9; (with_reducible refine Calls.mono (vastHeap_any _ ao no co ar nr cr us os rs ((unhide HO).below (unhide HX1)) ((unhide HR).below (unhide HX1)) hno) ?_); rintro e w2 ⟨rfl, hb2⟩; rw [unhide HV]; have HX2 := hide (Below.next (unhide HX1) hb2 (Nat.le_refl _)); have HH2 := hide (keep_below (unhide HH1) hb2); obtain ⟨g0, g1, gf0, gf1, gl⟩ := block2 (unhide HH2); clear hb2) | (go_at_call 13; (with_reducible refine Calls.mono (heapsFault_any _ ao no co ar nr cr us os rs ((unhide HO).below (unhide HX2)) ((unhide HR).below (unhide HX2))) ?_); rintro e w3 ⟨rfl, hb3⟩; rw [unhide HF]; have HX3 := hide (Below.next (unhide HX2) hb3 (Nat.le_refl _)); clear hb3))
  go_ret
  exact ⟨rfl, unhide HX3⟩

set_option maxRecDepth 100000 in
set_option maxHeartbeats 4000000 in
theorem stopped_out (w : World) (ao : Option Addr) (no co : Nat) (ar : Option Addr) (nr cr : Nat) (z k : Int) (us : List Sl) (os : List (List Int)) (rs : List Int) (hO : IsLL w (.slice ao no co) us os) (hR : IsL KI w (.slice ar nr cr) rs) (hbeg : ∀ W : World, Calls Try.prog 8 #[] W fun e w' => e = .returned (.bool true) ∧ Below W.heap.size W w') (hno : no ≤ 1000000000000000) (hv : vastB os rs = false) (hf : heapF os rs = (0, 0)) (hw : z < 0 ∨ 3 < z ∨ k < 0 ∨ 1000 < k) :
    Calls Try.prog 7 #[.agg #[.slice ao no co, .slice ar nr cr], .int .i64 z, .int .i64 k] w fun e w' => e = .returned (.bool true) ∧ Below w.heap.size w w' := by
  have HX := hide ((Below.refl w.heap.size w).alloc (Nat.le_refl _) (.cells #[.slice ao no co, .slice ar nr cr] 25))
  have HH := hide (new_block w (.cells #[.slice ao no co, .slice ar nr cr] 25))
  have HO := hide hO; have HR := hide hR; have HV := hide hv; have HBG := hide hbeg; have HF := hide hf
  have x2 : ((0 : Int) != 0) = false := by decide
  obtain ⟨W, eW⟩ : ∃ X, w.alloc (.cells #[.slice ao no co, .slice ar nr cr] 25) = X := ⟨_, rfl⟩
  rw [eW] at HX HH
  have HE := hide eW
  have HW := hide hw
  clear eW hO hR hv hbeg hf hw
  have hfl := fld0
  go_enter Try.func7, Try.ntmps7
  go_upto_region 1 with fail
  rw [unhide HE]
  clear HE
  go_upto_region 3 with (go_at_call 8; (with_reducible refine Calls.mono (unhide HBG _) ?_); rintro e w1 ⟨rfl, hb1⟩; have HX1 := hide (Below.next (unhide HX) hb1 (Nat.le_refl _)); have HH1 := hide (keep_below (unhide HH) hb1); clear hb1)
  obtain ⟨b0, b1, bf0, bf1, bl⟩ := block2 (unhide HH1)
  by_cases h1 : z < 0
  · go_wp2_with (first | (go_at_call 9; (with_reducible refine Calls.mono (vastHeap_any _ ao no co ar nr cr us os rs ((unhide HO).below (unhide HX1)) ((unhide HR).below (unhide HX1)) hno) ?_); rintro e w2 ⟨rfl, hb2⟩; rw [unhide HV]; have HX2 := hide (Below.next (unhide HX1) hb2 (Nat.le_refl _)); have HH2 := hide (keep_below (unhide HH1) hb2); obtain ⟨g0, g1, gf0, gf1, gl⟩ := block2 (unhide HH2); clear hb2) | (go_at_call 13; (with_reducible refine Calls.mono (heapsFault_any _ ao no co ar nr cr us os rs ((unhide HO).below (unhide HX2)) ((unhide HR).below (unhide HX2))) ?_); rintro e w3 ⟨rfl, hb3⟩; rw [unhide HF]; have HX3 := hide (Below.next (unhide HX2) hb3 (Nat.le_refl _)); clear hb3))
    go_ret
    exact ⟨rfl, unhide HX3⟩
  · by_cases h2 : 3 < z
    · go_wp2_with (first | (go_at_call 9; (with_reducible refine Calls.mono (vastHeap_any _ ao no co ar nr cr us os rs ((unhide HO).below (unhide HX1)) ((unhide HR).below (unhide HX1)) hno) ?_); rintro e w2 ⟨rfl, hb2⟩; rw [unhide HV]; have HX2 := hide (Below.next (unhide HX1) hb2 (Nat.le_refl _)); have HH2 := hide (keep_below (unhide HH1) hb2); obtain ⟨g0, g1, gf0, gf1, gl⟩ := block2 (unhide HH2); clear hb2) | (go_at_call 13; (with_reducible refine Calls.mono (heapsFault_any _ ao no co ar nr cr us os rs ((unhide HO).below (unhide HX2)) ((unhide HR).below (unhide HX2))) ?_); rintro e w3 ⟨rfl, hb3⟩; rw [unhide HF]; have HX3 := hide (Below.next (unhide HX2) hb3 (Nat.le_refl _)); clear hb3))
      go_ret
      exact ⟨rfl, unhide HX3⟩
    · by_cases h3 : k < 0
      · go_wp2_with (first | (go_at_call 9; (with_reducible refine Calls.mono (vastHeap_any _ ao no co ar nr cr us os rs ((unhide HO).below (unhide HX1)) ((unhide HR).below (unhide HX1)) hno) ?_); rintro e w2 ⟨rfl, hb2⟩; rw [unhide HV]; have HX2 := hide (Below.next (unhide HX1) hb2 (Nat.le_refl _)); have HH2 := hide (keep_below (unhide HH1) hb2); obtain ⟨g0, g1, gf0, gf1, gl⟩ := block2 (unhide HH2); clear hb2) | (go_at_call 13; (with_reducible refine Calls.mono (heapsFault_any _ ao no co ar nr cr us os rs ((unhide HO).below (unhide HX2)) ((unhide HR).below (unhide HX2))) ?_); rintro e w3 ⟨rfl, hb3⟩; rw [unhide HF]; have HX3 := hide (Below.next (unhide HX2) hb3 (Nat.le_refl _)); clear hb3))
        go_ret
        exact ⟨rfl, unhide HX3⟩
      · have h4 : 1000 < k := by have := unhide HW; omega
        go_wp2_with (first | (go_at_call 9; (with_reducible refine Calls.mono (vastHeap_any _ ao no co ar nr cr us os rs ((unhide HO).below (unhide HX1)) ((unhide HR).below (unhide HX1)) hno) ?_); rintro e w2 ⟨rfl, hb2⟩; rw [unhide HV]; have HX2 := hide (Below.next (unhide HX1) hb2 (Nat.le_refl _)); have HH2 := hide (keep_below (unhide HH1) hb2); obtain ⟨g0, g1, gf0, gf1, gl⟩ := block2 (unhide HH2); clear hb2) | (go_at_call 13; (with_reducible refine Calls.mono (heapsFault_any _ ao no co ar nr cr us os rs ((unhide HO).below (unhide HX2)) ((unhide HR).below (unhide HX2))) ?_); rintro e w3 ⟨rfl, hb3⟩; rw [unhide HF]; have HX3 := hide (Below.next (unhide HX2) hb3 (Nat.le_refl _)); clear hb3))
        go_ret
        exact ⟨rfl, unhide HX3⟩
end Go.Proofs.Ytmkehjncnaokoaa
