/-
  law.SweepSnapshot: what ends early.
-/
import Derived.Test.YtmkehjncnaokoaaCs
namespace Go.Proofs.Ytmkehjncnaokoaa
open Go.RowKit

set_option maxRecDepth 100000 in
set_option maxHeartbeats 4000000 in
theorem SweepSnapshot_vast (w : World) (ao : Option Addr) (no co : Nat) (ar : Option Addr) (nr cr : Nat) (z : Int) (aa : Option Addr) (na ca : Nat) (us : List Sl) (os : List (List Int)) (rs : List Int) (acts : List Ac) (hO : IsLL w (.slice ao no co) us os) (hR : IsL KI w (.slice ar nr cr) rs) (_hA : IsL KA w (.slice aa na ca) acts) (hbeg : ∀ W : World, Calls Try.prog 8 #[] W fun e w' => e = .returned (.bool true) ∧ Below W.heap.size W w') (hno : no ≤ 1000000000000000) (hv : vastB os rs = true) :
    Calls Try.prog 6 #[.agg #[.slice ao no co, .slice ar nr cr], .int .i64 z, .slice aa na ca] w fun e w' => e = .returned (.bool true) ∧ Below w.heap.size w w' := by
  have HX := hide ((Below.refl w.heap.size w).alloc (Nat.le_refl _) (.cells #[.slice ao no co, .slice ar nr cr] 25))
  have HH := hide (new_block w (.cells #[.slice ao no co, .slice ar nr cr] 25))
  have HO := hide hO; have HR := hide hR; have HV := hide hv; have HBG := hide hbeg
  have hfl := fld0
  obtain ⟨W, eW⟩ : ∃ X, w.alloc (.cells #[.slice ao no co, .slice ar nr cr] 25) = X := ⟨_, rfl⟩
  rw [eW] at HX HH
  have HE := hide eW
  clear eW hO hR hv hbeg
  go_enter Try.func6, Try.ntmps6
  go_upto_region 1 with fail
  rw [unhide HE]
  clear HE
  go_upto_region 3 with (go_at_call 8; (with_reducible refine Calls.mono (unhide HBG _) ?_); rintro e w1 ⟨rfl, hb1⟩; have HX1 := hide (Below.next (unhide HX) hb1 (Nat.le_refl _)); have HH1 := hide (keep_below (unhide HH) hb1); clear hb1)
  obtain ⟨b0, b1, bf0, bf1, bl⟩ := block2 (unhide HH1)
  go_wp2_with (go_at_call 9; (with_reducible refine Calls.mono (vastHeap_any _ ao no co ar nr cr us os rs ((unhide HO).below (unhide HX1)) ((unhide HR).below (unhide HX1)) (by omega)) ?_); rintro e w2 ⟨rfl, hb2⟩; rw [unhide HV]; have HX2 := hide (Below.next (unhide HX1) hb2 (Nat.le_refl _)); have HH2 := hide (keep_below (unhide HH1) hb2); clear hb2)
  go_ret
  exact ⟨rfl, unhide HX2⟩

set_option maxRecDepth 100000 in
set_option maxHeartbeats 4000000 in
theorem SweepSnapshot_na (w : World) (ao : Option Addr) (no co : Nat) (ar : Option Addr) (nr cr : Nat) (z : Int) (aa : Option Addr) (na ca : Nat) (us : List Sl) (os : List (List Int)) (rs : List Int) (acts : List Ac) (hO : IsLL w (.slice ao no co) us os) (hR : IsL KI w (.slice ar nr cr) rs) (_hA : IsL KA w (.slice aa na ca) acts) (hbeg : ∀ W : World, Calls Try.prog 8 #[] W fun e w' => e = .returned (.bool true) ∧ Below W.heap.size W w') (hno : no ≤ 1000000000000000) (hv : vastB os rs = false) (hn : 5000 < na) :
    Calls Try.prog 6 #[.agg #[.slice ao no co, .slice ar nr cr], .int .i64 z, .slice aa na ca] w fun e w' => e = .returned (.bool true) ∧ Below w.heap.size w w' := by
  have HX := hide ((Below.refl w.heap.size w).alloc (Nat.le_refl _) (.cells #[.slice ao no co, .slice ar nr cr] 25))
  have HH := hide (new_block w (.cells #[.slice ao no co, .slice ar nr cr] 25))
  have HO := hide hO; have HR := hide hR; have HV := hide hv; have HBG := hide hbeg
  have i1 : (5000 : Int) < (na : Int) := by omega
  have hfl := fld0
  obtain ⟨W, eW⟩ : ∃ X, w.alloc (.cells #[.slice ao no co, .slice ar nr cr] 25) = X := ⟨_, rfl⟩
  rw [eW] at HX HH
  have HE := hide eW
  clear eW hO hR hv hbeg
  go_enter Try.func6, Try.ntmps6
  go_upto_region 1 with fail
  rw [unhide HE]
  clear HE
  go_upto_region 3 with (go_at_call 8; (with_reducible refine Calls.mono (unhide HBG _) ?_); rintro e w1 ⟨rfl, hb1⟩; have HX1 := hide (Below.next (unhide HX) hb1 (Nat.le_refl _)); have HH1 := hide (keep_below (unhide HH) hb1); clear hb1)
  obtain ⟨b0, b1, bf0, bf1, bl⟩ := block2 (unhide HH1)
  go_wp2_with (go_at_call 9; (with_reducible refine Calls.mono (vastHeap_any _ ao no co ar nr cr us os rs ((unhide HO).below (unhide HX1)) ((unhide HR).below (unhide HX1)) (by omega)) ?_); rintro e w2 ⟨rfl, hb2⟩; rw [unhide HV]; have HX2 := hide (Below.next (unhide HX1) hb2 (Nat.le_refl _)); have HH2 := hide (keep_below (unhide HH1) hb2); clear hb2)
  go_ret
  exact ⟨rfl, unhide HX2⟩

set_option maxRecDepth 100000 in
set_option maxHeartbeats 4000000 in
theorem SweepSnapshot_z1 (w : World) (ao : Option Addr) (no co : Nat) (ar : Option Addr) (nr cr : Nat) (z : Int) (aa : Option Addr) (na ca : Nat) (us : List Sl) (os : List (List Int)) (rs : List Int) (acts : List Ac) (hO : IsLL w (.slice ao no co) us os) (hR : IsL KI w (.slice ar nr cr) rs) (_hA : IsL KA w (.slice aa na ca) acts) (hbeg : ∀ W : World, Calls Try.prog 8 #[] W fun e w' => e = .returned (.bool true) ∧ Below W.heap.size W w') (hno : no ≤ 1000000000000000) (hv : vastB os rs = false) (hn : na ≤ 5000) (h1 : z < 2) :
    Calls Try.prog 6 #[.agg #[.slice ao no co, .slice ar nr cr], .int .i64 z, .slice aa na ca] w fun e w' => e = .returned (.bool true) ∧ Below w.heap.size w w' := by
  have HX := hide ((Below.refl w.heap.size w).alloc (Nat.le_refl _) (.cells #[.slice ao no co, .slice ar nr cr] 25))
  have HH := hide (new_block w (.cells #[.slice ao no co, .slice ar nr cr] 25))
  have HO := hide hO; have HR := hide hR; have HV := hide hv; have HBG := hide hbeg
  have i1 : ¬ (5000 : Int) < (na : Int) := by omega
  have hfl := fld0
  obtain ⟨W, eW⟩ : ∃ X, w.alloc (.cells #[.slice ao no co, .slice ar nr cr] 25) = X := ⟨_, rfl⟩
  rw [eW] at HX HH
  have HE := hide eW
  clear eW hO hR hv hbeg
  go_enter Try.func6, Try.ntmps6
  go_upto_region 1 with fail
  rw [unhide HE]
  clear HE
  go_upto_region 3 with (go_at_call 8; (with_reducible refine Calls.mono (unhide HBG _) ?_); rintro e w1 ⟨rfl, hb1⟩; have HX1 := hide (Below.next (unhide HX) hb1 (Nat.le_refl _)); have HH1 := hide (keep_below (unhide HH) hb1); clear hb1)
  obtain ⟨b0, b1, bf0, bf1, bl⟩ := block2 (unhide HH1)
  go_wp2_with (go_at_call 9; (with_reducible refine Calls.mono (vastHeap_any _ ao no co ar nr cr us os rs ((unhide HO).below (unhide HX1)) ((unhide HR).below (unhide HX1)) (by omega)) ?_); rintro e w2 ⟨rfl, hb2⟩; rw [unhide HV]; have HX2 := hide (Below.next (unhide HX1) hb2 (Nat.le_refl _)); have HH2 := hide (keep_below (unhide HH1) hb2); clear hb2)
  go_ret
  exact ⟨rfl, unhide HX2⟩

set_option maxRecDepth 100000 in
set_option maxHeartbeats 4000000 in
theorem SweepSnapshot_z3 (w : World) (ao : Option Addr) (no co : Nat) (ar : Option Addr) (nr cr : Nat) (z : Int) (aa : Option Addr) (na ca : Nat) (us : List Sl) (os : List (List Int)) (rs : List Int) (acts : List Ac) (hO : IsLL w (.slice ao no co) us os) (hR : IsL KI w (.slice ar nr cr) rs) (_hA : IsL KA w (.slice aa na ca) acts) (hbeg : ∀ W : World, Calls Try.prog 8 #[] W fun e w' => e = .returned (.bool true) ∧ Below W.heap.size W w') (hno : no ≤ 1000000000000000) (hv : vastB os rs = false) (hn : na ≤ 5000) (h1 : 2 ≤ z) (h2 : 3 < z) :
    Calls Try.prog 6 #[.agg #[.slice ao no co, .slice ar nr cr], .int .i64 z, .slice aa na ca] w fun e w' => e = .returned (.bool true) ∧ Below w.heap.size w w' := by
  have HX := hide ((Below.refl w.heap.size w).alloc (Nat.le_refl _) (.cells #[.slice ao no co, .slice ar nr cr] 25))
  have HH := hide (new_block w (.cells #[.slice ao no co, .slice ar nr cr] 25))
  have HO := hide hO; have HR := hide hR; have HV := hide hv; have HBG := hide hbeg
  have i1 : ¬ (5000 : Int) < (na : Int) := by omega
  have i2 : ¬ z < 2 := by omega
  have hfl := fld0
  obtain ⟨W, eW⟩ : ∃ X, w.alloc (.cells #[.slice ao no co, .slice ar nr cr] 25) = X := ⟨_, rfl⟩
  rw [eW] at HX HH
  have HE := hide eW
  clear eW hO hR hv hbeg
  go_enter Try.func6, Try.ntmps6
  go_upto_region 1 with fail
  rw [unhide HE]
  clear HE
  go_upto_region 3 with (go_at_call 8; (with_reducible refine Calls.mono (unhide HBG _) ?_); rintro e w1 ⟨rfl, hb1⟩; have HX1 := hide (Below.next (unhide HX) hb1 (Nat.le_refl _)); have HH1 := hide (keep_below (unhide HH) hb1); clear hb1)
  obtain ⟨b0, b1, bf0, bf1, bl⟩ := block2 (unhide HH1)
  go_wp2_with (go_at_call 9; (with_reducible refine Calls.mono (vastHeap_any _ ao no co ar nr cr us os rs ((unhide HO).below (unhide HX1)) ((unhide HR).below (unhide HX1)) (by omega)) ?_); rintro e w2 ⟨rfl, hb2⟩; rw [unhide HV]; have HX2 := hide (Below.next (unhide HX1) hb2 (Nat.le_refl _)); have HH2 := hide (keep_below (unhide HH1) hb2); clear hb2)
  go_ret
  exact ⟨rfl, unhide HX2⟩

set_option maxRecDepth 100000 in
set_option maxHeartbeats 4000000 in
theorem SweepSnapshot_fault (w : World) (ao : Option Addr) (no co : Nat) (ar : Option Addr) (nr cr : Nat) (z : Int) (aa : Option Addr) (na ca : Nat) (us : List Sl) (os : List (List Int)) (rs : List Int) (acts : List Ac) (hO : IsLL w (.slice ao no co) us os) (hR : IsL KI w (.slice ar nr cr) rs) (_hA : IsL KA w (.slice aa na ca) acts) (hbeg : ∀ W : World, Calls Try.prog 8 #[] W fun e w' => e = .returned (.bool true) ∧ Below W.heap.size W w') (hno : no ≤ 1000000000000000) (hv : vastB os rs = false) (hn : na ≤ 5000) (h1 : 2 ≤ z) (h3 : z ≤ 3) (c i : Int) (hc : c ≠ 0) (hcy : ∀ W, Below w.heap.size w W → Calls Try.prog 19 #[.agg #[.slice ao no co, .slice ar nr cr], .int .i64 z, .slice aa na ca] W fun e w' => e = .returned (.tuple #[.agg #[.slice none 0 0, .slice none 0 0], .slice none 0 0, .agg #[.int .i64 c, .int .i64 i]]) ∧ Below W.heap.size W w') :
    Calls Try.prog 6 #[.agg #[.slice ao no co, .slice ar nr cr], .int .i64 z, .slice aa na ca] w fun e w' => e = .returned (.bool true) ∧ Below w.heap.size w w' := by
  have HX := hide ((Below.refl w.heap.size w).alloc (Nat.le_refl _) (.cells #[.slice ao no co, .slice ar nr cr] 25))
  have HH := hide (new_block w (.cells #[.slice ao no co, .slice ar nr cr] 25))
  have HO := hide hO; have HR := hide hR; have HV := hide hv; have HBG := hide hbeg
  have i1 : ¬ (5000 : Int) < (na : Int) := by omega
  have i2 : ¬ z < 2 := by omega
  have i3 : ¬ 3 < z := by omega
  have HCY := hide hcy
  have x1 : (c != 0) = true := by simpa using hc
  clear hcy
  have hfl := fld0
  obtain ⟨W, eW⟩ : ∃ X, w.alloc (.cells #[.slice ao no co, .slice ar nr cr] 25) = X := ⟨_, rfl⟩
  rw [eW] at HX HH
  have HE := hide eW
  clear eW hO hR hv hbeg
  go_enter Try.func6, Try.ntmps6
  go_upto_region 1 with fail
  rw [unhide HE]
  clear HE
  go_upto_region 3 with (go_at_call 8; (with_reducible refine Calls.mono (unhide HBG _) ?_); rintro e w1 ⟨rfl, hb1⟩; have HX1 := hide (Below.next (unhide HX) hb1 (Nat.le_refl _)); have HH1 := hide (keep_below (unhide HH) hb1); clear hb1)
  obtain ⟨b0, b1, bf0, bf1, bl⟩ := block2 (unhide HH1)
  go_upto_region 5 with (go_at_call 9; (with_reducible refine Calls.mono (vastHeap_any _ ao no co ar nr cr us os rs ((unhide HO).below (unhide HX1)) ((unhide HR).below (unhide HX1)) (by omega)) ?_); rintro e w2 ⟨rfl, hb2⟩; rw [unhide HV]; have HX2 := hide (Below.next (unhide HX1) hb2 (Nat.le_refl _)); have HH2 := hide (keep_below (unhide HH1) hb2); clear hb2)
  clear b0 b1 bf0 bf1 bl
  obtain ⟨b0, b1, bf0, bf1, bl⟩ := block2 (unhide HH2)
  go_upto_region 6 with (go_at_call 19; (with_reducible refine Calls.mono (unhide HCY _ (unhide HX2)) ?_); rintro e w4 ⟨rfl, hb4⟩; have HX4 := hide (Below.next (unhide HX2) hb4 (Nat.le_refl _)); clear hb4)
  obtain ⟨W6, e6, hx6, hg6, hf6⟩ := two_new w4 (.cells #[.slice none 0 0, .slice none 0 0] 25) (.cells #[.int .i64 c, .int .i64 i] 30)
  rw [e6]
  clear e6
  have HX6 := hide (Below.next (unhide HX4) hx6 (Nat.le_refl _))
  clear b0 b1 bf0 bf1 bl
  obtain ⟨g0, g1, gf0, gf1, gl⟩ := block2 hg6
  obtain ⟨q0, q1, qf0, qf1, ql⟩ := block2 hf6
  clear hg6 hf6 hx6
  go_wp2_with fail
  go_ret
  exact ⟨rfl, unhide HX6⟩

end Go.Proofs.Ytmkehjncnaokoaa
