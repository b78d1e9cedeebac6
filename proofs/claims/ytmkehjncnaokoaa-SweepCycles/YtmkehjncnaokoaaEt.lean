/-
  law.SweepCycles: something is wrong.
-/
import Derived.Test.YtmkehjncnaokoaaEs
import Derived.Test.YtmkehjncnaokoaaCq
import Derived.Test.YtmkehjncnaokoaaSd
namespace Go.Proofs.Ytmkehjncnaokoaa
open Go.RowKit

theorem isll_nil (w : World) : IsLL w (.slice none 0 0) [] [] := ⟨isl_nil w, rfl, fun _ hi => absurd hi (Nat.not_lt_zero _)⟩

set_option maxRecDepth 100000 in
set_option maxHeartbeats 4000000 in
theorem cycles_heap (w : World) (ao : Option Addr) (no co : Nat) (ar : Option Addr) (nr cr : Nat) (z : Int) (aa : Option Addr) (na ca : Nat) (us : List Sl) (os : List (List Int)) (rs : List Int) (acts : List Ac) (hO : IsLL w (.slice ao no co) us os) (hR : IsL KI w (.slice ar nr cr) rs) (hA : IsL KA w (.slice aa na ca) acts) (hbeg : ∀ W : World, Calls Try.prog 8 #[] W fun e w' => e = .returned (.bool true) ∧ Below W.heap.size W w') (hv : vastB os rs = false) (hn6 : na ≤ 6000) (hc ha : Int) (hf : heapF os rs = (hc, ha)) (hhc : hc ≠ 0) :
    Calls Try.prog 4 #[.agg #[.slice ao no co, .slice ar nr cr], .int .i64 z, .slice aa na ca] w fun e w' => e = .returned (.bool true) ∧ Below w.heap.size w w' := by
  obtain ⟨hr1, hr2, hr3⟩ := vast_no hv
  have hol : os.length = no := by rw [← hO.len]; exact hO.row.len
  have hrn := hR.len
  have hno : no ≤ 1000 := by rw [← hol]; exact hr2
  have hnr : nr ≤ 1000 := by rw [← hrn]; exact hr3
  have HRL := hide hr1
  have HCY : Hid (∀ W a3 c3 a4 c4 vs a' c', IsLL W (.slice a3 no c3) vs os → IsL KI W (.slice a4 nr c4) rs → IsL KA W (.slice a' na c') acts → Calls Try.prog 19 #[.agg #[.slice a3 no c3, .slice a4 nr c4], .int .i64 z, .slice a' na c'] W fun e w' => ∃ (g1 : Option Addr) (n1 c1 : Nat) (g2 : Option Addr) (n2 c2 : Nat) (L : Value) (fc fa : Int), e = .returned (.tuple #[.agg #[.slice g1 n1 c1, .slice g2 n2 c2], L, .agg #[.int .i64 fc, .int .i64 fa]]) ∧ (g1 = none ∧ n1 = 0 ∧ c1 = 0 ∧ g2 = none ∧ n2 = 0 ∧ c2 = 0 ∧ L = .slice none 0 0 ∧ hc = fc ∧ ha = fa) ∧ Below W.heap.size W w') := fun W a3 c3 a4 c4 vs a' c' q1 q2 hW => (cycle_fault W a3 no c3 a4 nr c4 vs os rs q1 q2 z a' na c' hc ha (by unfold cyF; rw [hf]; exact if_pos hhc) hhc).mono fun e w' ⟨h1, h2⟩ => ⟨none, 0, 0, none, 0, 0, .slice none 0 0, hc, ha, h1, ⟨rfl, rfl, rfl, rfl, rfl, rfl, rfl, rfl, rfl⟩, h2⟩
  have HHF : Hid (∀ W, IsLL W (.slice ao no co) us os → IsL KI W (.slice ar nr cr) rs → Calls Try.prog 13 #[.agg #[.slice ao no co, .slice ar nr cr]] W fun e w' => e = .returned (.agg #[.int .i64 hc, .int .i64 ha]) ∧ Below W.heap.size W w') := fun W q1 q2 => by
    have h_ := heapsFault_any W ao no co ar nr cr us os rs q1 q2
    rwa [hf] at h_
  have HX := hide ((Below.refl w.heap.size w).alloc (Nat.le_refl _) (.cells #[.slice ao no co, .slice ar nr cr] 25))
  have HH := hide (new_block w (.cells #[.slice ao no co, .slice ar nr cr] 25))
  have HO := hide hO; have HR := hide hR; have HV := hide hv; have HBG := hide hbeg; have HA := hide hA
  have n1 : ¬ (6000 : Int) < (na : Int) := by omega
  have x1 : (hc == 0) = false := by simpa using hhc
  have x2 : (hc != 0) = true := by simpa using hhc
  have x3 : (hc != hc) = false := by simp
  have x4 : (ha != ha) = false := by simp
  have x5 : (hc == hc) = true := by simp
  have x6 : (ha == ha) = true := by simp
  clear hhc
  obtain ⟨W, eW⟩ : ∃ X, w.alloc (.cells #[.slice ao no co, .slice ar nr cr] 25) = X := ⟨_, rfl⟩
  rw [eW] at HX HH
  have HE := hide eW
  clear eW hO hR hv hbeg hf hA hr1 hr2 hr3 hol hrn
  go_enter Try.func4, Try.ntmps4
  go_upto_region 1 with fail
  rw [unhide HE]
  clear HE
  go_upto_region 3 with (go_at_call 8; (with_reducible refine Calls.mono (unhide HBG _) ?_); rintro e w1 ⟨rfl, hb1⟩; have HX1 := hide (Below.next (unhide HX) hb1 (Nat.le_refl _)); have HH1 := hide (keep_below (unhide HH) hb1); clear hb1)
  obtain ⟨b0, b1, bf0, bf1, bl⟩ := block2 (unhide HH1)
  go_upto_region 5 with (go_at_call 9; (with_reducible refine Calls.mono (vastHeap_any _ ao no co ar nr cr us os rs ((unhide HO).below (unhide HX1)) ((unhide HR).below (unhide HX1)) (by omega)) ?_); rintro e w2 ⟨rfl, hb2⟩; rw [unhide HV]; have HX2 := hide (Below.next (unhide HX1) hb2 (Nat.le_refl _)); have HH2 := hide (keep_below (unhide HH1) hb2); clear hb2)
  clear b0 b1 bf0 bf1 bl
  obtain ⟨b0, b1, bf0, bf1, bl⟩ := block2 (unhide HH2)
  go_upto_region 6 with (go_at_call 10; (with_reducible refine Calls.mono (ownHeap_any _ ao no co ar nr cr us os rs ((unhide HO).below (unhide HX2)) ((unhide HR).below (unhide HX2)) hno hnr (unhide HRL)) ?_); rintro e w3 ⟨a3, c3, a4, c4, rfl, ⟨us3, hi3⟩, hi4, hb3⟩; have HX3 := hide (Below.next (unhide HX2) hb3 (Nat.le_refl _)); have HH3 := hide (keep_below (unhide HH2) hb3); have HI3 := hide hi3; have HI4 := hide hi4; clear hi3 hi4 hb3)
  clear b0 b1 bf0 bf1 bl HX HX1 HX2 HH HH1 HH2
  have ha5 : Below w3.heap.size w3 (w3.alloc (.cells #[.slice a3 no c3, .slice a4 nr c4] 25)) := (Below.refl _ _).alloc (Nat.le_refl _) _
  have HX5 := hide (Below.next (unhide HX3) ha5 (Nat.le_refl _)); have HH5 := hide (keep_below (unhide HH3) ha5); have HXO5 := hide ((unhide HI3).below ha5); have HXR5 := hide ((unhide HI4).below ha5); have HBX5 := hide (new_block w3 (.cells #[.slice a3 no c3, .slice a4 nr c4] 25))
  obtain ⟨X, eX⟩ : ∃ X, w3.heap.size = X := ⟨_, rfl⟩
  obtain ⟨W5, e5⟩ : ∃ X, w3.alloc (.cells #[.slice a3 no c3, .slice a4 nr c4] 25) = X := ⟨_, rfl⟩
  rw [e5] at HX5 HH5 HXO5 HXR5
  rw [eX, e5] at HBX5
  rw [eX, e5]
  clear eX e5 ha5 HX3 HH3 HI3 HI4
  refine cycles_6 W5 X a3 no c3 a4 nr c4 z aa na ca acts (unhide HBX5) ((unhide HA).below (unhide HX5)) hn6 (fun _ _ g1 n1 c1 g2 n2 c2 L fc fa => g1 = none ∧ n1 = 0 ∧ c1 = 0 ∧ g2 = none ∧ n2 = 0 ∧ c2 = 0 ∧ L = .slice none 0 0 ∧ hc = fc ∧ ha = fa) (fun W a' c' hW hA' => unhide HCY W a3 c3 a4 c4 us3 a' c' ((unhide HXO5).below hW) ((unhide HXR5).below hW) hA') _ _ _ (by kernel_rfl) ?_
  rintro s25 s26 s27 s28 s29 s30 s31 s32 s33 G F g1 n1 c1 g2 n2 c2 L fc fa Wc w5 V hb6 ⟨rfl, rfl, rfl, rfl, rfl, rfl, rfl, rfl, rfl⟩ _ _ _ hG6 hF6
  have HXV := hide (Below.next (unhide HX5) hb6 (Nat.le_refl _)); have HBH := hide (keep_below (unhide HH5) hb6); have HBX := hide (keep_below (unhide HBX5) hb6); have HBG := hide hG6; have HBF := hide hF6; have HXO := hide ((unhide HXO5).below hb6); have HXR := hide ((unhide HXR5).below hb6)
  have HOV := hide ((unhide HO).below (unhide HXV)); have HRV := hide ((unhide HR).below (unhide HXV)); have HAV := hide ((unhide HA).below (unhide HXV))
  clear hb6 hG6 hF6 HX5 HH5 HBX5 HXO5 HXR5 HCY
  obtain ⟨b0, b1, bf0, bf1, bl⟩ := block2 (unhide HBH)
  go_upto_region 8 with (go_at_call 13; (with_reducible refine Calls.mono (unhide HHF _ (unhide HOV) (unhide HRV)) ?_); rintro e w7 ⟨rfl, hb7⟩; have HB7 := hide hb7; clear hb7)
  clear b0 b1 bf0 bf1 bl
  have HB8 := hide ((unhide HB7).alloc (unhide HB7).size (.cells #[.int .i64 hc, .int .i64 ha] 30)); have HD8 := hide (new_block w7 (.cells #[.int .i64 hc, .int .i64 ha] 30)); have HDZ := hide (unhide HB7).size
  obtain ⟨D, eD⟩ : ∃ X, w7.heap.size = X := ⟨_, rfl⟩
  obtain ⟨W8, e8⟩ : ∃ X, w7.alloc (.cells #[.int .i64 hc, .int .i64 ha] 30) = X := ⟨_, rfl⟩
  rw [e8] at HB8; rw [eD, e8] at HD8; rw [eD] at HDZ; rw [eD, e8]
  clear eD e8 HB7
  obtain ⟨d0, d1, df0, df1, dl⟩ := block2 (unhide HD8)
  go_upto_region 13 with fail
  have hb12 : Below W8.heap.size W8 (W8.alloc (.cells #[.slice none 0 0, .slice none 0 0] 25)) := (Below.refl _ _).alloc (Nat.le_refl _) _
  have HB12 := hide (Below.next (unhide HB8) hb12 (Nat.le_refl _)); have HD12 := hide (keep_below (unhide HD8) hb12); have HE12 := hide (new_block W8 (.cells #[.slice none 0 0, .slice none 0 0] 25))
  have HDE : Hid (D ≠ W8.heap.size) := Nat.ne_of_lt (size_of (unhide HD8)); have HEZ : Hid (V.heap.size ≤ W8.heap.size) := (unhide HB8).size
  obtain ⟨E, eE⟩ : ∃ X, W8.heap.size = X := ⟨_, rfl⟩
  obtain ⟨W12, e12⟩ : ∃ X, W8.alloc (.cells #[.slice none 0 0, .slice none 0 0] 25) = X := ⟨_, rfl⟩
  rw [e12] at HB12 HD12; rw [eE, e12] at HE12; rw [eE] at HDE HEZ; rw [eE, e12]
  clear eE e12 hb12 HB8 HD8
  clear d0 d1 df0 df1 dl
  obtain ⟨d0, d1, df0, df1, dl⟩ := block2 (unhide HD12)
  obtain ⟨b0, b1, bf0, bf1, bl⟩ := block2 (keep_below (unhide HBH) (unhide HB12)); obtain ⟨x0, x1, xf0, xf1, xl⟩ := block2 (keep_below (unhide HBX) (unhide HB12)); obtain ⟨f0, f1, ff0, ff1, fl⟩ := block2 (keep_below (unhide HBF) (unhide HB12))
  go_upto_region 18 with (go_at_call 14; (with_reducible refine Calls.mono (sameHeap_any _ a3 no c3 a4 nr c4 ao co ar cr us3 us os rs ((unhide HXO).below (unhide HB12)) ((unhide HXR).below (unhide HB12)) ((unhide HOV).below (unhide HB12)) ((unhide HRV).below (unhide HB12)) (by omega) (by omega) (fun i hi => Nat.le_trans (unhide HRL i hi) (by decide))) ?_); rintro e w17 ⟨rfl, hb17⟩; have HB17 := hide (Below.next (unhide HB12) hb17 (Nat.le_refl _)); have HD17 := hide (keep_below (unhide HD12) hb17); clear hb17)
  clear b0 b1 bf0 bf1 bl x0 x1 xf0 xf1 xl f0 f1 ff0 ff1 fl d0 d1 df0 df1 dl
  obtain ⟨d0, d1, df0, df1, dl⟩ := block2 (unhide HD17)
  obtain ⟨g0, g1, gf0, gf1, gl⟩ := block2 (keep_below (unhide HBG) (unhide HB17))
  go_wp2_with (go_at_call 14; (with_reducible refine Calls.mono (sameHeap_any _ none 0 0 none 0 0 none 0 none 0 [] [] [] [] (isll_nil _) (isl_nil _) (isll_nil _) (isl_nil _) (by decide) (by decide) (fun i hi => absurd hi (Nat.not_lt_zero _))) ?_); rintro e w18 ⟨rfl, hb18⟩; have HB18 := hide (Below.next (unhide HB17) hb18 (Nat.le_refl _)); clear hb18)
  go_ret
  exact ⟨rfl, Below.next (unhide HXV) (unhide HB18) (Nat.le_refl _)⟩

set_option maxRecDepth 100000 in
set_option maxHeartbeats 4000000 in
theorem cycles_z0 (w : World) (ao : Option Addr) (no co : Nat) (ar : Option Addr) (nr cr : Nat) (z : Int) (aa : Option Addr) (na ca : Nat) (us : List Sl) (os : List (List Int)) (rs : List Int) (acts : List Ac) (hO : IsLL w (.slice ao no co) us os) (hR : IsL KI w (.slice ar nr cr) rs) (hA : IsL KA w (.slice aa na ca) acts) (hbeg : ∀ W : World, Calls Try.prog 8 #[] W fun e w' => e = .returned (.bool true) ∧ Below W.heap.size W w') (hv : vastB os rs = false) (hn6 : na ≤ 6000) (hf : heapF os rs = (0, 0)) (hz : z < 0) :
    Calls Try.prog 4 #[.agg #[.slice ao no co, .slice ar nr cr], .int .i64 z, .slice aa na ca] w fun e w' => e = .returned (.bool true) ∧ Below w.heap.size w w' := by
  obtain ⟨hr1, hr2, hr3⟩ := vast_no hv
  have hol : os.length = no := by rw [← hO.len]; exact hO.row.len
  have hrn := hR.len
  have hno : no ≤ 1000 := by rw [← hol]; exact hr2
  have hnr : nr ≤ 1000 := by rw [← hrn]; exact hr3
  have HRL := hide hr1
  have HCY : Hid (∀ W a3 c3 a4 c4 vs a' c', IsLL W (.slice a3 no c3) vs os → IsL KI W (.slice a4 nr c4) rs → IsL KA W (.slice a' na c') acts → Calls Try.prog 19 #[.agg #[.slice a3 no c3, .slice a4 nr c4], .int .i64 z, .slice a' na c'] W fun e w' => ∃ (g1 : Option Addr) (n1 c1 : Nat) (g2 : Option Addr) (n2 c2 : Nat) (L : Value) (fc fa : Int), e = .returned (.tuple #[.agg #[.slice g1 n1 c1, .slice g2 n2 c2], L, .agg #[.int .i64 fc, .int .i64 fa]]) ∧ (g1 = none ∧ n1 = 0 ∧ c1 = 0 ∧ g2 = none ∧ n2 = 0 ∧ c2 = 0 ∧ L = .slice none 0 0 ∧ 4 = fc ∧ (-1) = fa) ∧ Below W.heap.size W w') := fun W a3 c3 a4 c4 vs a' c' q1 q2 hW => (cycle_fault W a3 no c3 a4 nr c4 vs os rs q1 q2 z a' na c' 4 (-1) (by unfold cyF; rw [hf, if_neg (by decide), if_pos (Or.inl hz)]) (by decide)).mono fun e w' ⟨h1, h2⟩ => ⟨none, 0, 0, none, 0, 0, .slice none 0 0, 4, (-1), h1, ⟨rfl, rfl, rfl, rfl, rfl, rfl, rfl, rfl, rfl⟩, h2⟩
  have HHF : Hid (∀ W, IsLL W (.slice ao no co) us os → IsL KI W (.slice ar nr cr) rs → Calls Try.prog 13 #[.agg #[.slice ao no co, .slice ar nr cr]] W fun e w' => e = .returned (.agg #[.int .i64 0, .int .i64 0]) ∧ Below W.heap.size W w') := fun W q1 q2 => by
    have h_ := heapsFault_any W ao no co ar nr cr us os rs q1 q2
    rwa [hf] at h_
  have HX := hide ((Below.refl w.heap.size w).alloc (Nat.le_refl _) (.cells #[.slice ao no co, .slice ar nr cr] 25))
  have HH := hide (new_block w (.cells #[.slice ao no co, .slice ar nr cr] 25))
  have HO := hide hO; have HR := hide hR; have HV := hide hv; have HBG := hide hbeg; have HA := hide hA
  have n1 : ¬ (6000 : Int) < (na : Int) := by omega
  obtain ⟨W, eW⟩ : ∃ X, w.alloc (.cells #[.slice ao no co, .slice ar nr cr] 25) = X := ⟨_, rfl⟩
  rw [eW] at HX HH
  have HE := hide eW
  clear eW hO hR hv hbeg hf hA hr1 hr2 hr3 hol hrn
  go_enter Try.func4, Try.ntmps4
  go_upto_region 1 with fail
  rw [unhide HE]
  clear HE
  go_upto_region 3 with (go_at_call 8; (with_reducible refine Calls.mono (unhide HBG _) ?_); rintro e w1 ⟨rfl, hb1⟩; have HX1 := hide (Below.next (unhide HX) hb1 (Nat.le_refl _)); have HH1 := hide (keep_below (unhide HH) hb1); clear hb1)
  obtain ⟨b0, b1, bf0, bf1, bl⟩ := block2 (unhide HH1)
  go_upto_region 5 with (go_at_call 9; (with_reducible refine Calls.mono (vastHeap_any _ ao no co ar nr cr us os rs ((unhide HO).below (unhide HX1)) ((unhide HR).below (unhide HX1)) (by omega)) ?_); rintro e w2 ⟨rfl, hb2⟩; rw [unhide HV]; have HX2 := hide (Below.next (unhide HX1) hb2 (Nat.le_refl _)); have HH2 := hide (keep_below (unhide HH1) hb2); clear hb2)
  clear b0 b1 bf0 bf1 bl
  obtain ⟨b0, b1, bf0, bf1, bl⟩ := block2 (unhide HH2)
  go_upto_region 6 with (go_at_call 10; (with_reducible refine Calls.mono (ownHeap_any _ ao no co ar nr cr us os rs ((unhide HO).below (unhide HX2)) ((unhide HR).below (unhide HX2)) hno hnr (unhide HRL)) ?_); rintro e w3 ⟨a3, c3, a4, c4, rfl, ⟨us3, hi3⟩, hi4, hb3⟩; have HX3 := hide (Below.next (unhide HX2) hb3 (Nat.le_refl _)); have HH3 := hide (keep_below (unhide HH2) hb3); have HI3 := hide hi3; have HI4 := hide hi4; clear hi3 hi4 hb3)
  clear b0 b1 bf0 bf1 bl HX HX1 HX2 HH HH1 HH2
  have ha5 : Below w3.heap.size w3 (w3.alloc (.cells #[.slice a3 no c3, .slice a4 nr c4] 25)) := (Below.refl _ _).alloc (Nat.le_refl _) _
  have HX5 := hide (Below.next (unhide HX3) ha5 (Nat.le_refl _)); have HH5 := hide (keep_below (unhide HH3) ha5); have HXO5 := hide ((unhide HI3).below ha5); have HXR5 := hide ((unhide HI4).below ha5); have HBX5 := hide (new_block w3 (.cells #[.slice a3 no c3, .slice a4 nr c4] 25))
  obtain ⟨X, eX⟩ : ∃ X, w3.heap.size = X := ⟨_, rfl⟩
  obtain ⟨W5, e5⟩ : ∃ X, w3.alloc (.cells #[.slice a3 no c3, .slice a4 nr c4] 25) = X := ⟨_, rfl⟩
  rw [e5] at HX5 HH5 HXO5 HXR5
  rw [eX, e5] at HBX5
  rw [eX, e5]
  clear eX e5 ha5 HX3 HH3 HI3 HI4
  refine cycles_6 W5 X a3 no c3 a4 nr c4 z aa na ca acts (unhide HBX5) ((unhide HA).below (unhide HX5)) hn6 (fun _ _ g1 n1 c1 g2 n2 c2 L fc fa => g1 = none ∧ n1 = 0 ∧ c1 = 0 ∧ g2 = none ∧ n2 = 0 ∧ c2 = 0 ∧ L = .slice none 0 0 ∧ 4 = fc ∧ (-1) = fa) (fun W a' c' hW hA' => unhide HCY W a3 c3 a4 c4 us3 a' c' ((unhide HXO5).below hW) ((unhide HXR5).below hW) hA') _ _ _ (by kernel_rfl) ?_
  rintro s25 s26 s27 s28 s29 s30 s31 s32 s33 G F g1 n1 c1 g2 n2 c2 L fc fa Wc w5 V hb6 ⟨rfl, rfl, rfl, rfl, rfl, rfl, rfl, rfl, rfl⟩ _ _ _ hG6 hF6
  have HXV := hide (Below.next (unhide HX5) hb6 (Nat.le_refl _)); have HBH := hide (keep_below (unhide HH5) hb6); have HBX := hide (keep_below (unhide HBX5) hb6); have HBG := hide hG6; have HBF := hide hF6; have HXO := hide ((unhide HXO5).below hb6); have HXR := hide ((unhide HXR5).below hb6)
  have HOV := hide ((unhide HO).below (unhide HXV)); have HRV := hide ((unhide HR).below (unhide HXV)); have HAV := hide ((unhide HA).below (unhide HXV))
  clear hb6 hG6 hF6 HX5 HH5 HBX5 HXO5 HXR5 HCY
  obtain ⟨b0, b1, bf0, bf1, bl⟩ := block2 (unhide HBH)
  go_upto_region 8 with (go_at_call 13; (with_reducible refine Calls.mono (unhide HHF _ (unhide HOV) (unhide HRV)) ?_); rintro e w7 ⟨rfl, hb7⟩; have HB7 := hide hb7; clear hb7)
  clear b0 b1 bf0 bf1 bl
  have HB8 := hide ((unhide HB7).alloc (unhide HB7).size (.cells #[.int .i64 0, .int .i64 0] 30)); have HD8 := hide (new_block w7 (.cells #[.int .i64 0, .int .i64 0] 30)); have HDZ := hide (unhide HB7).size
  obtain ⟨D, eD⟩ : ∃ X, w7.heap.size = X := ⟨_, rfl⟩
  obtain ⟨W8, e8⟩ : ∃ X, w7.alloc (.cells #[.int .i64 0, .int .i64 0] 30) = X := ⟨_, rfl⟩
  rw [e8] at HB8; rw [eD, e8] at HD8; rw [eD] at HDZ; rw [eD, e8]
  clear eD e8 HB7
  obtain ⟨d0, d1, df0, df1, dl⟩ := block2 (unhide HD8)
  go_upto_region 10 with (go_at_call 20; (with_reducible refine Calls.mono (F_any _ _ _) ?_); rintro e w9 ⟨rfl, hb9⟩; have HB9 := hide (Below.next (unhide HB8) hb9 (Nat.le_refl _)); have HD9 := hide (keep_below (unhide HD8) hb9); clear d0 d1 df0 df1 dl; clear hb9; obtain ⟨d0, d1, df0, df1, dl⟩ := block2 (unhide HD9))
  have hb10 : Below V.heap.size V (put2 w9 D (.int .i64 4) (.int .i64 (-1))) := put2_below (unhide HB9) (unhide HDZ)
  have hd10 : (put2 w9 D (.int .i64 4) (.int .i64 (-1))).heap[D]? = some (.cells #[.int .i64 4, .int .i64 (-1)] 30 (0, 0)) := put2_new (unhide HD9)
  unfold put2 at hb10 hd10
  obtain ⟨W10, e10⟩ : ∃ X, (w9.setCell ⟨D, 0, none⟩ (.int .i64 4)).setCell ⟨D, 1, none⟩ (.int .i64 (-1)) = X := ⟨_, rfl⟩
  rw [e10] at hb10 hd10
  rw [e10]
  have HB10 := hide hb10; have HD10 := hide hd10
  clear e10 hb10 hd10 HB8 HD8 HB9 HD9
  clear d0 d1 df0 df1 dl
  obtain ⟨d0, d1, df0, df1, dl⟩ := block2 (unhide HD10)
  go_upto_region 13 with fail
  have hb12 : Below W10.heap.size W10 (W10.alloc (.cells #[.slice none 0 0, .slice none 0 0] 25)) := (Below.refl _ _).alloc (Nat.le_refl _) _
  have HB12 := hide (Below.next (unhide HB10) hb12 (Nat.le_refl _)); have HD12 := hide (keep_below (unhide HD10) hb12); have HE12 := hide (new_block W10 (.cells #[.slice none 0 0, .slice none 0 0] 25))
  have HDE : Hid (D ≠ W10.heap.size) := Nat.ne_of_lt (size_of (unhide HD10)); have HEZ : Hid (V.heap.size ≤ W10.heap.size) := (unhide HB10).size
  obtain ⟨E, eE⟩ : ∃ X, W10.heap.size = X := ⟨_, rfl⟩
  obtain ⟨W12, e12⟩ : ∃ X, W10.alloc (.cells #[.slice none 0 0, .slice none 0 0] 25) = X := ⟨_, rfl⟩
  rw [e12] at HB12 HD12; rw [eE, e12] at HE12; rw [eE] at HDE HEZ; rw [eE, e12]
  clear eE e12 hb12 HB10 HD10
  clear d0 d1 df0 df1 dl
  obtain ⟨d0, d1, df0, df1, dl⟩ := block2 (unhide HD12)
  obtain ⟨b0, b1, bf0, bf1, bl⟩ := block2 (keep_below (unhide HBH) (unhide HB12)); obtain ⟨x0, x1, xf0, xf1, xl⟩ := block2 (keep_below (unhide HBX) (unhide HB12)); obtain ⟨f0, f1, ff0, ff1, fl⟩ := block2 (keep_below (unhide HBF) (unhide HB12))
  go_upto_region 18 with (go_at_call 14; (with_reducible refine Calls.mono (sameHeap_any _ a3 no c3 a4 nr c4 ao co ar cr us3 us os rs ((unhide HXO).below (unhide HB12)) ((unhide HXR).below (unhide HB12)) ((unhide HOV).below (unhide HB12)) ((unhide HRV).below (unhide HB12)) (by omega) (by omega) (fun i hi => Nat.le_trans (unhide HRL i hi) (by decide))) ?_); rintro e w17 ⟨rfl, hb17⟩; have HB17 := hide (Below.next (unhide HB12) hb17 (Nat.le_refl _)); have HD17 := hide (keep_below (unhide HD12) hb17); clear hb17)
  clear b0 b1 bf0 bf1 bl x0 x1 xf0 xf1 xl f0 f1 ff0 ff1 fl d0 d1 df0 df1 dl
  obtain ⟨d0, d1, df0, df1, dl⟩ := block2 (unhide HD17)
  obtain ⟨g0, g1, gf0, gf1, gl⟩ := block2 (keep_below (unhide HBG) (unhide HB17))
  go_wp2_with (go_at_call 14; (with_reducible refine Calls.mono (sameHeap_any _ none 0 0 none 0 0 none 0 none 0 [] [] [] [] (isll_nil _) (isl_nil _) (isll_nil _) (isl_nil _) (by decide) (by decide) (fun i hi => absurd hi (Nat.not_lt_zero _))) ?_); rintro e w18 ⟨rfl, hb18⟩; have HB18 := hide (Below.next (unhide HB17) hb18 (Nat.le_refl _)); clear hb18)
  go_ret
  exact ⟨rfl, Below.next (unhide HXV) (unhide HB18) (Nat.le_refl _)⟩

set_option maxRecDepth 100000 in
set_option maxHeartbeats 4000000 in
theorem cycles_z3 (w : World) (ao : Option Addr) (no co : Nat) (ar : Option Addr) (nr cr : Nat) (z : Int) (aa : Option Addr) (na ca : Nat) (us : List Sl) (os : List (List Int)) (rs : List Int) (acts : List Ac) (hO : IsLL w (.slice ao no co) us os) (hR : IsL KI w (.slice ar nr cr) rs) (hA : IsL KA w (.slice aa na ca) acts) (hbeg : ∀ W : World, Calls Try.prog 8 #[] W fun e w' => e = .returned (.bool true) ∧ Below W.heap.size W w') (hv : vastB os rs = false) (hn6 : na ≤ 6000) (hf : heapF os rs = (0, 0)) (hz : 3 < z) :
    Calls Try.prog 4 #[.agg #[.slice ao no co, .slice ar nr cr], .int .i64 z, .slice aa na ca] w fun e w' => e = .returned (.bool true) ∧ Below w.heap.size w w' := by
  obtain ⟨hr1, hr2, hr3⟩ := vast_no hv
  have hol : os.length = no := by rw [← hO.len]; exact hO.row.len
  have hrn := hR.len
  have hno : no ≤ 1000 := by rw [← hol]; exact hr2
  have hnr : nr ≤ 1000 := by rw [← hrn]; exact hr3
  have HRL := hide hr1
  have HCY : Hid (∀ W a3 c3 a4 c4 vs a' c', IsLL W (.slice a3 no c3) vs os → IsL KI W (.slice a4 nr c4) rs → IsL KA W (.slice a' na c') acts → Calls Try.prog 19 #[.agg #[.slice a3 no c3, .slice a4 nr c4], .int .i64 z, .slice a' na c'] W fun e w' => ∃ (g1 : Option Addr) (n1 c1 : Nat) (g2 : Option Addr) (n2 c2 : Nat) (L : Value) (fc fa : Int), e = .returned (.tuple #[.agg #[.slice g1 n1 c1, .slice g2 n2 c2], L, .agg #[.int .i64 fc, .int .i64 fa]]) ∧ (g1 = none ∧ n1 = 0 ∧ c1 = 0 ∧ g2 = none ∧ n2 = 0 ∧ c2 = 0 ∧ L = .slice none 0 0 ∧ 4 = fc ∧ (-1) = fa) ∧ Below W.heap.size W w') := fun W a3 c3 a4 c4 vs a' c' q1 q2 hW => (cycle_fault W a3 no c3 a4 nr c4 vs os rs q1 q2 z a' na c' 4 (-1) (by unfold cyF; rw [hf, if_neg (by decide), if_pos (Or.inr hz)]) (by decide)).mono fun e w' ⟨h1, h2⟩ => ⟨none, 0, 0, none, 0, 0, .slice none 0 0, 4, (-1), h1, ⟨rfl, rfl, rfl, rfl, rfl, rfl, rfl, rfl, rfl⟩, h2⟩
  have HHF : Hid (∀ W, IsLL W (.slice ao no co) us os → IsL KI W (.slice ar nr cr) rs → Calls Try.prog 13 #[.agg #[.slice ao no co, .slice ar nr cr]] W fun e w' => e = .returned (.agg #[.int .i64 0, .int .i64 0]) ∧ Below W.heap.size W w') := fun W q1 q2 => by
    have h_ := heapsFault_any W ao no co ar nr cr us os rs q1 q2
    rwa [hf] at h_
  have HX := hide ((Below.refl w.heap.size w).alloc (Nat.le_refl _) (.cells #[.slice ao no co, .slice ar nr cr] 25))
  have HH := hide (new_block w (.cells #[.slice ao no co, .slice ar nr cr] 25))
  have HO := hide hO; have HR := hide hR; have HV := hide hv; have HBG := hide hbeg; have HA := hide hA
  have n1 : ¬ (6000 : Int) < (na : Int) := by omega
  have y1 : ¬ z < 0 := by omega
  obtain ⟨W, eW⟩ : ∃ X, w.alloc (.cells #[.slice ao no co, .slice ar nr cr] 25) = X := ⟨_, rfl⟩
  rw [eW] at HX HH
  have HE := hide eW
  clear eW hO hR hv hbeg hf hA hr1 hr2 hr3 hol hrn
  go_enter Try.func4, Try.ntmps4
  go_upto_region 1 with fail
  rw [unhide HE]
  clear HE
  go_upto_region 3 with (go_at_call 8; (with_reducible refine Calls.mono (unhide HBG _) ?_); rintro e w1 ⟨rfl, hb1⟩; have HX1 := hide (Below.next (unhide HX) hb1 (Nat.le_refl _)); have HH1 := hide (keep_below (unhide HH) hb1); clear hb1)
  obtain ⟨b0, b1, bf0, bf1, bl⟩ := block2 (unhide HH1)
  go_upto_region 5 with (go_at_call 9; (with_reducible refine Calls.mono (vastHeap_any _ ao no co ar nr cr us os rs ((unhide HO).below (unhide HX1)) ((unhide HR).below (unhide HX1)) (by omega)) ?_); rintro e w2 ⟨rfl, hb2⟩; rw [unhide HV]; have HX2 := hide (Below.next (unhide HX1) hb2 (Nat.le_refl _)); have HH2 := hide (keep_below (unhide HH1) hb2); clear hb2)
  clear b0 b1 bf0 bf1 bl
  obtain ⟨b0, b1, bf0, bf1, bl⟩ := block2 (unhide HH2)
  go_upto_region 6 with (go_at_call 10; (with_reducible refine Calls.mono (ownHeap_any _ ao no co ar nr cr us os rs ((unhide HO).below (unhide HX2)) ((unhide HR).below (unhide HX2)) hno hnr (unhide HRL)) ?_); rintro e w3 ⟨a3, c3, a4, c4, rfl, ⟨us3, hi3⟩, hi4, hb3⟩; have HX3 := hide (Below.next (unhide HX2) hb3 (Nat.le_refl _)); have HH3 := hide (keep_below (unhide HH2) hb3); have HI3 := hide hi3; have HI4 := hide hi4; clear hi3 hi4 hb3)
  clear b0 b1 bf0 bf1 bl HX HX1 HX2 HH HH1 HH2
  have ha5 : Below w3.heap.size w3 (w3.alloc (.cells #[.slice a3 no c3, .slice a4 nr c4] 25)) := (Below.refl _ _).alloc (Nat.le_refl _) _
  have HX5 := hide (Below.next (unhide HX3) ha5 (Nat.le_refl _)); have HH5 := hide (keep_below (unhide HH3) ha5); have HXO5 := hide ((unhide HI3).below ha5); have HXR5 := hide ((unhide HI4).below ha5); have HBX5 := hide (new_block w3 (.cells #[.slice a3 no c3, .slice a4 nr c4] 25))
  obtain ⟨X, eX⟩ : ∃ X, w3.heap.size = X := ⟨_, rfl⟩
  obtain ⟨W5, e5⟩ : ∃ X, w3.alloc (.cells #[.slice a3 no c3, .slice a4 nr c4] 25) = X := ⟨_, rfl⟩
  rw [e5] at HX5 HH5 HXO5 HXR5
  rw [eX, e5] at HBX5
  rw [eX, e5]
  clear eX e5 ha5 HX3 HH3 HI3 HI4
  refine cycles_6 W5 X a3 no c3 a4 nr c4 z aa na ca acts (unhide HBX5) ((unhide HA).below (unhide HX5)) hn6 (fun _ _ g1 n1 c1 g2 n2 c2 L fc fa => g1 = none ∧ n1 = 0 ∧ c1 = 0 ∧ g2 = none ∧ n2 = 0 ∧ c2 = 0 ∧ L = .slice none 0 0 ∧ 4 = fc ∧ (-1) = fa) (fun W a' c' hW hA' => unhide HCY W a3 c3 a4 c4 us3 a' c' ((unhide HXO5).below hW) ((unhide HXR5).below hW) hA') _ _ _ (by kernel_rfl) ?_
  rintro s25 s26 s27 s28 s29 s30 s31 s32 s33 G F g1 n1 c1 g2 n2 c2 L fc fa Wc w5 V hb6 ⟨rfl, rfl, rfl, rfl, rfl, rfl, rfl, rfl, rfl⟩ _ _ _ hG6 hF6
  have HXV := hide (Below.next (unhide HX5) hb6 (Nat.le_refl _)); have HBH := hide (keep_below (unhide HH5) hb6); have HBX := hide (keep_below (unhide HBX5) hb6); have HBG := hide hG6; have HBF := hide hF6; have HXO := hide ((unhide HXO5).below hb6); have HXR := hide ((unhide HXR5).below hb6)
  have HOV := hide ((unhide HO).below (unhide HXV)); have HRV := hide ((unhide HR).below (unhide HXV)); have HAV := hide ((unhide HA).below (unhide HXV))
  clear hb6 hG6 hF6 HX5 HH5 HBX5 HXO5 HXR5 HCY
  obtain ⟨b0, b1, bf0, bf1, bl⟩ := block2 (unhide HBH)
  go_upto_region 8 with (go_at_call 13; (with_reducible refine Calls.mono (unhide HHF _ (unhide HOV) (unhide HRV)) ?_); rintro e w7 ⟨rfl, hb7⟩; have HB7 := hide hb7; clear hb7)
  clear b0 b1 bf0 bf1 bl
  have HB8 := hide ((unhide HB7).alloc (unhide HB7).size (.cells #[.int .i64 0, .int .i64 0] 30)); have HD8 := hide (new_block w7 (.cells #[.int .i64 0, .int .i64 0] 30)); have HDZ := hide (unhide HB7).size
  obtain ⟨D, eD⟩ : ∃ X, w7.heap.size = X := ⟨_, rfl⟩
  obtain ⟨W8, e8⟩ : ∃ X, w7.alloc (.cells #[.int .i64 0, .int .i64 0] 30) = X := ⟨_, rfl⟩
  rw [e8] at HB8; rw [eD, e8] at HD8; rw [eD] at HDZ; rw [eD, e8]
  clear eD e8 HB7
  obtain ⟨d0, d1, df0, df1, dl⟩ := block2 (unhide HD8)
  go_upto_region 10 with (go_at_call 20; (with_reducible refine Calls.mono (F_any _ _ _) ?_); rintro e w9 ⟨rfl, hb9⟩; have HB9 := hide (Below.next (unhide HB8) hb9 (Nat.le_refl _)); have HD9 := hide (keep_below (unhide HD8) hb9); clear d0 d1 df0 df1 dl; clear hb9; obtain ⟨d0, d1, df0, df1, dl⟩ := block2 (unhide HD9))
  have hb10 : Below V.heap.size V (put2 w9 D (.int .i64 4) (.int .i64 (-1))) := put2_below (unhide HB9) (unhide HDZ)
  have hd10 : (put2 w9 D (.int .i64 4) (.int .i64 (-1))).heap[D]? = some (.cells #[.int .i64 4, .int .i64 (-1)] 30 (0, 0)) := put2_new (unhide HD9)
  unfold put2 at hb10 hd10
  obtain ⟨W10, e10⟩ : ∃ X, (w9.setCell ⟨D, 0, none⟩ (.int .i64 4)).setCell ⟨D, 1, none⟩ (.int .i64 (-1)) = X := ⟨_, rfl⟩
  rw [e10] at hb10 hd10
  rw [e10]
  have HB10 := hide hb10; have HD10 := hide hd10
  clear e10 hb10 hd10 HB8 HD8 HB9 HD9
  clear d0 d1 df0 df1 dl
  obtain ⟨d0, d1, df0, df1, dl⟩ := block2 (unhide HD10)
  go_upto_region 13 with fail
  have hb12 : Below W10.heap.size W10 (W10.alloc (.cells #[.slice none 0 0, .slice none 0 0] 25)) := (Below.refl _ _).alloc (Nat.le_refl _) _
  have HB12 := hide (Below.next (unhide HB10) hb12 (Nat.le_refl _)); have HD12 := hide (keep_below (unhide HD10) hb12); have HE12 := hide (new_block W10 (.cells #[.slice none 0 0, .slice none 0 0] 25))
  have HDE : Hid (D ≠ W10.heap.size) := Nat.ne_of_lt (size_of (unhide HD10)); have HEZ : Hid (V.heap.size ≤ W10.heap.size) := (unhide HB10).size
  obtain ⟨E, eE⟩ : ∃ X, W10.heap.size = X := ⟨_, rfl⟩
  obtain ⟨W12, e12⟩ : ∃ X, W10.alloc (.cells #[.slice none 0 0, .slice none 0 0] 25) = X := ⟨_, rfl⟩
  rw [e12] at HB12 HD12; rw [eE, e12] at HE12; rw [eE] at HDE HEZ; rw [eE, e12]
  clear eE e12 hb12 HB10 HD10
  clear d0 d1 df0 df1 dl
  obtain ⟨d0, d1, df0, df1, dl⟩ := block2 (unhide HD12)
  obtain ⟨b0, b1, bf0, bf1, bl⟩ := block2 (keep_below (unhide HBH) (unhide HB12)); obtain ⟨x0, x1, xf0, xf1, xl⟩ := block2 (keep_below (unhide HBX) (unhide HB12)); obtain ⟨f0, f1, ff0, ff1, fl⟩ := block2 (keep_below (unhide HBF) (unhide HB12))
  go_upto_region 18 with (go_at_call 14; (with_reducible refine Calls.mono (sameHeap_any _ a3 no c3 a4 nr c4 ao co ar cr us3 us os rs ((unhide HXO).below (unhide HB12)) ((unhide HXR).below (unhide HB12)) ((unhide HOV).below (unhide HB12)) ((unhide HRV).below (unhide HB12)) (by omega) (by omega) (fun i hi => Nat.le_trans (unhide HRL i hi) (by decide))) ?_); rintro e w17 ⟨rfl, hb17⟩; have HB17 := hide (Below.next (unhide HB12) hb17 (Nat.le_refl _)); have HD17 := hide (keep_below (unhide HD12) hb17); clear hb17)
  clear b0 b1 bf0 bf1 bl x0 x1 xf0 xf1 xl f0 f1 ff0 ff1 fl d0 d1 df0 df1 dl
  obtain ⟨d0, d1, df0, df1, dl⟩ := block2 (unhide HD17)
  obtain ⟨g0, g1, gf0, gf1, gl⟩ := block2 (keep_below (unhide HBG) (unhide HB17))
  go_wp2_with (go_at_call 14; (with_reducible refine Calls.mono (sameHeap_any _ none 0 0 none 0 0 none 0 none 0 [] [] [] [] (isll_nil _) (isl_nil _) (isll_nil _) (isl_nil _) (by decide) (by decide) (fun i hi => absurd hi (Nat.not_lt_zero _))) ?_); rintro e w18 ⟨rfl, hb18⟩; have HB18 := hide (Below.next (unhide HB17) hb18 (Nat.le_refl _)); clear hb18)
  go_ret
  exact ⟨rfl, Below.next (unhide HXV) (unhide HB18) (Nat.le_refl _)⟩

set_option maxRecDepth 100000 in
set_option maxHeartbeats 4000000 in
theorem cycles_na (w : World) (ao : Option Addr) (no co : Nat) (ar : Option Addr) (nr cr : Nat) (z : Int) (aa : Option Addr) (na ca : Nat) (us : List Sl) (os : List (List Int)) (rs : List Int) (acts : List Ac) (hO : IsLL w (.slice ao no co) us os) (hR : IsL KI w (.slice ar nr cr) rs) (hA : IsL KA w (.slice aa na ca) acts) (hbeg : ∀ W : World, Calls Try.prog 8 #[] W fun e w' => e = .returned (.bool true) ∧ Below W.heap.size W w') (hv : vastB os rs = false) (hn6 : na ≤ 6000) (hf : heapF os rs = (0, 0)) (hz0 : 0 ≤ z) (hz3 : z ≤ 3) (hna : 5000 < na) :
    Calls Try.prog 4 #[.agg #[.slice ao no co, .slice ar nr cr], .int .i64 z, .slice aa na ca] w fun e w' => e = .returned (.bool true) ∧ Below w.heap.size w w' := by
  obtain ⟨hr1, hr2, hr3⟩ := vast_no hv
  have hol : os.length = no := by rw [← hO.len]; exact hO.row.len
  have hrn := hR.len
  have hno : no ≤ 1000 := by rw [← hol]; exact hr2
  have hnr : nr ≤ 1000 := by rw [← hrn]; exact hr3
  have HRL := hide hr1
  have HCY : Hid (∀ W a3 c3 a4 c4 vs a' c', IsLL W (.slice a3 no c3) vs os → IsL KI W (.slice a4 nr c4) rs → IsL KA W (.slice a' na c') acts → Calls Try.prog 19 #[.agg #[.slice a3 no c3, .slice a4 nr c4], .int .i64 z, .slice a' na c'] W fun e w' => ∃ (g1 : Option Addr) (n1 c1 : Nat) (g2 : Option Addr) (n2 c2 : Nat) (L : Value) (fc fa : Int), e = .returned (.tuple #[.agg #[.slice g1 n1 c1, .slice g2 n2 c2], L, .agg #[.int .i64 fc, .int .i64 fa]]) ∧ (g1 = none ∧ n1 = 0 ∧ c1 = 0 ∧ g2 = none ∧ n2 = 0 ∧ c2 = 0 ∧ L = .slice none 0 0 ∧ 2 = fc ∧ (-1) = fa) ∧ Below W.heap.size W w') := fun W a3 c3 a4 c4 vs a' c' q1 q2 hW => (cycle_fault W a3 no c3 a4 nr c4 vs os rs q1 q2 z a' na c' 2 (-1) (by unfold cyF; rw [hf, if_neg (by decide), if_neg (by omega), if_pos hna]) (by decide)).mono fun e w' ⟨h1, h2⟩ => ⟨none, 0, 0, none, 0, 0, .slice none 0 0, 2, (-1), h1, ⟨rfl, rfl, rfl, rfl, rfl, rfl, rfl, rfl, rfl⟩, h2⟩
  have HHF : Hid (∀ W, IsLL W (.slice ao no co) us os → IsL KI W (.slice ar nr cr) rs → Calls Try.prog 13 #[.agg #[.slice ao no co, .slice ar nr cr]] W fun e w' => e = .returned (.agg #[.int .i64 0, .int .i64 0]) ∧ Below W.heap.size W w') := fun W q1 q2 => by
    have h_ := heapsFault_any W ao no co ar nr cr us os rs q1 q2
    rwa [hf] at h_
  have HX := hide ((Below.refl w.heap.size w).alloc (Nat.le_refl _) (.cells #[.slice ao no co, .slice ar nr cr] 25))
  have HH := hide (new_block w (.cells #[.slice ao no co, .slice ar nr cr] 25))
  have HO := hide hO; have HR := hide hR; have HV := hide hv; have HBG := hide hbeg; have HA := hide hA
  have n1 : ¬ (6000 : Int) < (na : Int) := by omega
  have y1 : ¬ z < 0 := by omega
  have y2 : ¬ 3 < z := by omega
  have y3 : (5000 : Int) < (na : Int) := by omega
  obtain ⟨W, eW⟩ : ∃ X, w.alloc (.cells #[.slice ao no co, .slice ar nr cr] 25) = X := ⟨_, rfl⟩
  rw [eW] at HX HH
  have HE := hide eW
  clear eW hO hR hv hbeg hf hA hr1 hr2 hr3 hol hrn
  go_enter Try.func4, Try.ntmps4
  go_upto_region 1 with fail
  rw [unhide HE]
  clear HE
  go_upto_region 3 with (go_at_call 8; (with_reducible refine Calls.mono (unhide HBG _) ?_); rintro e w1 ⟨rfl, hb1⟩; have HX1 := hide (Below.next (unhide HX) hb1 (Nat.le_refl _)); have HH1 := hide (keep_below (unhide HH) hb1); clear hb1)
  obtain ⟨b0, b1, bf0, bf1, bl⟩ := block2 (unhide HH1)
  go_upto_region 5 with (go_at_call 9; (with_reducible refine Calls.mono (vastHeap_any _ ao no co ar nr cr us os rs ((unhide HO).below (unhide HX1)) ((unhide HR).below (unhide HX1)) (by omega)) ?_); rintro e w2 ⟨rfl, hb2⟩; rw [unhide HV]; have HX2 := hide (Below.next (unhide HX1) hb2 (Nat.le_refl _)); have HH2 := hide (keep_below (unhide HH1) hb2); clear hb2)
  clear b0 b1 bf0 bf1 bl
  obtain ⟨b0, b1, bf0, bf1, bl⟩ := block2 (unhide HH2)
  go_upto_region 6 with (go_at_call 10; (with_reducible refine Calls.mono (ownHeap_any _ ao no co ar nr cr us os rs ((unhide HO).below (unhide HX2)) ((unhide HR).below (unhide HX2)) hno hnr (unhide HRL)) ?_); rintro e w3 ⟨a3, c3, a4, c4, rfl, ⟨us3, hi3⟩, hi4, hb3⟩; have HX3 := hide (Below.next (unhide HX2) hb3 (Nat.le_refl _)); have HH3 := hide (keep_below (unhide HH2) hb3); have HI3 := hide hi3; have HI4 := hide hi4; clear hi3 hi4 hb3)
  clear b0 b1 bf0 bf1 bl HX HX1 HX2 HH HH1 HH2
  have ha5 : Below w3.heap.size w3 (w3.alloc (.cells #[.slice a3 no c3, .slice a4 nr c4] 25)) := (Below.refl _ _).alloc (Nat.le_refl _) _
  have HX5 := hide (Below.next (unhide HX3) ha5 (Nat.le_refl _)); have HH5 := hide (keep_below (unhide HH3) ha5); have HXO5 := hide ((unhide HI3).below ha5); have HXR5 := hide ((unhide HI4).below ha5); have HBX5 := hide (new_block w3 (.cells #[.slice a3 no c3, .slice a4 nr c4] 25))
  obtain ⟨X, eX⟩ : ∃ X, w3.heap.size = X := ⟨_, rfl⟩
  obtain ⟨W5, e5⟩ : ∃ X, w3.alloc (.cells #[.slice a3 no c3, .slice a4 nr c4] 25) = X := ⟨_, rfl⟩
  rw [e5] at HX5 HH5 HXO5 HXR5
  rw [eX, e5] at HBX5
  rw [eX, e5]
  clear eX e5 ha5 HX3 HH3 HI3 HI4
  refine cycles_6 W5 X a3 no c3 a4 nr c4 z aa na ca acts (unhide HBX5) ((unhide HA).below (unhide HX5)) hn6 (fun _ _ g1 n1 c1 g2 n2 c2 L fc fa => g1 = none ∧ n1 = 0 ∧ c1 = 0 ∧ g2 = none ∧ n2 = 0 ∧ c2 = 0 ∧ L = .slice none 0 0 ∧ 2 = fc ∧ (-1) = fa) (fun W a' c' hW hA' => unhide HCY W a3 c3 a4 c4 us3 a' c' ((unhide HXO5).below hW) ((unhide HXR5).below hW) hA') _ _ _ (by kernel_rfl) ?_
  rintro s25 s26 s27 s28 s29 s30 s31 s32 s33 G F g1 n1 c1 g2 n2 c2 L fc fa Wc w5 V hb6 ⟨rfl, rfl, rfl, rfl, rfl, rfl, rfl, rfl, rfl⟩ _ _ _ hG6 hF6
  have HXV := hide (Below.next (unhide HX5) hb6 (Nat.le_refl _)); have HBH := hide (keep_below (unhide HH5) hb6); have HBX := hide (keep_below (unhide HBX5) hb6); have HBG := hide hG6; have HBF := hide hF6; have HXO := hide ((unhide HXO5).below hb6); have HXR := hide ((unhide HXR5).below hb6)
  have HOV := hide ((unhide HO).below (unhide HXV)); have HRV := hide ((unhide HR).below (unhide HXV)); have HAV := hide ((unhide HA).below (unhide HXV))
  clear hb6 hG6 hF6 HX5 HH5 HBX5 HXO5 HXR5 HCY
  obtain ⟨b0, b1, bf0, bf1, bl⟩ := block2 (unhide HBH)
  go_upto_region 8 with (go_at_call 13; (with_reducible refine Calls.mono (unhide HHF _ (unhide HOV) (unhide HRV)) ?_); rintro e w7 ⟨rfl, hb7⟩; have HB7 := hide hb7; clear hb7)
  clear b0 b1 bf0 bf1 bl
  have HB8 := hide ((unhide HB7).alloc (unhide HB7).size (.cells #[.int .i64 0, .int .i64 0] 30)); have HD8 := hide (new_block w7 (.cells #[.int .i64 0, .int .i64 0] 30)); have HDZ := hide (unhide HB7).size
  obtain ⟨D, eD⟩ : ∃ X, w7.heap.size = X := ⟨_, rfl⟩
  obtain ⟨W8, e8⟩ : ∃ X, w7.alloc (.cells #[.int .i64 0, .int .i64 0] 30) = X := ⟨_, rfl⟩
  rw [e8] at HB8; rw [eD, e8] at HD8; rw [eD] at HDZ; rw [eD, e8]
  clear eD e8 HB7
  obtain ⟨d0, d1, df0, df1, dl⟩ := block2 (unhide HD8)
  go_upto_region 12 with (go_at_call 20; (with_reducible refine Calls.mono (F_any _ _ _) ?_); rintro e w9 ⟨rfl, hb9⟩; have HB9 := hide (Below.next (unhide HB8) hb9 (Nat.le_refl _)); have HD9 := hide (keep_below (unhide HD8) hb9); clear d0 d1 df0 df1 dl; clear hb9; obtain ⟨d0, d1, df0, df1, dl⟩ := block2 (unhide HD9))
  have hb10 : Below V.heap.size V (put2 w9 D (.int .i64 2) (.int .i64 (-1))) := put2_below (unhide HB9) (unhide HDZ)
  have hd10 : (put2 w9 D (.int .i64 2) (.int .i64 (-1))).heap[D]? = some (.cells #[.int .i64 2, .int .i64 (-1)] 30 (0, 0)) := put2_new (unhide HD9)
  unfold put2 at hb10 hd10
  obtain ⟨W10, e10⟩ : ∃ X, (w9.setCell ⟨D, 0, none⟩ (.int .i64 2)).setCell ⟨D, 1, none⟩ (.int .i64 (-1)) = X := ⟨_, rfl⟩
  rw [e10] at hb10 hd10
  rw [e10]
  have HB10 := hide hb10; have HD10 := hide hd10
  clear e10 hb10 hd10 HB8 HD8 HB9 HD9
  clear d0 d1 df0 df1 dl
  obtain ⟨d0, d1, df0, df1, dl⟩ := block2 (unhide HD10)
  go_upto_region 13 with fail
  have hb12 : Below W10.heap.size W10 (W10.alloc (.cells #[.slice none 0 0, .slice none 0 0] 25)) := (Below.refl _ _).alloc (Nat.le_refl _) _
  have HB12 := hide (Below.next (unhide HB10) hb12 (Nat.le_refl _)); have HD12 := hide (keep_below (unhide HD10) hb12); have HE12 := hide (new_block W10 (.cells #[.slice none 0 0, .slice none 0 0] 25))
  have HDE : Hid (D ≠ W10.heap.size) := Nat.ne_of_lt (size_of (unhide HD10)); have HEZ : Hid (V.heap.size ≤ W10.heap.size) := (unhide HB10).size
  obtain ⟨E, eE⟩ : ∃ X, W10.heap.size = X := ⟨_, rfl⟩
  obtain ⟨W12, e12⟩ : ∃ X, W10.alloc (.cells #[.slice none 0 0, .slice none 0 0] 25) = X := ⟨_, rfl⟩
  rw [e12] at HB12 HD12; rw [eE, e12] at HE12; rw [eE] at HDE HEZ; rw [eE, e12]
  clear eE e12 hb12 HB10 HD10
  clear d0 d1 df0 df1 dl
  obtain ⟨d0, d1, df0, df1, dl⟩ := block2 (unhide HD12)
  obtain ⟨b0, b1, bf0, bf1, bl⟩ := block2 (keep_below (unhide HBH) (unhide HB12)); obtain ⟨x0, x1, xf0, xf1, xl⟩ := block2 (keep_below (unhide HBX) (unhide HB12)); obtain ⟨f0, f1, ff0, ff1, fl⟩ := block2 (keep_below (unhide HBF) (unhide HB12))
  go_upto_region 18 with (go_at_call 14; (with_reducible refine Calls.mono (sameHeap_any _ a3 no c3 a4 nr c4 ao co ar cr us3 us os rs ((unhide HXO).below (unhide HB12)) ((unhide HXR).below (unhide HB12)) ((unhide HOV).below (unhide HB12)) ((unhide HRV).below (unhide HB12)) (by omega) (by omega) (fun i hi => Nat.le_trans (unhide HRL i hi) (by decide))) ?_); rintro e w17 ⟨rfl, hb17⟩; have HB17 := hide (Below.next (unhide HB12) hb17 (Nat.le_refl _)); have HD17 := hide (keep_below (unhide HD12) hb17); clear hb17)
  clear b0 b1 bf0 bf1 bl x0 x1 xf0 xf1 xl f0 f1 ff0 ff1 fl d0 d1 df0 df1 dl
  obtain ⟨d0, d1, df0, df1, dl⟩ := block2 (unhide HD17)
  obtain ⟨g0, g1, gf0, gf1, gl⟩ := block2 (keep_below (unhide HBG) (unhide HB17))
  go_wp2_with (go_at_call 14; (with_reducible refine Calls.mono (sameHeap_any _ none 0 0 none 0 0 none 0 none 0 [] [] [] [] (isll_nil _) (isl_nil _) (isll_nil _) (isl_nil _) (by decide) (by decide) (fun i hi => absurd hi (Nat.not_lt_zero _))) ?_); rintro e w18 ⟨rfl, hb18⟩; have HB18 := hide (Below.next (unhide HB17) hb18 (Nat.le_refl _)); clear hb18)
  go_ret
  exact ⟨rfl, Below.next (unhide HXV) (unhide HB18) (Nat.le_refl _)⟩

set_option maxRecDepth 100000 in
set_option maxHeartbeats 4000000 in
theorem cycles_act (w : World) (ao : Option Addr) (no co : Nat) (ar : Option Addr) (nr cr : Nat) (z : Int) (aa : Option Addr) (na ca : Nat) (us : List Sl) (os : List (List Int)) (rs : List Int) (acts : List Ac) (hO : IsLL w (.slice ao no co) us os) (hR : IsL KI w (.slice ar nr cr) rs) (hA : IsL KA w (.slice aa na ca) acts) (hbeg : ∀ W : World, Calls Try.prog 8 #[] W fun e w' => e = .returned (.bool true) ∧ Below W.heap.size W w') (hv : vastB os rs = false) (hn6 : na ≤ 6000) (hf : heapF os rs = (0, 0)) (hz0 : 0 ≤ z) (hz3 : z ≤ 3) (hna : na ≤ 5000) (k : Nat) (hk : k < acts.length) (hpk : PreOk z ⟨os, rs, shadeL ⟨fun _ => true, []⟩ rs⟩ acts k) (hwk : wrongG (stG z ⟨os, rs, shadeL ⟨fun _ => true, []⟩ rs⟩ acts k) (acts.getD k ac0) ≠ 0) :
    Calls Try.prog 4 #[.agg #[.slice ao no co, .slice ar nr cr], .int .i64 z, .slice aa na ca] w fun e w' => e = .returned (.bool true) ∧ Below w.heap.size w w' := by
  obtain ⟨hr1, hr2, hr3⟩ := vast_no hv
  have hol : os.length = no := by rw [← hO.len]; exact hO.row.len
  have hrn := hR.len
  have hno : no ≤ 1000 := by rw [← hol]; exact hr2
  have hnr : nr ≤ 1000 := by rw [← hrn]; exact hr3
  have HRL := hide hr1
  have hgh : GoodH os rs := heapF_good (by rw [hf])
  have hal := hA.len
  obtain ⟨cc, ecc⟩ : ∃ c, wrongG (stG z ⟨os, rs, shadeL ⟨fun _ => true, []⟩ rs⟩ acts k) (acts.getD k ac0) = c := ⟨_, rfl⟩
  rw [ecc] at hwk
  have honly : ∀ i, i < acts.length → PreOk z ⟨os, rs, shadeL ⟨fun _ => true, []⟩ rs⟩ acts i → wrongG (stG z ⟨os, rs, shadeL ⟨fun _ => true, []⟩ rs⟩ acts i) (acts.getD i ac0) ≠ 0 → i = k := fun i _ h1 h2 => by
    rcases Nat.lt_trichotomy i k with q | q | q
    · exact absurd (hpk i q) h2
    · exact q
    · exact absurd (h1 k q) (by rw [ecc]; exact hwk)
  have HCY : Hid (∀ W a3 c3 a4 c4 vs a' c', IsLL W (.slice a3 no c3) vs os → IsL KI W (.slice a4 nr c4) rs → IsL KA W (.slice a' na c') acts → Calls Try.prog 19 #[.agg #[.slice a3 no c3, .slice a4 nr c4], .int .i64 z, .slice a' na c'] W fun e w' => ∃ (g1 : Option Addr) (n1 c1 : Nat) (g2 : Option Addr) (n2 c2 : Nat) (L : Value) (fc fa : Int), e = .returned (.tuple #[.agg #[.slice g1 n1 c1, .slice g2 n2 c2], L, .agg #[.int .i64 fc, .int .i64 fa]]) ∧ (g1 = none ∧ n1 = 0 ∧ c1 = 0 ∧ g2 = none ∧ n2 = 0 ∧ c2 = 0 ∧ L = .slice none 0 0 ∧ cc = fc ∧ (k : Int) = fa) ∧ Below W.heap.size W w') := fun W a3 c3 a4 c4 vs a' c' q1 q2 hW => (cycle_kept W a3 no c3 a4 nr c4 vs os rs q1 q2 hf z hz0 hz3 a' na c' acts hW hna).mono fun e w' hc => by
    rcases hc with ⟨i, hi, h1, h2, rfl, hb⟩ | ⟨h1, _⟩
    · have e := honly i hi h1 h2
      subst e
      rw [ecc]
      exact ⟨none, 0, 0, none, 0, 0, .slice none 0 0, cc, (i : Int), rfl, ⟨rfl, rfl, rfl, rfl, rfl, rfl, rfl, rfl, rfl⟩, hb⟩
    · exact absurd (h1 k hk) (by rw [ecc]; exact hwk)
  have HHF : Hid (∀ W, IsLL W (.slice ao no co) us os → IsL KI W (.slice ar nr cr) rs → Calls Try.prog 13 #[.agg #[.slice ao no co, .slice ar nr cr]] W fun e w' => e = .returned (.agg #[.int .i64 0, .int .i64 0]) ∧ Below W.heap.size W w') := fun W q1 q2 => by
    have h_ := heapsFault_any W ao no co ar nr cr us os rs q1 q2
    rwa [hf] at h_
  have HCD : Hid (∀ W, IsLL W (.slice ao no co) us os → IsL KI W (.slice ar nr cr) rs → IsL KA W (.slice aa na ca) acts → Calls Try.prog 21 #[.agg #[.slice ao no co, .slice ar nr cr], .int .i64 z, .slice aa na ca] W fun e w' => e = .returned (.tuple #[.agg #[.slice none 0 0, .slice none 0 0], .slice none 0 0, .agg #[.int .i64 cc, .int .i64 (k : Int)]]) ∧ Below W.heap.size W w') := fun W q1 q2 q3 => (cycled_any W ao no co ar nr cr us os rs q1 q2 hgh z hz0 hz3 aa na ca acts q3 hna).mono fun e w' hc => by
    rcases hc with ⟨i, hi, h1, h2, rfl, hb⟩ | ⟨h1, _⟩
    · have e := honly i hi h1 h2
      subst e
      rw [ecc]
      exact ⟨rfl, hb⟩
    · exact absurd (h1 k hk) (by rw [ecc]; exact hwk)
  have HX := hide ((Below.refl w.heap.size w).alloc (Nat.le_refl _) (.cells #[.slice ao no co, .slice ar nr cr] 25))
  have HH := hide (new_block w (.cells #[.slice ao no co, .slice ar nr cr] 25))
  have HO := hide hO; have HR := hide hR; have HV := hide hv; have HBG := hide hbeg; have HA := hide hA
  have n1 : ¬ (6000 : Int) < (na : Int) := by omega
  have x1 : (cc == 0) = false := by simpa using hwk
  have x2 : (cc != 0) = true := by simpa using hwk
  have x3 : (cc != cc) = false := by simp
  have x5 : (cc == cc) = true := by simp
  have x6 : ((k : Int) == (k : Int)) = true := by simp
  have y1 : ¬ z < 0 := by omega
  have y2 : ¬ 3 < z := by omega
  have y3 : ¬ (5000 : Int) < (na : Int) := by omega
  clear hwk hpk honly hgh hal ecc hk
  obtain ⟨W, eW⟩ : ∃ X, w.alloc (.cells #[.slice ao no co, .slice ar nr cr] 25) = X := ⟨_, rfl⟩
  rw [eW] at HX HH
  have HE := hide eW
  clear eW hO hR hv hbeg hf hA hr1 hr2 hr3 hol hrn
  go_enter Try.func4, Try.ntmps4
  go_upto_region 1 with fail
  rw [unhide HE]
  clear HE
  go_upto_region 3 with (go_at_call 8; (with_reducible refine Calls.mono (unhide HBG _) ?_); rintro e w1 ⟨rfl, hb1⟩; have HX1 := hide (Below.next (unhide HX) hb1 (Nat.le_refl _)); have HH1 := hide (keep_below (unhide HH) hb1); clear hb1)
  obtain ⟨b0, b1, bf0, bf1, bl⟩ := block2 (unhide HH1)
  go_upto_region 5 with (go_at_call 9; (with_reducible refine Calls.mono (vastHeap_any _ ao no co ar nr cr us os rs ((unhide HO).below (unhide HX1)) ((unhide HR).below (unhide HX1)) (by omega)) ?_); rintro e w2 ⟨rfl, hb2⟩; rw [unhide HV]; have HX2 := hide (Below.next (unhide HX1) hb2 (Nat.le_refl _)); have HH2 := hide (keep_below (unhide HH1) hb2); clear hb2)
  clear b0 b1 bf0 bf1 bl
  obtain ⟨b0, b1, bf0, bf1, bl⟩ := block2 (unhide HH2)
  go_upto_region 6 with (go_at_call 10; (with_reducible refine Calls.mono (ownHeap_any _ ao no co ar nr cr us os rs ((unhide HO).below (unhide HX2)) ((unhide HR).below (unhide HX2)) hno hnr (unhide HRL)) ?_); rintro e w3 ⟨a3, c3, a4, c4, rfl, ⟨us3, hi3⟩, hi4, hb3⟩; have HX3 := hide (Below.next (unhide HX2) hb3 (Nat.le_refl _)); have HH3 := hide (keep_below (unhide HH2) hb3); have HI3 := hide hi3; have HI4 := hide hi4; clear hi3 hi4 hb3)
  clear b0 b1 bf0 bf1 bl HX HX1 HX2 HH HH1 HH2
  have ha5 : Below w3.heap.size w3 (w3.alloc (.cells #[.slice a3 no c3, .slice a4 nr c4] 25)) := (Below.refl _ _).alloc (Nat.le_refl _) _
  have HX5 := hide (Below.next (unhide HX3) ha5 (Nat.le_refl _)); have HH5 := hide (keep_below (unhide HH3) ha5); have HXO5 := hide ((unhide HI3).below ha5); have HXR5 := hide ((unhide HI4).below ha5); have HBX5 := hide (new_block w3 (.cells #[.slice a3 no c3, .slice a4 nr c4] 25))
  obtain ⟨X, eX⟩ : ∃ X, w3.heap.size = X := ⟨_, rfl⟩
  obtain ⟨W5, e5⟩ : ∃ X, w3.alloc (.cells #[.slice a3 no c3, .slice a4 nr c4] 25) = X := ⟨_, rfl⟩
  rw [e5] at HX5 HH5 HXO5 HXR5
  rw [eX, e5] at HBX5
  rw [eX, e5]
  clear eX e5 ha5 HX3 HH3 HI3 HI4
  refine cycles_6 W5 X a3 no c3 a4 nr c4 z aa na ca acts (unhide HBX5) ((unhide HA).below (unhide HX5)) hn6 (fun _ _ g1 n1 c1 g2 n2 c2 L fc fa => g1 = none ∧ n1 = 0 ∧ c1 = 0 ∧ g2 = none ∧ n2 = 0 ∧ c2 = 0 ∧ L = .slice none 0 0 ∧ cc = fc ∧ (k : Int) = fa) (fun W a' c' hW hA' => unhide HCY W a3 c3 a4 c4 us3 a' c' ((unhide HXO5).below hW) ((unhide HXR5).below hW) hA') _ _ _ (by kernel_rfl) ?_
  rintro s25 s26 s27 s28 s29 s30 s31 s32 s33 G F g1 n1 c1 g2 n2 c2 L fc fa Wc w5 V hb6 ⟨rfl, rfl, rfl, rfl, rfl, rfl, rfl, rfl, rfl⟩ _ _ _ hG6 hF6
  have HXV := hide (Below.next (unhide HX5) hb6 (Nat.le_refl _)); have HBH := hide (keep_below (unhide HH5) hb6); have HBX := hide (keep_below (unhide HBX5) hb6); have HBG := hide hG6; have HBF := hide hF6; have HXO := hide ((unhide HXO5).below hb6); have HXR := hide ((unhide HXR5).below hb6)
  have HOV := hide ((unhide HO).below (unhide HXV)); have HRV := hide ((unhide HR).below (unhide HXV)); have HAV := hide ((unhide HA).below (unhide HXV))
  clear hb6 hG6 hF6 HX5 HH5 HBX5 HXO5 HXR5 HCY
  obtain ⟨b0, b1, bf0, bf1, bl⟩ := block2 (unhide HBH)
  go_upto_region 8 with (go_at_call 13; (with_reducible refine Calls.mono (unhide HHF _ (unhide HOV) (unhide HRV)) ?_); rintro e w7 ⟨rfl, hb7⟩; have HB7 := hide hb7; clear hb7)
  clear b0 b1 bf0 bf1 bl
  have HB8 := hide ((unhide HB7).alloc (unhide HB7).size (.cells #[.int .i64 0, .int .i64 0] 30)); have HD8 := hide (new_block w7 (.cells #[.int .i64 0, .int .i64 0] 30)); have HDZ := hide (unhide HB7).size
  obtain ⟨D, eD⟩ : ∃ X, w7.heap.size = X := ⟨_, rfl⟩
  obtain ⟨W8, e8⟩ : ∃ X, w7.alloc (.cells #[.int .i64 0, .int .i64 0] 30) = X := ⟨_, rfl⟩
  rw [e8] at HB8; rw [eD, e8] at HD8; rw [eD] at HDZ; rw [eD, e8]
  clear eD e8 HB7
  obtain ⟨d0, d1, df0, df1, dl⟩ := block2 (unhide HD8)
  go_upto_region 13 with fail
  have hb12 : Below W8.heap.size W8 (W8.alloc (.cells #[.slice none 0 0, .slice none 0 0] 25)) := (Below.refl _ _).alloc (Nat.le_refl _) _
  have HB12 := hide (Below.next (unhide HB8) hb12 (Nat.le_refl _)); have HD12 := hide (keep_below (unhide HD8) hb12); have HE12 := hide (new_block W8 (.cells #[.slice none 0 0, .slice none 0 0] 25))
  have HDE : Hid (D ≠ W8.heap.size) := Nat.ne_of_lt (size_of (unhide HD8)); have HEZ : Hid (V.heap.size ≤ W8.heap.size) := (unhide HB8).size
  obtain ⟨E, eE⟩ : ∃ X, W8.heap.size = X := ⟨_, rfl⟩
  obtain ⟨W12, e12⟩ : ∃ X, W8.alloc (.cells #[.slice none 0 0, .slice none 0 0] 25) = X := ⟨_, rfl⟩
  rw [e12] at HB12 HD12; rw [eE, e12] at HE12; rw [eE] at HDE HEZ; rw [eE, e12]
  clear eE e12 hb12 HB8 HD8
  clear d0 d1 df0 df1 dl
  obtain ⟨d0, d1, df0, df1, dl⟩ := block2 (unhide HD12)
  obtain ⟨b0, b1, bf0, bf1, bl⟩ := block2 (keep_below (unhide HBH) (unhide HB12))
  obtain ⟨e0, e1, ef0, ef1, el⟩ := block2 (unhide HE12)
  go_upto_region 16 with (go_at_call 21; (with_reducible refine Calls.mono (unhide HCD _ ((unhide HOV).below (unhide HB12)) ((unhide HRV).below (unhide HB12)) ((unhide HAV).below (unhide HB12))) ?_); rintro e w13 ⟨rfl, hb13⟩; have HB13 := hide (Below.next (unhide HB12) hb13 (Nat.le_refl _)); have HD13 := hide (keep_below (unhide HD12) hb13); have HE13 := hide (keep_below (unhide HE12) hb13); clear b0 b1 bf0 bf1 bl d0 d1 df0 df1 dl e0 e1 ef0 ef1 el hb13; obtain ⟨d0, d1, df0, df1, dl⟩ := block2 (unhide HD13); obtain ⟨e0, e1, ef0, ef1, el⟩ := block2 (unhide HE13); have nde := unhide HDE; have ned := Ne.symm (unhide HDE))
  have hb14 : Below V.heap.size V (put2 (put2 w13 E (.slice none 0 0) (.slice none 0 0)) D (.int .i64 cc) (.int .i64 (k : Int))) := put2_below (put2_below (unhide HB13) (unhide HEZ)) (unhide HDZ)
  have hd14 : (put2 (put2 w13 E (.slice none 0 0) (.slice none 0 0)) D (.int .i64 cc) (.int .i64 (k : Int))).heap[D]? = some (.cells #[.int .i64 cc, .int .i64 (k : Int)] 30 (0, 0)) := put2_new ((put2_keep (unhide HDE)).trans (unhide HD13))
  unfold put2 at hb14 hd14
  obtain ⟨W14, e14⟩ : ∃ X, (((w13.setCell ⟨E, 0, none⟩ (.slice none 0 0)).setCell ⟨E, 1, none⟩ (.slice none 0 0)).setCell ⟨D, 0, none⟩ (.int .i64 cc)).setCell ⟨D, 1, none⟩ (.int .i64 (k : Int)) = X := ⟨_, rfl⟩
  rw [e14] at hb14 hd14
  rw [e14]
  have HB14 := hide hb14; have HD14 := hide hd14
  clear e14 hb14 hd14 HB12 HD12 HB13 HD13 HE12 HE13 e0 e1 ef0 ef1 el nde ned
  clear d0 d1 df0 df1 dl
  obtain ⟨d0, d1, df0, df1, dl⟩ := block2 (unhide HD14)
  obtain ⟨b0, b1, bf0, bf1, bl⟩ := block2 (keep_below (unhide HBH) (unhide HB14)); obtain ⟨x0, x1, xf0, xf1, xl⟩ := block2 (keep_below (unhide HBX) (unhide HB14)); obtain ⟨f0, f1, ff0, ff1, fl⟩ := block2 (keep_below (unhide HBF) (unhide HB14))
  go_upto_region 18 with (go_at_call 14; (with_reducible refine Calls.mono (sameHeap_any _ a3 no c3 a4 nr c4 ao co ar cr us3 us os rs ((unhide HXO).below (unhide HB14)) ((unhide HXR).below (unhide HB14)) ((unhide HOV).below (unhide HB14)) ((unhide HRV).below (unhide HB14)) (by omega) (by omega) (fun i hi => Nat.le_trans (unhide HRL i hi) (by decide))) ?_); rintro e w17 ⟨rfl, hb17⟩; have HB17 := hide (Below.next (unhide HB14) hb17 (Nat.le_refl _)); have HD17 := hide (keep_below (unhide HD14) hb17); clear hb17)
  clear b0 b1 bf0 bf1 bl x0 x1 xf0 xf1 xl f0 f1 ff0 ff1 fl d0 d1 df0 df1 dl
  obtain ⟨d0, d1, df0, df1, dl⟩ := block2 (unhide HD17)
  obtain ⟨g0, g1, gf0, gf1, gl⟩ := block2 (keep_below (unhide HBG) (unhide HB17))
  go_wp2_with (go_at_call 14; (with_reducible refine Calls.mono (sameHeap_any _ none 0 0 none 0 0 none 0 none 0 [] [] [] [] (isll_nil _) (isl_nil _) (isll_nil _) (isl_nil _) (by decide) (by decide) (fun i hi => absurd hi (Nat.not_lt_zero _))) ?_); rintro e w18 ⟨rfl, hb18⟩; have HB18 := hide (Below.next (unhide HB17) hb18 (Nat.le_refl _)); clear hb18)
  go_ret
  exact ⟨rfl, Below.next (unhide HXV) (unhide HB18) (Nat.le_refl _)⟩

end Go.Proofs.Ytmkehjncnaokoaa
