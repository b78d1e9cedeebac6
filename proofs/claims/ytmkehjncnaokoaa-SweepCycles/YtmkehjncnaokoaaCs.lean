/-
  law.SweepSafe: what ends early.
  law.SweepSafe: a good heap; its whole walk.
-/
import Derived.Test.YtmkehjncnaokoaaCq
import Derived.Test.YtmkehjncnaokoaaCp
namespace Go.Proofs.Ytmkehjncnaokoaa
open Go.RowKit

set_option maxRecDepth 100000 in
set_option maxHeartbeats 4000000 in
theorem SweepSafe_vast (w : World) (ao : Option Addr) (no co : Nat) (ar : Option Addr) (nr cr : Nat) (z : Int) (aa : Option Addr) (na ca : Nat) (us : List Sl) (os : List (List Int)) (rs : List Int) (acts : List Ac) (hO : IsLL w (.slice ao no co) us os) (hR : IsL KI w (.slice ar nr cr) rs) (_hA : IsL KA w (.slice aa na ca) acts) (hbeg : ∀ W : World, Calls Try.prog 8 #[] W fun e w' => e = .returned (.bool true) ∧ Below W.heap.size W w') (hno : no ≤ 1000000000000000) (hv : vastB os rs = true) :
    Calls Try.prog 5 #[.agg #[.slice ao no co, .slice ar nr cr], .int .i64 z, .slice aa na ca] w fun e w' => e = .returned (.bool true) ∧ Below w.heap.size w w' := by
  have HX := hide ((Below.refl w.heap.size w).alloc (Nat.le_refl _) (.cells #[.slice ao no co, .slice ar nr cr] 25))
  have HH := hide (new_block w (.cells #[.slice ao no co, .slice ar nr cr] 25))
  have HO := hide hO; have HR := hide hR; have HV := hide hv; have HBG := hide hbeg
  have hfl := fld0
  obtain ⟨W, eW⟩ : ∃ X, w.alloc (.cells #[.slice ao no co, .slice ar nr cr] 25) = X := ⟨_, rfl⟩
  rw [eW] at HX HH
  have HE := hide eW
  clear eW hO hR hv hbeg
  go_enter Try.func5, Try.ntmps5
  go_upto_region 1 with fail
  rw [unhide HE]
  clear HE
  go_upto_region 3 with (go_at_call 8; (with_reducible refine Calls.mono (unhide HBG _) ?_); rintro e w1 ⟨rfl, hb1⟩; have HX1 := hide (Below.next (unhide HX) hb1 (Nat.le_refl _)); have HH1 := hide (keep_below (unhide HH) hb1); clear hb1)
  obtain ⟨b0, b1, bf0, bf1, bl⟩ := block2 (unhide HH1)
  go_wp2_with (go_at_call 9; (with_reducible refine Calls.mono (vastHeap_any _ ao no co ar nr cr us os rs ((unhide HO).below (unhide HX1)) ((unhide HR).below (unhide HX1)) (by omega)) ?_); rintro e w2 ⟨rfl, hb2⟩; rw [unhide HV]; have HX2 := hide (Below.next (unhide HX1) hb2 (Nat.le_refl _)); have HH2 := hide (keep_below (unhide HH1) hb2); clear hb2)
  go_ret
  exact ⟨rfl, unhide HX2⟩

set_option maxRecDepth 100000 in
set_option maxHeartbeats 4000000 in
theorem SweepSafe_na (w : World) (ao : Option Addr) (no co : Nat) (ar : Option Addr) (nr cr : Nat) (z : Int) (aa : Option Addr) (na ca : Nat) (us : List Sl) (os : List (List Int)) (rs : List Int) (acts : List Ac) (hO : IsLL w (.slice ao no co) us os) (hR : IsL KI w (.slice ar nr cr) rs) (_hA : IsL KA w (.slice aa na ca) acts) (hbeg : ∀ W : World, Calls Try.prog 8 #[] W fun e w' => e = .returned (.bool true) ∧ Below W.heap.size W w') (hno : no ≤ 1000000000000000) (hv : vastB os rs = false) (hn : 5000 < na) :
    Calls Try.prog 5 #[.agg #[.slice ao no co, .slice ar nr cr], .int .i64 z, .slice aa na ca] w fun e w' => e = .returned (.bool true) ∧ Below w.heap.size w w' := by
  have HX := hide ((Below.refl w.heap.size w).alloc (Nat.le_refl _) (.cells #[.slice ao no co, .slice ar nr cr] 25))
  have HH := hide (new_block w (.cells #[.slice ao no co, .slice ar nr cr] 25))
  have HO := hide hO; have HR := hide hR; have HV := hide hv; have HBG := hide hbeg
  have i1 : (5000 : Int) < (na : Int) := by omega
  have hfl := fld0
  obtain ⟨W, eW⟩ : ∃ X, w.alloc (.cells #[.slice ao no co, .slice ar nr cr] 25) = X := ⟨_, rfl⟩
  rw [eW] at HX HH
  have HE := hide eW
  clear eW hO hR hv hbeg
  go_enter Try.func5, Try.ntmps5
  go_upto_region 1 with fail
  rw [unhide HE]
  clear HE
  go_upto_region 3 with (go_at_call 8; (with_reducible refine Calls.mono (unhide HBG _) ?_); rintro e w1 ⟨rfl, hb1⟩; have HX1 := hide (Below.next (unhide HX) hb1 (Nat.le_refl _)); have HH1 := hide (keep_below (unhide HH) hb1); clear hb1)
  obtain ⟨b0, b1, bf0, bf1, bl⟩ := block2 (unhide HH1)
  go_wp2_with (go_at_call 9; (with_reducible refine Calls.mono (vastHeap_any _ ao no co ar nr cr us os rs ((unhide HO).below (unhide HX1)) ((unhide HR).below (unhide HX1)) (by omega)) ?_); rintro e w2 ⟨rfl, hb2⟩; rw [unhide HV]; have HX2 := hide (Below.next (unhide HX1) hb2 (Nat.le_refl _)); have HH2 := hide (keep_below (unhide HH1) hb2); clear hb2)
  go_ret
  exact ⟨rfl, unhide HX2⟩

set_option maxRecDepth 100000 in
set_option maxHeartbeats 4000000 in
theorem SweepSafe_z1 (w : World) (ao : Option Addr) (no co : Nat) (ar : Option Addr) (nr cr : Nat) (z : Int) (aa : Option Addr) (na ca : Nat) (us : List Sl) (os : List (List Int)) (rs : List Int) (acts : List Ac) (hO : IsLL w (.slice ao no co) us os) (hR : IsL KI w (.slice ar nr cr) rs) (_hA : IsL KA w (.slice aa na ca) acts) (hbeg : ∀ W : World, Calls Try.prog 8 #[] W fun e w' => e = .returned (.bool true) ∧ Below W.heap.size W w') (hno : no ≤ 1000000000000000) (hv : vastB os rs = false) (hn : na ≤ 5000) (h1 : z < 1) :
    Calls Try.prog 5 #[.agg #[.slice ao no co, .slice ar nr cr], .int .i64 z, .slice aa na ca] w fun e w' => e = .returned (.bool true) ∧ Below w.heap.size w w' := by
  have HX := hide ((Below.refl w.heap.size w).alloc (Nat.le_refl _) (.cells #[.slice ao no co, .slice ar nr cr] 25))
  have HH := hide (new_block w (.cells #[.slice ao no co, .slice ar nr cr] 25))
  have HO := hide hO; have HR := hide hR; have HV := hide hv; have HBG := hide hbeg
  have i1 : ¬ (5000 : Int) < (na : Int) := by omega
  have hfl := fld0
  obtain ⟨W, eW⟩ : ∃ X, w.alloc (.cells #[.slice ao no co, .slice ar nr cr] 25) = X := ⟨_, rfl⟩
  rw [eW] at HX HH
  have HE := hide eW
  clear eW hO hR hv hbeg
  go_enter Try.func5, Try.ntmps5
  go_upto_region 1 with fail
  rw [unhide HE]
  clear HE
  go_upto_region 3 with (go_at_call 8; (with_reducible refine Calls.mono (unhide HBG _) ?_); rintro e w1 ⟨rfl, hb1⟩; have HX1 := hide (Below.next (unhide HX) hb1 (Nat.le_refl _)); have HH1 := hide (keep_below (unhide HH) hb1); clear hb1)
  obtain ⟨b0, b1, bf0, bf1, bl⟩ := block2 (unhide HH1)
  go_wp2_with (go_at_call 9; (with_reducible refine Calls.mono (vastHeap_any _ ao no co ar nr cr us os rs ((unhide HO).below (unhide HX1)) ((unhide HR).below (unhide HX1)) (by omega)) ?_); rintro e w2 ⟨rfl, hb2⟩; rw [unhide HV]; have HX2 := hide (Below.next (unhide HX1) hb2 (Nat.le_refl _)); have HH2 := hide (keep_below (unhide HH1) hb2); clear hb2)
  go_ret
  exact ⟨rfl, unhide HX2⟩

set_option maxRecDepth 100000 in
set_option maxHeartbeats 4000000 in
theorem SweepSafe_z3 (w : World) (ao : Option Addr) (no co : Nat) (ar : Option Addr) (nr cr : Nat) (z : Int) (aa : Option Addr) (na ca : Nat) (us : List Sl) (os : List (List Int)) (rs : List Int) (acts : List Ac) (hO : IsLL w (.slice ao no co) us os) (hR : IsL KI w (.slice ar nr cr) rs) (_hA : IsL KA w (.slice aa na ca) acts) (hbeg : ∀ W : World, Calls Try.prog 8 #[] W fun e w' => e = .returned (.bool true) ∧ Below W.heap.size W w') (hno : no ≤ 1000000000000000) (hv : vastB os rs = false) (hn : na ≤ 5000) (h1 : 1 ≤ z) (h2 : 3 < z) :
    Calls Try.prog 5 #[.agg #[.slice ao no co, .slice ar nr cr], .int .i64 z, .slice aa na ca] w fun e w' => e = .returned (.bool true) ∧ Below w.heap.size w w' := by
  have HX := hide ((Below.refl w.heap.size w).alloc (Nat.le_refl _) (.cells #[.slice ao no co, .slice ar nr cr] 25))
  have HH := hide (new_block w (.cells #[.slice ao no co, .slice ar nr cr] 25))
  have HO := hide hO; have HR := hide hR; have HV := hide hv; have HBG := hide hbeg
  have i1 : ¬ (5000 : Int) < (na : Int) := by omega
  have i2 : ¬ z < 1 := by omega
  have hfl := fld0
  obtain ⟨W, eW⟩ : ∃ X, w.alloc (.cells #[.slice ao no co, .slice ar nr cr] 25) = X := ⟨_, rfl⟩
  rw [eW] at HX HH
  have HE := hide eW
  clear eW hO hR hv hbeg
  go_enter Try.func5, Try.ntmps5
  go_upto_region 1 with fail
  rw [unhide HE]
  clear HE
  go_upto_region 3 with (go_at_call 8; (with_reducible refine Calls.mono (unhide HBG _) ?_); rintro e w1 ⟨rfl, hb1⟩; have HX1 := hide (Below.next (unhide HX) hb1 (Nat.le_refl _)); have HH1 := hide (keep_below (unhide HH) hb1); clear hb1)
  obtain ⟨b0, b1, bf0, bf1, bl⟩ := block2 (unhide HH1)
  go_wp2_with (go_at_call 9; (with_reducible refine Calls.mono (vastHeap_any _ ao no co ar nr cr us os rs ((unhide HO).below (unhide HX1)) ((unhide HR).below (unhide HX1)) (by omega)) ?_); rintro e w2 ⟨rfl, hb2⟩; rw [unhide HV]; have HX2 := hide (Below.next (unhide HX1) hb2 (Nat.le_refl _)); have HH2 := hide (keep_below (unhide HH1) hb2); clear hb2)
  go_ret
  exact ⟨rfl, unhide HX2⟩

set_option maxRecDepth 100000 in
set_option maxHeartbeats 4000000 in
theorem SweepSafe_fault (w : World) (ao : Option Addr) (no co : Nat) (ar : Option Addr) (nr cr : Nat) (z : Int) (aa : Option Addr) (na ca : Nat) (us : List Sl) (os : List (List Int)) (rs : List Int) (acts : List Ac) (hO : IsLL w (.slice ao no co) us os) (hR : IsL KI w (.slice ar nr cr) rs) (_hA : IsL KA w (.slice aa na ca) acts) (hbeg : ∀ W : World, Calls Try.prog 8 #[] W fun e w' => e = .returned (.bool true) ∧ Below W.heap.size W w') (hno : no ≤ 1000000000000000) (hv : vastB os rs = false) (hn : na ≤ 5000) (h1 : 1 ≤ z) (h3 : z ≤ 3) (c i : Int) (hc : c ≠ 0) (hcy : ∀ W, Below w.heap.size w W → Calls Try.prog 19 #[.agg #[.slice ao no co, .slice ar nr cr], .int .i64 z, .slice aa na ca] W fun e w' => e = .returned (.tuple #[.agg #[.slice none 0 0, .slice none 0 0], .slice none 0 0, .agg #[.int .i64 c, .int .i64 i]]) ∧ Below W.heap.size W w') :
    Calls Try.prog 5 #[.agg #[.slice ao no co, .slice ar nr cr], .int .i64 z, .slice aa na ca] w fun e w' => e = .returned (.bool true) ∧ Below w.heap.size w w' := by
  have HX := hide ((Below.refl w.heap.size w).alloc (Nat.le_refl _) (.cells #[.slice ao no co, .slice ar nr cr] 25))
  have HH := hide (new_block w (.cells #[.slice ao no co, .slice ar nr cr] 25))
  have HO := hide hO; have HR := hide hR; have HV := hide hv; have HBG := hide hbeg
  have i1 : ¬ (5000 : Int) < (na : Int) := by omega
  have i2 : ¬ z < 1 := by omega
  have i3 : ¬ 3 < z := by omega
  have HCY := hide hcy
  have x1 : (c != 0) = true := by simpa using hc
  clear hcy
  have hfl := fld0
  obtain ⟨W, eW⟩ : ∃ X, w.alloc (.cells #[.slice ao no co, .slice ar nr cr] 25) = X := ⟨_, rfl⟩
  rw [eW] at HX HH
  have HE := hide eW
  clear eW hO hR hv hbeg
  go_enter Try.func5, Try.ntmps5
  go_upto_region 1 with fail
  rw [unhide HE]
  clear HE
  go_upto_region 3 with (go_at_call 8; (with_reducible refine Calls.mono (unhide HBG _) ?_); rintro e w1 ⟨rfl, hb1⟩; have HX1 := hide (Below.next (unhide HX) hb1 (Nat.le_refl _)); have HH1 := hide (keep_below (unhide HH) hb1); clear hb1)
  obtain ⟨b0, b1, bf0, bf1, bl⟩ := block2 (unhide HH1)
  go_upto_region 5 with (go_at_call 9; (with_reducible refine Calls.mono (vastHeap_any _ ao no co ar nr cr us os rs ((unhide HO).below (unhide HX1)) ((unhide HR).below (unhide HX1)) (by omega)) ?_); rintro e w2 ⟨rfl, hb2⟩; rw [unhide HV]; have HX2 := hide (Below.next (unhide HX1) hb2 (Nat.le_refl _)); have HH2 := hide (keep_below (unhide HH1) hb2); clear hb2)
  clear b0 b1 bf0 bf1 bl
  obtain ⟨b0, b1, bf0, bf1, bl⟩ := block2 (unhide HH2)
  go_upto_region 6 with (go_at_call 19; (with_reducible refine Calls.mono (unhide HCY _ (unhide HX2)) ?_); rintro e w4 ⟨rfl, hb4⟩; have HX4 := hide (Below.next (unhide HX2) hb4 (Nat.le_refl _)); clear hb4)
  obtain ⟨W6, e6, hx6, hg6, hf6⟩ := two_new w4 (.cells #[.slice none 0 0, .slice none 0 0] 25) (.cells #[.int .i64 c, .int .i64 i] 30)
  rw [e6]
  clear e6
  have HX6 := hide (Below.next (unhide HX4) hx6 (Nat.le_refl _))
  clear b0 b1 bf0 bf1 bl
  obtain ⟨g0, g1, gf0, gf1, gl⟩ := block2 hg6
  obtain ⟨q0, q1, qf0, qf1, ql⟩ := block2 hf6
  clear hg6 hf6 hx6
  go_wp2_with fail
  go_ret
  exact ⟨rfl, unhide HX6⟩


theorem pre_cases (z : Int) (g : Gm) (acts : List Ac) : ∀ n, PreOk z g acts n ∨ ∃ i, i < n ∧ PreOk z g acts i ∧ wrongG (stG z g acts i) (acts.getD i ac0) ≠ 0
  | 0 => Or.inl (fun j hj => absurd hj (Nat.not_lt_zero _))
  | n + 1 => by
    rcases pre_cases z g acts n with h | ⟨i, h1, h2⟩
    · by_cases e : wrongG (stG z g acts n) (acts.getD n ac0) = 0
      · refine Or.inl (fun j hj => ?_)
        by_cases e2 : j = n
        · rw [e2]; exact e
        · exact h j (by omega)
      · exact Or.inr ⟨n, Nat.lt_succ_self n, h, e⟩
    · exact Or.inr ⟨i, Nat.lt_succ_of_lt h1, h2⟩

set_option maxRecDepth 100000 in
set_option maxHeartbeats 4000000 in
theorem SweepSafe_good (w : World) (ao : Option Addr) (no co : Nat) (ar : Option Addr) (nr cr : Nat) (z : Int) (aa : Option Addr) (na ca : Nat) (us : List Sl) (os : List (List Int)) (rs : List Int) (acts : List Ac) (hO : IsLL w (.slice ao no co) us os) (hR : IsL KI w (.slice ar nr cr) rs) (hA : IsL KA w (.slice aa na ca) acts) (hbeg : ∀ W : World, Calls Try.prog 8 #[] W fun e w' => e = .returned (.bool true) ∧ Below W.heap.size W w') (hno : no ≤ 1000000000000000) (hv : vastB os rs = false) (hn : na ≤ 5000) (h1 : 1 ≤ z) (h3 : z ≤ 3) (hf : heapF os rs = (0, 0)) (hpre : PreOk z ⟨os, rs, shadeL ⟨fun _ => true, []⟩ rs⟩ acts acts.length) :
    Calls Try.prog 5 #[.agg #[.slice ao no co, .slice ar nr cr], .int .i64 z, .slice aa na ca] w fun e w' => e = .returned (.bool true) ∧ Below w.heap.size w w' := by
  have hgh : GoodH os rs := heapF_good (by rw [hf])
  obtain ⟨gN, egN⟩ : ∃ X, stG z ⟨os, rs, shadeL ⟨fun _ => true, []⟩ rs⟩ acts acts.length = X := ⟨_, rfl⟩
  have hgN : GoodG gN := by rw [← egN]; exact good_st ⟨hgh, lnok_begin hgh⟩ acts.length (Nat.le_refl _) hpre
  have hfN := heapF_of_good hgN.gh
  have hsafe : ∀ s', EndR z gN.os gN.rs gN.mm s' → ∀ x, Rc gN.os gN.rs x → s'.wh x = false := fun s' he => by
    rw [← egN] at he
    have h_ := safe_all h1 h3 hgh hpre he
    rwa [egN] at h_
  have hol : os.length = no := by rw [← hO.len]; exact hO.row.len
  have hno5 : no ≤ 500 := by rw [← hol]; exact hgh.no
  have HCY : Hid (∀ W, Below w.heap.size w W → Calls Try.prog 19 #[.agg #[.slice ao no co, .slice ar nr cr], .int .i64 z, .slice aa na ca] W fun e w' => ∃ (bo n co' : Nat) (ar' : Option Addr) (nr' cr' : Nat) (us' : List Sl) (s' : Mk) (a : Option Addr) (c : Nat), e = .returned (.tuple #[.agg #[.slice (some ⟨bo, 0, none⟩) n co', .slice ar' nr' cr'], .slice a ((List.range n).filter s'.wh).length c, .agg #[.int .i64 0, .int .i64 0]]) ∧ EndR z gN.os gN.rs gN.mm s' ∧ gN.os.length = n ∧ gN.rs.length = nr' ∧ IsLL w' (.slice (some ⟨bo, 0, none⟩) n co') us' gN.os ∧ IsL KI w' (.slice ar' nr' cr') gN.rs ∧ OwnO W.heap.size w' (.slice a ((List.range n).filter s'.wh).length c) (ixL ((List.range n).filter s'.wh)) ∧ Below W.heap.size W w') := fun W hW => (cycle_any W ao no co ar nr cr us os rs (hO.below hW) (hR.below hW) hf z (by omega) h3 aa na ca acts (hA.below hW) hn).mono fun e w' hc => by
    rcases hc with ⟨i, hi, _, hw, _⟩ | ⟨_, hc⟩
    · exact absurd (hpre i hi) hw
    · rw [egN] at hc
      exact hc
  have HSF := hide hsafe; have HGN := hide hgN; have HFN := hide hfN; have HGH := hide hgh; have HOL := hide hol
  clear hsafe hgN hfN hgh hol hA hf hpre egN
  have HX := hide ((Below.refl w.heap.size w).alloc (Nat.le_refl _) (.cells #[.slice ao no co, .slice ar nr cr] 25))
  have HH := hide (new_block w (.cells #[.slice ao no co, .slice ar nr cr] 25))
  have HO := hide hO; have HR := hide hR; have HV := hide hv; have HBG := hide hbeg
  have i1 : ¬ (5000 : Int) < (na : Int) := by omega
  have i2 : ¬ z < 1 := by omega
  have i3 : ¬ 3 < z := by omega
  have x0 : ((0 : Int) != 0) = false := by decide
  have hfl := fld0
  obtain ⟨W, eW⟩ : ∃ X, w.alloc (.cells #[.slice ao no co, .slice ar nr cr] 25) = X := ⟨_, rfl⟩
  rw [eW] at HX HH
  have HE := hide eW
  clear eW hO hR hv hbeg
  go_enter Try.func5, Try.ntmps5
  go_upto_region 1 with fail
  rw [unhide HE]
  clear HE
  go_upto_region 3 with (go_at_call 8; (with_reducible refine Calls.mono (unhide HBG _) ?_); rintro e w1 ⟨rfl, hb1⟩; have HX1 := hide (Below.next (unhide HX) hb1 (Nat.le_refl _)); have HH1 := hide (keep_below (unhide HH) hb1); clear hb1)
  obtain ⟨b0, b1, bf0, bf1, bl⟩ := block2 (unhide HH1)
  go_upto_region 5 with (go_at_call 9; (with_reducible refine Calls.mono (vastHeap_any _ ao no co ar nr cr us os rs ((unhide HO).below (unhide HX1)) ((unhide HR).below (unhide HX1)) (by omega)) ?_); rintro e w2 ⟨rfl, hb2⟩; rw [unhide HV]; have HX2 := hide (Below.next (unhide HX1) hb2 (Nat.le_refl _)); have HH2 := hide (keep_below (unhide HH1) hb2); clear hb2)
  clear b0 b1 bf0 bf1 bl
  obtain ⟨b0, b1, bf0, bf1, bl⟩ := block2 (unhide HH2)
  go_upto_region 6 with (go_at_call 19; (with_reducible refine Calls.mono (unhide HCY _ (unhide HX2)) ?_); rintro e w4 ⟨bo, n, cO, aR, nR, cR, us', s', a4, c4, rfl, he4, hn4, hr4, hll4, hrr4, ho4, hb4⟩; have HX4 := hide (Below.next (unhide HX2) hb4 (Nat.le_refl _)); have HH4 := hide (keep_below (unhide HH2) hb4); have HE4 := hide he4; have HLL4 := hide hll4; have HRR4 := hide hrr4; have HO4 := hide ho4; have HN4 := hide hn4; clear he4 hll4 hrr4 ho4 hb4 hn4 hr4)
  obtain ⟨W6, e6, hx6, hg6, hf6⟩ := two_new w4 (.cells #[.slice (some ⟨bo, 0, none⟩) n cO, .slice aR nR cR] 25) (.cells #[.int .i64 0, .int .i64 0] 30)
  rw [e6]
  clear e6
  have HX6 := hide (Below.next (unhide HX4) hx6 (Nat.le_refl _)); have HH6 := hide (keep_below (unhide HH4) hx6); have HLL6 := hide ((unhide HLL4).below hx6); have HRR6 := hide ((unhide HRR4).below hx6); have HO6 := hide ((unhide HO4).isl.below hx6); have HG6 := hide hg6
  have hn5 : n ≤ 500 := by rw [← unhide HN4]; exact (unhide HGN).gh.no
  have hsf := unhide HSF s' (unhide HE4)
  obtain ⟨xs, exs⟩ : ∃ X, (List.range n).filter s'.wh = X := ⟨_, rfl⟩
  have hxs : ∀ x ∈ xs, x < n ∧ s'.wh x = true := fun x hx => by rw [← exs] at hx; have h_ := List.mem_filter.1 hx; exact ⟨List.mem_range.1 h_.1, h_.2⟩
  have hxl : xs.length ≤ 500 := by rw [← exs]; have h_ := List.length_filter_le s'.wh (List.range n); rw [List.length_range] at h_; omega
  rw [exs] at HO6
  rw [exs]
  obtain ⟨m, em⟩ : ∃ m, xs.length = m := ⟨_, rfl⟩
  rw [em] at HO6 hxl
  rw [em]
  have HXS := hide hxs; have HSFx := hide hsf; have HEM := hide em
  clear b0 b1 bf0 bf1 bl exs hxs em hsf HX HX1 HX4 HH HH1 HH2 HH4 HLL4 HRR4 HO4 HE4 HSF
  obtain ⟨g0, g1, gf0, gf1, gl⟩ := block2 hg6
  obtain ⟨q0, q1, qf0, qf1, ql⟩ := block2 hf6
  clear hg6 hf6 hx6
  go_upto_region 8 with (go_at_call 13; (with_reducible refine Calls.mono (heapsFault_any _ (some ⟨bo, 0, none⟩) n cO aR nR cR us' gN.os gN.rs (unhide HLL6) (unhide HRR6)) ?_); rintro e w7 ⟨rfl, hb7⟩; rw [unhide HFN]; have HX7 := hide (Below.next (unhide HX6) hb7 (Nat.le_refl _)); have HH7 := hide (keep_below (unhide HH6) hb7); have HG7 := hide (keep_below (unhide HG6) hb7); have HLL7 := hide ((unhide HLL6).below hb7); have HRR7 := hide ((unhide HRR6).below hb7); have HO7 := hide ((unhide HO6).below hb7); clear hb7)
  clear g0 g1 gf0 gf1 gl q0 q1 qf0 qf1 ql
  obtain ⟨g0, g1, gf0, gf1, gl⟩ := block2 (unhide HG7)
  go_upto_region 9 with (go_at_call 18; (with_reducible refine Calls.mono (reached_any _ (some ⟨bo, 0, none⟩) n cO aR nR cR us' gN.os gN.rs (unhide HLL7) (unhide HRR7) (unhide HGN).gh) ?_); rintro e w8 ⟨B, rfl, f, hB, hf8, _, hb8⟩; have HB8 := hide hB; have HF8 := hide hf8; have HX8 := hide (Below.next (unhide HX7) hb8 (Nat.le_refl _)); have HG8 := hide (keep_below (unhide HG7) hb8); have HLL8 := hide ((unhide HLL7).below hb8); have HRR8 := hide ((unhide HRR7).below hb8); have HO8 := hide ((unhide HO7).below hb8); clear hB hf8 hb8)
  clear g0 g1 gf0 gf1 gl HX6 HX7 HH6 HH7 HG6 HG7 HLL6 HLL7 HRR6 HRR7 HO6 HO7
  have HXX : Hid (∀ j, j < m → (xs.getD j 0) < n ∧ f (xs.getD j 0) = false) := fun j hj => by
    have hmem : xs.getD j 0 ∈ xs := by
      rw [List.getD_eq_getElem?_getD, List.getElem?_eq_getElem (by rw [unhide HEM]; exact hj)]
      exact List.getElem_mem _
    have h5 := unhide HXS _ hmem
    have h6 := unhide HSFx
    refine ⟨h5.1, ?_⟩
    cases e : f (xs.getD j 0) with
    | false => rfl
    | true =>
      have h7 := h6 _ ((unhide HF8 _ h5.1).1 e)
      rw [h5.2] at h7; cases h7
  go_wp2_with fail
  go_loopw [11] (fun s11 wr => ∃ i : Nat, i ≤ m ∧ s11 = .int .i64 (i : Int) ∧ Hid (Below w8.heap.size w8 wr)) (fun s11 _ => m - (intOf s11).toNat)
  case atStart => exact ⟨0, Nat.zero_le _, rfl, hide (Below.refl _ _)⟩
  case round =>
    obtain ⟨i, hi, rfl, HXR⟩ := hrel
    by_cases hin : i < m
    · have i6 : (0 : Int) ≤ (i : Int) := by omega
      have i7 : (i : Int) < (m : Int) := by omega
      have hw1 : IntKind.i64.wrap ((i : Int) + 1) = (i : Int) + 1 := wrapi (by omega) (by omega)
      have hob := (unhide HO8).below (unhide HXR)
      have hlen := hob.len
      obtain ⟨lb, lo, rfl, hlb, hli⟩ := hob.opens ki hlen (by omega)
      have l0 := hli.ints (j := i) (by rw [hlen]; exact hin)
      have hxi : (ixL xs).getD i 0 = ((xs.getD i 0 : Nat) : Int) := by
        unfold ixL
        rw [List.getD_eq_getElem?_getD, List.getD_eq_getElem?_getD, List.getElem?_map]
        rw [List.getElem?_eq_getElem (by rw [unhide HEM]; exact hin)]
        rfl
      rw [hxi] at l0
      have hx := unhide HXX i hin
      obtain ⟨x, ex⟩ : ∃ x, xs.getD i 0 = x := ⟨_, rfl⟩
      rw [ex] at hx l0
      have c0 := ((unhide HB8).below (unhide HXR)).cell x hx.1
      rw [hx.2] at c0
      have j1 : ¬ (x : Int) < 0 := by omega
      have j2 : ¬ (n : Int) ≤ (x : Int) := by omega
      have j3 : (0 : Int) ≤ (x : Int) := by omega
      have j4 : (x : Int) < (n : Int) := by omega
      clear hob hli hxi hx ex hlen
      go_wp2_with fail
      go_roundw
      case rel => exact ⟨i + 1, by omega, by go_num, HXR⟩
      case measure => simp [intOf]; omega
    · obtain rfl : i = m := by omega
      have i7 : ¬ (i : Int) < (i : Int) := by omega
      go_wp2_with fail
      go_ret
      exact ⟨rfl, Below.next (unhide HX8) (unhide HXR) (Nat.le_refl _)⟩

theorem safe_walk (w : World) (ao : Option Addr) (no co : Nat) (ar : Option Addr) (nr cr : Nat) (z : Int) (aa : Option Addr) (na ca : Nat) (us : List Sl) (os : List (List Int)) (rs : List Int) (acts : List Ac) (hO : IsLL w (.slice ao no co) us os) (hR : IsL KI w (.slice ar nr cr) rs) (hA : IsL KA w (.slice aa na ca) acts) (hbeg : ∀ W : World, Calls Try.prog 8 #[] W fun e w' => e = .returned (.bool true) ∧ Below W.heap.size W w') (hno : no ≤ 1000000000000000) :
    Calls Try.prog 5 #[.agg #[.slice ao no co, .slice ar nr cr], .int .i64 z, .slice aa na ca] w fun e w' => e = .returned (.bool true) ∧ Below w.heap.size w w' := by
  have hal := hA.len
  cases hv : vastB os rs with
  | true => exact SweepSafe_vast w ao no co ar nr cr z aa na ca us os rs acts hO hR hA hbeg hno hv
  | false =>
    by_cases hn : 5000 < na
    · exact SweepSafe_na w ao no co ar nr cr z aa na ca us os rs acts hO hR hA hbeg hno hv hn
    · by_cases h1 : z < 1
      · exact SweepSafe_z1 w ao no co ar nr cr z aa na ca us os rs acts hO hR hA hbeg hno hv (by omega) h1
      · by_cases h3 : 3 < z
        · exact SweepSafe_z3 w ao no co ar nr cr z aa na ca us os rs acts hO hR hA hbeg hno hv (by omega) (by omega) h3
        · by_cases hf : (heapF os rs).1 = 0
          · have hf0 := heapF_zero hf
            have hgh : GoodH os rs := heapF_good hf
            rcases pre_cases z ⟨os, rs, shadeL ⟨fun _ => true, []⟩ rs⟩ acts acts.length with hp | ⟨i, hi, hp, hw⟩
            · exact SweepSafe_good w ao no co ar nr cr z aa na ca us os rs acts hO hR hA hbeg hno hv (by omega) (by omega) (by omega) hf0 hp
            · refine SweepSafe_fault w ao no co ar nr cr z aa na ca us os rs acts hO hR hA hbeg hno hv (by omega) (by omega) (by omega) (wrongG (stG z ⟨os, rs, shadeL ⟨fun _ => true, []⟩ rs⟩ acts i) (acts.getD i ac0)) (i : Int) hw (fun W hW => (cycle_any W ao no co ar nr cr us os rs (hO.below hW) (hR.below hW) hf0 z (by omega) (by omega) aa na ca acts (hA.below hW) (by omega)).mono fun e w' hc => ?_)
              rcases hc with ⟨j, hj, hpj, hwj, he, hb⟩ | ⟨hpn, _⟩
              · have e2 : j = i := by
                  rcases Nat.lt_trichotomy j i with q | q | q
                  · exact absurd (hp j q) hwj
                  · exact q
                  · exact absurd (hpj i q) hw
                subst e2
                exact ⟨he, hb⟩
              · exact absurd (hpn i hi) hw
          · exact SweepSafe_fault w ao no co ar nr cr z aa na ca us os rs acts hO hR hA hbeg hno hv (by omega) (by omega) (by omega) (heapF os rs).1 (heapF os rs).2 hf (fun W hW => cycle_fault W ao no co ar nr cr us os rs (hO.below hW) (hR.below hW) z aa na ca (heapF os rs).1 (heapF os rs).2 (by unfold cyF; rw [if_pos hf]) hf)
end Go.Proofs.Ytmkehjncnaokoaa
