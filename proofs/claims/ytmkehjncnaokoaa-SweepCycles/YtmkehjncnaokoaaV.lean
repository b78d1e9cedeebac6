/-
  law.listAs; the law SweepLost, but for its beginning.
-/
import Derived.Test.YtmkehjncnaokoaaT
namespace Go.Proofs.Ytmkehjncnaokoaa
open Go.RowKit

theorem OwnO.isl {lo : Nat} {w : World} {v : Value} {xs : List Int} (h : OwnO lo w v xs) : IsL KI w v xs := by
  rcases h with ⟨rfl, rfl⟩ | ⟨g, off, cap, rfl, h1, h2, h3, h4, _⟩
  · exact isl_nil w
  · refine Lies.isl ki (fun j i u hj hu => ?_) rfl h3
    have hi : i < KI.k := by
      have := (List.getElem?_eq_some_iff.1 hu).1
      rwa [ki.len] at this
    have hk : KI.k = 1 := rfl
    have hi0 : i = 0 := by omega
    subst hi0
    rw [hk, show off + j * 1 + 0 = off + j by omega, h4 j hj]
    have e2 : (KI.f (xs.getD j 0))[0]? = some (.int .i64 (xs.getD j 0)) := rfl
    rw [← e2]
    exact hu
theorem lost_same {os : List (List Int)} {rs : List Int} {xs : List Nat} {f : Nat → Bool} (h : LostIs os rs xs) (hf : ∀ x, x < os.length → (f x = true ↔ Rc os rs x)) : xs = (List.range os.length).filter fun x => !f x := by
  obtain ⟨wh, rfl, hw⟩ := h
  apply List.filter_congr
  intro x hx
  have hx' := List.mem_range.1 hx
  have h1 := hw x hx'
  have h2 := hf x hx'
  cases e1 : wh x with
  | false =>
    have := h2.2 (h1.1 e1)
    simp [this]
  | true =>
    cases e2 : f x with
    | false => rfl
    | true =>
      have := h1.2 (h2.1 e2)
      rw [e1] at this; cases this

set_option maxRecDepth 100000 in
set_option maxHeartbeats 4000000 in
theorem want_any (w : World) (ao : Option Addr) (no co : Nat) (ar : Option Addr) (nr cr : Nat) (us : List Sl) (os : List (List Int)) (rs : List Int) (hO : IsLL w (.slice ao no co) us os) (hR : IsL KI w (.slice ar nr cr) rs) (hg : GoodH os rs) (H : Nat) (hH : w.heap[H]? = some (.cells #[.slice ao no co, .slice ar nr cr] 25 (0, 0))) :
    Calls Try.prog 16 #[.pointer (some ⟨H, 0, none⟩)] w fun e w' => ∃ f : Nat → Bool, ∃ a c, e = .returned (.slice a ((List.range no).filter fun x => !f x).length c) ∧ (∀ x, x < no → (f x = true ↔ Rc os rs x)) ∧ IsL KI w' (.slice a ((List.range no).filter fun x => !f x).length c) (ixL ((List.range no).filter fun x => !f x)) ∧ Below w.heap.size w w' := by
  have hol : os.length = no := by rw [← hO.len]; exact hO.row.len
  have hno : no ≤ 500 := by rw [← hol]; exact hg.no
  have HRE := hide (reached_any w ao no co ar nr cr us os rs hO hR hg)
  obtain ⟨b0, b1, bf0, bf1, bl⟩ := block2 hH
  clear hO hR hg hol hH
  go_enter Try.func16, Try.ntmps16
  go_wp2_with (first
    | (go_at_call 18; (with_reducible refine Calls.mono (unhide HRE) ?_); rintro e w1 ⟨B, rfl, f, hB, hf, _, hb1⟩; have HB := hide hB; have HF := hide hf; have HX1 := hide hb1; clear hB hf hb1)
    | (go_at_call 17; (with_reducible refine Calls.mono (not_any _ B no f (unhide HB) (by omega)) ?_); rintro e w2 ⟨a2, c2, rfl, ho2, hb2⟩; have HO2 := hide ho2; have HX2 := hide (Below.next (unhide HX1) hb2 (Nat.le_refl _)); clear ho2 hb2))
  go_ret
  exact ⟨f, a2, c2, rfl, unhide HF, (unhide HO2).isl, unhide HX2⟩

set_option maxRecDepth 100000 in
set_option maxHeartbeats 4000000 in
theorem listAs_fault (w : World) (fc fa : Int) (hfc : fc ≠ 0) (vf : Value) :
    Calls Try.prog 15 #[.slice none 0 0, .agg #[.int .i64 fc, .int .i64 fa], .agg #[.int .i64 fc, .int .i64 fa], vf] w fun e w' => e = .returned (.bool true) ∧ Below w.heap.size w w' := by
  have x2 : (fc != 0) = true := by simpa using hfc
  have x3 : (fc == fc) = true := by simp
  have x4 : (fa == fa) = true := by simp
  obtain ⟨W2, e2, hx, hh, hq⟩ := two_new w (.cells #[.int .i64 fc, .int .i64 fa] 30) (.cells #[.int .i64 fc, .int .i64 fa] 30)
  have HX := hide hx; have HE2 := hide e2
  obtain ⟨b0, b1, bf0, bf1, bl⟩ := block2 hh
  obtain ⟨q0, q1, qf0, qf1, ql⟩ := block2 hq
  clear hx hh hq e2 hfc
  go_enter Try.func15, Try.ntmps15
  go_upto_region 1 with fail
  rw [unhide HE2]
  clear HE2
  go_wp2_with fail
  go_ret
  exact ⟨rfl, unhide HX⟩

set_option maxRecDepth 100000 in
set_option maxHeartbeats 4000000 in
theorem listAs_good (w : World) (ao : Option Addr) (no co : Nat) (ar : Option Addr) (nr cr : Nat) (us : List Sl) (os : List (List Int)) (rs : List Int) (hO : IsLL w (.slice ao no co) us os) (hR : IsL KI w (.slice ar nr cr) rs) (hg : GoodH os rs) (H : Nat) (hH : w.heap[H]? = some (.cells #[.slice ao no co, .slice ar nr cr] 25 (0, 0))) (a : Option Addr) (c : Nat) (xs : List Nat) (hL : LostIs os rs xs) (hx : IsL KI w (.slice a xs.length c) (ixL xs)) :
    Calls Try.prog 15 #[.slice a xs.length c, .agg #[.int .i64 0, .int .i64 0], .agg #[.int .i64 0, .int .i64 0], .func (.func 16) #[] #[.pointer (some ⟨H, 0, none⟩)]] w fun e w' => e = .returned (.bool true) ∧ Below w.heap.size w w' := by
  have hol : os.length = no := by rw [← hO.len]; exact hO.row.len
  have hno : no ≤ 500 := by rw [← hol]; exact hg.no
  obtain ⟨W2, e2, hx2, hh, hq⟩ := two_new w (.cells #[.int .i64 0, .int .i64 0] 30) (.cells #[.int .i64 0, .int .i64 0] 30)
  have HWA := hide (want_any W2 ao no co ar nr cr us os rs (hO.below hx2) (hR.below hx2) hg H (keep_below hH hx2))
  have HXS := hide (hx.below hx2)
  have hxl : xs.length ≤ 500 := by
    obtain ⟨wh, e, _⟩ := hL
    rw [e]
    have := List.length_filter_le wh (List.range os.length)
    rw [List.length_range] at this
    omega
  have HL := hide hL; have HOL := hide hol; have HXL := hide hxl
  have HX := hide hx2; have HE2 := hide e2
  obtain ⟨b0, b1, bf0, bf1, bl⟩ := block2 hh
  obtain ⟨q0, q1, qf0, qf1, ql⟩ := block2 hq
  clear hx2 hh hq e2 hO hR hg hol hH hx hL hxl
  go_enter Try.func15, Try.ntmps15
  go_upto_region 1 with fail
  rw [unhide HE2]
  clear HE2
  go_wp2_with (first
    | (go_at_call 16; (with_reducible refine Calls.mono (unhide HWA) ?_); rintro e w3 ⟨f, a3, c3, rfl, hf3, hi3, hb3⟩; have he3 : xs = (List.range no).filter (fun x => !f x) := (by rw [← unhide HOL]; exact lost_same (unhide HL) (by rw [unhide HOL]; exact hf3)); rw [← he3] at hi3; rw [← he3]; have HI3 := hide hi3; have HX3 := hide (Below.next (unhide HX) hb3 (Nat.le_refl _)); have HXS3 := hide ((unhide HXS).below hb3); clear hf3 hi3 hb3 he3)
    | (go_at_call 22; (with_reducible refine Calls.mono (ints_same _ _ _ (ixL xs) (unhide HXS3) (unhide HI3) (by rw [ixL_len]; exact Nat.le_trans (unhide HXL) (by decide))) ?_); rintro e w4 ⟨rfl, hb4⟩; have HX4 := hide (Below.next (unhide HX3) hb4 (Nat.le_refl _)); clear hb4))
  go_ret
  exact ⟨rfl, unhide HX4⟩

set_option maxRecDepth 100000 in
set_option maxHeartbeats 4000000 in
theorem sl_good (w : World) (ao : Option Addr) (no co : Nat) (ar : Option Addr) (nr cr : Nat) (us : List Sl) (os : List (List Int)) (rs : List Int) (hO : IsLL w (.slice ao no co) us os) (hR : IsL KI w (.slice ar nr cr) rs) (hbeg : ∀ W : World, Calls Try.prog 8 #[] W fun e w' => e = .returned (.bool true) ∧ Below W.heap.size W w') (hv : vastB os rs = false) (hf : heapF os rs = (0, 0)) :
    Calls Try.prog 3 #[.agg #[.slice ao no co, .slice ar nr cr]] w fun e w' => e = .returned (.bool true) ∧ Below w.heap.size w w' := by
  obtain ⟨hr1, hr2, hr3⟩ := vast_no hv
  have hol : os.length = no := by rw [← hO.len]; exact hO.row.len
  have hrn := hR.len
  have hno : no ≤ 1000 := by rw [← hol]; exact hr2
  have hnr : nr ≤ 1000 := by rw [← hrn]; exact hr3
  have HCK : Hid (∀ W a c a' c' vs, IsLL W (.slice a no c) vs os → IsL KI W (.slice a' nr c') rs → Calls Try.prog 11 #[.agg #[.slice a no c, .slice a' nr c']] W fun e w' => e = .returned (.agg #[.int .i64 0, .int .i64 0]) ∧ Below W.heap.size W w') := fun W a c a' c' vs q1 q2 => by
    have h_ := check_any W a no c a' nr c' vs os rs q1 q2
    rwa [hf] at h_
  have HHF : Hid (∀ W, IsLL W (.slice ao no co) us os → IsL KI W (.slice ar nr cr) rs → Calls Try.prog 13 #[.agg #[.slice ao no co, .slice ar nr cr]] W fun e w' => e = .returned (.agg #[.int .i64 0, .int .i64 0]) ∧ Below W.heap.size W w') := fun W q1 q2 => by
    have h_ := heapsFault_any W ao no co ar nr cr us os rs q1 q2
    rwa [hf] at h_
  have HF := hide hf
  have HGD : Hid (GoodH os rs) := heapF_good (by rw [hf])
  clear hf
  have HV := hide hv; have HRL := hide hr1; have HBG := hide hbeg
  have HO_0 := hide hO; have HR_0 := hide hR
  have HX_0 := hide (Below.refl w.heap.size w)
  clear hO hR hr1 hr2 hr3 hol hrn hv hbeg
  go_enter Try.func3, Try.ntmps3
  go_upto_region 1 with fail
  have hal : Below w.heap.size w (w.alloc (.cells #[.slice ao no co, .slice ar nr cr] 25)) := (Below.refl _ _).alloc (Nat.le_refl _) _
  have HHn := hide (new_block w (.cells #[.slice ao no co, .slice ar nr cr] 25))
  (have HX_1 := hide (Below.next (unhide HX_0) hal (Nat.le_refl _)); have HO_1 := hide ((unhide HO_0).below hal); have HR_1 := hide ((unhide HR_0).below hal); clear HX_0 HO_0 HR_0)
  obtain ⟨H, eH⟩ : ∃ X, w.heap.size = X := ⟨_, rfl⟩
  obtain ⟨W1, eW1⟩ : ∃ X, w.alloc (.cells #[.slice ao no co, .slice ar nr cr] 25) = X := ⟨_, rfl⟩
  rw [eW1] at HX_1
  rw [eW1] at HO_1
  rw [eW1] at HR_1
  rw [eH, eW1] at HHn
  rw [eH, eW1]
  have HH_1 := HHn
  clear eH eW1 hal HHn
  go_upto_region 3 with (go_at_call 8; (with_reducible refine Calls.mono (unhide HBG _) ?_); rintro e w1 ⟨rfl, hb1⟩; have HX_2 := hide (Below.next (unhide HX_1) hb1 (Nat.le_refl _)); have HO_2 := hide ((unhide HO_1).below hb1); have HR_2 := hide ((unhide HR_1).below hb1); have HH_2 := hide (keep_below (unhide HH_1) hb1); clear HX_1 HO_1 HR_1 HH_1; clear hb1)
  obtain ⟨b0, b1, bf0, bf1, bl⟩ := block2 (unhide HH_2)
  go_upto_region 5 with (go_at_call 9; (with_reducible refine Calls.mono (vastHeap_any _ ao no co ar nr cr us os rs (unhide HO_2) (unhide HR_2) (by omega)) ?_); rintro e w2 ⟨rfl, hb2⟩; rw [unhide HV]; have HX_3 := hide (Below.next (unhide HX_2) hb2 (Nat.le_refl _)); have HO_3 := hide ((unhide HO_2).below hb2); have HR_3 := hide ((unhide HR_2).below hb2); have HH_3 := hide (keep_below (unhide HH_2) hb2); clear HX_2 HO_2 HR_2 HH_2; clear hb2)
  clear b0 b1 bf0 bf1 bl
  obtain ⟨b0, b1, bf0, bf1, bl⟩ := block2 (unhide HH_3)
  go_upto_region 6 with (go_at_call 10; (with_reducible refine Calls.mono (ownHeap_any _ ao no co ar nr cr us os rs (unhide HO_3) (unhide HR_3) hno hnr (unhide HRL)) ?_); rintro e w3 ⟨a3, c3, a4, c4, rfl, ⟨us3, hi3⟩, hi4, hb3⟩; have HX_4 := hide (Below.next (unhide HX_3) hb3 (Nat.le_refl _)); have HO_4 := hide ((unhide HO_3).below hb3); have HR_4 := hide ((unhide HR_3).below hb3); have HH_4 := hide (keep_below (unhide HH_3) hb3); clear HX_3 HO_3 HR_3 HH_3; have HXO_4 := hide hi3; have HXR_4 := hide hi4; clear hi3 hi4 hb3)
  clear b0 b1 bf0 bf1 bl
  have hal : Below w3.heap.size w3 (w3.alloc (.cells #[.slice a3 no c3, .slice a4 nr c4] 25)) := (Below.refl _ _).alloc (Nat.le_refl _) _
  have HBXn := hide (new_block w3 (.cells #[.slice a3 no c3, .slice a4 nr c4] 25))
  (have HX_5 := hide (Below.next (unhide HX_4) hal (Nat.le_refl _)); have HO_5 := hide ((unhide HO_4).below hal); have HR_5 := hide ((unhide HR_4).below hal); have HH_5 := hide (keep_below (unhide HH_4) hal); have HXO_5 := hide ((unhide HXO_4).below hal); have HXR_5 := hide ((unhide HXR_4).below hal); clear HX_4 HO_4 HR_4 HH_4 HXO_4 HXR_4)
  obtain ⟨X, eX⟩ : ∃ X, w3.heap.size = X := ⟨_, rfl⟩
  obtain ⟨W5, eW5⟩ : ∃ X, w3.alloc (.cells #[.slice a3 no c3, .slice a4 nr c4] 25) = X := ⟨_, rfl⟩
  rw [eW5] at HX_5
  rw [eW5] at HO_5
  rw [eW5] at HR_5
  rw [eW5] at HH_5
  rw [eW5] at HXO_5
  rw [eW5] at HXR_5
  rw [eX, eW5] at HBXn
  rw [eX, eW5]
  have HBX_5 := HBXn
  clear eX eW5 hal HBXn
  obtain ⟨x0, x1, xf0, xf1, xl⟩ := block2 (unhide HBX_5)
  go_upto_region 7 with (go_at_call 11; (with_reducible refine Calls.mono (unhide HCK _ _ _ _ _ _ (unhide HXO_5) (unhide HXR_5)) ?_); rintro e w4 ⟨rfl, hb4⟩; have HX_6 := hide (Below.next (unhide HX_5) hb4 (Nat.le_refl _)); have HO_6 := hide ((unhide HO_5).below hb4); have HR_6 := hide ((unhide HR_5).below hb4); have HH_6 := hide (keep_below (unhide HH_5) hb4); have HXO_6 := hide ((unhide HXO_5).below hb4); have HXR_6 := hide ((unhide HXR_5).below hb4); have HBX_6 := hide (keep_below (unhide HBX_5) hb4); clear HX_5 HO_5 HR_5 HH_5 HXO_5 HXR_5 HBX_5; clear hb4)
  clear x0 x1 xf0 xf1 xl
  have hal : Below w4.heap.size w4 (w4.alloc (.cells #[.int .i64 0, .int .i64 0] 30)) := (Below.refl _ _).alloc (Nat.le_refl _) _
  have HCn := hide (new_block w4 (.cells #[.int .i64 0, .int .i64 0] 30))
  (have HX_7 := hide (Below.next (unhide HX_6) hal (Nat.le_refl _)); have HO_7 := hide ((unhide HO_6).below hal); have HR_7 := hide ((unhide HR_6).below hal); have HH_7 := hide (keep_below (unhide HH_6) hal); have HXO_7 := hide ((unhide HXO_6).below hal); have HXR_7 := hide ((unhide HXR_6).below hal); have HBX_7 := hide (keep_below (unhide HBX_6) hal); clear HX_6 HO_6 HR_6 HH_6 HXO_6 HXR_6 HBX_6)
  obtain ⟨C, eC⟩ : ∃ X, w4.heap.size = X := ⟨_, rfl⟩
  obtain ⟨W7, eW7⟩ : ∃ X, w4.alloc (.cells #[.int .i64 0, .int .i64 0] 30) = X := ⟨_, rfl⟩
  rw [eW7] at HX_7
  rw [eW7] at HO_7
  rw [eW7] at HR_7
  rw [eW7] at HH_7
  rw [eW7] at HXO_7
  rw [eW7] at HXR_7
  rw [eW7] at HBX_7
  rw [eC, eW7] at HCn
  rw [eC, eW7]
  have HC_7 := HCn
  clear eC eW7 hal HCn
  obtain ⟨x0, x1, xf0, xf1, xl⟩ := block2 (unhide HBX_7)
  go_upto_region 8 with (go_at_call 12; (with_reducible refine Calls.mono (lost_good _ a3 no c3 a4 nr c4 us3 os rs (unhide HXO_7) (unhide HXR_7) (unhide HF)) ?_); rintro e w5 ⟨xs, a5, c5, rfl, hl5, ho5, hb5⟩; have HLI := hide hl5; have HX_8 := hide (Below.next (unhide HX_7) hb5 (Nat.le_refl _)); have HO_8 := hide ((unhide HO_7).below hb5); have HR_8 := hide ((unhide HR_7).below hb5); have HH_8 := hide (keep_below (unhide HH_7) hb5); have HXO_8 := hide ((unhide HXO_7).below hb5); have HXR_8 := hide ((unhide HXR_7).below hb5); have HBX_8 := hide (keep_below (unhide HBX_7) hb5); have HC_8 := hide (keep_below (unhide HC_7) hb5); clear HX_7 HO_7 HR_7 HH_7 HXO_7 HXR_7 HBX_7 HC_7; have HLO_8 := hide ho5; clear hl5 ho5 hb5)
  clear x0 x1 xf0 xf1 xl
  have hal : Below w5.heap.size w5 (w5.alloc (.cells #[.int .i64 0, .int .i64 0] 30)) := (Below.refl _ _).alloc (Nat.le_refl _) _
  have HFBn := hide (new_block w5 (.cells #[.int .i64 0, .int .i64 0] 30))
  (have HX_9 := hide (Below.next (unhide HX_8) hal (Nat.le_refl _)); have HO_9 := hide ((unhide HO_8).below hal); have HR_9 := hide ((unhide HR_8).below hal); have HH_9 := hide (keep_below (unhide HH_8) hal); have HXO_9 := hide ((unhide HXO_8).below hal); have HXR_9 := hide ((unhide HXR_8).below hal); have HBX_9 := hide (keep_below (unhide HBX_8) hal); have HC_9 := hide (keep_below (unhide HC_8) hal); have HLO_9 := hide ((unhide HLO_8).keep hal.size (fun k hk => hal.block k ((unhide HLO_8).lt k hk).2)); clear HX_8 HO_8 HR_8 HH_8 HXO_8 HXR_8 HBX_8 HC_8 HLO_8)
  obtain ⟨F, eF⟩ : ∃ X, w5.heap.size = X := ⟨_, rfl⟩
  obtain ⟨W9, eW9⟩ : ∃ X, w5.alloc (.cells #[.int .i64 0, .int .i64 0] 30) = X := ⟨_, rfl⟩
  rw [eW9] at HX_9
  rw [eW9] at HO_9
  rw [eW9] at HR_9
  rw [eW9] at HH_9
  rw [eW9] at HXO_9
  rw [eW9] at HXR_9
  rw [eW9] at HBX_9
  rw [eW9] at HC_9
  rw [eW9] at HLO_9
  rw [eF, eW9] at HFBn
  rw [eF, eW9]
  have HFB_9 := HFBn
  clear eF eW9 hal HFBn
  obtain ⟨b0, b1, bf0, bf1, bl⟩ := block2 (unhide HH_9)
  go_upto_region 9 with (go_at_call 13; (with_reducible refine Calls.mono (unhide HHF _ (unhide HO_9) (unhide HR_9)) ?_); rintro e w6 ⟨rfl, hb6⟩; have HX_10 := hide (Below.next (unhide HX_9) hb6 (Nat.le_refl _)); have HO_10 := hide ((unhide HO_9).below hb6); have HR_10 := hide ((unhide HR_9).below hb6); have HH_10 := hide (keep_below (unhide HH_9) hb6); have HXO_10 := hide ((unhide HXO_9).below hb6); have HXR_10 := hide ((unhide HXR_9).below hb6); have HBX_10 := hide (keep_below (unhide HBX_9) hb6); have HC_10 := hide (keep_below (unhide HC_9) hb6); have HLO_10 := hide ((unhide HLO_9).keep hb6.size (fun k hk => hb6.block k ((unhide HLO_9).lt k hk).2)); have HFB_10 := hide (keep_below (unhide HFB_9) hb6); clear HX_9 HO_9 HR_9 HH_9 HXO_9 HXR_9 HBX_9 HC_9 HLO_9 HFB_9; clear hb6)
  clear b0 b1 bf0 bf1 bl
  have hal : Below w6.heap.size w6 (w6.alloc (.cells #[.int .i64 0, .int .i64 0] 30)) := (Below.refl _ _).alloc (Nat.le_refl _) _
  have HDn := hide (new_block w6 (.cells #[.int .i64 0, .int .i64 0] 30))
  (have HX_11 := hide (Below.next (unhide HX_10) hal (Nat.le_refl _)); have HO_11 := hide ((unhide HO_10).below hal); have HR_11 := hide ((unhide HR_10).below hal); have HH_11 := hide (keep_below (unhide HH_10) hal); have HXO_11 := hide ((unhide HXO_10).below hal); have HXR_11 := hide ((unhide HXR_10).below hal); have HBX_11 := hide (keep_below (unhide HBX_10) hal); have HC_11 := hide (keep_below (unhide HC_10) hal); have HLO_11 := hide ((unhide HLO_10).keep hal.size (fun k hk => hal.block k ((unhide HLO_10).lt k hk).2)); have HFB_11 := hide (keep_below (unhide HFB_10) hal); clear HX_10 HO_10 HR_10 HH_10 HXO_10 HXR_10 HBX_10 HC_10 HLO_10 HFB_10)
  obtain ⟨D, eD⟩ : ∃ X, w6.heap.size = X := ⟨_, rfl⟩
  obtain ⟨W11, eW11⟩ : ∃ X, w6.alloc (.cells #[.int .i64 0, .int .i64 0] 30) = X := ⟨_, rfl⟩
  rw [eW11] at HX_11
  rw [eW11] at HO_11
  rw [eW11] at HR_11
  rw [eW11] at HH_11
  rw [eW11] at HXO_11
  rw [eW11] at HXR_11
  rw [eW11] at HBX_11
  rw [eW11] at HC_11
  rw [eW11] at HLO_11
  rw [eW11] at HFB_11
  rw [eD, eW11] at HDn
  rw [eD, eW11]
  have HD_11 := HDn
  clear eD eW11 hal HDn
  obtain ⟨g0, g1, gf0, gf1, gl⟩ := block2 (unhide HC_11)
  obtain ⟨d0, d1, df0, df1, dl⟩ := block2 (unhide HD_11)
  obtain ⟨x0, x1, xf0, xf1, xl⟩ := block2 (unhide HBX_11)
  obtain ⟨b0, b1, bf0, bf1, bl⟩ := block2 (unhide HH_11)
  go_upto_region 11 with (go_at_call 14; (with_reducible refine Calls.mono (sameHeap_any _ a3 no c3 a4 nr c4 ao co ar cr us3 us os rs (unhide HXO_11) (unhide HXR_11) (unhide HO_11) (unhide HR_11) (by omega) (by omega) (fun i hi => Nat.le_trans (unhide HRL i hi) (by decide))) ?_); rintro e w7 ⟨rfl, hb7⟩; have HX_12 := hide (Below.next (unhide HX_11) hb7 (Nat.le_refl _)); have HO_12 := hide ((unhide HO_11).below hb7); have HR_12 := hide ((unhide HR_11).below hb7); have HH_12 := hide (keep_below (unhide HH_11) hb7); have HXO_12 := hide ((unhide HXO_11).below hb7); have HXR_12 := hide ((unhide HXR_11).below hb7); have HBX_12 := hide (keep_below (unhide HBX_11) hb7); have HC_12 := hide (keep_below (unhide HC_11) hb7); have HLO_12 := hide ((unhide HLO_11).keep hb7.size (fun k hk => hb7.block k ((unhide HLO_11).lt k hk).2)); have HFB_12 := hide (keep_below (unhide HFB_11) hb7); have HD_12 := hide (keep_below (unhide HD_11) hb7); clear HX_11 HO_11 HR_11 HH_11 HXO_11 HXR_11 HBX_11 HC_11 HLO_11 HFB_11 HD_11; clear hb7)
  clear g0 g1 gf0 gf1 gl d0 d1 df0 df1 dl x0 x1 xf0 xf1 xl b0 b1 bf0 bf1 bl
  obtain ⟨g0, g1, gf0, gf1, gl⟩ := block2 (unhide HFB_12)
  obtain ⟨d0, d1, df0, df1, dl⟩ := block2 (unhide HD_12)
  go_wp2_with (go_at_call 15; (with_reducible refine Calls.mono (listAs_good _ ao no co ar nr cr us os rs (unhide HO_12) (unhide HR_12) (unhide HGD) H (unhide HH_12) a5 c5 xs (unhide HLI) (unhide HLO_12).isl) ?_); rintro e w8 ⟨rfl, hb8⟩; have HX8 := hide (Below.next (unhide HX_12) hb8 (Nat.le_refl _)); clear hb8)
  go_ret
  exact ⟨rfl, unhide HX8⟩

set_option maxRecDepth 100000 in
set_option maxHeartbeats 4000000 in
theorem sl_fault (w : World) (ao : Option Addr) (no co : Nat) (ar : Option Addr) (nr cr : Nat) (us : List Sl) (os : List (List Int)) (rs : List Int) (hO : IsLL w (.slice ao no co) us os) (hR : IsL KI w (.slice ar nr cr) rs) (hbeg : ∀ W : World, Calls Try.prog 8 #[] W fun e w' => e = .returned (.bool true) ∧ Below W.heap.size W w') (hv : vastB os rs = false) (fc fa : Int) (hf : heapF os rs = (fc, fa)) (hfc : fc ≠ 0) :
    Calls Try.prog 3 #[.agg #[.slice ao no co, .slice ar nr cr]] w fun e w' => e = .returned (.bool true) ∧ Below w.heap.size w w' := by
  obtain ⟨hr1, hr2, hr3⟩ := vast_no hv
  have hol : os.length = no := by rw [← hO.len]; exact hO.row.len
  have hrn := hR.len
  have hno : no ≤ 1000 := by rw [← hol]; exact hr2
  have hnr : nr ≤ 1000 := by rw [← hrn]; exact hr3
  have HCK : Hid (∀ W a c a' c' vs, IsLL W (.slice a no c) vs os → IsL KI W (.slice a' nr c') rs → Calls Try.prog 11 #[.agg #[.slice a no c, .slice a' nr c']] W fun e w' => e = .returned (.agg #[.int .i64 fc, .int .i64 fa]) ∧ Below W.heap.size W w') := fun W a c a' c' vs q1 q2 => by
    have h_ := check_any W a no c a' nr c' vs os rs q1 q2
    rwa [hf] at h_
  have HHF : Hid (∀ W, IsLL W (.slice ao no co) us os → IsL KI W (.slice ar nr cr) rs → Calls Try.prog 13 #[.agg #[.slice ao no co, .slice ar nr cr]] W fun e w' => e = .returned (.agg #[.int .i64 fc, .int .i64 fa]) ∧ Below W.heap.size W w') := fun W q1 q2 => by
    have h_ := heapsFault_any W ao no co ar nr cr us os rs q1 q2
    rwa [hf] at h_
  have HF := hide hf
  have x1 : (fc == 0) = false := by simpa using hfc
  have x2 : (fc != 0) = true := by simpa using hfc
  have x3 : (fc == fc) = true := by simp
  have x4 : (fa == fa) = true := by simp
  clear hf
  have HV := hide hv; have HRL := hide hr1; have HBG := hide hbeg
  have HO_0 := hide hO; have HR_0 := hide hR
  have HX_0 := hide (Below.refl w.heap.size w)
  clear hO hR hr1 hr2 hr3 hol hrn hv hbeg
  go_enter Try.func3, Try.ntmps3
  go_upto_region 1 with fail
  have hal : Below w.heap.size w (w.alloc (.cells #[.slice ao no co, .slice ar nr cr] 25)) := (Below.refl _ _).alloc (Nat.le_refl _) _
  have HHn := hide (new_block w (.cells #[.slice ao no co, .slice ar nr cr] 25))
  (have HX_1 := hide (Below.next (unhide HX_0) hal (Nat.le_refl _)); have HO_1 := hide ((unhide HO_0).below hal); have HR_1 := hide ((unhide HR_0).below hal); clear HX_0 HO_0 HR_0)
  obtain ⟨H, eH⟩ : ∃ X, w.heap.size = X := ⟨_, rfl⟩
  obtain ⟨W1, eW1⟩ : ∃ X, w.alloc (.cells #[.slice ao no co, .slice ar nr cr] 25) = X := ⟨_, rfl⟩
  rw [eW1] at HX_1
  rw [eW1] at HO_1
  rw [eW1] at HR_1
  rw [eH, eW1] at HHn
  rw [eH, eW1]
  have HH_1 := HHn
  clear eH eW1 hal HHn
  go_upto_region 3 with (go_at_call 8; (with_reducible refine Calls.mono (unhide HBG _) ?_); rintro e w1 ⟨rfl, hb1⟩; have HX_2 := hide (Below.next (unhide HX_1) hb1 (Nat.le_refl _)); have HO_2 := hide ((unhide HO_1).below hb1); have HR_2 := hide ((unhide HR_1).below hb1); have HH_2 := hide (keep_below (unhide HH_1) hb1); clear HX_1 HO_1 HR_1 HH_1; clear hb1)
  obtain ⟨b0, b1, bf0, bf1, bl⟩ := block2 (unhide HH_2)
  go_upto_region 5 with (go_at_call 9; (with_reducible refine Calls.mono (vastHeap_any _ ao no co ar nr cr us os rs (unhide HO_2) (unhide HR_2) (by omega)) ?_); rintro e w2 ⟨rfl, hb2⟩; rw [unhide HV]; have HX_3 := hide (Below.next (unhide HX_2) hb2 (Nat.le_refl _)); have HO_3 := hide ((unhide HO_2).below hb2); have HR_3 := hide ((unhide HR_2).below hb2); have HH_3 := hide (keep_below (unhide HH_2) hb2); clear HX_2 HO_2 HR_2 HH_2; clear hb2)
  clear b0 b1 bf0 bf1 bl
  obtain ⟨b0, b1, bf0, bf1, bl⟩ := block2 (unhide HH_3)
  go_upto_region 6 with (go_at_call 10; (with_reducible refine Calls.mono (ownHeap_any _ ao no co ar nr cr us os rs (unhide HO_3) (unhide HR_3) hno hnr (unhide HRL)) ?_); rintro e w3 ⟨a3, c3, a4, c4, rfl, ⟨us3, hi3⟩, hi4, hb3⟩; have HX_4 := hide (Below.next (unhide HX_3) hb3 (Nat.le_refl _)); have HO_4 := hide ((unhide HO_3).below hb3); have HR_4 := hide ((unhide HR_3).below hb3); have HH_4 := hide (keep_below (unhide HH_3) hb3); clear HX_3 HO_3 HR_3 HH_3; have HXO_4 := hide hi3; have HXR_4 := hide hi4; clear hi3 hi4 hb3)
  clear b0 b1 bf0 bf1 bl
  have hal : Below w3.heap.size w3 (w3.alloc (.cells #[.slice a3 no c3, .slice a4 nr c4] 25)) := (Below.refl _ _).alloc (Nat.le_refl _) _
  have HBXn := hide (new_block w3 (.cells #[.slice a3 no c3, .slice a4 nr c4] 25))
  (have HX_5 := hide (Below.next (unhide HX_4) hal (Nat.le_refl _)); have HO_5 := hide ((unhide HO_4).below hal); have HR_5 := hide ((unhide HR_4).below hal); have HH_5 := hide (keep_below (unhide HH_4) hal); have HXO_5 := hide ((unhide HXO_4).below hal); have HXR_5 := hide ((unhide HXR_4).below hal); clear HX_4 HO_4 HR_4 HH_4 HXO_4 HXR_4)
  obtain ⟨X, eX⟩ : ∃ X, w3.heap.size = X := ⟨_, rfl⟩
  obtain ⟨W5, eW5⟩ : ∃ X, w3.alloc (.cells #[.slice a3 no c3, .slice a4 nr c4] 25) = X := ⟨_, rfl⟩
  rw [eW5] at HX_5
  rw [eW5] at HO_5
  rw [eW5] at HR_5
  rw [eW5] at HH_5
  rw [eW5] at HXO_5
  rw [eW5] at HXR_5
  rw [eX, eW5] at HBXn
  rw [eX, eW5]
  have HBX_5 := HBXn
  clear eX eW5 hal HBXn
  obtain ⟨x0, x1, xf0, xf1, xl⟩ := block2 (unhide HBX_5)
  go_upto_region 7 with (go_at_call 11; (with_reducible refine Calls.mono (unhide HCK _ _ _ _ _ _ (unhide HXO_5) (unhide HXR_5)) ?_); rintro e w4 ⟨rfl, hb4⟩; have HX_6 := hide (Below.next (unhide HX_5) hb4 (Nat.le_refl _)); have HO_6 := hide ((unhide HO_5).below hb4); have HR_6 := hide ((unhide HR_5).below hb4); have HH_6 := hide (keep_below (unhide HH_5) hb4); have HXO_6 := hide ((unhide HXO_5).below hb4); have HXR_6 := hide ((unhide HXR_5).below hb4); have HBX_6 := hide (keep_below (unhide HBX_5) hb4); clear HX_5 HO_5 HR_5 HH_5 HXO_5 HXR_5 HBX_5; clear hb4)
  clear x0 x1 xf0 xf1 xl
  have hal : Below w4.heap.size w4 (w4.alloc (.cells #[.int .i64 fc, .int .i64 fa] 30)) := (Below.refl _ _).alloc (Nat.le_refl _) _
  have HCn := hide (new_block w4 (.cells #[.int .i64 fc, .int .i64 fa] 30))
  (have HX_7 := hide (Below.next (unhide HX_6) hal (Nat.le_refl _)); have HO_7 := hide ((unhide HO_6).below hal); have HR_7 := hide ((unhide HR_6).below hal); have HH_7 := hide (keep_below (unhide HH_6) hal); have HXO_7 := hide ((unhide HXO_6).below hal); have HXR_7 := hide ((unhide HXR_6).below hal); have HBX_7 := hide (keep_below (unhide HBX_6) hal); clear HX_6 HO_6 HR_6 HH_6 HXO_6 HXR_6 HBX_6)
  obtain ⟨C, eC⟩ : ∃ X, w4.heap.size = X := ⟨_, rfl⟩
  obtain ⟨W7, eW7⟩ : ∃ X, w4.alloc (.cells #[.int .i64 fc, .int .i64 fa] 30) = X := ⟨_, rfl⟩
  rw [eW7] at HX_7
  rw [eW7] at HO_7
  rw [eW7] at HR_7
  rw [eW7] at HH_7
  rw [eW7] at HXO_7
  rw [eW7] at HXR_7
  rw [eW7] at HBX_7
  rw [eC, eW7] at HCn
  rw [eC, eW7]
  have HC_7 := HCn
  clear eC eW7 hal HCn
  obtain ⟨x0, x1, xf0, xf1, xl⟩ := block2 (unhide HBX_7)
  go_upto_region 8 with (go_at_call 12; (with_reducible refine Calls.mono (lost_fault _ a3 no c3 a4 nr c4 us3 os rs (unhide HXO_7) (unhide HXR_7) fc fa (unhide HF) hfc) ?_); rintro e w5 ⟨rfl, hb5⟩; have HX_8 := hide (Below.next (unhide HX_7) hb5 (Nat.le_refl _)); have HO_8 := hide ((unhide HO_7).below hb5); have HR_8 := hide ((unhide HR_7).below hb5); have HH_8 := hide (keep_below (unhide HH_7) hb5); have HXO_8 := hide ((unhide HXO_7).below hb5); have HXR_8 := hide ((unhide HXR_7).below hb5); have HBX_8 := hide (keep_below (unhide HBX_7) hb5); have HC_8 := hide (keep_below (unhide HC_7) hb5); clear HX_7 HO_7 HR_7 HH_7 HXO_7 HXR_7 HBX_7 HC_7; clear hb5)
  clear x0 x1 xf0 xf1 xl
  have hal : Below w5.heap.size w5 (w5.alloc (.cells #[.int .i64 fc, .int .i64 fa] 30)) := (Below.refl _ _).alloc (Nat.le_refl _) _
  have HFBn := hide (new_block w5 (.cells #[.int .i64 fc, .int .i64 fa] 30))
  (have HX_9 := hide (Below.next (unhide HX_8) hal (Nat.le_refl _)); have HO_9 := hide ((unhide HO_8).below hal); have HR_9 := hide ((unhide HR_8).below hal); have HH_9 := hide (keep_below (unhide HH_8) hal); have HXO_9 := hide ((unhide HXO_8).below hal); have HXR_9 := hide ((unhide HXR_8).below hal); have HBX_9 := hide (keep_below (unhide HBX_8) hal); have HC_9 := hide (keep_below (unhide HC_8) hal); clear HX_8 HO_8 HR_8 HH_8 HXO_8 HXR_8 HBX_8 HC_8)
  obtain ⟨F, eF⟩ : ∃ X, w5.heap.size = X := ⟨_, rfl⟩
  obtain ⟨W9, eW9⟩ : ∃ X, w5.alloc (.cells #[.int .i64 fc, .int .i64 fa] 30) = X := ⟨_, rfl⟩
  rw [eW9] at HX_9
  rw [eW9] at HO_9
  rw [eW9] at HR_9
  rw [eW9] at HH_9
  rw [eW9] at HXO_9
  rw [eW9] at HXR_9
  rw [eW9] at HBX_9
  rw [eW9] at HC_9
  rw [eF, eW9] at HFBn
  rw [eF, eW9]
  have HFB_9 := HFBn
  clear eF eW9 hal HFBn
  obtain ⟨b0, b1, bf0, bf1, bl⟩ := block2 (unhide HH_9)
  go_upto_region 9 with (go_at_call 13; (with_reducible refine Calls.mono (unhide HHF _ (unhide HO_9) (unhide HR_9)) ?_); rintro e w6 ⟨rfl, hb6⟩; have HX_10 := hide (Below.next (unhide HX_9) hb6 (Nat.le_refl _)); have HO_10 := hide ((unhide HO_9).below hb6); have HR_10 := hide ((unhide HR_9).below hb6); have HH_10 := hide (keep_below (unhide HH_9) hb6); have HXO_10 := hide ((unhide HXO_9).below hb6); have HXR_10 := hide ((unhide HXR_9).below hb6); have HBX_10 := hide (keep_below (unhide HBX_9) hb6); have HC_10 := hide (keep_below (unhide HC_9) hb6); have HFB_10 := hide (keep_below (unhide HFB_9) hb6); clear HX_9 HO_9 HR_9 HH_9 HXO_9 HXR_9 HBX_9 HC_9 HFB_9; clear hb6)
  clear b0 b1 bf0 bf1 bl
  have hal : Below w6.heap.size w6 (w6.alloc (.cells #[.int .i64 fc, .int .i64 fa] 30)) := (Below.refl _ _).alloc (Nat.le_refl _) _
  have HDn := hide (new_block w6 (.cells #[.int .i64 fc, .int .i64 fa] 30))
  (have HX_11 := hide (Below.next (unhide HX_10) hal (Nat.le_refl _)); have HO_11 := hide ((unhide HO_10).below hal); have HR_11 := hide ((unhide HR_10).below hal); have HH_11 := hide (keep_below (unhide HH_10) hal); have HXO_11 := hide ((unhide HXO_10).below hal); have HXR_11 := hide ((unhide HXR_10).below hal); have HBX_11 := hide (keep_below (unhide HBX_10) hal); have HC_11 := hide (keep_below (unhide HC_10) hal); have HFB_11 := hide (keep_below (unhide HFB_10) hal); clear HX_10 HO_10 HR_10 HH_10 HXO_10 HXR_10 HBX_10 HC_10 HFB_10)
  obtain ⟨D, eD⟩ : ∃ X, w6.heap.size = X := ⟨_, rfl⟩
  obtain ⟨W11, eW11⟩ : ∃ X, w6.alloc (.cells #[.int .i64 fc, .int .i64 fa] 30) = X := ⟨_, rfl⟩
  rw [eW11] at HX_11
  rw [eW11] at HO_11
  rw [eW11] at HR_11
  rw [eW11] at HH_11
  rw [eW11] at HXO_11
  rw [eW11] at HXR_11
  rw [eW11] at HBX_11
  rw [eW11] at HC_11
  rw [eW11] at HFB_11
  rw [eD, eW11] at HDn
  rw [eD, eW11]
  have HD_11 := HDn
  clear eD eW11 hal HDn
  obtain ⟨g0, g1, gf0, gf1, gl⟩ := block2 (unhide HC_11)
  obtain ⟨d0, d1, df0, df1, dl⟩ := block2 (unhide HD_11)
  obtain ⟨x0, x1, xf0, xf1, xl⟩ := block2 (unhide HBX_11)
  obtain ⟨b0, b1, bf0, bf1, bl⟩ := block2 (unhide HH_11)
  go_upto_region 11 with (go_at_call 14; (with_reducible refine Calls.mono (sameHeap_any _ a3 no c3 a4 nr c4 ao co ar cr us3 us os rs (unhide HXO_11) (unhide HXR_11) (unhide HO_11) (unhide HR_11) (by omega) (by omega) (fun i hi => Nat.le_trans (unhide HRL i hi) (by decide))) ?_); rintro e w7 ⟨rfl, hb7⟩; have HX_12 := hide (Below.next (unhide HX_11) hb7 (Nat.le_refl _)); have HO_12 := hide ((unhide HO_11).below hb7); have HR_12 := hide ((unhide HR_11).below hb7); have HH_12 := hide (keep_below (unhide HH_11) hb7); have HXO_12 := hide ((unhide HXO_11).below hb7); have HXR_12 := hide ((unhide HXR_11).below hb7); have HBX_12 := hide (keep_below (unhide HBX_11) hb7); have HC_12 := hide (keep_below (unhide HC_11) hb7); have HFB_12 := hide (keep_below (unhide HFB_11) hb7); have HD_12 := hide (keep_below (unhide HD_11) hb7); clear HX_11 HO_11 HR_11 HH_11 HXO_11 HXR_11 HBX_11 HC_11 HFB_11 HD_11; clear hb7)
  clear g0 g1 gf0 gf1 gl d0 d1 df0 df1 dl x0 x1 xf0 xf1 xl b0 b1 bf0 bf1 bl
  obtain ⟨g0, g1, gf0, gf1, gl⟩ := block2 (unhide HFB_12)
  obtain ⟨d0, d1, df0, df1, dl⟩ := block2 (unhide HD_12)
  go_wp2_with (go_at_call 15; (with_reducible refine Calls.mono (listAs_fault _ fc fa hfc _) ?_); rintro e w8 ⟨rfl, hb8⟩; have HX8 := hide (Below.next (unhide HX_12) hb8 (Nat.le_refl _)); clear hb8)
  go_ret
  exact ⟨rfl, unhide HX8⟩

set_option maxRecDepth 100000 in
set_option maxHeartbeats 4000000 in
theorem sl_vast (w : World) (ao : Option Addr) (no co : Nat) (ar : Option Addr) (nr cr : Nat) (us : List Sl) (os : List (List Int)) (rs : List Int) (hO : IsLL w (.slice ao no co) us os) (hR : IsL KI w (.slice ar nr cr) rs) (hbeg : ∀ W : World, Calls Try.prog 8 #[] W fun e w' => e = .returned (.bool true) ∧ Below W.heap.size W w') (hno : no ≤ 1000000000000000) (hv : vastB os rs = true) :
    Calls Try.prog 3 #[.agg #[.slice ao no co, .slice ar nr cr]] w fun e w' => e = .returned (.bool true) ∧ Below w.heap.size w w' := by
  have HV := hide hv; have HBG := hide hbeg
  have HO_0 := hide hO; have HR_0 := hide hR
  have HX_0 := hide (Below.refl w.heap.size w)
  clear hO hR hv hbeg
  go_enter Try.func3, Try.ntmps3
  go_upto_region 1 with fail
  have hal : Below w.heap.size w (w.alloc (.cells #[.slice ao no co, .slice ar nr cr] 25)) := (Below.refl _ _).alloc (Nat.le_refl _) _
  have HHn := hide (new_block w (.cells #[.slice ao no co, .slice ar nr cr] 25))
  (have HX_1 := hide (Below.next (unhide HX_0) hal (Nat.le_refl _)); have HO_1 := hide ((unhide HO_0).below hal); have HR_1 := hide ((unhide HR_0).below hal); clear HX_0 HO_0 HR_0)
  obtain ⟨H, eH⟩ : ∃ X, w.heap.size = X := ⟨_, rfl⟩
  obtain ⟨W1, eW1⟩ : ∃ X, w.alloc (.cells #[.slice ao no co, .slice ar nr cr] 25) = X := ⟨_, rfl⟩
  rw [eW1] at HX_1
  rw [eW1] at HO_1
  rw [eW1] at HR_1
  rw [eH, eW1] at HHn
  rw [eH, eW1]
  have HH_1 := HHn
  clear eH eW1 hal HHn
  go_upto_region 3 with (go_at_call 8; (with_reducible refine Calls.mono (unhide HBG _) ?_); rintro e w1 ⟨rfl, hb1⟩; have HX_2 := hide (Below.next (unhide HX_1) hb1 (Nat.le_refl _)); have HO_2 := hide ((unhide HO_1).below hb1); have HR_2 := hide ((unhide HR_1).below hb1); have HH_2 := hide (keep_below (unhide HH_1) hb1); clear HX_1 HO_1 HR_1 HH_1; clear hb1)
  obtain ⟨b0, b1, bf0, bf1, bl⟩ := block2 (unhide HH_2)
  go_wp2_with (go_at_call 9; (with_reducible refine Calls.mono (vastHeap_any _ ao no co ar nr cr us os rs (unhide HO_2) (unhide HR_2) hno) ?_); rintro e w2 ⟨rfl, hb2⟩; rw [unhide HV]; have HX9 := hide (Below.next (unhide HX_2) hb2 (Nat.le_refl _)); clear hb2)
  go_ret
  exact ⟨rfl, unhide HX9⟩

theorem lost_walk (w : World) (ao : Option Addr) (no co : Nat) (ar : Option Addr) (nr cr : Nat) (us : List Sl) (os : List (List Int)) (rs : List Int) (hO : IsLL w (.slice ao no co) us os) (hR : IsL KI w (.slice ar nr cr) rs) (hbeg : ∀ W : World, Calls Try.prog 8 #[] W fun e w' => e = .returned (.bool true) ∧ Below W.heap.size W w') (hno : no ≤ 1000000000000000) :
    Calls Try.prog 3 #[.agg #[.slice ao no co, .slice ar nr cr]] w fun e w' => e = .returned (.bool true) ∧ Below w.heap.size w w' := by
  cases hv : vastB os rs with
  | true => exact sl_vast w ao no co ar nr cr us os rs hO hR hbeg hno hv
  | false =>
    obtain ⟨⟨fc, fa⟩, hf⟩ : ∃ X, heapF os rs = X := ⟨_, rfl⟩
    by_cases hfc : fc = 0
    · have hg : GoodH os rs := heapF_good (by rw [hf]; exact hfc)
      have hf0 : heapF os rs = (0, 0) := by
        unfold heapF at hf ⊢
        have h1 : ¬ (500 < os.length ∨ 16 < rs.length) := by have := hg.no; have := hg.nr; omega
        rw [if_neg h1] at hf ⊢
        by_cases h2 : 0 ≤ fwL (os.length : Int) rs
        · rw [if_pos h2] at hf
          have := congrArg Prod.fst hf
          simp at this
          omega
        · rw [if_neg h2] at hf ⊢
          refine rowsA_none _ os 0 (fun j hj => ?_)
          have a1 := hg.ns j hj
          have a2 := hg.so j hj
          unfold rowF
          rw [if_neg (by omega)]
          rcases fw_cases (os.length : Int) (os.getD j []) with ⟨q, _⟩ | ⟨t, ht, q, hb, _⟩
          · rw [q, if_neg (by decide)]
          · exfalso
            have hm := a2 _ (getD_mem ht)
            unfold badIn at hb
            rw [decide_eq_false (by omega), decide_eq_false (by omega)] at hb
            cases hb
      exact sl_good w ao no co ar nr cr us os rs hO hR hbeg hv hf0
    · exact sl_fault w ao no co ar nr cr us os rs hO hR hbeg hv fc fa hf hfc
end Go.Proofs.Ytmkehjncnaokoaa
