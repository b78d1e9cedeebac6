/-
  sweep.newMarker, sweep.Lost.
-/
import Derived.Test.YtmkehjncnaokoaaN
namespace Go.Proofs.Ytmkehjncnaokoaa
open Go.RowKit

theorem make_bools (n : Nat) (hn : n ≤ 100000) : ∃ A : Array Value, A.toList = List.replicate n (.bool false) ∧ ∀ w : World, (Instr.makeSlice 37 (.int .i64 (n : Int)) (.int .i64 (n : Int))).run Try.prog w = .ok (.slice (some ⟨w.heap.size, 0, none⟩) n n) (w.alloc (.cells A 4)) := by
  have hinf : (Try.prog.info? 4).map (fun i => (i.zero, i.size, i.bytes)) = some (some (.bool false), 1, 1) := by kernel_rfl
  obtain ⟨i0, hi, h0, h1, h2⟩ := info_parts hinf
  refine ⟨madeCells (Value.bool false).cells (n * i0.size), by rw [h1, Nat.mul_one]; exact toList_madeCells_one _ _, fun w => ?_⟩
  have := run_makeSlice (P := Try.prog) w 37 4 i0 (.bool false) Try.underlying37 hi h0 .i64 .i64 (n : Int) (n : Int) (by omega) (by omega) (by rw [h1]; omega) (by rw [h2]; omega) (by omega)
  simpa using this

theorem MkAt.congr {cw : Nat} {lo : Nat} {w : World} {b n : Nat} {vO vR : Value} {wb : Nat} {vl : Value} {wh wh' : Nat → Bool} {ln : List Nat} (h : MkAt lo w b n cw vO vR wb vl ⟨wh, ln⟩) (hw : ∀ x, x < n → wh x = wh' x) : MkAt lo w b n cw vO vR wb vl ⟨wh', ln⟩ :=
  ⟨h.blk, h.wth, h.wlt, fun x hx => by have := h.whi x hx; show _ = some (Value.bool (wh' x)); rw [← hw x hx]; exact this, h.lin, h.ne, h.lob, h.vlb, h.wle⟩

set_option maxRecDepth 100000 in
set_option maxHeartbeats 4000000 in
theorem newMarker_any (w : World) (ao : Option Addr) (no co : Nat) (ar : Option Addr) (nr cr : Nat) (rs : List Int) (hR : IsL KI w (.slice ar nr cr) rs) (hno : no ≤ 500) (hnr : nr ≤ 16) (hro : ∀ o ∈ rs, -1 ≤ o ∧ o < (no : Int)) :
    Calls Try.prog 25 #[.agg #[.slice ao no co, .slice ar nr cr]] w fun e w' => ∃ b, e = .returned (.pointer (some ⟨b, 0, none⟩)) ∧ ∃ wb vl, MkAt w.heap.size w' b no no (.slice ao no co) (.slice ar nr cr) wb vl (shadeL ⟨fun _ => true, []⟩ rs) ∧ Below w.heap.size w w' := by
  obtain ⟨A, hA, hmk⟩ := make_bools no (by omega)
  have HR := hide hR; have HRO := hide hro
  have HAA := hide hA
  have HX1 := hide ((Below.refl w.heap.size w).alloc (Nat.le_refl _) (.cells #[.slice ao no co, .slice ar nr cr] 25))
  have HH1 := hide (new_block w (.cells #[.slice ao no co, .slice ar nr cr] 25))
  have HS1 : Hid ((w.alloc (.cells #[.slice ao no co, .slice ar nr cr] 25)).heap.size = w.heap.size + 1) := by show _ = _; simp
  obtain ⟨W1, e1⟩ : ∃ X, w.alloc (.cells #[.slice ao no co, .slice ar nr cr] 25) = X := ⟨_, rfl⟩
  rw [e1] at HX1 HH1 HS1
  have HE1 := hide e1
  clear e1 hR hro hA
  go_enter Try.func25, Try.ntmps25
  go_upto_region 1 with fail
  rw [unhide HE1]
  clear HE1
  obtain ⟨b0, b1, bf0, bf1, bl⟩ := block2 (unhide HH1)
  obtain ⟨W3, e3, hx3, hb3, hm3⟩ := two_new W1 (.cells A 4) (.cells #[.slice ao no co, .slice ar nr cr, .slice (some ⟨W1.heap.size, 0, none⟩) no no, .slice none 0 0] 62)
  have hsz : A.size = no := by rw [← Array.length_toList, unhide HAA, List.length_replicate]
  have hm4 : MkAt w.heap.size W3.drew (W1.heap.size + 1) no no (.slice ao no co) (.slice ar nr cr) W1.heap.size (.slice none 0 0) ⟨fun _ => false, []⟩ := by
    refine ⟨hm3, there_block (t := 4) (A := A) hb3 (by omega), Nat.lt_of_lt_of_le (by have := (Array.getElem?_eq_some_iff.1 hb3).1; exact this) (Nat.le_refl _), fun x hx => ?_, OwnO.nil _ _, by omega, ⟨by rw [unhide HS1]; omega, by rw [unhide HS1]; omega⟩, fun k hk => (by cases hk), Nat.le_refl _⟩
    have hb4 : W3.drew.heap[W1.heap.size]? = some (.cells A 4 (0, 0)) := hb3
    simp only [World.cell?, hb4]
    have : A[x]? = some (.bool false) := by
      rw [← Array.getElem?_toList, unhide HAA, List.getElem?_replicate]
      simp [hx]
    simpa using this
  have HM : Hid (MkAt w.heap.size W3.drew (W1.heap.size + 1) no no (.slice ao no co) (.slice ar nr cr) W1.heap.size (.slice none 0 0) ⟨fun x => decide (x < 0), []⟩) := hm4.congr (fun x _ => (decide_eq_false (Nat.not_lt_zero x)).symm)
  have HB : Hid (Below w.heap.size w W3.drew) := (Below.next (unhide HX1) hx3 (by rw [unhide HS1] at *; first | omega | exact Nat.le_refl _)).drew
  have HE3 := hide e3
  clear hx3 hb3 hm3 hm4 e3 hsz
  go_region
  rw [unhide HE3]
  obtain ⟨wb, ewb⟩ : ∃ X, W1.heap.size = X := ⟨_, rfl⟩
  obtain ⟨W4, e4⟩ : ∃ X, W3.drew = X := ⟨_, rfl⟩
  rw [ewb, e4] at HM
  rw [e4] at HB
  rw [ewb, e4]
  obtain ⟨⟨m0, m1, m2, m3⟩, ⟨mf0, mf1, mf2, mf3⟩, ml⟩ := block4 (unhide HM).blk
  clear ewb e4 HE3 HS1 HX1 HH1 b0 b1 bf0 bf1 bl HAA hmk
  go_wp2_with fail
  clear m0 m1 m2 m3 mf0 mf1 mf2 mf3 ml
  go_loopw [17] (fun s17 wr => ∃ i : Nat, i ≤ no ∧ s17 = .int .i64 (i : Int) ∧ Hid (MkAt w.heap.size wr (wb + 1) no no (.slice ao no co) (.slice ar nr cr) wb (.slice none 0 0) ⟨fun x => decide (x < i), []⟩) ∧ Hid (Below w.heap.size w wr)) (fun s17 _ => no - (intOf s17).toNat)
  case atStart => exact ⟨0, Nat.zero_le _, rfl, HM, HB⟩
  case round =>
    obtain ⟨i, hi, rfl, HMi, HBi⟩ := hrel
    clear HM HB
    obtain ⟨⟨m0, m1, m2, m3⟩, ⟨mf0, mf1, mf2, mf3⟩, ml⟩ := block4 (unhide HMi).blk
    by_cases hlt : i < no
    · have i0 : (0 : Int) ≤ (i : Int) := by omega
      have i1 : (i : Int) < (no : Int) := by omega
      have hw1 : IntKind.i64.wrap ((i : Int) + 1) = (i : Int) + 1 := wrapi (by omega) (by omega)
      have q0 := (unhide HMi).whi i hlt
      have q1 := ((unhide HMi).wth i hlt).2
      rw [Nat.zero_add] at q1
      have HM2 : Hid (MkAt w.heap.size (wr.setCell ⟨wb, i, none⟩ (.bool true)) (wb + 1) no no (.slice ao no co) (.slice ar nr cr) wb (.slice none 0 0) ⟨fun x => decide (x < i + 1), []⟩) := ((unhide HMi).white hlt true).congr (fun x _ => by
        show (if x = i then true else decide (x < i)) = _
        by_cases e : x = i
        · rw [if_pos e, decide_eq_true (by omega)]
        · rw [if_neg e]
          by_cases e2 : x < i
          · rw [decide_eq_true e2, decide_eq_true (by omega)]
          · rw [decide_eq_false e2, decide_eq_false (by omega)])
      have HB2 := hide ((unhide HBi).setCell (p := ⟨wb, i, none⟩) (unhide HMi).lob.2 (.bool true))
      go_wp2_with fail
      go_roundw
      case rel => exact ⟨i + 1, by omega, by go_num, HM2, HB2⟩
      case measure => simp [intOf]; omega
    · obtain rfl : i = no := by omega
      have i1 : ¬ (i : Int) < (i : Int) := by omega
      have HM2 : Hid (MkAt w.heap.size wr (wb + 1) i i (.slice ao i co) (.slice ar nr cr) wb (.slice none 0 0) ⟨fun _ => true, []⟩) := (unhide HMi).congr (fun x hx => decide_eq_true hx)
      have hrw := (unhide HR).below (unhide HBi)
      have HSH := hide (shade_any w.heap.size wr (wb + 1) i (.slice ao i co) (.slice ar nr cr) wb (.slice none 0 0) ⟨fun _ => true, []⟩ (unhide HM2) ar nr cr rs hrw (fun h0 k hk => by
        obtain ⟨b', o', e', hb', _⟩ := (unhide HR).opens ki (unhide HR).len h0
        subst e'
        have hk' : b' = k := Option.some.inj hk
        subst hk'
        have := (unhide HMi).lob
        exact ⟨by omega, by omega, fun q => by cases q⟩) (unhide HRO) (by show 0 + nr ≤ _; omega))
      clear hrw
      go_wp2_with (go_at_call 37; (with_reducible refine Calls.mono (unhide HSH) ?_); rintro e w5 ⟨rfl, vl', hm5, _, hb5⟩; have HM5 := hide hm5; have HB5 := hide ((unhide HBi).trans hb5); clear hm5 hb5)
      go_ret
      exact ⟨wb + 1, rfl, wb, vl', unhide HM5, unhide HB5⟩

set_option maxRecDepth 100000 in
set_option maxHeartbeats 4000000 in
theorem lost_fault (w : World) (ao : Option Addr) (no co : Nat) (ar : Option Addr) (nr cr : Nat) (us : List Sl) (os : List (List Int)) (rs : List Int) (hO : IsLL w (.slice ao no co) us os) (hR : IsL KI w (.slice ar nr cr) rs) (fc fa : Int) (hf : heapF os rs = (fc, fa)) (hfc : fc ≠ 0) :
    Calls Try.prog 12 #[.agg #[.slice ao no co, .slice ar nr cr]] w fun e w' => e = .returned (.tuple #[.slice none 0 0, .agg #[.int .i64 fc, .int .i64 fa]]) ∧ Below w.heap.size w w' := by
  have HCK : Hid (∀ W, Below w.heap.size w W → Calls Try.prog 11 #[.agg #[.slice ao no co, .slice ar nr cr]] W fun e w' => e = .returned (.agg #[.int .i64 fc, .int .i64 fa]) ∧ Below W.heap.size W w') := fun W hW => by
    have h_ := check_any W ao no co ar nr cr us os rs (hO.below hW) (hR.below hW)
    rwa [hf] at h_
  have x1 : (fc == 0) = false := by simpa using hfc
  have x2 : (fc != 0) = true := by simpa using hfc
  obtain ⟨W2, e2, hx, hh, hq⟩ := two_new w (.cells #[.slice ao no co, .slice ar nr cr] 25) (.cells #[.int .i64 0, .int .i64 0] 30)
  have HX := hide hx; have HH := hide hh; have HQ := hide hq; have HE2 := hide e2
  clear hx hh hq e2 hO hR hf hfc
  go_enter Try.func12, Try.ntmps12
  go_upto_region 1 with fail
  rw [unhide HE2]
  clear HE2
  obtain ⟨b0, b1, bf0, bf1, bl⟩ := block2 (unhide HH)
  go_upto_region 2 with (go_at_call 11; (with_reducible refine Calls.mono (unhide HCK _ (unhide HX)) ?_); rintro e w3 ⟨rfl, hb3⟩; have HX3 := hide (Below.next (unhide HX) hb3 (Nat.le_refl _)); have HQ3 := hide (keep_below (unhide HQ) hb3); clear hb3)
  have HX4 := hide ((unhide HX3).alloc (unhide HX3).size (.cells #[.int .i64 fc, .int .i64 fa] 30)); have HQ4 := hide (keep_alloc (unhide HQ3) (.cells #[.int .i64 fc, .int .i64 fa] 30)); have HF4 := hide (new_block w3 (.cells #[.int .i64 fc, .int .i64 fa] 30))
  obtain ⟨F, eF⟩ : ∃ X, w3.heap.size = X := ⟨_, rfl⟩
  obtain ⟨W4, e4⟩ : ∃ X, w3.alloc (.cells #[.int .i64 fc, .int .i64 fa] 30) = X := ⟨_, rfl⟩
  have hFl : w.heap.size + 1 < F := by rw [← eF]; exact (Array.getElem?_eq_some_iff.1 (unhide HQ3)).1
  rw [e4] at HX4 HQ4; rw [eF, e4] at HF4; rw [eF, e4]
  clear eF e4 HX HH HQ HX3 HQ3 HCK b0 b1 bf0 bf1 bl
  obtain ⟨g0, g1, gf0, gf1, gl⟩ := block2 (unhide HF4)
  obtain ⟨q0, q1, f0, f1, ql⟩ := block2 (unhide HQ4)
  go_upto_region 3 with fail
  go_region
  all_goals
    go_wp2_with fail
    exact bodyPost_ret (v := .tuple #[.slice none 0 0, .agg #[.int .i64 fc, .int .i64 fa]]) (by simp [results, Try.results12, go_sem, q0, q1]) rfl ⟨rfl, by first | exact (below_set2 (unhide HX4) (Nat.le_succ _) _ _).drew | exact below_set2 (unhide HX4).drew (Nat.le_succ _) _ _⟩

/-- What nobody can reach, as Lost tells it. -/
def LostIs (os : List (List Int)) (rs : List Int) (xs : List Nat) : Prop := ∃ wh : Nat → Bool, xs = (List.range os.length).filter wh ∧ ∀ x, x < os.length → (wh x = false ↔ Rc os rs x)

set_option maxRecDepth 100000 in
set_option maxHeartbeats 4000000 in
theorem lost_good (w : World) (ao : Option Addr) (no co : Nat) (ar : Option Addr) (nr cr : Nat) (us : List Sl) (os : List (List Int)) (rs : List Int) (hO : IsLL w (.slice ao no co) us os) (hR : IsL KI w (.slice ar nr cr) rs) (hf : heapF os rs = (0, 0)) :
    Calls Try.prog 12 #[.agg #[.slice ao no co, .slice ar nr cr]] w fun e w' => ∃ xs a c, e = .returned (.tuple #[.slice a xs.length c, .agg #[.int .i64 0, .int .i64 0]]) ∧ LostIs os rs xs ∧ OwnO w.heap.size w' (.slice a xs.length c) (ixL xs) ∧ Below w.heap.size w w' := by
  have hg : GoodH os rs := heapF_good (by rw [hf])
  have hol : os.length = no := by rw [← hO.len]; exact hO.row.len
  have hno : no ≤ 500 := by rw [← hol]; exact hg.no
  have hnr : nr ≤ 16 := by rw [← hR.len]; exact hg.nr
  have HCK : Hid (∀ W, Below w.heap.size w W → Calls Try.prog 11 #[.agg #[.slice ao no co, .slice ar nr cr]] W fun e w' => e = .returned (.agg #[.int .i64 0, .int .i64 0]) ∧ Below W.heap.size W w') := fun W hW => by
    have h_ := check_any W ao no co ar nr cr us os rs (hO.below hW) (hR.below hW)
    rwa [hf] at h_
  have HNM : Hid (∀ W, Below w.heap.size w W → Calls Try.prog 25 #[.agg #[.slice ao no co, .slice ar nr cr]] W fun e w' => ∃ b, e = .returned (.pointer (some ⟨b, 0, none⟩)) ∧ ∃ wb vl, MkAt W.heap.size w' b no no (.slice ao no co) (.slice ar nr cr) wb vl (shadeL ⟨fun _ => true, []⟩ rs) ∧ Below W.heap.size W w') := fun W hW => newMarker_any W ao no co ar nr cr rs (hR.below hW) hno hnr (by rw [← hol]; exact hg.ro)
  have HG := hide hg; have HOL := hide hol; have HO := hide hO
  obtain ⟨W2, e2, hx, hh, hq⟩ := two_new w (.cells #[.slice ao no co, .slice ar nr cr] 25) (.cells #[.int .i64 0, .int .i64 0] 30)
  have HX := hide hx; have HH := hide hh; have HQ := hide hq; have HE2 := hide e2
  clear hx hh hq e2 hO hR hf hg hol
  go_enter Try.func12, Try.ntmps12
  go_upto_region 1 with fail
  rw [unhide HE2]
  clear HE2
  obtain ⟨b0, b1, bf0, bf1, bl⟩ := block2 (unhide HH)
  go_upto_region 2 with (go_at_call 11; (with_reducible refine Calls.mono (unhide HCK _ (unhide HX)) ?_); rintro e w3 ⟨rfl, hb3⟩; have HX3 := hide (Below.next (unhide HX) hb3 (Nat.le_refl _)); have HQ3 := hide (keep_below (unhide HQ) hb3); have HH3 := hide (keep_below (unhide HH) hb3); clear hb3)
  have HX4 := hide ((unhide HX3).alloc (unhide HX3).size (.cells #[.int .i64 0, .int .i64 0] 30)); have HQ4 := hide (keep_alloc (unhide HQ3) (.cells #[.int .i64 0, .int .i64 0] 30)); have HH4 := hide (keep_alloc (unhide HH3) (.cells #[.int .i64 0, .int .i64 0] 30)); have HF4 := hide (new_block w3 (.cells #[.int .i64 0, .int .i64 0] 30))
  obtain ⟨F, eF⟩ : ∃ X, w3.heap.size = X := ⟨_, rfl⟩
  obtain ⟨W4, e4⟩ : ∃ X, w3.alloc (.cells #[.int .i64 0, .int .i64 0] 30) = X := ⟨_, rfl⟩
  rw [e4] at HX4 HQ4 HH4; rw [eF, e4] at HF4; rw [eF, e4]
  clear eF e4 HX HH HQ HX3 HQ3 HH3 HCK b0 b1 bf0 bf1 bl
  obtain ⟨g0, g1, gf0, gf1, gl⟩ := block2 (unhide HF4)
  obtain ⟨b0, b1, bf0, bf1, bl⟩ := block2 (unhide HH4)
  go_upto_region 5 with (go_at_call 25; (with_reducible refine Calls.mono (unhide HNM _ (unhide HX4)) ?_); rintro e w5 ⟨b, rfl, wb, vl, hm5, hb5⟩; have HM5 := hide hm5; have HX5 := hide (Below.next (unhide HX4) hb5 (Nat.le_refl _)); have HQ5 := hide (keep_below (unhide HQ4) hb5); have HB5 := hide hb5; clear hm5 hb5)
  have hro : ∀ o ∈ rs, -1 ≤ o ∧ o < (no : Int) := by rw [← unhide HOL]; exact (unhide HG).ro
  have hk0 : LnOk no (shadeL ⟨fun _ => true, []⟩ rs) := LnOk.shade ⟨fun x hx => (by cases hx), by
    have : cntW no ⟨fun _ => true, []⟩ ≤ no := by
      unfold cntW
      have := List.length_filter_le (fun _ => true) (List.range no)
      rwa [List.length_range] at this
    show _ + 0 ≤ 2000
    omega⟩ hro
  have HFI := hide (finish_any w5 W4.heap.size b no (.slice ao no co) (.slice ar nr cr) wb vl _ (unhide HM5) os (by have := (unhide HG).rows; rwa [unhide HOL] at this) (Rr.of (unhide HO) (unhide HX5) (unhide HX4).size (unhide HM5).lob (fun k hk => ((unhide HM5).lin.lt k hk).1)) hk0)
  clear hro hk0 g0 g1 gf0 gf1 gl b0 b1 bf0 bf1 bl
  go_upto_region 6 with (go_at_call 26; (with_reducible refine Calls.mono (unhide HFI) ?_); rintro e w6 ⟨rfl, vl', s', hm6, hs6, hl6, _, _, hb6⟩; have HM6 := hide hm6; have HS6 := hide hs6; have HL6 := hide hl6; have HX6 := hide (Below.next (unhide HX4) ((unhide HB5).trans hb6) (Nat.le_refl _)); have HQ6 := hide (keep_below (unhide HQ4) ((unhide HB5).trans hb6)); clear hm6 hs6 hl6 hb6)
  have HWH := hide (whites_any w6 W4.heap.size b no (.slice ao no co) (.slice ar nr cr) wb vl' s' (unhide HM6) (by omega))
  go_wp2_with (go_at_call 27; (with_reducible refine Calls.mono (unhide HWH) ?_); rintro e w7 ⟨a7, c7, rfl, ho7, hb7⟩; have HO7 := hide ho7; have HX7 := hide (Below.next (unhide HX6) hb7 (Nat.le_refl _)); have HQ7 := hide (keep_below (unhide HQ6) hb7); obtain ⟨q0, q1, f0, f1, ql⟩ := block2 (unhide HQ7); clear ho7 hb7)
  refine bodyPost_ret (v := .tuple #[.slice a7 ((List.range no).filter s'.wh).length c7, .agg #[.int .i64 0, .int .i64 0]]) (by simp [results, Try.results12, go_sem, q0, q1]) rfl ⟨_, a7, c7, rfl, ⟨s'.wh, by rw [unhide HOL], fun x hx => ?_⟩, ?_, below_set2 (unhide HX7) (Nat.le_succ _) _ _⟩
  · exact inv_end (unhide HG) ((unhide HS6).inv (unhide HG) (inv_begin (unhide HG))) (unhide HL6) hx
  · have h1 : OwnO w.heap.size w7 (.slice a7 ((List.range no).filter s'.wh).length c7) (ixL ((List.range no).filter s'.wh)) := by
      rcases unhide HO7 with q | ⟨g, off, cap, q1, q2, q3⟩
      · exact Or.inl q
      · exact Or.inr ⟨g, off, cap, q1, Nat.le_trans (unhide HX6).size q2, q3⟩
    refine h1.keep (by simp [World.setCell]) (fun k hk => ?_)
    have h2 := ((unhide HO7).lt k hk).1
    have h3 := (Array.getElem?_eq_some_iff.1 (unhide HQ6)).1
    exact (Below.heap_setCell _ _ _ _ (by intro e; have e' : k = w.heap.size + 1 := e; omega)).trans (Below.heap_setCell _ _ _ _ (by intro e; have e' : k = w.heap.size + 1 := e; omega))
end Go.Proofs.Ytmkehjncnaokoaa
