/-
  sweep.Cycle: what it answers at its end.
  sweep.Cycle: one act GcMark, no barrier, a good heap.
-/
import Derived.Test.YtmkehjncnaokoaaY
namespace Go.Proofs.Ytmkehjncnaokoaa
open Go.RowKit

set_option maxRecDepth 100000 in
set_option maxHeartbeats 4000000 in
theorem cycle_14 (Wt : World) (B cb mb RH RF : Nat) (z : Int) (ao : Option Addr) (no co : Nat) (ar : Option Addr) (nr cr : Nat) (x2 x3 : Value) (m : Nat) (xs : List Int) (hC : Wt.heap[cb]? = some (.cells #[.pointer (some ⟨mb, 0, none⟩), .int .i64 z] 60 (0, 0))) (hM : Wt.heap[mb]? = some (.cells #[.slice ao no co, .slice ar nr cr, x2, x3] 62 (0, 0))) (hH : Wt.heap[RH]? = some (.cells #[.slice none 0 0, .slice none 0 0] 25 (0, 0))) (hF : Wt.heap[RF]? = some (.cells #[.int .i64 0, .int .i64 0] 30 (0, 0)))
    (hne : RH ≠ RF ∧ RH ≠ cb ∧ RH ≠ mb ∧ RF ≠ cb ∧ RF ≠ mb) (hlo : B ≤ RH ∧ B ≤ RF ∧ B ≤ Wt.heap.size)
    (hW : ∀ W, Below Wt.heap.size Wt W → Calls Try.prog 27 #[.pointer (some ⟨mb, 0, none⟩)] W fun e w' => ∃ a c, e = .returned (.slice a m c) ∧ OwnO W.heap.size w' (.slice a m c) xs ∧ Below W.heap.size W w')
    {s0 s1 s2 s3 s4 s5 s7 s9 s11 s12 s13 s14 s15 s16 s17 s18 s19 s20 s21 s22 s23 s24 s25 s26 s27 s28 s29 s30 s31 s32 s33 s34 s35 s36 s37 s38 s39 s40 s41 s42 s43 s44 s45 s46 s47 s48 s49 s50 s51 s52 s53 s54 s55 s56 s57 s58 s59 s60 : Value} (K : Act → World → Prop) (R : Exit → Act → World → Prop) (x : Code) (hcut : (Try.f19.body.bind (cutAt 14)).map Prod.fst = some x)
    (hK : ∀ (s48 s49 s50 s51 s52 s53 s54 s55 s56 s57 s58 s59 s60 : Value) (a : Option Addr) (c : Nat) (W' : World), Below B Wt W' → W'.heap[RH]? = some (.cells #[.slice ao no co, .slice ar nr cr] 25 (0, 0)) → W'.heap[RF]? = some (.cells #[.int .i64 0, .int .i64 0] 30 (0, 0)) → OwnO Wt.heap.size W' (.slice a m c) xs → (∀ k, k < Wt.heap.size → k ≠ RH → k ≠ RF → W'.heap[k]? = Wt.heap[k]?) → Exit.then K R Exit.normal { tmps := (s0 :: s1 :: s2 :: s3 :: s4 :: s5 :: .pointer (some ⟨RH, 0, none⟩) :: .slice a m c :: .pointer (some ⟨RF, 0, none⟩) :: s9 :: .pointer (some ⟨cb, 0, none⟩) :: s11 :: s12 :: s13 :: s14 :: s15 :: s16 :: s17 :: s18 :: s19 :: s20 :: s21 :: s22 :: s23 :: s24 :: s25 :: s26 :: s27 :: s28 :: s29 :: s30 :: s31 :: s32 :: s33 :: s34 :: s35 :: s36 :: s37 :: s38 :: s39 :: s40 :: s41 :: s42 :: s43 :: s44 :: s45 :: s46 :: s47 :: s48 :: s49 :: s50 :: s51 :: s52 :: s53 :: s54 :: s55 :: s56 :: s57 :: s58 :: s59 :: s60 :: []).toArray, defers := [] } W') :
    x.wp Try.prog (Exit.then K R) { tmps := (s0 :: s1 :: s2 :: s3 :: s4 :: s5 :: .pointer (some ⟨RH, 0, none⟩) :: s7 :: .pointer (some ⟨RF, 0, none⟩) :: s9 :: .pointer (some ⟨cb, 0, none⟩) :: s11 :: s12 :: s13 :: s14 :: s15 :: s16 :: s17 :: s18 :: s19 :: s20 :: s21 :: s22 :: s23 :: s24 :: s25 :: s26 :: s27 :: s28 :: s29 :: s30 :: s31 :: s32 :: s33 :: s34 :: s35 :: s36 :: s37 :: s38 :: s39 :: s40 :: s41 :: s42 :: s43 :: s44 :: s45 :: s46 :: s47 :: s48 :: s49 :: s50 :: s51 :: s52 :: s53 :: s54 :: s55 :: s56 :: s57 :: s58 :: s59 :: s60 :: []).toArray, defers := [] } Wt := by
  have hcc : (Try.f19.body.bind (cutAt 14)).map Prod.fst = some (.region _ _ _) := rfl
  rw [hcc] at hcut
  cases hcut
  clear hcc
  have HH := hide hH; have HF := hide hF; have HK := hide hK; have HW := hide hW
  have HSS : Hid (∀ W, Below Wt.heap.size Wt W → (W.cell? ⟨cb, 0, none⟩ = some (.pointer (some ⟨mb, 0, none⟩)) ∧ W.cell? ⟨mb, 0, none⟩ = some (.slice ao no co) ∧ W.cell? ⟨mb, 1, none⟩ = some (.slice ar nr cr)) ∧ Below B Wt W) := fun W h => ⟨⟨(block2 (keep_below hC h)).1, (block4 (keep_below hM h)).1.1, (block4 (keep_below hM h)).1.2.1⟩, h.mono hlo.2.2⟩
  have HSH : Hid (∀ (W : World) (o : Nat) (v : Value), ((W.cell? ⟨cb, 0, none⟩ = some (.pointer (some ⟨mb, 0, none⟩)) ∧ W.cell? ⟨mb, 0, none⟩ = some (.slice ao no co) ∧ W.cell? ⟨mb, 1, none⟩ = some (.slice ar nr cr)) ∧ Below B Wt W) → ((W.setCell ⟨RH, o, none⟩ v).cell? ⟨cb, 0, none⟩ = some (.pointer (some ⟨mb, 0, none⟩)) ∧ (W.setCell ⟨RH, o, none⟩ v).cell? ⟨mb, 0, none⟩ = some (.slice ao no co) ∧ (W.setCell ⟨RH, o, none⟩ v).cell? ⟨mb, 1, none⟩ = some (.slice ar nr cr)) ∧ Below B Wt (W.setCell ⟨RH, o, none⟩ v)) := fun W o v h => ⟨⟨cell_other h.1.1 (Or.inl (Ne.symm hne.2.1)) v, cell_other h.1.2.1 (Or.inl (Ne.symm hne.2.2.1)) v, cell_other h.1.2.2 (Or.inl (Ne.symm hne.2.2.1)) v⟩, h.2.setCell hlo.1 v⟩
  have HSF : Hid (∀ (W : World) (o : Nat) (v : Value), ((W.cell? ⟨cb, 0, none⟩ = some (.pointer (some ⟨mb, 0, none⟩)) ∧ W.cell? ⟨mb, 0, none⟩ = some (.slice ao no co) ∧ W.cell? ⟨mb, 1, none⟩ = some (.slice ar nr cr)) ∧ Below B Wt W) → ((W.setCell ⟨RF, o, none⟩ v).cell? ⟨cb, 0, none⟩ = some (.pointer (some ⟨mb, 0, none⟩)) ∧ (W.setCell ⟨RF, o, none⟩ v).cell? ⟨mb, 0, none⟩ = some (.slice ao no co) ∧ (W.setCell ⟨RF, o, none⟩ v).cell? ⟨mb, 1, none⟩ = some (.slice ar nr cr)) ∧ Below B Wt (W.setCell ⟨RF, o, none⟩ v)) := fun W o v h => ⟨⟨cell_other h.1.1 (Or.inl (Ne.symm hne.2.2.2.1)) v, cell_other h.1.2.1 (Or.inl (Ne.symm hne.2.2.2.2)) v, cell_other h.1.2.2 (Or.inl (Ne.symm hne.2.2.2.2)) v⟩, h.2.setCell hlo.2.1 v⟩
  have HNE := hide hne; have HLO := hide hlo
  have ne1 : RF ≠ RH := Ne.symm hne.1
  have ne2 : RH ≠ RF := hne.1
  clear hC hM hH hF hK hW hne hlo
  go_region_held3 (fun W => (W.cell? ⟨cb, 0, none⟩ = some (.pointer (some ⟨mb, 0, none⟩)) ∧ W.cell? ⟨mb, 0, none⟩ = some (.slice ao no co) ∧ W.cell? ⟨mb, 1, none⟩ = some (.slice ar nr cr)) ∧ Below B Wt W)
    (first | with_reducible exact unhide HSS _ (Below.refl _ _) | with_reducible exact unhide HSS _ (unhide HY7) | (repeat (first | with_reducible exact unhide HSS _ (Below.refl _ _) | with_reducible exact unhide HSS _ (Below.refl _ _).drew | with_reducible exact unhide HSS _ (unhide HY7) | with_reducible exact unhide HSS _ (unhide HY7).drew | with_reducible refine unhide HSH _ _ _ ?_ | with_reducible refine unhide HSF _ _ _ ?_)))
    (first | (go_at_call 27; (with_reducible refine Calls.mono (unhide HW _ (Below.refl _ _).drew) ?_); rintro e w5 ⟨a5, c5, rfl, ho5, hb5⟩; have HY7 : Hid (Below Wt.heap.size Wt w5) := Below.next (Below.refl _ _).drew hb5 (Nat.le_refl _); have HO5 := hide ho5; have HH5 := hide (keep_below (unhide HH) (unhide HY7)); have HF5 := hide (keep_below (unhide HF) (unhide HY7)); obtain ⟨h0, h1, hf0, hf1, hl⟩ := block2 (unhide HH5); obtain ⟨g0, g1, gf0, gf1, gl⟩ := block2 (unhide HF5); clear ho5 hb5))
  have hne := unhide HNE; have hlo := unhide HLO
  have o7 := (unhide HO5)
  have hsz : Wt.heap.size ≤ w5.heap.size := (unhide HY7).size
  have hrh := size_of (unhide HH); have hrf := size_of (unhide HF)
  have o8 : OwnO Wt.heap.size (put2 (put2 w5 RH (.slice ao no co) (.slice ar nr cr)) RF (.int .i64 0) (.int .i64 0)) (.slice a5 m c5) xs := (show OwnO Wt.heap.size w5 (.slice a5 m c5) xs from o7).keep (by simp [put2, World.setCell]) (fun k hk => by
    have h_ := ((show OwnO Wt.heap.size w5 (.slice a5 m c5) xs from o7).lt k hk).1
    exact (put2_keep (by omega)).trans (put2_keep (by omega)))
  exact unhide HK _ _ _ _ _ _ _ _ _ _ _ _ _ a5 c5 (put2 (put2 w5 RH (.slice ao no co) (.slice ar nr cr)) RF (.int .i64 0) (.int .i64 0)) (put2_below (put2_below ((unhide HY7).mono hlo.2.2) hlo.1) hlo.2.1) ((put2_keep ne2).trans (put2_new (unhide HH5))) (put2_new ((put2_keep ne1).trans (unhide HF5))) o8 (fun k hk h1 h2 => ((put2_keep h2).trans (put2_keep h1)).trans ((unhide HY7).block k hk))


set_option maxRecDepth 100000 in
set_option maxHeartbeats 4000000 in
theorem cycle_one (w : World) (ao : Option Addr) (no co : Nat) (ar : Option Addr) (nr cr : Nat) (us : List Sl) (os : List (List Int)) (rs : List Int) (hO : IsLL w (.slice ao no co) us os) (hR : IsL KI w (.slice ar nr cr) rs) (hf : heapF os rs = (0, 0)) (ab : Nat) (hA : w.heap[ab]? = some (.cells #[.int .i64 5, .int .i64 0, .int .i64 0, .int .i64 0] 47 (0, 0))) (wh : Nat → Bool) (f : Nat) (r : List Nat) (hs : shadeL ⟨fun _ => true, []⟩ rs = ⟨wh, f :: r⟩) :
    Calls Try.prog 19 #[.agg #[.slice ao no co, .slice ar nr cr], .int .i64 0, .slice (some ⟨ab, 0, none⟩) 1 1] w fun e w' => ∃ (b : Nat) (a1 : Option Addr) (c1 : Nat) (xs : List Nat) (a : Option Addr) (c : Nat), e = .returned (.tuple #[.agg #[.slice (some ⟨b, 0, none⟩) no no, .slice a1 nr c1], .slice a xs.length c, .agg #[.int .i64 0, .int .i64 0]]) ∧ LostIs os rs xs ∧ OwnO w.heap.size w' (.slice a xs.length c) (ixL xs) ∧ Below w.heap.size w w' := by
  have hg : GoodH os rs := heapF_good (by rw [hf])
  have hol : os.length = no := by rw [← hO.len]; exact hO.row.len
  have HWC : Hid (∀ W, Below w.heap.size w W → Calls Try.prog 29 #[.agg #[.slice ao no co, .slice ar nr cr], .int .i64 0, .slice (some ⟨ab, 0, none⟩) 1 1] W fun e w' => e = .returned (.agg #[.int .i64 0, .int .i64 0]) ∧ Below W.heap.size W w') := fun W hW => wrongCycle_ok W ao no co ar nr cr us os rs (hO.below hW) (hR.below hW) hf 0 (by omega) (by omega) _ 1 1 (by omega)
  have HNC : Hid (∀ W, Below w.heap.size w W → Calls Try.prog 30 #[.agg #[.slice ao no co, .slice ar nr cr], .int .i64 0] W fun e w' => ∃ cb mb wb vl b a1 c1, e = .returned (.pointer (some ⟨cb, 0, none⟩)) ∧ CycAt w' cb mb wb vl 0 ∧ MkAt W.heap.size w' mb no no (.slice (some ⟨b, 0, none⟩) no no) (.slice a1 nr c1) wb vl (shadeL ⟨fun _ => true, []⟩ rs) ∧ Rr w' mb wb vl (.slice (some ⟨b, 0, none⟩) no no) os ∧ Below W.heap.size W w') := fun W hW => newCycle_any W ao no co ar nr cr 0 us os rs (hO.below hW) (hR.below hW) hg
  have HG := hide hg; have HOL := hide hol; have HS := hide hs
  have HA := hide hA
  have hab := size_of hA
  obtain ⟨W3, e3, hx, hh, hq, hp⟩ := three_new w (.cells #[.slice ao no co, .slice ar nr cr] 25) (.cells #[.slice none 0 0, .slice none 0 0] 25) (.cells #[.int .i64 0, .int .i64 0] 30)
  have HX := hide hx; have HH := hide hh; have HQ := hide hq; have HP := hide hp; have HE := hide e3
  clear hx hh hq hp e3 hO hR hf hg hol hs hA
  go_enter Try.func19, Try.ntmps19
  go_upto_region 1 with fail
  rw [unhide HE]
  clear HE
  obtain ⟨b0, b1, bf0, bf1, bl⟩ := block2 (unhide HH)
  go_upto_region 2 with (go_at_call 29; (with_reducible refine Calls.mono (unhide HWC _ (unhide HX)) ?_); rintro e w4 ⟨rfl, hb4⟩; have HX4 := hide (Below.next (unhide HX) hb4 (Nat.le_refl _)); have HH4 := hide (keep_below (unhide HH) hb4); have HQ4 := hide (keep_below (unhide HQ) hb4); have HP4 := hide (keep_below (unhide HP) hb4); clear hb4)
  have HX5 := hide ((unhide HX4).alloc (unhide HX4).size (.cells #[.int .i64 0, .int .i64 0] 30)); have HH5 := hide (keep_alloc (unhide HH4) (.cells #[.int .i64 0, .int .i64 0] 30)); have HQ5 := hide (keep_alloc (unhide HQ4) (.cells #[.int .i64 0, .int .i64 0] 30)); have HP5 := hide (keep_alloc (unhide HP4) (.cells #[.int .i64 0, .int .i64 0] 30)); have HF5 := hide (new_block w4 (.cells #[.int .i64 0, .int .i64 0] 30))
  obtain ⟨F, eF⟩ : ∃ X, w4.heap.size = X := ⟨_, rfl⟩
  obtain ⟨W5, e5⟩ : ∃ X, w4.alloc (.cells #[.int .i64 0, .int .i64 0] 30) = X := ⟨_, rfl⟩
  rw [e5] at HX5 HH5 HQ5 HP5; rw [eF, e5] at HF5; rw [eF, e5]
  clear eF e5 HX HH HQ HP HX4 HH4 HQ4 HP4 HWC b0 b1 bf0 bf1 bl
  obtain ⟨g0, g1, gf0, gf1, gl⟩ := block2 (unhide HF5)
  obtain ⟨b0, b1, bf0, bf1, bl⟩ := block2 (unhide HH5)
  go_upto_region 5 with (go_at_call 30; (with_reducible refine Calls.mono (unhide HNC _ (unhide HX5)) ?_); rintro e w6 ⟨cb, mb, wb, vl, hb, a1, c1, rfl, hc6, hm6, hr6, hb6⟩; have HC6 := hide hc6; have HM6 := hide hm6; have HR6 := hide hr6; have HX6 := hide (Below.next (unhide HX5) hb6 (Nat.le_refl _)); have HQ6 := hide (keep_below (unhide HQ5) hb6); have HP6 := hide (keep_below (unhide HP5) hb6); have hs6 := hb6.size; clear hc6 hm6 hr6 hb6)
  have hq5 := size_of (unhide HQ5); have hp5 := size_of (unhide HP5)
  rw [unhide HS] at HM6
  have hk6 : LnOk no (shadeL ⟨fun _ => true, []⟩ rs) := LnOk.shade ⟨fun x hx => (by cases hx), by
    have h_ : cntW no ⟨fun _ => true, []⟩ ≤ no := by
      unfold cntW
      have := List.length_filter_le (fun _ => true) (List.range no)
      rwa [List.length_range] at this
    have := (unhide HG).no
    rw [unhide HOL] at this
    show _ + 0 ≤ 2000
    omega⟩ (by rw [← unhide HOL]; exact (unhide HG).ro)
  rw [unhide HS] at hk6
  have hi6 := inv_begin (unhide HG)
  rw [unhide HS] at hi6
  have HK6 := hide hk6; have HI6 := hide hi6
  clear hk6 hi6 HNC HH5 HF5 g0 g1 gf0 gf1 gl b0 b1 bf0 bf1 bl
  go_wp2_with fail
  go_loopw [28] (fun s28 wr => ∃ (i : Nat) (v : Value) (s : Mk), i ≤ 1 ∧ s28 = .int .i64 (i : Int) ∧ Hid (i = 0 → s = ⟨wh, f :: r⟩) ∧ Hid (CycAt wr cb mb wb v 0) ∧ Hid (MkAt W5.heap.size wr mb no no (.slice (some ⟨hb, 0, none⟩) no no) (.slice a1 nr c1) wb v s) ∧ Hid (Rr wr mb wb v (.slice (some ⟨hb, 0, none⟩) no no) os) ∧ Hid (Inv os rs s) ∧ Hid (LnOk no s) ∧ Hid (Below w.heap.size w wr) ∧ Hid (wr.heap[w.heap.size + 1]? = some (.cells #[.slice none 0 0, .slice none 0 0] 25 (0, 0))) ∧ Hid (wr.heap[w.heap.size + 1 + 1]? = some (.cells #[.int .i64 0, .int .i64 0] 30 (0, 0)))) (fun s28 _ => 1 - (intOf s28).toNat)
  case atStart => exact ⟨0, vl, _, Nat.zero_le _, rfl, hide (fun _ => rfl), HC6, HM6, HR6, HI6, HK6, HX6, HQ6, HP6⟩
  case round =>
    obtain ⟨i, v, s, hi, rfl, HSi, HCi, HMi, HRi, HIi, HKi, HXi, HQi, HPi⟩ := hrel
    clear HC6 HM6 HR6 HI6 HK6 HX6 HQ6 HP6
    by_cases hin : i = 0
    · subst hin
      obtain rfl := unhide HSi rfl
      obtain ⟨⟨a0, a1', a2, a3⟩, ⟨af0, af1, af2, af3⟩, al⟩ := block4 (keep_below (unhide HA) ((unhide HXi).mono (Nat.le_refl _)))
      go_upto_region 8 with fail
      have HB8 : Hid (Below wr.heap.size wr (wr.alloc (.cells #[.int .i64 5, .int .i64 0, .int .i64 0, .int .i64 0] 47))) := (Below.refl _ _).alloc (Nat.le_refl _) _
      have HA8 := hide (new_block wr (.cells #[.int .i64 5, .int .i64 0, .int .i64 0, .int .i64 0] 47))
      obtain ⟨AC, eA⟩ : ∃ X, wr.heap.size = X := ⟨_, rfl⟩
      obtain ⟨W8, e8⟩ : ∃ X, wr.alloc (.cells #[.int .i64 5, .int .i64 0, .int .i64 0, .int .i64 0] 47) = X := ⟨_, rfl⟩
      rw [e8] at HB8; rw [eA, e8] at HA8; rw [eA, e8]
      clear e8 a0 a1' a2 a3 af0 af1 af2 af3 al
      obtain ⟨⟨a0, a1', a2, a3⟩, ⟨af0, af1, af2, af3⟩, al⟩ := block4 (unhide HA8)
      go_upto_region 9 with (go_at_call 31; (with_reducible refine Calls.mono (wrong_mark W8 cb) ?_); rintro e w9 ⟨rfl, hb9⟩; have HB9 := hide (Below.next (unhide HB8) hb9 (Nat.le_refl _)); have HA9 := hide (keep_below (unhide HA8) hb9); clear hb9)
      clear a0 a1' a2 a3 af0 af1 af2 af3 al HA8
      obtain ⟨⟨a0, a1', a2, a3⟩, ⟨af0, af1, af2, af3⟩, al⟩ := block4 (unhide HA9)
      have hkp : Kp wr w9 mb wb v v := Kp.of_below (unhide HB9)
      have hfn : f < no := (unhide HKi).lt f (List.mem_cons_self ..)
      have hfo : f < os.length := by rw [unhide HOL]; exact hfn
      have hso : ∀ o ∈ os.getD f [], -1 ≤ o ∧ o < (no : Int) := by have h_ := (unhide HG).so f hfo; rwa [unhide HOL] at h_
      have hcn := (unhide HKi).cnt
      have hln : (f :: r).length = r.length + 1 := rfl
      simp only [hln] at hcn
      have hk1 : LnOk no ⟨wh, r⟩ := ⟨fun x hx => (unhide HKi).lt x (List.mem_cons_of_mem _ hx), by have h_ : cntW no ⟨wh, f :: r⟩ = cntW no ⟨wh, r⟩ := rfl; show cntW no ⟨wh, r⟩ + r.length ≤ 2000; omega⟩
      have HDO := hide (do_mark w9 cb mb wb W5.heap.size no (.slice (some ⟨hb, 0, none⟩) no no) (.slice a1 nr c1) v 0 wh f r ((unhide HCi).kp hkp) ((unhide HMi).below (unhide HB9)) os (unhide HOL) ((unhide HRi).kp hkp) hfn hso ((unhide HG).ns f hfo) (by omega))
      have HK10 := hide (hk1.shade hso)
      have HKP := hide hkp
      clear hkp hso hcn hln hk1
      go_wp2_with (go_at_call 32; (with_reducible refine Calls.mono (unhide HDO) ?_); rintro e w10 ⟨rfl, vl', hm10, hk10, hb10⟩; have HC10 := hide (((unhide HCi).kp (unhide HKP)).kp hk10); have HM10 := hide hm10; have HR10 := hide (((unhide HRi).kp (unhide HKP)).kp hk10); have HX10 := hide ((unhide HXi).trans (((unhide HB9).mono (unhide HXi).size).trans (hb10.mono (unhide HX5).size))); have HQ10 := hide ((hb10.block (w.heap.size + 1) hq5).trans (keep_below (unhide HQi) (unhide HB9))); have HP10 := hide ((hb10.block (w.heap.size + 1 + 1) hp5).trans (keep_below (unhide HPi) (unhide HB9))); clear hm10 hk10 hb10)
      go_roundw
      case rel => exact ⟨1, vl', _, Nat.le_refl _, by go_num, hide (fun q => by omega), HC10, HM10, HR10, hide (inv_mark (unhide HG) (unhide HIi)), HK10, HX10, HQ10, HP10⟩
      case measure => simp [intOf]
    · obtain rfl : i = 1 := by omega
      have i7 : ¬ ((1 : Nat) : Int) < 1 := by omega
      have HEN := hide (end_none wr cb mb wb W5.heap.size no (.slice (some ⟨hb, 0, none⟩) no no) (.slice a1 nr c1) v 0 (by decide) s (unhide HCi) (unhide HMi) os (by have h_ := (unhide HG).rows; rwa [unhide HOL] at h_) (unhide HRi) (unhide HKi))
      go_upto_region 14 with (go_at_call 33; (with_reducible refine Calls.mono (unhide HEN) ?_); rintro e w10 ⟨rfl, vl', s', hm10, hs10, hl10, _, hk10, hb10⟩; have HC10 := hide ((unhide HCi).kp hk10); have HM10 := hide hm10; have HS10 := hide hs10; have HL10 := hide hl10; have HX10 := hide ((unhide HXi).trans (hb10.mono (unhide HX5).size)); have HQ10 := hide ((hb10.block (w.heap.size + 1) hq5).trans (unhide HQi)); have HP10 := hide ((hb10.block (w.heap.size + 1 + 1) hp5).trans (unhide HPi)); clear hm10 hs10 hl10 hk10 hb10)
      have hne : w.heap.size + 1 ≠ w.heap.size + 1 + 1 ∧ w.heap.size + 1 ≠ cb ∧ w.heap.size + 1 ≠ mb ∧ w.heap.size + 1 + 1 ≠ cb ∧ w.heap.size + 1 + 1 ≠ mb := by
        refine ⟨by omega, fun q => ?_, fun q => ?_, fun q => ?_, fun q => ?_⟩
        · have h_ := unhide HQ10; rw [q, (unhide HC10).blk] at h_; cases h_
        · have h_ := unhide HQ10; rw [q, (unhide HM10).blk] at h_; cases h_
        · have h_ := unhide HP10; rw [q, (unhide HC10).blk] at h_; cases h_
        · have h_ := unhide HP10; rw [q, (unhide HM10).blk] at h_; cases h_
      have hno : no ≤ 500 := by rw [← unhide HOL]; exact (unhide HG).no
      refine cycle_14 w10 w.heap.size cb mb (w.heap.size + 1) (w.heap.size + 1 + 1) 0 (some ⟨hb, 0, none⟩) no no a1 nr c1 _ _ ((List.range no).filter s'.wh).length (ixL ((List.range no).filter s'.wh)) (unhide HC10).blk (unhide HM10).blk (unhide HQ10) (unhide HP10) hne ⟨by omega, by omega, (unhide HX10).size⟩ (fun W hW => whites_any W W5.heap.size mb no (.slice (some ⟨hb, 0, none⟩) no no) (.slice a1 nr c1) wb vl' s' ((unhide HM10).below hW) (by omega)) _ _ _ (by kernel_rfl) ?_
      intro s48 s49 s50 s51 s52 s53 s54 s55 s56 s57 s58 s59 s60 a12 c12 W12 hb12 hh12 hf12 ho12 _
      have HO12 := hide ho12; have HB12 := hide hb12
      obtain ⟨b0, b1, bf0, bf1, bl⟩ := block2 hh12
      obtain ⟨g0, g1, gf0, gf1, gl⟩ := block2 hf12
      clear hb12 hh12 hf12 ho12
      go_wp2_with fail
      refine bodyPost_ret (v := .tuple #[.agg #[.slice (some ⟨hb, 0, none⟩) no no, .slice a1 nr c1], .slice a12 ((List.range no).filter s'.wh).length c12, .agg #[.int .i64 0, .int .i64 0]]) (by simp [results, Try.results19, go_sem, b0, b1, g0, g1]) rfl ⟨hb, a1, c1, _, a12, c12, rfl, ⟨s'.wh, by rw [unhide HOL], fun x hx => inv_end (unhide HG) ((unhide HS10).inv (unhide HG) (unhide HIi)) (unhide HL10) hx⟩, (unhide HO12).low (unhide HX10).size, (unhide HX10).trans (unhide HB12)⟩
end Go.Proofs.Ytmkehjncnaokoaa
