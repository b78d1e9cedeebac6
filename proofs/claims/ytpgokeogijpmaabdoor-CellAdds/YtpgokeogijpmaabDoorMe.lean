/-
  One pick of cell.Mix.
-/
import Derived.Test.YtpgokeogijpmaabDoorMd
namespace Go.Proofs.YtpgokeogijpmaabDoor.Mx
open Go.RowKit

theorem wp_norm {x : Code} {Q : Exit → Act → World → Prop} {a : Act} {w : World} (h : x.wp Tryd.prog (Exit.then (fun a w => Q .normal a w) (fun _ _ _ => False)) a w) : x.wp Tryd.prog Q a w :=
  Code.wp_mono (fun e a w hq => by cases e <;> first | exact hq | exact hq.elim) h
def NxP (w : World) (at1 : Option Addr) (n ct R Bm : Nat) (v9 : Value) (G : Nat) (ap : Option Addr) (p cp : Nat) (B m j : Nat) (Z : List Int) (ts : List (List Int)) (N : Act → World → Prop) : Prop := ∀ (s0 s2 s3 s4 s5 s6 s7 s9 s13 s14 s15 s16 s17 s18 s19 s20 s21 s22 s23 s24 s25 s26 s27 s28 s29 s33 s34 s35 s36 s37 s38 s39 s40 s41 s42 s43 s44 s45 s46 s47 s48 s49 s50 s51 s52 s53 s54 s55 s56 s57 s58 s59 s60 s61 s62 s63 s64 s65 s66 s67 s68 s69 s70 : Value) (us : List Sl) (W' : World), Mi w W' B R Bm G n m v9 Z us ts → N { tmps := (s0 :: .slice at1 n ct :: s2 :: s3 :: s4 :: s5 :: s6 :: s7 :: .pointer (some ⟨R, 0, none⟩) :: s9 :: .map (some Bm) :: v9 :: .slice (some ⟨G, 0, none⟩) n n :: s13 :: s14 :: s15 :: s16 :: s17 :: s18 :: s19 :: s20 :: s21 :: s22 :: s23 :: s24 :: s25 :: s26 :: s27 :: s28 :: s29 :: .slice ap p cp :: .int .i64 (p : Int) :: .int .i64 ((j : Int) + 1) :: s33 :: s34 :: s35 :: s36 :: s37 :: s38 :: s39 :: s40 :: s41 :: s42 :: s43 :: s44 :: s45 :: s46 :: s47 :: s48 :: s49 :: s50 :: s51 :: s52 :: s53 :: s54 :: s55 :: s56 :: s57 :: s58 :: s59 :: s60 :: s61 :: s62 :: s63 :: s64 :: s65 :: s66 :: s67 :: s68 :: s69 :: s70 :: []).toArray, defers := [] } W'

set_option maxRecDepth 100000 in
set_option maxHeartbeats 4000000 in
theorem pick_skip (w : World) (at1 : Option Addr) (n ct R Bm G : Nat) (ap : Option Addr) (p cp B m : Nat) (v9 : Value) (j : Nat) (ps : List Int) (uts : List Sl) (tss : List (List Op4)) (Z : List Int) (us : List Sl) (ts : List (List Int)) (t : Nat) (hj : j < p) (hp : p ≤ 100000) (ht : ps.getD j 0 = (t : Int)) (htn : t < n) (hn : n ≤ 100000) (Wt : World) (hM : Mi w Wt B R Bm G n m v9 Z us ts) (hP : IsL KI Wt (.slice ap p cp) ps) (hT : IsTs Wt (.slice at1 n ct) uts tss) (_hlen : (tss.getD t []).length ≤ 5000) (hd : ¬ (ts.getD t []).length < (tss.getD t []).length)
    {s0 s2 s3 s4 s5 s6 s7 s9 s13 s14 s15 s16 s17 s18 s19 s20 s21 s22 s23 s24 s25 s26 s27 s28 s29 s33 s34 s35 s36 s37 s38 s39 s40 s41 s42 s43 s44 s45 s46 s47 s48 s49 s50 s51 s52 s53 s54 s55 s56 s57 s58 s59 s60 s61 s62 s63 s64 s65 s66 s67 s68 s69 s70 : Value} (N : Act → World → Prop) (Q0 : Exit → Act → World → Prop) (b r : Code) (hcut : (Tryd.f6.body.bind (loopFor 0)) = some (b, r)) (hN : NxP w at1 n ct R Bm v9 G ap p cp B m j Z ts N) :
    b.wp Tryd.prog (Exit.then N Q0) { tmps := (s0 :: .slice at1 n ct :: s2 :: s3 :: s4 :: s5 :: s6 :: s7 :: .pointer (some ⟨R, 0, none⟩) :: s9 :: .map (some Bm) :: v9 :: .slice (some ⟨G, 0, none⟩) n n :: s13 :: s14 :: s15 :: s16 :: s17 :: s18 :: s19 :: s20 :: s21 :: s22 :: s23 :: s24 :: s25 :: s26 :: s27 :: s28 :: s29 :: .slice ap p cp :: .int .i64 (p : Int) :: .int .i64 (j : Int) :: s33 :: s34 :: s35 :: s36 :: s37 :: s38 :: s39 :: s40 :: s41 :: s42 :: s43 :: s44 :: s45 :: s46 :: s47 :: s48 :: s49 :: s50 :: s51 :: s52 :: s53 :: s54 :: s55 :: s56 :: s57 :: s58 :: s59 :: s60 :: s61 :: s62 :: s63 :: s64 :: s65 :: s66 :: s67 :: s68 :: s69 :: s70 :: []).toArray, defers := [] } Wt := by
  have hcc : (Tryd.f6.body.bind (loopFor 0)) = some (_, _) := rfl
  rw [hcc] at hcut
  cases hcut
  clear hcc
  have hlp := hP.len
  obtain ⟨b0, o0, rfl, hb0, l0⟩ := hP.opens ki hlp (by omega)
  have c1 := l0.ints (j := j) (by omega)
  rw [ht] at c1
  have hlt := hT.row.len
  have hlu := hT.len
  obtain ⟨b1, o1, rfl, hb1, l1⟩ := hT.row.opens kq hlt (by omega)
  have c2 := l1.sls (j := t) (by omega)
  have hops := hT.each t (by omega)
  obtain ⟨⟨ua, un, uc⟩, eu⟩ : ∃ u, uAt uts t = u := ⟨_, rfl⟩
  rw [eu] at c2 hops
  have hun : un = (tss.getD t []).length := by
    obtain ⟨a', c', e⟩ := Rd.form hops
    unfold sl at e
    injection e
  obtain ⟨c3, f3⟩ := own_ats hM.row (j := t) (by rw [hM.lu]; exact htn)
  have htl := uAt_len hM htn
  obtain ⟨⟨ta, tn, tc⟩, et⟩ : ∃ u, uAt us t = u := ⟨_, rfl⟩
  rw [et] at c3 htl
  have c2' : Wt.cell? ⟨b1, o1 + t, none⟩ = some (.slice ua un uc) := c2
  have c3' : Wt.cell? ⟨G, t, none⟩ = some (.slice ta tn tc) := c3
  clear c2 c3
  simp only at htl
  have i0 : (0 : Int) ≤ (j : Int) := by omega
  have i1 : (j : Int) < (p : Int) := by omega
  have j0 : (0 : Int) ≤ (t : Int) := by omega
  have j1 : (t : Int) < (n : Int) := by omega
  have hwr : IntKind.i64.wrap ((j : Int) + 1) = (j : Int) + 1 := wrapi (by omega) (by omega)
  have HN := hide hN; have HM := hide hM
  have hGl := (hM.row.lt G rfl).2
  have x1 : ¬ (tn : Int) < (un : Int) := by omega
  clear hN hM hP hT l0 l1 hops hlp hlt hlu eu et htl hun hd ht
  go_wp2_with fail
  exact unhide HN _ _ _ _ _ _ _ _ _ _ _ _ _ _ _ _ _ _ _ _ _ _ _ _ _ _ _ _ _ _ _ _ _ _ _ _ _ _ _ _ _ _ _ _ _ _ _ _ _ _ _ _ _ _ _ _ _ _ _ _ _ _ _ _ _ (unhide HM)

set_option maxRecDepth 100000 in
set_option maxHeartbeats 4000000 in
theorem pick_step (w : World) (at1 : Option Addr) (n ct R Bm G : Nat) (ap : Option Addr) (p cp B m : Nat) (g c9 q : Nat) (j : Nat) (ps : List Int) (uts : List Sl) (tss : List (List Op4)) (Z : List Int) (us : List Sl) (ts : List (List Int)) (t : Nat) (hj : j < p) (hp : p ≤ 100000) (ht : ps.getD j 0 = (t : Int)) (htn : t < n) (hn : n ≤ 100000) (Wt : World) (hM : Mi w Wt B R Bm G n m (.slice (some ⟨g, 0, none⟩) m c9) Z us ts) (hP : IsL KI Wt (.slice ap p cp) ps) (hT : IsTs Wt (.slice at1 n ct) uts tss) (hlen : (tss.getD t []).length ≤ 5000) (hd : (ts.getD t []).length < (tss.getD t []).length) (o4 : Op4) (ho4 : opAtD (tss.getD t []) (ts.getD t []).length = o4) (hk : 1 ≤ o4.k ∧ o4.k ≤ 5) (hq : o4.p = (q : Int)) (hqm : q < m)
    {s0 s2 s3 s4 s5 s6 s7 s9 s13 s14 s15 s16 s17 s18 s19 s20 s21 s22 s23 s24 s25 s26 s27 s28 s29 s33 s34 s35 s36 s37 s38 s39 s40 s41 s42 s43 s44 s45 s46 s47 s48 s49 s50 s51 s52 s53 s54 s55 s56 s57 s58 s59 s60 s61 s62 s63 s64 s65 s66 s67 s68 s69 s70 : Value} (N : Act → World → Prop) (Q0 : Exit → Act → World → Prop) (b r : Code) (hcut : (Tryd.f6.body.bind (loopFor 0)) = some (b, r)) (hN : NxP w at1 n ct R Bm (.slice (some ⟨g, 0, none⟩) m c9) G ap p cp B m j (stepMem Z o4) (ts.set t (ts.getD t [] ++ [stepTold Z o4])) N) :
    b.wp Tryd.prog (Exit.then N Q0) { tmps := (s0 :: .slice at1 n ct :: s2 :: s3 :: s4 :: s5 :: s6 :: s7 :: .pointer (some ⟨R, 0, none⟩) :: s9 :: .map (some Bm) :: .slice (some ⟨g, 0, none⟩) m c9 :: .slice (some ⟨G, 0, none⟩) n n :: s13 :: s14 :: s15 :: s16 :: s17 :: s18 :: s19 :: s20 :: s21 :: s22 :: s23 :: s24 :: s25 :: s26 :: s27 :: s28 :: s29 :: .slice ap p cp :: .int .i64 (p : Int) :: .int .i64 (j : Int) :: s33 :: s34 :: s35 :: s36 :: s37 :: s38 :: s39 :: s40 :: s41 :: s42 :: s43 :: s44 :: s45 :: s46 :: s47 :: s48 :: s49 :: s50 :: s51 :: s52 :: s53 :: s54 :: s55 :: s56 :: s57 :: s58 :: s59 :: s60 :: s61 :: s62 :: s63 :: s64 :: s65 :: s66 :: s67 :: s68 :: s69 :: s70 :: []).toArray, defers := [] } Wt := by
  have hcc : (Tryd.f6.body.bind (loopFor 0)) = some (_, _) := rfl
  rw [hcc] at hcut
  cases hcut
  clear hcc
  have hlp := hP.len
  obtain ⟨b0, o0, rfl, hb0, l0⟩ := hP.opens ki hlp (by omega)
  have c1 := l0.ints (j := j) (by omega)
  rw [ht] at c1
  have hlt := hT.row.len
  have hlu := hT.len
  obtain ⟨b1, o1, rfl, hb1, l1⟩ := hT.row.opens kq hlt (by omega)
  have c2 := l1.sls (j := t) (by omega)
  have hops := hT.each t (by omega)
  obtain ⟨⟨ua, un, uc⟩, eu⟩ : ∃ u, uAt uts t = u := ⟨_, rfl⟩
  rw [eu] at c2 hops
  have hun : un = (tss.getD t []).length := by
    obtain ⟨a', c', e⟩ := Rd.form hops
    unfold sl at e
    injection e
  obtain ⟨c3, f3⟩ := own_ats hM.row (j := t) (by rw [hM.lu]; exact htn)
  have htl := uAt_len hM htn
  obtain ⟨⟨ta, tn, tc⟩, et⟩ : ∃ u, uAt us t = u := ⟨_, rfl⟩
  rw [et] at c3 htl
  have c2' : Wt.cell? ⟨b1, o1 + t, none⟩ = some (.slice ua un uc) := c2
  have c3' : Wt.cell? ⟨G, t, none⟩ = some (.slice ta tn tc) := c3
  clear c2 c3
  simp only at htl
  have i0 : (0 : Int) ≤ (j : Int) := by omega
  have i1 : (j : Int) < (p : Int) := by omega
  have j0 : (0 : Int) ≤ (t : Int) := by omega
  have j1 : (t : Int) < (n : Int) := by omega
  have hwr : IntKind.i64.wrap ((j : Int) + 1) = (j : Int) + 1 := wrapi (by omega) (by omega)
  have HN := hide hN; have HM := hide hM
  have hGl := (hM.row.lt G rfl).2
  have x1 : (tn : Int) < (un : Int) := by omega
  have x2 : (0 : Int) ≤ (tn : Int) := by omega
  obtain ⟨b2, o2, c2q, e2, hb2, d0, d1, d2, d3⟩ := IsOps.at hops (by omega)
  unfold sl at e2
  injection e2 with e2 e2n e2c
  simp only at e2 e2n e2c
  clear e2n e2c
  subst e2
  have q0 := d0 tn (by omega)
  have q1 := d1 tn (by omega)
  have q2 := d2 tn (by omega)
  have q3 := d3 tn (by omega)
  rw [htl, ho4] at q0 q1 q2 q3
  rw [hq] at q1
  rw [← htl] at q0 q1 q2 q3
  obtain ⟨k4, p4, a4, b4⟩ := o4
  simp only at q0 q1 q2 q3 hk hq
  have hmz := hM.lz
  obtain ⟨z1, z2⟩ := own_inti hM.mem (j := q) (by omega)
  have HDO : Hid (Calls Tryd.prog 13 #[.map (some Bm), .slice (some ⟨g, 0, none⟩) m c9, .agg #[.int .i64 k4, .int .i64 (q : Int), .int .i64 a4, .int .i64 b4]] Wt.drew fun e w5 => e = .returned (.int .i64 (stepTold Z ⟨k4, p4, a4, b4⟩)) ∧ Mi w w5 B R Bm G n m (.slice (some ⟨g, 0, none⟩) m c9) (stepMem Z ⟨k4, p4, a4, b4⟩) us ts) := by
    have hMd : Mi w Wt.drew B R Bm G n m (.slice (some ⟨g, 0, none⟩) m c9) Z us ts := hM.keep (Below.refl _ _).drew
    refine (do_any Wt.drew Bm hMd.map g 0 m c9 q (by omega) (Z.getD q 0) k4 a4 b4 hk (by rw [Nat.zero_add]; exact z1) (by rw [Nat.zero_add]; exact z2)).mono ?_
    rintro e w5 ⟨rfl, hdo⟩
    have e1 : p4.toNat = q := by rw [hq]; rfl
    refine ⟨?_, ?_⟩
    · unfold stepTold; simp only; rw [e1]
    · unfold stepMem; simp only; rw [e1]
      exact hMd.did _ hdo
  obtain ⟨X, eX⟩ : ∃ X, stepTold Z ⟨k4, p4, a4, b4⟩ = X := ⟨_, rfl⟩
  obtain ⟨Y, eY⟩ : ∃ X, stepMem Z ⟨k4, p4, a4, b4⟩ = X := ⟨_, rfl⟩
  rw [eX, eY] at HDO HN
  have htn5 : tn ≤ 5000 := by omega
  have HET := hide et; have HTL := hide htl
  have HCL : Hid (∀ w5, Mi w w5 B R Bm G n m (.slice (some ⟨g, 0, none⟩) m c9) Y us ts → w5.cell? ⟨G, t, none⟩ = some (.slice ta tn tc) ∧ (w5.alloc (.cells #[.int .i64 X] 3)).cell? ⟨G, t, none⟩ = some (.slice ta tn tc) ∧ Own KI B (w5.alloc (.cells #[.int .i64 X] 3)) (.slice ta tn tc) (ts.getD t []) ∧ B ≤ (w5.alloc (.cells #[.int .i64 X] 3)).heap.size) := fun w5 h5 => by
    have h6 := h5.keep ((Below.refl _ _).alloc (Nat.le_refl _) (.cells #[.int .i64 X] 3))
    have e1 := (own_ats h5.row (j := t) (by rw [h5.lu]; exact htn)).1
    have e2 := (own_ats h6.row (j := t) (by rw [h6.lu]; exact htn)).1
    have e3 := h6.each t htn
    rw [et] at e1 e2 e3
    have hg := h6.row.lt G rfl
    exact ⟨e1, e2, e3, by omega⟩
  have HGW : Hid (∀ w5 w6, Mi w w5 B R Bm G n m (.slice (some ⟨g, 0, none⟩) m c9) Y us ts → (w5.alloc (.cells #[.int .i64 X] 3)).grownBy w6 (Value.slice ta tn tc).ownBlock → w6.cell? ⟨G, t, none⟩ = some (.slice ta tn tc) ∧ w6.frozen? ⟨G, t, none⟩ = false) := fun w5 w6 h5 hg6 => by
    have hrow := h5.row6 htn (.cells #[.int .i64 X] 3) (by rw [et]; exact hg6)
    have e1 := own_ats hrow (j := t) (by rw [h5.lu]; exact htn)
    rw [et] at e1
    exact e1
  clear hN hM hP hT l0 l1 hops hlp hlt hlu eu et htl hun hd ht eX eY z1 z2 d0 d1 d2 d3 hmz ho4 hq hk
  go_upto_region 12 with fail
  clear c1
  refine wp_norm ?_
  go_region_law (first
    | (go_simp; go_at_call 13; refine (unhide HDO).mono ?_; rintro e w5 ⟨rfl, hm5⟩; have HM5 := hide hm5; have r0 : w5.cell? ⟨G, t, none⟩ = some (.slice ta tn tc) := (unhide HCL w5 hm5).1; have r1 : (w5.alloc (.cells #[.int .i64 X] 3)).cell? ⟨G, t, none⟩ = some (.slice ta tn tc) := (unhide HCL w5 hm5).2.1; have HO5 : Hid (Own KI B (w5.alloc (.cells #[.int .i64 X] 3)) (.slice ta tn tc) (ts.getD t [])) := (unhide HCL w5 hm5).2.2.1; have HS5 : Hid (B ≤ (w5.alloc (.cells #[.int .i64 X] 3)).heap.size) := (unhide HCL w5 hm5).2.2.2; clear hm5)
    | (refine step_append2 ki rfl (.tmp 53) (.tmp 64) rfl B (.slice ta tn tc) (ts.getD t []) rfl (unhide HO5) (.slice (some ⟨w5.heap.size, 0, none⟩) 1 1) [X] rfl (isl_one ki w5 X) (tn + 1) (by rw [unhide HTL]; rfl) (by show (tn + 1) * 8 ≤ 140737488355328; omega) (unhide HS5) ?_; intro a6 c6 w6 ho6 hg6 hl6; have HM6 := hide ((unhide HM5).told htn X (.cells #[.int .i64 X] 3) a6 (tn + 1) c6 ho6 (by rw [unhide HET]; exact hg6) (by rw [unhide HET]; exact hl6)); have hw6 := unhide HGW w5 w6 (unhide HM5) hg6; have r3 := hw6.1; have r4 := hw6.2; clear ho6 hg6 hl6 hw6))
  all_goals
    obtain ⟨W9, e9⟩ : ∃ X, w6.setCell ⟨G, t, none⟩ (.slice a6 (tn + 1) c6) = X := ⟨_, rfl⟩
    rw [e9] at HM6 ⊢
    clear e9
    show Exit.inBlock 1 (Exit.then _ (Exit.then N Q0)) Exit.normal _ _
    go_wp2_with fail
    exact unhide HN _ _ _ _ _ _ _ _ _ _ _ _ _ _ _ _ _ _ _ _ _ _ _ _ _ _ _ _ _ _ _ _ _ _ _ _ _ _ _ _ _ _ _ _ _ _ _ _ _ _ _ _ _ _ _ _ _ _ _ _ _ _ _ _ _ (unhide HM6)

end Go.Proofs.YtpgokeogijpmaabDoor.Mx
