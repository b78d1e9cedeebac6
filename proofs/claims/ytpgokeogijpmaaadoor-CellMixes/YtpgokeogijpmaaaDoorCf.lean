/-
  taskmillref.Order, put together.
-/
import Derived.Test.YtpgokeogijpmaaaDoorCe
namespace Go.Proofs.YtpgokeogijpmaaaDoor.Mx
open Go.RowKit

theorem ord_any (w : World) (at1 : Option Addr) (n ct : Nat) (ap : Option Addr) (p cp A : Nat) (j : Nat) (ps : List Int) (uts : List Sl) (tss : List (List Op4)) (q : Nat) (ats : List Int) (a7 : Option Addr) (c7 : Nat) (os : List Op4) (a8 : Option Addr) (c8 : Nat) (wh : List Int) (hj : j < p) (hp : p ≤ 5000) (hn : n ≤ 100000) (hl : ∀ i, i < n → (tss.getD i []).length ≤ 100000) (hi : ∀ j, j < p → 0 ≤ ps.getD j 0 ∧ ps.getD j 0 < n) (hq : q ≤ j) (hlo : os.length = q) (hlw : wh.length = q) (hok : (∀ i, i < n → ∃ d : Nat, ats.getD i 0 = (d : Int) ∧ d ≤ (tss.getD i []).length)) (Wt : World) (hM : Oi w Wt A n q ats a7 c7 os a8 c8 wh) (hP : IsL KI Wt (.slice ap p cp) ps) (hT : IsTs Wt (.slice at1 n ct) uts tss)
    {s2 s3 s4 s5 s10 s11 s12 s13 s14 s15 s16 s17 s18 s19 s20 s21 s22 s23 s24 s25 s26 s27 s28 s29 s30 s31 s32 s33 s34 s35 s36 s37 s38 s39 s40 s41 s42 s43 s44 s45 s46 s47 s48 s49 s50 s51 s52 s53 s54 s55 s56 s57 s58 : Value} (N : Act → World → Prop) (Q0 : Exit → Act → World → Prop) (b r : Code) (hcut : (Tryd.f22.body.bind (loopFor 0)) = some (b, r)) (hN : ∀ q2 ats2 os2 wh2, ordStep tss (ats, os, wh) (ps.getD j 0).toNat = (ats2, os2, wh2) → q2 ≤ j + 1 → os2.length = q2 → wh2.length = q2 → (∀ i, i < n → ∃ d : Nat, ats2.getD i 0 = (d : Int) ∧ d ≤ (tss.getD i []).length) → NxO w at1 n ct ap p cp A j q2 ats2 os2 wh2 N) :
    b.wp Tryd.prog (Exit.then N Q0) { tmps := (.slice at1 n ct :: .slice ap p cp :: s2 :: s3 :: s4 :: s5 :: .slice (some ⟨A, 0, none⟩) n n :: .slice a7 q c7 :: .slice a8 q c8 :: .int .i64 (j : Int) :: s10 :: s11 :: s12 :: s13 :: s14 :: s15 :: s16 :: s17 :: s18 :: s19 :: s20 :: s21 :: s22 :: s23 :: s24 :: s25 :: s26 :: s27 :: s28 :: s29 :: s30 :: s31 :: s32 :: s33 :: s34 :: s35 :: s36 :: s37 :: s38 :: s39 :: s40 :: s41 :: s42 :: s43 :: s44 :: s45 :: s46 :: s47 :: s48 :: s49 :: s50 :: s51 :: s52 :: s53 :: s54 :: s55 :: s56 :: s57 :: s58 :: []).toArray, defers := [] } Wt := by
  obtain ⟨t, et⟩ : ∃ t : Nat, ps.getD j 0 = (t : Int) := ⟨(ps.getD j 0).toNat, by have := (hi j hj).1; omega⟩
  have htn : t < n := by have := (hi j hj).2; omega
  have e1 : (ps.getD j 0).toNat = t := by rw [et]; rfl
  rw [e1] at hN
  obtain ⟨d, hd0, hdl⟩ := hok t htn
  have hla := hM.la
  by_cases hd : d < (tss.getD t []).length
  · have e2 : ordStep tss (ats, os, wh) t = (ats.set t ((d : Int) + 1), os ++ [opAtD (tss.getD t []) d], wh ++ [(t : Int)]) := by
      unfold ordStep
      simp only
      rw [hd0, if_pos (by omega)]
      rfl
    refine ord_go w at1 n ct ap p cp A j ps uts tss q ats a7 c7 os a8 c8 wh t hj (by omega) (by omega) hlo hlw et htn hn Wt hM hP hT (hl t htn) d hd0 hd N Q0 b r hcut (hN _ _ _ _ e2 (by omega) (by rw [List.length_append, hlo]; rfl) (by rw [List.length_append, hlw]; rfl) (fun i hi' => ?_))
    by_cases e : i = t
    · subst e
      exact ⟨d + 1, by rw [List.getD_eq_getElem?_getD, List.getElem?_set_self (by omega)]; rfl, by omega⟩
    · obtain ⟨d', h1, h2⟩ := hok i hi'
      exact ⟨d', by rw [List.getD_eq_getElem?_getD, List.getElem?_set_ne (by omega), ← List.getD_eq_getElem?_getD]; exact h1, h2⟩
  · have e2 : ordStep tss (ats, os, wh) t = (ats, os, wh) := by
      unfold ordStep
      simp only
      rw [hd0, if_neg (by omega)]
    exact ord_skip w at1 n ct ap p cp A j ps uts tss q ats a7 c7 os a8 c8 wh t hj (by omega) (by omega) hlo hlw et htn hn Wt hM hP hT (hl t htn) d hd0 hd N Q0 b r hcut (hN _ _ _ _ e2 (by omega) hlo hlw hok)
set_option maxRecDepth 100000 in
set_option maxHeartbeats 4000000 in
theorem ord_end (w : World) (at1 : Option Addr) (n ct : Nat) (ap : Option Addr) (p cp A : Nat) (q : Nat) (ats : List Int) (a7 : Option Addr) (c7 : Nat) (os : List Op4) (a8 : Option Addr) (c8 : Nat) (wh : List Int) (Wt : World) (hM : Oi w Wt A n q ats a7 c7 os a8 c8 wh)
    {s2 s3 s4 s5 s10 s11 s12 s13 s14 s15 s16 s17 s18 s19 s20 s21 s22 s23 s24 s25 s26 s27 s28 s29 s30 s31 s32 s33 s34 s35 s36 s37 s38 s39 s40 s41 s42 s43 s44 s45 s46 s47 s48 s49 s50 s51 s52 s53 s54 s55 s56 s57 s58 : Value} (N : Act → World → Prop) (Q0 : Exit → Act → World → Prop) (b r : Code) (hcut : (Tryd.f22.body.bind (loopFor 0)) = some (b, r)) (hE : ∀ (s2 s3 s4 s5 s10 s11 s12 s13 s14 s15 s16 s17 s18 s19 s20 s21 s22 s23 s24 s25 s26 s27 s28 s29 s30 s31 s32 s33 s34 s35 s36 s37 s38 s39 s40 s41 s42 s43 s44 s45 s46 s47 s48 s49 s50 s51 s52 s53 s54 s55 s56 s57 s58 : Value) (W' : World), Oi w W' A n q ats a7 c7 os a8 c8 wh → Q0 (.exit 0) { tmps := (.slice at1 n ct :: .slice ap p cp :: s2 :: s3 :: s4 :: s5 :: .slice (some ⟨A, 0, none⟩) n n :: .slice a7 q c7 :: .slice a8 q c8 :: .int .i64 (p : Int) :: s10 :: s11 :: s12 :: s13 :: s14 :: s15 :: s16 :: s17 :: s18 :: s19 :: s20 :: s21 :: s22 :: s23 :: s24 :: s25 :: s26 :: s27 :: s28 :: s29 :: s30 :: s31 :: s32 :: s33 :: s34 :: s35 :: s36 :: s37 :: s38 :: s39 :: s40 :: s41 :: s42 :: s43 :: s44 :: s45 :: s46 :: s47 :: s48 :: s49 :: s50 :: s51 :: s52 :: s53 :: s54 :: s55 :: s56 :: s57 :: s58 :: []).toArray, defers := [] } W') :
    b.wp Tryd.prog (Exit.then N Q0) { tmps := (.slice at1 n ct :: .slice ap p cp :: s2 :: s3 :: s4 :: s5 :: .slice (some ⟨A, 0, none⟩) n n :: .slice a7 q c7 :: .slice a8 q c8 :: .int .i64 (p : Int) :: s10 :: s11 :: s12 :: s13 :: s14 :: s15 :: s16 :: s17 :: s18 :: s19 :: s20 :: s21 :: s22 :: s23 :: s24 :: s25 :: s26 :: s27 :: s28 :: s29 :: s30 :: s31 :: s32 :: s33 :: s34 :: s35 :: s36 :: s37 :: s38 :: s39 :: s40 :: s41 :: s42 :: s43 :: s44 :: s45 :: s46 :: s47 :: s48 :: s49 :: s50 :: s51 :: s52 :: s53 :: s54 :: s55 :: s56 :: s57 :: s58 :: []).toArray, defers := [] } Wt := by
  have hcc : (Tryd.f22.body.bind (loopFor 0)) = some (_, _) := rfl
  rw [hcc] at hcut
  cases hcut
  clear hcc
  have HE := hide hE; have HM := hide hM
  clear hE hM
  have i1 : ¬ (p : Int) < (p : Int) := by omega
  go_wp2_with fail
  exact unhide HE _ _ _ _ _ _ _ _ _ _ _ _ _ _ _ _ _ _ _ _ _ _ _ _ _ _ _ _ _ _ _ _ _ _ _ _ _ _ _ _ _ _ _ _ _ _ _ _ _ _ _ _ _ _ (unhide HM)
theorem ord_rounds (w : World) (at1 : Option Addr) (n ct : Nat) (ap : Option Addr) (p cp A : Nat) (ps : List Int) (uts : List Sl) (tss : List (List Op4)) (hp : p ≤ 5000) (hn : n ≤ 100000) (hl : ∀ i, i < n → (tss.getD i []).length ≤ 100000) (hi : ∀ j, j < p → 0 ≤ ps.getD j 0 ∧ ps.getD j 0 < n) (hP : IsL KI w (.slice ap p cp) ps) (hT : IsTs w (.slice at1 n ct) uts tss) (osF : List Op4) (wF : List Int) (aF : List Int) (Q0 : Exit → Act → World → Prop) (b r : Code) (hcut : (Tryd.f22.body.bind (loopFor 0)) = some (b, r)) (hE : ∀ (s2 s3 s4 s5 s10 s11 s12 s13 s14 s15 s16 s17 s18 s19 s20 s21 s22 s23 s24 s25 s26 s27 s28 s29 s30 s31 s32 s33 s34 s35 s36 s37 s38 s39 s40 s41 s42 s43 s44 s45 s46 s47 s48 s49 s50 s51 s52 s53 s54 s55 s56 s57 s58 : Value) (q : Nat) (a7 : Option Addr) (c7 : Nat) (a8 : Option Addr) (c8 : Nat) (W' : World), osF.length = q → wF.length = q → Oi w W' A n q aF a7 c7 osF a8 c8 wF → Q0 (.exit 0) { tmps := (.slice at1 n ct :: .slice ap p cp :: s2 :: s3 :: s4 :: s5 :: .slice (some ⟨A, 0, none⟩) n n :: .slice a7 q c7 :: .slice a8 q c8 :: .int .i64 (p : Int) :: s10 :: s11 :: s12 :: s13 :: s14 :: s15 :: s16 :: s17 :: s18 :: s19 :: s20 :: s21 :: s22 :: s23 :: s24 :: s25 :: s26 :: s27 :: s28 :: s29 :: s30 :: s31 :: s32 :: s33 :: s34 :: s35 :: s36 :: s37 :: s38 :: s39 :: s40 :: s41 :: s42 :: s43 :: s44 :: s45 :: s46 :: s47 :: s48 :: s49 :: s50 :: s51 :: s52 :: s53 :: s54 :: s55 :: s56 :: s57 :: s58 :: []).toArray, defers := [] } W') :
    ∀ (k j : Nat), j + k = p → ∀ (s2 s3 s4 s5 s10 s11 s12 s13 s14 s15 s16 s17 s18 s19 s20 s21 s22 s23 s24 s25 s26 s27 s28 s29 s30 s31 s32 s33 s34 s35 s36 s37 s38 s39 s40 s41 s42 s43 s44 s45 s46 s47 s48 s49 s50 s51 s52 s53 s54 s55 s56 s57 s58 : Value) (q : Nat) (ats : List Int) (a7 : Option Addr) (c7 : Nat) (os : List Op4) (a8 : Option Addr) (c8 : Nat) (wh : List Int) (Wt : World), q ≤ j → os.length = q → wh.length = q → (∀ i, i < n → ∃ d : Nat, ats.getD i 0 = (d : Int) ∧ d ≤ (tss.getD i []).length) → ordAll tss (ps.drop j) (ats, os, wh) = (aF, osF, wF) → Oi w Wt A n q ats a7 c7 os a8 c8 wh → Code.rounds Tryd.prog b Q0 (k + 1) { tmps := (.slice at1 n ct :: .slice ap p cp :: s2 :: s3 :: s4 :: s5 :: .slice (some ⟨A, 0, none⟩) n n :: .slice a7 q c7 :: .slice a8 q c8 :: .int .i64 (j : Int) :: s10 :: s11 :: s12 :: s13 :: s14 :: s15 :: s16 :: s17 :: s18 :: s19 :: s20 :: s21 :: s22 :: s23 :: s24 :: s25 :: s26 :: s27 :: s28 :: s29 :: s30 :: s31 :: s32 :: s33 :: s34 :: s35 :: s36 :: s37 :: s38 :: s39 :: s40 :: s41 :: s42 :: s43 :: s44 :: s45 :: s46 :: s47 :: s48 :: s49 :: s50 :: s51 :: s52 :: s53 :: s54 :: s55 :: s56 :: s57 :: s58 :: []).toArray, defers := [] } Wt := by
  have hlp := hP.len
  intro k
  induction k with
  | zero =>
    intro j hj
    obtain rfl : j = p := by omega
    intros
    rename_i q ats a7 c7 os a8 c8 wh Wt hq hlo hlw hok hA hM
    rw [List.drop_of_length_le (by omega)] at hA
    have hA2 : (ats, os, wh) = (aF, osF, wF) := hA
    cases hA2
    exact ord_end w at1 n ct ap j cp A q aF a7 c7 osF a8 c8 wF Wt hM _ Q0 b r hcut (by
      intros
      rename_i W' hM'
      exact hE _ _ _ _ _ _ _ _ _ _ _ _ _ _ _ _ _ _ _ _ _ _ _ _ _ _ _ _ _ _ _ _ _ _ _ _ _ _ _ _ _ _ _ _ _ _ _ _ _ _ _ _ _ q a7 c7 a8 c8 W' hlo hlw hM')
  | succ k ih =>
    intro j hj
    intros
    rename_i q ats a7 c7 os a8 c8 wh Wt hq hlo hlw hok hA hM
    have hlt : j < ps.length := by omega
    have hd : ps.drop j = ps.getD j 0 :: ps.drop (j + 1) := by
      rw [List.drop_eq_getElem_cons hlt]
      simp [hlt]
    rw [hd] at hA
    have hA2 : ordAll tss (ps.drop (j + 1)) (ordStep tss (ats, os, wh) (ps.getD j 0).toNat) = (aF, osF, wF) := hA
    refine ord_any w at1 n ct ap p cp A j ps uts tss q ats a7 c7 os a8 c8 wh (by omega) hp hn hl hi hq hlo hlw hok Wt hM (hP.below hM.be) (hT.below hM.be) _ Q0 b r hcut ?_
    intro q2 ats2 os2 wh2 e hq2 hlo2 hlw2 hok2
    rw [e] at hA2
    unfold NxO
    intros
    rename_i a7' c7' a8' c8' W' hM'
    exact ih (j + 1) (by omega) _ _ _ _ _ _ _ _ _ _ _ _ _ _ _ _ _ _ _ _ _ _ _ _ _ _ _ _ _ _ _ _ _ _ _ _ _ _ _ _ _ _ _ _ _ _ _ _ _ _ _ _ _ q2 ats2 a7' c7' os2 a8' c8' wh2 W' hq2 hlo2 hlw2 hok2 hA2 hM'
set_option maxRecDepth 100000 in
set_option maxHeartbeats 4000000 in
theorem ord_tail (w : World) (A n q : Nat) (ats : List Int) (a7 : Option Addr) (c7 : Nat) (osF : List Op4) (a8 : Option Addr) (c8 : Nat) (wF : List Int) (Wt : World) (hM : Oi w Wt A n q ats a7 c7 osF a8 c8 wF) (h1 : q = osF.length) (h2 : wF.length = q) (PP : Ending → World → Prop) (hPP : ∀ a7 c7 a8 c8 q ats W', q = osF.length → wF.length = q → Oi w W' A n q ats a7 c7 osF a8 c8 wF → PP (.returned (.tuple #[.slice a7 q c7, .slice a8 q c8])) W')
    {s0 s1 s2 s3 s4 s5 s6 s9 s10 s11 s12 s13 s14 s15 s16 s17 s18 s19 s20 s21 s22 s23 s24 s25 s26 s27 s28 s29 s30 s31 s32 s33 s34 s35 s36 s37 s38 s39 s40 s41 s42 s43 s44 s45 s46 s47 s48 s49 s50 s51 s52 s53 s54 s55 s56 s57 s58 : Value} (b r : Code) (hcut : (Tryd.f22.body.bind (loopFor 0)) = some (b, r)) :
    r.wp Tryd.prog (bodyPost Tryd.prog Tryd.f22 PP) { tmps := (s0 :: s1 :: s2 :: s3 :: s4 :: s5 :: s6 :: .slice a7 q c7 :: .slice a8 q c8 :: s9 :: s10 :: s11 :: s12 :: s13 :: s14 :: s15 :: s16 :: s17 :: s18 :: s19 :: s20 :: s21 :: s22 :: s23 :: s24 :: s25 :: s26 :: s27 :: s28 :: s29 :: s30 :: s31 :: s32 :: s33 :: s34 :: s35 :: s36 :: s37 :: s38 :: s39 :: s40 :: s41 :: s42 :: s43 :: s44 :: s45 :: s46 :: s47 :: s48 :: s49 :: s50 :: s51 :: s52 :: s53 :: s54 :: s55 :: s56 :: s57 :: s58 :: []).toArray, defers := [] } Wt := by
  have hcc : (Tryd.f22.body.bind (loopFor 0)) = some (_, _) := rfl
  rw [hcc] at hcut
  cases hcut
  clear hcc
  have HM := hide hM; have HPQ := hide (hPP a7 c7 a8 c8 q ats Wt h1 h2 hM)
  clear hM h1 h2 hPP HM
  go_wp2_with fail
  exact unhide HPQ
theorem ord_loop (w : World) (at1 : Option Addr) (n ct : Nat) (ap : Option Addr) (p cp A : Nat) (ps : List Int) (uts : List Sl) (tss : List (List Op4)) (hp : p ≤ 5000) (hn : n ≤ 100000) (hl : ∀ i, i < n → (tss.getD i []).length ≤ 100000) (hi : ∀ j, j < p → 0 ≤ ps.getD j 0 ∧ ps.getD j 0 < n) (hP : IsL KI w (.slice ap p cp) ps) (hT : IsTs w (.slice at1 n ct) uts tss) (osF : List Op4) (wF : List Int) (aF : List Int) (hA : ordAll tss ps (List.replicate n 0, [], []) = (aF, osF, wF)) (Wt : World) (hM : Oi w Wt A n 0 (List.replicate n 0) none 0 [] none 0 []) (PP : Ending → World → Prop) (hPP : ∀ a7 c7 a8 c8 q ats W', q = osF.length → wF.length = q → Oi w W' A n q ats a7 c7 osF a8 c8 wF → PP (.returned (.tuple #[.slice a7 q c7, .slice a8 q c8])) W')
    (K : Act → World → Prop) (b r : Code) (hK : ∀ a w', r.wp Tryd.prog (bodyPost Tryd.prog Tryd.f22 PP) a w' → K a w') (hcut : (Tryd.f22.body.bind (loopFor 0)) = some (b, r)) {s2 s3 s4 s5 s10 s11 s12 s13 s14 s15 s16 s17 s18 s19 s20 s21 s22 s23 s24 s25 s26 s27 s28 s29 s30 s31 s32 s33 s34 s35 s36 s37 s38 s39 s40 s41 s42 s43 s44 s45 s46 s47 s48 s49 s50 s51 s52 s53 s54 s55 s56 s57 s58 : Value} :
    (Code.loop b).wp Tryd.prog (Exit.inBlock 0 (Exit.then K (bodyPost Tryd.prog Tryd.f22 PP))) { tmps := (.slice at1 n ct :: .slice ap p cp :: s2 :: s3 :: s4 :: s5 :: .slice (some ⟨A, 0, none⟩) n n :: .slice none 0 0 :: .slice none 0 0 :: .int .i64 0 :: s10 :: s11 :: s12 :: s13 :: s14 :: s15 :: s16 :: s17 :: s18 :: s19 :: s20 :: s21 :: s22 :: s23 :: s24 :: s25 :: s26 :: s27 :: s28 :: s29 :: s30 :: s31 :: s32 :: s33 :: s34 :: s35 :: s36 :: s37 :: s38 :: s39 :: s40 :: s41 :: s42 :: s43 :: s44 :: s45 :: s46 :: s47 :: s48 :: s49 :: s50 :: s51 :: s52 :: s53 :: s54 :: s55 :: s56 :: s57 :: s58 :: []).toArray, defers := [] } Wt := by
  refine wp_loop_rounds (p + 1) ?_
  refine ord_rounds w at1 n ct ap p cp A ps uts tss hp hn hl hi hP hT osF wF aF _ b r hcut ?_ p 0 (by omega) _ _ _ _ _ _ _ _ _ _ _ _ _ _ _ _ _ _ _ _ _ _ _ _ _ _ _ _ _ _ _ _ _ _ _ _ _ _ _ _ _ _ _ _ _ _ _ _ _ _ _ _ _ 0 (List.replicate n 0) none 0 [] none 0 [] Wt (Nat.le_refl _) rfl rfl (fun i hi' => ⟨0, by rw [List.getD_eq_getElem?_getD, List.getElem?_replicate]; split <;> rfl, Nat.zero_le _⟩) hA hM
  intros
  rename_i q a7 c7 a8 c8 W' h1 h2 hM'
  exact in_b0 (hK _ _ (ord_tail w A n q aF a7 c7 osF a8 c8 wF W' hM' h1.symm h2 PP hPP b r hcut))

theorem flat_rep (N : Nat) : (List.replicate N (0 : Int)).flatMap KI.f = List.replicate N (.int .i64 0) := by
  induction N with
  | zero => rfl
  | succ N ih => rw [List.replicate_succ, List.flatMap_cons, ih, List.replicate_succ]; rfl
theorem make_row (w : World) (N : Nat) (hN : N ≤ 1000) : ∃ w', (Instr.makeSlice 22 (.int .i64 (N : Int)) (.int .i64 (N : Int))).run Tryd.prog w = .ok (.slice (some ⟨w.heap.size, 0, none⟩) N N) w' ∧ Own KI w.heap.size w' (.slice (some ⟨w.heap.size, 0, none⟩) N N) (List.replicate N 0) ∧ Below w.heap.size w w' := by
  obtain ⟨i0, hi, h0, h1, h2⟩ := info_parts Tryd.info3
  obtain ⟨w', hr, ho, hg⟩ := run_make_full (P := Tryd.prog) w w.heap.size 22 3 i0 (.int .i64 0) 1 Tryd.underlying22 hi h0 h1 .i64 .i64 N (by rw [h2]; omega) (by unfold maxLen; omega) (Nat.le_refl _)
  refine ⟨w', hr, ?_, (Below.refl _ _).grown hg (Nat.le_refl _) (fun k hk => by cases hk)⟩
  unfold Own
  rw [List.length_replicate, flat_rep]
  rw [show (Value.int .i64 0).cells = #[Value.int .i64 0] from rfl, Nat.mul_one, toList_madeCells_one] at ho
  exact ho
set_option maxRecDepth 100000 in
set_option maxHeartbeats 4000000 in
theorem order_ok (w : World) (at1 : Option Addr) (n ct : Nat) (ap : Option Addr) (p cp : Nat) (uts : List Sl) (tss : List (List Op4)) (ps : List Int) (hn : n ≤ 64) (hp : p ≤ 5000) (hl : ∀ i, i < n → (tss.getD i []).length ≤ 100000) (hi : ∀ j, j < p → 0 ≤ ps.getD j 0 ∧ ps.getD j 0 < n) (hP : IsL KI w (.slice ap p cp) ps) (hT : IsTs w (.slice at1 n ct) uts tss) (aF : List Int) (osF : List Op4) (wF : List Int) (hA : ordAll tss ps (List.replicate n 0, [], []) = (aF, osF, wF)) :
    Calls Tryd.prog 22 #[.slice at1 n ct, .slice ap p cp] w fun e w' => ∃ a7 c7 a8 c8 q, e = .returned (.tuple #[.slice a7 q c7, .slice a8 q c8]) ∧ q = osF.length ∧ wF.length = q ∧ IsOps w' (.slice a7 q c7) osF ∧ IsL KI w' (.slice a8 q c8) wF ∧ Below w.heap.size w w' := by
  have HP := hide hP; have HT := hide hT; have HL := hide hl; have HI := hide hi; have HA := hide hA
  obtain ⟨W1, hmk, hmo, hmb⟩ := make_row w n (by omega)
  have HOI : Hid (Oi w W1 w.heap.size n 0 (List.replicate n 0) none 0 [] none 0 []) := ⟨hmb, hmo, List.length_replicate, own_nil _ _, own_nil _ _, fun k hk => by cases hk⟩
  clear hP hT hl hi hA hmo hmb
  go_enter Tryd.func22, Tryd.ntmps22
  go_wp2_with fail
  exact ord_loop w at1 n ct ap p cp w.heap.size ps uts tss (by omega) (by omega) (unhide HL) (unhide HI) (unhide HP) (unhide HT) osF wF aF (unhide HA) W1 (unhide HOI) _ (fun a7 c7 a8 c8 q ats W' h1 h2 hM => ⟨a7, c7, a8, c8, q, rfl, h1, h2, hM.ops.isl.1, hM.who.isl, hM.be⟩) _ _ _ (by assumption) (by kernel_rfl)

end Go.Proofs.YtpgokeogijpmaaaDoor.Mx
