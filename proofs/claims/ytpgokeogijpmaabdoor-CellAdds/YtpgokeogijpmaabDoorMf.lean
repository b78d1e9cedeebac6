/-
  cell.Mix where nothing is wrong.
-/
import Derived.Test.YtpgokeogijpmaabDoorMe
namespace Go.Proofs.YtpgokeogijpmaabDoor.Mx
open Go.RowKit

theorem fault_at {m : Nat} {os : List Op4} (h : fault m os = (0, 0)) : os.length ≤ 5000 ∧ ∀ j, j < os.length → (1 ≤ (opAtD os j).k ∧ (opAtD os j).k ≤ 5) ∧ 0 ≤ (opAtD os j).p ∧ (opAtD os j).p < m := by
  obtain ⟨h1, h2, h3⟩ := fault_none (m := m) (os := os) (by rw [h])
  exact ⟨h2, fun j hj => wrong_none (h3 j hj)⟩

theorem pick_any (w : World) (at1 : Option Addr) (n ct R Bm : Nat) (v9 : Value) (G : Nat) (ap : Option Addr) (p cp B m : Nat) (j : Nat) (ps : List Int) (uts : List Sl) (tss : List (List Op4)) (Z : List Int) (us : List Sl) (ts : List (List Int)) (hj : j < p) (hp : p ≤ 100000) (hn : n ≤ 100000) (hf : ∀ i, i < n → fault m (tss.getD i []) = (0, 0)) (hi : ∀ j, j < p → 0 ≤ ps.getD j 0 ∧ ps.getD j 0 < n) (Wt : World) (hM : Mi w Wt B R Bm G n m v9 Z us ts) (hP : IsL KI Wt (.slice ap p cp) ps) (hT : IsTs Wt (.slice at1 n ct) uts tss)
    {s0 s2 s3 s4 s5 s6 s7 s9 s13 s14 s15 s16 s17 s18 s19 s20 s21 s22 s23 s24 s25 s26 s27 s28 s29 s33 s34 s35 s36 s37 s38 s39 s40 s41 s42 s43 s44 s45 s46 s47 s48 s49 s50 s51 s52 s53 s54 s55 s56 s57 s58 s59 s60 s61 s62 s63 s64 s65 s66 s67 s68 s69 s70 : Value} (N : Act → World → Prop) (Q0 : Exit → Act → World → Prop) (b r : Code) (hcut : (Tryd.f6.body.bind (loopFor 0)) = some (b, r)) (hN : NxP w at1 n ct R Bm v9 G ap p cp B m j (mixStep tss (Z, ts) (ps.getD j 0).toNat).1 (mixStep tss (Z, ts) (ps.getD j 0).toNat).2 N) :
    b.wp Tryd.prog (Exit.then N Q0) { tmps := (s0 :: .slice at1 n ct :: s2 :: s3 :: s4 :: s5 :: s6 :: s7 :: .pointer (some ⟨R, 0, none⟩) :: s9 :: .map (some Bm) :: v9 :: .slice (some ⟨G, 0, none⟩) n n :: s13 :: s14 :: s15 :: s16 :: s17 :: s18 :: s19 :: s20 :: s21 :: s22 :: s23 :: s24 :: s25 :: s26 :: s27 :: s28 :: s29 :: .slice ap p cp :: .int .i64 (p : Int) :: .int .i64 (j : Int) :: s33 :: s34 :: s35 :: s36 :: s37 :: s38 :: s39 :: s40 :: s41 :: s42 :: s43 :: s44 :: s45 :: s46 :: s47 :: s48 :: s49 :: s50 :: s51 :: s52 :: s53 :: s54 :: s55 :: s56 :: s57 :: s58 :: s59 :: s60 :: s61 :: s62 :: s63 :: s64 :: s65 :: s66 :: s67 :: s68 :: s69 :: s70 :: []).toArray, defers := [] } Wt := by
  obtain ⟨t, et⟩ : ∃ t : Nat, ps.getD j 0 = (t : Int) := ⟨(ps.getD j 0).toNat, by have := (hi j hj).1; omega⟩
  have htn : t < n := by have := (hi j hj).2; omega
  have e1 : (ps.getD j 0).toNat = t := by rw [et]; rfl
  rw [e1] at hN
  have hff := fault_at (hf t htn)
  by_cases hd : (ts.getD t []).length < (tss.getD t []).length
  · have e2 : mixStep tss (Z, ts) t = (stepMem Z (opAtD (tss.getD t []) (ts.getD t []).length), ts.set t (ts.getD t [] ++ [stepTold Z (opAtD (tss.getD t []) (ts.getD t []).length)])) := by unfold mixStep; rw [if_pos hd]
    rw [e2] at hN
    obtain ⟨hk, hp0, hp1⟩ := hff.2 _ hd
    obtain ⟨q, eq⟩ : ∃ q : Nat, (opAtD (tss.getD t []) (ts.getD t []).length).p = (q : Int) := ⟨_, (Int.toNat_of_nonneg hp0).symm⟩
    have hlz := hM.lz
    obtain ⟨g, c9, ev⟩ := own_addr hM.mem (by omega)
    rw [hlz] at ev
    subst ev
    exact pick_step w at1 n ct R Bm G ap p cp B m g c9 q j ps uts tss Z us ts t hj hp et htn hn Wt hM hP hT hff.1 hd _ rfl hk eq (by omega) N Q0 b r hcut hN
  · have e2 : mixStep tss (Z, ts) t = (Z, ts) := by unfold mixStep; rw [if_neg hd]
    rw [e2] at hN
    exact pick_skip w at1 n ct R Bm G ap p cp B m v9 j ps uts tss Z us ts t hj hp et htn hn Wt hM hP hT hff.1 hd N Q0 b r hcut hN

def NxQ (w : World) (at1 : Option Addr) (n ct R Bm : Nat) (v9 : Value) (G : Nat) (ap : Option Addr) (p cp : Nat) (B m : Nat) (Z : List Int) (ts : List (List Int)) (Q0 : Exit → Act → World → Prop) : Prop := ∀ (s0 s2 s3 s4 s5 s6 s7 s9 s13 s14 s15 s16 s17 s18 s19 s20 s21 s22 s23 s24 s25 s26 s27 s28 s29 s33 s34 s35 s36 s37 s38 s39 s40 s41 s42 s43 s44 s45 s46 s47 s48 s49 s50 s51 s52 s53 s54 s55 s56 s57 s58 s59 s60 s61 s62 s63 s64 s65 s66 s67 s68 s69 s70 : Value) (us : List Sl) (W' : World), Mi w W' B R Bm G n m v9 Z us ts → Q0 (.exit 0) { tmps := (s0 :: .slice at1 n ct :: s2 :: s3 :: s4 :: s5 :: s6 :: s7 :: .pointer (some ⟨R, 0, none⟩) :: s9 :: .map (some Bm) :: v9 :: .slice (some ⟨G, 0, none⟩) n n :: s13 :: s14 :: s15 :: s16 :: s17 :: s18 :: s19 :: s20 :: s21 :: s22 :: s23 :: s24 :: s25 :: s26 :: s27 :: s28 :: s29 :: .slice ap p cp :: .int .i64 (p : Int) :: .int .i64 (p : Int) :: s33 :: s34 :: s35 :: s36 :: s37 :: s38 :: s39 :: s40 :: s41 :: s42 :: s43 :: s44 :: s45 :: s46 :: s47 :: s48 :: s49 :: s50 :: s51 :: s52 :: s53 :: s54 :: s55 :: s56 :: s57 :: s58 :: s59 :: s60 :: s61 :: s62 :: s63 :: s64 :: s65 :: s66 :: s67 :: s68 :: s69 :: s70 :: []).toArray, defers := [] } W'
set_option maxRecDepth 100000 in
set_option maxHeartbeats 4000000 in
theorem pick_end (w : World) (at1 : Option Addr) (n ct R Bm : Nat) (v9 : Value) (G : Nat) (ap : Option Addr) (p cp B m : Nat) (Z : List Int) (us : List Sl) (ts : List (List Int)) (Wt : World) (hM : Mi w Wt B R Bm G n m v9 Z us ts)
    {s0 s2 s3 s4 s5 s6 s7 s9 s13 s14 s15 s16 s17 s18 s19 s20 s21 s22 s23 s24 s25 s26 s27 s28 s29 s33 s34 s35 s36 s37 s38 s39 s40 s41 s42 s43 s44 s45 s46 s47 s48 s49 s50 s51 s52 s53 s54 s55 s56 s57 s58 s59 s60 s61 s62 s63 s64 s65 s66 s67 s68 s69 s70 : Value} (N : Act → World → Prop) (Q0 : Exit → Act → World → Prop) (b r : Code) (hcut : (Tryd.f6.body.bind (loopFor 0)) = some (b, r)) (hE : NxQ w at1 n ct R Bm v9 G ap p cp B m Z ts Q0) :
    b.wp Tryd.prog (Exit.then N Q0) { tmps := (s0 :: .slice at1 n ct :: s2 :: s3 :: s4 :: s5 :: s6 :: s7 :: .pointer (some ⟨R, 0, none⟩) :: s9 :: .map (some Bm) :: v9 :: .slice (some ⟨G, 0, none⟩) n n :: s13 :: s14 :: s15 :: s16 :: s17 :: s18 :: s19 :: s20 :: s21 :: s22 :: s23 :: s24 :: s25 :: s26 :: s27 :: s28 :: s29 :: .slice ap p cp :: .int .i64 (p : Int) :: .int .i64 (p : Int) :: s33 :: s34 :: s35 :: s36 :: s37 :: s38 :: s39 :: s40 :: s41 :: s42 :: s43 :: s44 :: s45 :: s46 :: s47 :: s48 :: s49 :: s50 :: s51 :: s52 :: s53 :: s54 :: s55 :: s56 :: s57 :: s58 :: s59 :: s60 :: s61 :: s62 :: s63 :: s64 :: s65 :: s66 :: s67 :: s68 :: s69 :: s70 :: []).toArray, defers := [] } Wt := by
  have hcc : (Tryd.f6.body.bind (loopFor 0)) = some (_, _) := rfl
  rw [hcc] at hcut
  cases hcut
  clear hcc
  have HE := hide hE; have HM := hide hM
  clear hE hM
  have i1 : ¬ (p : Int) < (p : Int) := by omega
  go_wp2_with fail
  exact unhide HE _ _ _ _ _ _ _ _ _ _ _ _ _ _ _ _ _ _ _ _ _ _ _ _ _ _ _ _ _ _ _ _ _ _ _ _ _ _ _ _ _ _ _ _ _ _ _ _ _ _ _ _ _ _ _ _ _ _ _ _ _ _ _ _ _ (unhide HM)
theorem pick_rounds (w : World) (at1 : Option Addr) (n ct R Bm : Nat) (v9 : Value) (G : Nat) (ap : Option Addr) (p cp B m : Nat) (ps : List Int) (uts : List Sl) (tss : List (List Op4)) (hp : p ≤ 100000) (hn : n ≤ 100000) (hf : ∀ i, i < n → fault m (tss.getD i []) = (0, 0)) (hi : ∀ j, j < p → 0 ≤ ps.getD j 0 ∧ ps.getD j 0 < n) (W0 : World) (hP : IsL KI W0 (.slice ap p cp) ps) (_hT : IsTs W0 (.slice at1 n ct) uts tss) (hW0 : ∀ W, Below w.heap.size w W → IsL KI W (.slice ap p cp) ps ∧ IsTs W (.slice at1 n ct) uts tss) (ZF : List Int) (tF : List (List Int)) (Q0 : Exit → Act → World → Prop) (b r : Code) (hcut : (Tryd.f6.body.bind (loopFor 0)) = some (b, r)) (hE : NxQ w at1 n ct R Bm v9 G ap p cp B m ZF tF Q0) :
    ∀ (k j : Nat), j + k = p → ∀ (s0 s2 s3 s4 s5 s6 s7 s9 s13 s14 s15 s16 s17 s18 s19 s20 s21 s22 s23 s24 s25 s26 s27 s28 s29 s33 s34 s35 s36 s37 s38 s39 s40 s41 s42 s43 s44 s45 s46 s47 s48 s49 s50 s51 s52 s53 s54 s55 s56 s57 s58 s59 s60 s61 s62 s63 s64 s65 s66 s67 s68 s69 s70 : Value) (Z : List Int) (us : List Sl) (ts : List (List Int)) (Wt : World), mixAll tss (ps.drop j) (Z, ts) = (ZF, tF) → Mi w Wt B R Bm G n m v9 Z us ts → Code.rounds Tryd.prog b Q0 (k + 1) { tmps := (s0 :: .slice at1 n ct :: s2 :: s3 :: s4 :: s5 :: s6 :: s7 :: .pointer (some ⟨R, 0, none⟩) :: s9 :: .map (some Bm) :: v9 :: .slice (some ⟨G, 0, none⟩) n n :: s13 :: s14 :: s15 :: s16 :: s17 :: s18 :: s19 :: s20 :: s21 :: s22 :: s23 :: s24 :: s25 :: s26 :: s27 :: s28 :: s29 :: .slice ap p cp :: .int .i64 (p : Int) :: .int .i64 (j : Int) :: s33 :: s34 :: s35 :: s36 :: s37 :: s38 :: s39 :: s40 :: s41 :: s42 :: s43 :: s44 :: s45 :: s46 :: s47 :: s48 :: s49 :: s50 :: s51 :: s52 :: s53 :: s54 :: s55 :: s56 :: s57 :: s58 :: s59 :: s60 :: s61 :: s62 :: s63 :: s64 :: s65 :: s66 :: s67 :: s68 :: s69 :: s70 :: []).toArray, defers := [] } Wt := by
  have hlp := hP.len
  intro k
  induction k with
  | zero =>
    intro j hj
    obtain rfl : j = p := by omega
    intros
    rename_i Z us ts Wt hA hM
    rw [List.drop_of_length_le (by omega)] at hA
    have hA2 : (Z, ts) = (ZF, tF) := hA
    cases hA2
    exact pick_end w at1 n ct R Bm v9 G ap j cp B m ZF us tF Wt hM _ Q0 b r hcut hE
  | succ k ih =>
    intro j hj
    intros
    rename_i Z us ts Wt hA hM
    have hlt : j < ps.length := by omega
    have hd : ps.drop j = ps.getD j 0 :: ps.drop (j + 1) := by
      rw [List.drop_eq_getElem_cons hlt]
      simp [hlt]
    rw [hd] at hA
    have hA2 : mixAll tss (ps.drop (j + 1)) (mixStep tss (Z, ts) (ps.getD j 0).toNat) = (ZF, tF) := hA
    refine pick_any w at1 n ct R Bm v9 G ap p cp B m j ps uts tss Z us ts (by omega) hp hn hf hi Wt hM (hW0 Wt hM.be).1 (hW0 Wt hM.be).2 _ Q0 b r hcut ?_
    unfold NxP
    intros
    rename_i us' W' hM'
    exact ih (j + 1) (by omega) _ _ _ _ _ _ _ _ _ _ _ _ _ _ _ _ _ _ _ _ _ _ _ _ _ _ _ _ _ _ _ _ _ _ _ _ _ _ _ _ _ _ _ _ _ _ _ _ _ _ _ _ _ _ _ _ _ _ _ _ _ _ _ _ us' _ W' hA2 hM'

theorem Mi.putR {w W : World} {B R Bm G n m : Nat} {v9 : Value} {Z : List Int} {us : List Sl} {ts : List (List Int)} (h : Mi w W B R Bm G n m v9 Z us ts) : Mi w (put2 W R (.int .i64 0) (.int .i64 0)) B R Bm G n m v9 Z us ts := by
  have hne : ∀ {α : Type} {K : Kind α} {v : Value} {xs : List α}, Own K B W v xs → Own K B (put2 W R (.int .i64 0) (.int .i64 0)) v xs := fun ho => ho.keep fun k hk => put2_keep (by have := (ho.lt k hk).1; have := h.rB; omega)
  have hmr : Bm ≠ R := fun e => by have h1 := h.map; have h2 := h.res; rw [e, h2] at h1; cases h1
  exact ⟨put2_below h.be h.wB, put2_new h.res, (put2_keep hmr).trans h.map, hne h.mem, hne h.row, h.lz, h.lu, h.lt, fun i hi => hne (h.each i hi), h.apm, h.apj, h.rB, h.mB, h.wB, h.sB⟩

set_option maxRecDepth 100000 in
set_option maxHeartbeats 4000000 in
theorem mix_tail (w Wt : World) (B R Bm G n m : Nat) (v9 : Value) (ZF : List Int) (us : List Sl) (tF : List (List Int)) (hM : Mi w Wt B R Bm G n m v9 ZF us tF) (PP : Ending → World → Prop) (hPP : ∀ us w', Mi w w' B R Bm G n m v9 ZF us tF → PP (.returned (.tuple #[v9, .slice (some ⟨G, 0, none⟩) n n, .agg #[.int .i64 0, .int .i64 0]])) w')
    {s0 s1 s2 s3 s4 s5 s6 s7 s9 s10 s13 s14 s15 s16 s17 s18 s19 s20 s21 s22 s23 s24 s25 s26 s27 s28 s29 s30 s31 s32 s33 s34 s35 s36 s37 s38 s39 s40 s41 s42 s43 s44 s45 s46 s47 s48 s49 s50 s51 s52 s53 s54 s55 s56 s57 s58 s59 s60 s61 s62 s63 s64 s65 s66 s67 s68 s69 s70 : Value} (b r : Code) (hcut : (Tryd.f6.body.bind (loopFor 0)) = some (b, r)) :
    r.wp Tryd.prog (bodyPost Tryd.prog Tryd.f6 PP) { tmps := (s0 :: s1 :: s2 :: s3 :: s4 :: s5 :: s6 :: s7 :: .pointer (some ⟨R, 0, none⟩) :: s9 :: s10 :: v9 :: .slice (some ⟨G, 0, none⟩) n n :: s13 :: s14 :: s15 :: s16 :: s17 :: s18 :: s19 :: s20 :: s21 :: s22 :: s23 :: s24 :: s25 :: s26 :: s27 :: s28 :: s29 :: s30 :: s31 :: s32 :: s33 :: s34 :: s35 :: s36 :: s37 :: s38 :: s39 :: s40 :: s41 :: s42 :: s43 :: s44 :: s45 :: s46 :: s47 :: s48 :: s49 :: s50 :: s51 :: s52 :: s53 :: s54 :: s55 :: s56 :: s57 :: s58 :: s59 :: s60 :: s61 :: s62 :: s63 :: s64 :: s65 :: s66 :: s67 :: s68 :: s69 :: s70 :: []).toArray, defers := [] } Wt := by
  have hcc : (Tryd.f6.body.bind (loopFor 0)) = some (_, _) := rfl
  rw [hcc] at hcut
  cases hcut
  clear hcc
  obtain ⟨f0, f1, ff0, ff1, fl⟩ := block2 hM.res
  have HM := hide hM.putR
  clear hM
  go_wp2_with fail
  exact bodyPost_ret (v := .tuple #[v9, .slice (some ⟨G, 0, none⟩) n n, .agg #[.int .i64 0, .int .i64 0]]) (by simp [results, Tryd.results6, go_sem, f0, f1]) rfl (hPP us _ (unhide HM))
theorem mix_loop (w : World) (at1 : Option Addr) (n ct R Bm : Nat) (v9 : Value) (G : Nat) (ap : Option Addr) (p cp B m : Nat) (ps : List Int) (uts : List Sl) (tss : List (List Op4)) (hp : p ≤ 100000) (hn : n ≤ 100000) (hf : ∀ i, i < n → fault m (tss.getD i []) = (0, 0)) (hi : ∀ j, j < p → 0 ≤ ps.getD j 0 ∧ ps.getD j 0 < n) (W0 : World) (hP : IsL KI w (.slice ap p cp) ps) (hT : IsTs w (.slice at1 n ct) uts tss) (ZF : List Int) (tF : List (List Int)) (Z : List Int) (us : List Sl) (ts : List (List Int)) (hA : mixAll tss ps (Z, ts) = (ZF, tF)) (hM : Mi w W0 B R Bm G n m v9 Z us ts) (PP : Ending → World → Prop) (hPP : ∀ us w', Mi w w' B R Bm G n m v9 ZF us tF → PP (.returned (.tuple #[v9, .slice (some ⟨G, 0, none⟩) n n, .agg #[.int .i64 0, .int .i64 0]])) w')
    (K : Act → World → Prop) (b r : Code) (hK : ∀ a w', r.wp Tryd.prog (bodyPost Tryd.prog Tryd.f6 PP) a w' → K a w') (hcut : (Tryd.f6.body.bind (loopFor 0)) = some (b, r)) {s0 s2 s3 s4 s5 s6 s7 s9 s13 s14 s15 s16 s17 s18 s19 s20 s21 s22 s23 s24 s25 s26 s27 s28 s29 s33 s34 s35 s36 s37 s38 s39 s40 s41 s42 s43 s44 s45 s46 s47 s48 s49 s50 s51 s52 s53 s54 s55 s56 s57 s58 s59 s60 s61 s62 s63 s64 s65 s66 s67 s68 s69 s70 : Value} :
    (Code.loop b).wp Tryd.prog (Exit.inBlock 0 (Exit.then K (bodyPost Tryd.prog Tryd.f6 PP))) { tmps := (s0 :: .slice at1 n ct :: s2 :: s3 :: s4 :: s5 :: s6 :: s7 :: .pointer (some ⟨R, 0, none⟩) :: s9 :: .map (some Bm) :: v9 :: .slice (some ⟨G, 0, none⟩) n n :: s13 :: s14 :: s15 :: s16 :: s17 :: s18 :: s19 :: s20 :: s21 :: s22 :: s23 :: s24 :: s25 :: s26 :: s27 :: s28 :: s29 :: .slice ap p cp :: .int .i64 (p : Int) :: .int .i64 0 :: s33 :: s34 :: s35 :: s36 :: s37 :: s38 :: s39 :: s40 :: s41 :: s42 :: s43 :: s44 :: s45 :: s46 :: s47 :: s48 :: s49 :: s50 :: s51 :: s52 :: s53 :: s54 :: s55 :: s56 :: s57 :: s58 :: s59 :: s60 :: s61 :: s62 :: s63 :: s64 :: s65 :: s66 :: s67 :: s68 :: s69 :: s70 :: []).toArray, defers := [] } W0 := by
  refine wp_loop_rounds (p + 1) ?_
  refine pick_rounds w at1 n ct R Bm v9 G ap p cp B m ps uts tss hp hn hf hi W0 (hP.below hM.be) (hT.below hM.be) (fun W hW => ⟨hP.below hW, hT.below hW⟩) ZF tF _ b r hcut ?_ p 0 (by omega) _ _ _ _ _ _ _ _ _ _ _ _ _ _ _ _ _ _ _ _ _ _ _ _ _ _ _ _ _ _ _ _ _ _ _ _ _ _ _ _ _ _ _ _ _ _ _ _ _ _ _ _ _ _ _ _ _ _ _ _ _ _ _ Z us ts W0 hA hM
  unfold NxQ
  intros
  rename_i us' W' hM'
  exact in_b0 (hK _ _ (mix_tail w W' B R Bm G n m v9 ZF us' tF hM' PP hPP b r hcut))

theorem flat_reps (N : Nat) : (List.replicate N ((none, 0, 0) : Sl)).flatMap KT.f = List.replicate N (.slice none 0 0) := by
  induction N with
  | zero => rfl
  | succ N ih => rw [List.replicate_succ, List.flatMap_cons, ih, List.replicate_succ]; rfl
theorem make_rows (w : World) (N : Nat) (hN : N ≤ 1000) : ∃ w', (Instr.makeSlice 23 (.int .i64 (N : Int)) (.int .i64 (N : Int))).run Tryd.prog w = .ok (.slice (some ⟨w.heap.size, 0, none⟩) N N) w' ∧ Own KT w.heap.size w' (.slice (some ⟨w.heap.size, 0, none⟩) N N) (List.replicate N (none, 0, 0)) ∧ Below w.heap.size w w' := by
  obtain ⟨i0, hi, h0, h1, h2⟩ := info_parts info22
  obtain ⟨w', hr, ho, hg⟩ := run_make_full (P := Tryd.prog) w w.heap.size 23 22 i0 (.slice none 0 0) 1 Tryd.underlying23 hi h0 h1 .i64 .i64 N (by rw [h2]; omega) (by unfold maxLen; omega) (Nat.le_refl _)
  refine ⟨w', hr, ?_, (Below.refl _ _).grown hg (Nat.le_refl _) (fun k hk => by cases hk)⟩
  unfold Own
  rw [List.length_replicate, flat_reps]
  rw [show (Value.slice none 0 0).cells = #[Value.slice none 0 0] from rfl, Nat.mul_one, toList_madeCells_one] at ho
  exact ho
theorem ints_isl {w : World} {base : Nat} {v : Value} {zs : List Int} (h : w.ownsRow base 3 1 v zs.length (zs.map (Value.int .i64))) : Own KI base w v zs := by
  have e : ∀ l : List Int, l.flatMap KI.f = l.map (Value.int .i64) := fun l => by
    induction l with
    | nil => rfl
    | cons z r ih => rw [List.flatMap_cons, List.map_cons, ih]; rfl
  unfold Own
  rw [e]
  exact h
theorem uAt_rep (n i : Nat) : uAt (List.replicate n (none, 0, 0)) i = (none, 0, 0) := by
  unfold uAt
  rw [List.getD_eq_getElem?_getD, List.getElem?_replicate]
  split <;> rfl
theorem rep_nil (n i : Nat) : (List.replicate n ([] : List Int)).getD i [] = [] := by
  rw [List.getD_eq_getElem?_getD, List.getElem?_replicate]
  split <;> rfl

set_option maxRecDepth 100000 in
set_option maxHeartbeats 4000000 in
theorem mix_ok (w : World) (a0 : Option Addr) (m c0 : Nat) (at1 : Option Addr) (n ct : Nat) (ap : Option Addr) (p cp : Nat) (zs : List Int) (uts : List Sl) (tss : List (List Op4)) (ps : List Int) (hn : n ≤ 64) (hp : p ≤ 5000) (hmem : IsInts w (.slice a0 m c0) zs) (hmm : zs.length = m) (hT : IsTs w (.slice at1 n ct) uts tss) (hm : m * 8 ≤ 140737488355328) (hf : ∀ i, i < n → fault m (tss.getD i []) = (0, 0)) (hP : IsL KI w (.slice ap p cp) ps) (hi : ∀ j, j < p → 0 ≤ ps.getD j 0 ∧ ps.getD j 0 < n) (ZF : List Int) (tF : List (List Int)) (hA : mixAll tss ps (zs, List.replicate n []) = (ZF, tF)) :
    Calls Tryd.prog 6 #[.slice a0 m c0, .slice at1 n ct, .slice ap p cp] w fun e w' => ∃ v9 G B R Bm us, e = .returned (.tuple #[v9, .slice (some ⟨G, 0, none⟩) n n, .agg #[.int .i64 0, .int .i64 0]]) ∧ Mi w w' B R Bm G n m v9 ZF us tF := by
  have HK := hide (new_block w (.cells #[.int .i64 0, .int .i64 0] 31))
  have HB := hide ((Below.refl w.heap.size w).alloc (Nat.le_refl _) (.cells #[.int .i64 0, .int .i64 0] 31))
  have HCM := hide (checkMix_ok (w.alloc (.cells #[.int .i64 0, .int .i64 0] 31)) a0 m c0 at1 n ct ap p cp uts tss ps hn hp (hT.below (unhide HB)) (by unfold maxLen; omega) (fun i hi => ⟨hf i hi, by have := (fault_at (hf i hi)).1; unfold maxLen; omega⟩) (hP.below (unhide HB)) hi)
  have HFR : Hid (∀ W, Below w.heap.size w W → Calls Tryd.prog 12 #[.slice a0 m c0] W fun e w' => ∃ v', e = .returned v' ∧ Own KI W.heap.size w' v' zs ∧ Below W.heap.size W w') := fun W hW => (fresh_any W (.slice a0 m c0) zs.length _ (Rd.below hmem hW) (ints_one zs) (by omega)).mono fun e w' ⟨v', h1, h2, h3⟩ => ⟨v', h1, ints_isl h2, h3⟩
  have HP := hide hP; have HT := hide hT; have HF := hide hf; have HI := hide hi; have HA := hide hA; have HZ := hide hmm
  clear hT hf hi hP hmem hA hmm
  go_enter Tryd.func6, Tryd.ntmps6
  go_upto_region 2 with (go_at_call 10; refine (unhide HCM).mono ?_; rintro e w2 ⟨rfl, hb2⟩; have HX2 := hide (Below.next (unhide HB) hb2 (Nat.le_refl _)); have HK2 := hide (keep_below (unhide HK) hb2); clear hb2)
  have k9 := new_block w2 (.cells #[.int .i64 0, .int .i64 0] 31)
  obtain ⟨f0, f1, ff0, ff1, fl⟩ := block2 k9
  have HX3 := hide ((unhide HX2).alloc (unhide HX2).size (.cells #[.int .i64 0, .int .i64 0] 31))
  have HK3 := hide (keep_alloc (unhide HK2) (.cells #[.int .i64 0, .int .i64 0] 31))
  clear k9
  obtain ⟨W3, eW3⟩ : ∃ X, w2.alloc (.cells #[.int .i64 0, .int .i64 0] 31) = X := ⟨_, rfl⟩
  rw [eW3] at HX3 HK3 f0 f1 ff0 ff1 fl ⊢
  clear eW3 HX2 HK2
  go_upto_region 4 with fail
  clear f0 f1 ff0 ff1 fl
  go_upto_region 5 with (go_at_call 11; refine (deeds_any _).mono ?_; rintro e w4 ⟨rfl, hw4⟩; have HM4 : Hid (w4.heap[W3.heap.size]? = some (.map ents 5)) := (by show _ = _; rw [hw4]; exact new_block W3 _); have hb4 : Below W3.heap.size W3 w4 := (by rw [hw4]; exact (Below.refl _ _).alloc (Nat.le_refl _) _); have HX4 := hide (Below.next (unhide HX3) hb4 (Nat.le_refl _)); have HK4 := hide (keep_below (unhide HK3) hb4); clear hb4 hw4)
  have hR4 : w.heap.size < w4.heap.size := size_of (unhide HK4)
  have hM4 : W3.heap.size < w4.heap.size := size_of (unhide HM4)
  go_upto_region 6 with (go_at_call 12; refine (unhide HFR _ (unhide HX4)).mono ?_; rintro e w5 ⟨v9, rfl, ho5, hb5⟩; have HX5 := hide (Below.next (unhide HX4) hb5 (Nat.le_refl _)); have HK5 := hide (keep_below (unhide HK4) hb5); have HM5 := hide (keep_below (unhide HM4) hb5); have HO5 := hide ho5; have HS5 := hide hb5.size; clear ho5 hb5)
  obtain ⟨W6, hmk, hmo, hmb⟩ := make_rows w5 n (by omega)
  have HMO := hide hmo; have HMB := hide hmb
  clear hmo hmb
  have HMI : Hid (Mi w W6 w4.heap.size w.heap.size W3.heap.size w5.heap.size n m v9 zs (List.replicate n (none, 0, 0)) (List.replicate n [])) :=
    ⟨Below.next (unhide HX5) (unhide HMB) (Nat.le_refl _), keep_below (unhide HK5) (unhide HMB), (unhide HMB).block _ (size_of (unhide HM5)) |>.trans (unhide HM5), (unhide HO5).below (unhide HMB), (unhide HMO).base (unhide HS5), unhide HZ, List.length_replicate, List.length_replicate, fun i hi => (by rw [uAt_rep, rep_nil]; exact own_nil _ _), fun i hi k hk => (by rw [uAt_rep] at hk; cases hk), fun i j hi hj hij k hk => (by rw [uAt_rep] at hk; cases hk), hR4, hM4, Nat.le_refl _, by omega⟩
  clear HX3 HK3 HX4 HK4 HX5 HK5 HM4 HM5 HO5 HMO HMB HS5
  go_wp2_with fail
  exact mix_loop w at1 n ct w.heap.size W3.heap.size v9 w5.heap.size ap p cp w4.heap.size m ps uts tss (by omega) (by omega) (unhide HF) (unhide HI) W6 (unhide HP) (unhide HT) ZF tF zs _ _ (unhide HA) (unhide HMI) _ (fun us w' hM => ⟨v9, _, _, _, _, us, rfl, hM⟩) _ _ _ (by assumption) (by kernel_rfl)

end Go.Proofs.YtpgokeogijpmaabDoor.Mx
