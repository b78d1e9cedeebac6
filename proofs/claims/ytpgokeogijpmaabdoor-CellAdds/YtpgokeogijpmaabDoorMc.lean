/-
  cell.checkMix where nothing is wrong.
-/
import Derived.Test.YtpgokeogijpmaabDoorMb
namespace Go.Proofs.YtpgokeogijpmaabDoor.Mx
open Go.RowKit

def NxB (at1 : Option Addr) (n ct R : Nat) (ap : Option Addr) (p cp : Nat) (j : Nat) (W : World) (N : Act → World → Prop) : Prop := ∀ (s0 s2 s3 s4 s5 s7 s8 s9 s10 s11 s12 s13 s14 s15 s16 s17 s18 s19 s20 s21 s22 s23 s24 s25 s29 s30 s31 s32 s33 s34 s35 s36 s37 s38 s39 s40 s41 s42 s43 s44 : Value), N { tmps := (s0 :: .slice at1 n ct :: s2 :: s3 :: s4 :: s5 :: .pointer (some ⟨R, 0, none⟩) :: s7 :: s8 :: s9 :: s10 :: s11 :: s12 :: s13 :: s14 :: s15 :: s16 :: s17 :: s18 :: s19 :: s20 :: s21 :: s22 :: s23 :: s24 :: s25 :: .slice ap p cp :: .int .i64 (p : Int) :: .int .i64 ((j : Int) + 1) :: s29 :: s30 :: s31 :: s32 :: s33 :: s34 :: s35 :: s36 :: s37 :: s38 :: s39 :: s40 :: s41 :: s42 :: s43 :: s44 :: []).toArray, defers := [] } W
set_option maxRecDepth 100000 in
set_option maxHeartbeats 4000000 in
theorem cm_round (at1 : Option Addr) (n ct R : Nat) (ap : Option Addr) (p cp : Nat) (j : Nat) (ps : List Int) (hj : j < p) (hp : p ≤ 100000) (Wt : World) (hP : IsL KI Wt (.slice ap p cp) ps) (t : Int) (ht : ps.getD j 0 = t) (h0 : 0 ≤ t) (h1 : t < n)
    {s0 s2 s3 s4 s5 s7 s8 s9 s10 s11 s12 s13 s14 s15 s16 s17 s18 s19 s20 s21 s22 s23 s24 s25 s29 s30 s31 s32 s33 s34 s35 s36 s37 s38 s39 s40 s41 s42 s43 s44 : Value} (N : Act → World → Prop) (Q0 : Exit → Act → World → Prop) (b r : Code) (hcut : (Tryd.f10.body.bind (loopFor 0)) = some (b, r)) (hN : NxB at1 n ct R ap p cp j Wt N) :
    b.wp Tryd.prog (Exit.then N Q0) { tmps := (s0 :: .slice at1 n ct :: s2 :: s3 :: s4 :: s5 :: .pointer (some ⟨R, 0, none⟩) :: s7 :: s8 :: s9 :: s10 :: s11 :: s12 :: s13 :: s14 :: s15 :: s16 :: s17 :: s18 :: s19 :: s20 :: s21 :: s22 :: s23 :: s24 :: s25 :: .slice ap p cp :: .int .i64 (p : Int) :: .int .i64 (j : Int) :: s29 :: s30 :: s31 :: s32 :: s33 :: s34 :: s35 :: s36 :: s37 :: s38 :: s39 :: s40 :: s41 :: s42 :: s43 :: s44 :: []).toArray, defers := [] } Wt := by
  have hcc : (Tryd.f10.body.bind (loopFor 0)) = some (_, _) := rfl
  rw [hcc] at hcut
  cases hcut
  clear hcc
  have hlen := hP.len
  obtain ⟨b0, o0, rfl, hb0, l0⟩ := hP.opens ki hlen (by omega)
  have c1 := l0.ints (j := j) (by omega)
  rw [ht] at c1
  have i0 : (0 : Int) ≤ (j : Int) := by omega
  have i1 : (j : Int) < (p : Int) := by omega
  have x0 : ¬ t < 0 := by omega
  have x1 : ¬ (n : Int) ≤ t := by omega
  have hwr : IntKind.i64.wrap ((j : Int) + 1) = (j : Int) + 1 := wrapi (by omega) (by omega)
  have HN := hide hN
  clear hN hP l0 hlen ht h0 h1
  go_wp2_with fail
  exact unhide HN _ _ _ _ _ _ _ _ _ _ _ _ _ _ _ _ _ _ _ _ _ _ _ _ _ _ _ _ _ _ _ _ _ _ _ _ _ _ _ _

def NxBE (at1 : Option Addr) (n ct R : Nat) (ap : Option Addr) (p cp : Nat) (W : World) (Q0 : Exit → Act → World → Prop) : Prop := ∀ (s0 s2 s3 s4 s5 s7 s8 s9 s10 s11 s12 s13 s14 s15 s16 s17 s18 s19 s20 s21 s22 s23 s24 s25 s29 s30 s31 s32 s33 s34 s35 s36 s37 s38 s39 s40 s41 s42 s43 s44 : Value), Q0 (.exit 0) { tmps := (s0 :: .slice at1 n ct :: s2 :: s3 :: s4 :: s5 :: .pointer (some ⟨R, 0, none⟩) :: s7 :: s8 :: s9 :: s10 :: s11 :: s12 :: s13 :: s14 :: s15 :: s16 :: s17 :: s18 :: s19 :: s20 :: s21 :: s22 :: s23 :: s24 :: s25 :: .slice ap p cp :: .int .i64 (p : Int) :: .int .i64 (p : Int) :: s29 :: s30 :: s31 :: s32 :: s33 :: s34 :: s35 :: s36 :: s37 :: s38 :: s39 :: s40 :: s41 :: s42 :: s43 :: s44 :: []).toArray, defers := [] } W
set_option maxRecDepth 100000 in
set_option maxHeartbeats 4000000 in
theorem cm_end (at1 : Option Addr) (n ct R : Nat) (ap : Option Addr) (p cp : Nat) (Wt : World)
    {s0 s2 s3 s4 s5 s7 s8 s9 s10 s11 s12 s13 s14 s15 s16 s17 s18 s19 s20 s21 s22 s23 s24 s25 s29 s30 s31 s32 s33 s34 s35 s36 s37 s38 s39 s40 s41 s42 s43 s44 : Value} (N : Act → World → Prop) (Q0 : Exit → Act → World → Prop) (b r : Code) (hcut : (Tryd.f10.body.bind (loopFor 0)) = some (b, r)) (hE : NxBE at1 n ct R ap p cp Wt Q0) :
    b.wp Tryd.prog (Exit.then N Q0) { tmps := (s0 :: .slice at1 n ct :: s2 :: s3 :: s4 :: s5 :: .pointer (some ⟨R, 0, none⟩) :: s7 :: s8 :: s9 :: s10 :: s11 :: s12 :: s13 :: s14 :: s15 :: s16 :: s17 :: s18 :: s19 :: s20 :: s21 :: s22 :: s23 :: s24 :: s25 :: .slice ap p cp :: .int .i64 (p : Int) :: .int .i64 (p : Int) :: s29 :: s30 :: s31 :: s32 :: s33 :: s34 :: s35 :: s36 :: s37 :: s38 :: s39 :: s40 :: s41 :: s42 :: s43 :: s44 :: []).toArray, defers := [] } Wt := by
  have hcc : (Tryd.f10.body.bind (loopFor 0)) = some (_, _) := rfl
  rw [hcc] at hcut
  cases hcut
  clear hcc
  have HE := hide hE
  clear hE
  have i1 : ¬ (p : Int) < (p : Int) := by omega
  go_wp2_with fail
  exact unhide HE _ _ _ _ _ _ _ _ _ _ _ _ _ _ _ _ _ _ _ _ _ _ _ _ _ _ _ _ _ _ _ _ _ _ _ _ _ _ _ _
theorem cm_rounds (at1 : Option Addr) (n ct R : Nat) (ap : Option Addr) (p cp : Nat) (ps : List Int) (hp : p ≤ 100000) (W0 : World) (hP : IsL KI W0 (.slice ap p cp) ps) (hi : ∀ j, j < p → 0 ≤ ps.getD j 0 ∧ ps.getD j 0 < n) (Q0 : Exit → Act → World → Prop) (b r : Code) (hcut : (Tryd.f10.body.bind (loopFor 0)) = some (b, r)) (hE : NxBE at1 n ct R ap p cp W0 Q0) :
    ∀ (k j : Nat), j + k = p → ∀ (s0 s2 s3 s4 s5 s7 s8 s9 s10 s11 s12 s13 s14 s15 s16 s17 s18 s19 s20 s21 s22 s23 s24 s25 s29 s30 s31 s32 s33 s34 s35 s36 s37 s38 s39 s40 s41 s42 s43 s44 : Value), Code.rounds Tryd.prog b Q0 (k + 1) { tmps := (s0 :: .slice at1 n ct :: s2 :: s3 :: s4 :: s5 :: .pointer (some ⟨R, 0, none⟩) :: s7 :: s8 :: s9 :: s10 :: s11 :: s12 :: s13 :: s14 :: s15 :: s16 :: s17 :: s18 :: s19 :: s20 :: s21 :: s22 :: s23 :: s24 :: s25 :: .slice ap p cp :: .int .i64 (p : Int) :: .int .i64 (j : Int) :: s29 :: s30 :: s31 :: s32 :: s33 :: s34 :: s35 :: s36 :: s37 :: s38 :: s39 :: s40 :: s41 :: s42 :: s43 :: s44 :: []).toArray, defers := [] } W0 := by
  intro k
  induction k with
  | zero =>
    intro j hj
    obtain rfl : j = p := by omega
    intros
    exact cm_end at1 n ct R ap j cp W0 _ Q0 b r hcut hE
  | succ k ih =>
    intro j hj
    intros
    refine cm_round at1 n ct R ap p cp j ps (by omega) hp W0 hP _ rfl (hi j (by omega)).1 (hi j (by omega)).2 _ Q0 b r hcut ?_
    unfold NxB
    intros
    exact ih (j + 1) (by omega) _ _ _ _ _ _ _ _ _ _ _ _ _ _ _ _ _ _ _ _ _ _ _ _ _ _ _ _ _ _ _ _ _ _ _ _ _ _ _ _
set_option maxRecDepth 100000 in
set_option maxHeartbeats 4000000 in
theorem cm_tail (w Wt : World) (R : Nat) (hR : Wt.heap[R]? = some (.cells #[.int .i64 0, .int .i64 0] 31)) (hw : w.heap.size ≤ R) (hX : Below w.heap.size w Wt)
    {s0 s1 s2 s3 s4 s5 s7 s8 s9 s10 s11 s12 s13 s14 s15 s16 s17 s18 s19 s20 s21 s22 s23 s24 s25 s26 s27 s28 s29 s30 s31 s32 s33 s34 s35 s36 s37 s38 s39 s40 s41 s42 s43 s44 : Value} (b r : Code) (hcut : (Tryd.f10.body.bind (loopFor 0)) = some (b, r)) :
    r.wp Tryd.prog (bodyPost Tryd.prog Tryd.f10 fun e w' => e = .returned (.agg #[.int .i64 0, .int .i64 0]) ∧ Below w.heap.size w w') { tmps := (s0 :: s1 :: s2 :: s3 :: s4 :: s5 :: .pointer (some ⟨R, 0, none⟩) :: s7 :: s8 :: s9 :: s10 :: s11 :: s12 :: s13 :: s14 :: s15 :: s16 :: s17 :: s18 :: s19 :: s20 :: s21 :: s22 :: s23 :: s24 :: s25 :: s26 :: s27 :: s28 :: s29 :: s30 :: s31 :: s32 :: s33 :: s34 :: s35 :: s36 :: s37 :: s38 :: s39 :: s40 :: s41 :: s42 :: s43 :: s44 :: []).toArray, defers := [] } Wt := by
  have hcc : (Tryd.f10.body.bind (loopFor 0)) = some (_, _) := rfl
  rw [hcc] at hcut
  cases hcut
  clear hcc
  obtain ⟨f0, f1, ff0, ff1, fl⟩ := block2 hR
  have HX := hide (put2_below (y0 := .int .i64 0) (y1 := .int .i64 0) hX hw)
  clear hX hR
  go_wp2_with fail
  exact bodyPost_ret (v := .agg #[.int .i64 0, .int .i64 0]) (by simp [results, Tryd.results10, go_sem, f0, f1]) rfl ⟨rfl, unhide HX⟩
theorem cm_loop (w : World) (at1 : Option Addr) (n ct R : Nat) (ap : Option Addr) (p cp : Nat) (ps : List Int) (hp : p ≤ 100000) (W0 : World) (hP : IsL KI W0 (.slice ap p cp) ps) (hi : ∀ j, j < p → 0 ≤ ps.getD j 0 ∧ ps.getD j 0 < n) (hR : W0.heap[R]? = some (.cells #[.int .i64 0, .int .i64 0] 31)) (hw : w.heap.size ≤ R) (hX : Below w.heap.size w W0)
    (K : Act → World → Prop) (b r : Code) (hK : ∀ a w', r.wp Tryd.prog (bodyPost Tryd.prog Tryd.f10 fun e w' => e = .returned (.agg #[.int .i64 0, .int .i64 0]) ∧ Below w.heap.size w w') a w' → K a w') (hcut : (Tryd.f10.body.bind (loopFor 0)) = some (b, r)) {s0 s2 s3 s4 s5 s7 s8 s9 s10 s11 s12 s13 s14 s15 s16 s17 s18 s19 s20 s21 s22 s23 s24 s25 s29 s30 s31 s32 s33 s34 s35 s36 s37 s38 s39 s40 s41 s42 s43 s44 : Value} :
    (Code.loop b).wp Tryd.prog (Exit.inBlock 0 (Exit.then K (bodyPost Tryd.prog Tryd.f10 fun e w' => e = .returned (.agg #[.int .i64 0, .int .i64 0]) ∧ Below w.heap.size w w'))) { tmps := (s0 :: .slice at1 n ct :: s2 :: s3 :: s4 :: s5 :: .pointer (some ⟨R, 0, none⟩) :: s7 :: s8 :: s9 :: s10 :: s11 :: s12 :: s13 :: s14 :: s15 :: s16 :: s17 :: s18 :: s19 :: s20 :: s21 :: s22 :: s23 :: s24 :: s25 :: .slice ap p cp :: .int .i64 (p : Int) :: .int .i64 0 :: s29 :: s30 :: s31 :: s32 :: s33 :: s34 :: s35 :: s36 :: s37 :: s38 :: s39 :: s40 :: s41 :: s42 :: s43 :: s44 :: []).toArray, defers := [] } W0 := by
  refine wp_loop_rounds (p + 1) ?_
  refine cm_rounds at1 n ct R ap p cp ps hp W0 hP hi _ b r hcut ?_ p 0 (by omega) _ _ _ _ _ _ _ _ _ _ _ _ _ _ _ _ _ _ _ _ _ _ _ _ _ _ _ _ _ _ _ _ _ _ _ _ _ _ _ _
  unfold NxBE
  intros
  exact in_b0 (hK _ _ (cm_tail w W0 R hR hw hX b r hcut))
set_option maxRecDepth 100000 in
set_option maxHeartbeats 4000000 in
theorem checkMix_ok (w : World) (a0 : Option Addr) (m c0 : Nat) (at1 : Option Addr) (n ct : Nat) (ap : Option Addr) (p cp : Nat) (us : List Sl) (tss : List (List Op4)) (ps : List Int) (hn : n ≤ 64) (hp : p ≤ 5000) (hT : IsTs w (.slice at1 n ct) us tss) (hm : m ≤ maxLen) (hf : ∀ i, i < n → fault m (tss.getD i []) = (0, 0) ∧ (tss.getD i []).length ≤ maxLen) (hP : IsL KI w (.slice ap p cp) ps) (hi : ∀ j, j < p → 0 ≤ ps.getD j 0 ∧ ps.getD j 0 < n) :
    Calls Tryd.prog 10 #[.slice a0 m c0, .slice at1 n ct, .slice ap p cp] w fun e w' => e = .returned (.agg #[.int .i64 0, .int .i64 0]) ∧ Below w.heap.size w w' := by
  have HI := hide hi
  have HK := hide (new_block w (.cells #[.int .i64 0, .int .i64 0] 31))
  have HB := hide ((Below.refl w.heap.size w).alloc (Nat.le_refl _) (.cells #[.int .i64 0, .int .i64 0] 31))
  have HP := hide hP
  have HCT := hide (checkTasks_ok (w.alloc (.cells #[.int .i64 0, .int .i64 0] 31)) a0 m c0 at1 n ct us tss (by omega) (hT.below (unhide HB)) hm hf)
  have x1 : ¬ (64 : Int) < (n : Int) := by omega
  have x2 : ¬ (5000 : Int) < (p : Int) := by omega
  clear hT hf hi hP
  go_enter Tryd.func10, Tryd.ntmps10
  go_upto_region 4 with (go_at_call 19; refine (unhide HCT).mono ?_; rintro e w2 ⟨rfl, hb2⟩; have HX2 := hide (Below.next (unhide HB) hb2 (Nat.le_refl _)); have HK2 := hide (keep_below (unhide HK) hb2); clear hb2)
  have k9 := new_block w2 (.cells #[.int .i64 0, .int .i64 0] 31)
  obtain ⟨f0, f1, ff0, ff1, fl⟩ := block2 k9
  have HX3 := hide ((unhide HX2).alloc (unhide HX2).size (.cells #[.int .i64 0, .int .i64 0] 31))
  have HK3 := hide (keep_alloc (unhide HK2) (.cells #[.int .i64 0, .int .i64 0] 31))
  clear k9
  go_wp2_with fail
  exact cm_loop w at1 n ct w.heap.size ap p cp ps (by omega) _ ((unhide HP).below (unhide HX3)) (unhide HI) (unhide HK3) (Nat.le_refl _) (unhide HX3) _ _ _ (by assumption) (by kernel_rfl)

end Go.Proofs.YtpgokeogijpmaabDoor.Mx
