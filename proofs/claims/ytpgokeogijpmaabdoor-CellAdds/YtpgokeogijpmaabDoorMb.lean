/-
  cell.checkTasks and cell.checkMix where nothing is wrong.
-/
import Derived.Test.YtpgokeogijpmaabDoorMa
namespace Go.Proofs.YtpgokeogijpmaabDoor.Mx
open Go.RowKit

def NxA (a0 : Option Addr) (m c0 : Nat) (at1 : Option Addr) (n ct R : Nat) (i : Nat) (W : World) (N : Act → World → Prop) : Prop := ∀ (s1 s2 s3 s5 s6 s7 s11 s12 s13 s14 s15 s16 s17 s18 s19 s20 s21 s22 : Value) (W' : World), Below W.heap.size W W' → N { tmps := (.slice a0 m c0 :: s1 :: s2 :: s3 :: .pointer (some ⟨R, 0, none⟩) :: s5 :: s6 :: s7 :: .slice at1 n ct :: .int .i64 (n : Int) :: .int .i64 ((i : Int) + 1) :: s11 :: s12 :: s13 :: s14 :: s15 :: s16 :: s17 :: s18 :: s19 :: s20 :: s21 :: s22 :: []).toArray, defers := [] } W'
set_option maxRecDepth 100000 in
set_option maxHeartbeats 4000000 in
theorem ct_round (a0 : Option Addr) (m c0 : Nat) (at1 : Option Addr) (n ct R : Nat) (i : Nat) (us : List Sl) (tss : List (List Op4)) (hi : i < n) (hn : n ≤ 100000) (Wt : World) (hT : IsTs Wt (.slice at1 n ct) us tss) (hm : m ≤ maxLen) (hf : fault m (tss.getD i []) = (0, 0)) (hl : (tss.getD i []).length ≤ maxLen)
    {s1 s2 s3 s5 s6 s7 s11 s12 s13 s14 s15 s16 s17 s18 s19 s20 s21 s22 : Value} (N : Act → World → Prop) (Q0 : Exit → Act → World → Prop) (b r : Code) (hcut : (Tryd.f19.body.bind (loopFor 0)) = some (b, r)) (hN : NxA a0 m c0 at1 n ct R i Wt N) :
    b.wp Tryd.prog (Exit.then N Q0) { tmps := (.slice a0 m c0 :: s1 :: s2 :: s3 :: .pointer (some ⟨R, 0, none⟩) :: s5 :: s6 :: s7 :: .slice at1 n ct :: .int .i64 (n : Int) :: .int .i64 (i : Int) :: s11 :: s12 :: s13 :: s14 :: s15 :: s16 :: s17 :: s18 :: s19 :: s20 :: s21 :: s22 :: []).toArray, defers := [] } Wt := by
  have hcc : (Tryd.f19.body.bind (loopFor 0)) = some (_, _) := rfl
  rw [hcc] at hcut
  cases hcut
  clear hcc
  have hlen := hT.row.len
  have hlu := hT.len
  obtain ⟨b0, o0, rfl, hb0, l0⟩ := hT.row.opens kq hlen (by omega)
  have c0' := l0.sls (j := i) (by omega)
  have hops := hT.each i (by omega)
  obtain ⟨⟨ua, un, uc⟩, eu⟩ : ∃ u, uAt us i = u := ⟨_, rfl⟩
  rw [eu] at c0' hops
  have c1 : Wt.cell? ⟨b0, o0 + i, none⟩ = some (.slice ua un uc) := c0'
  have HCK : Hid (Calls Tryd.prog 29 #[.slice a0 m c0, .slice ua un uc] Wt fun e w' => e = .returned (.agg #[.int .i64 0, .int .i64 0]) ∧ Below Wt.heap.size Wt w') := by
    have := check_any Wt a0 m c0 (.slice ua un uc) _ hops hm hl
    rw [hf] at this
    exact this
  have i0 : (0 : Int) ≤ (i : Int) := by omega
  have i1 : (i : Int) < (n : Int) := by omega
  have hwr : IntKind.i64.wrap ((i : Int) + 1) = (i : Int) + 1 := wrapi (by omega) (by omega)
  have HN := hide hN
  clear hN hT c0' hops l0 hlen hlu eu hf
  go_upto_region 5 with (go_at_call 29; refine (unhide HCK).mono ?_; rintro e w2 ⟨rfl, hb2⟩; have HB2 := hide hb2; clear hb2)
  have k9 := new_block w2 (.cells #[.int .i64 0, .int .i64 0] 31)
  obtain ⟨f0, f1, ff0, ff1, fl⟩ := block2 k9
  clear k9
  go_wp2_with fail
  exact unhide HN _ _ _ _ _ _ _ _ _ _ _ _ _ _ _ _ _ _ _ ((unhide HB2).alloc (unhide HB2).size _)

def NxAE (a0 : Option Addr) (m c0 : Nat) (at1 : Option Addr) (n ct R : Nat) (W : World) (Q0 : Exit → Act → World → Prop) : Prop := ∀ (s1 s2 s3 s5 s6 s7 s11 s12 s13 s14 s15 s16 s17 s18 s19 s20 s21 s22 : Value) (W' : World), Below W.heap.size W W' → Q0 (.exit 0) { tmps := (.slice a0 m c0 :: s1 :: s2 :: s3 :: .pointer (some ⟨R, 0, none⟩) :: s5 :: s6 :: s7 :: .slice at1 n ct :: .int .i64 (n : Int) :: .int .i64 (n : Int) :: s11 :: s12 :: s13 :: s14 :: s15 :: s16 :: s17 :: s18 :: s19 :: s20 :: s21 :: s22 :: []).toArray, defers := [] } W'
set_option maxRecDepth 100000 in
set_option maxHeartbeats 4000000 in
theorem ct_end (a0 : Option Addr) (m c0 : Nat) (at1 : Option Addr) (n ct R : Nat) (W0 Wt : World) (hB : Below W0.heap.size W0 Wt)
    {s1 s2 s3 s5 s6 s7 s11 s12 s13 s14 s15 s16 s17 s18 s19 s20 s21 s22 : Value} (N : Act → World → Prop) (Q0 : Exit → Act → World → Prop) (b r : Code) (hcut : (Tryd.f19.body.bind (loopFor 0)) = some (b, r)) (hE : NxAE a0 m c0 at1 n ct R W0 Q0) :
    b.wp Tryd.prog (Exit.then N Q0) { tmps := (.slice a0 m c0 :: s1 :: s2 :: s3 :: .pointer (some ⟨R, 0, none⟩) :: s5 :: s6 :: s7 :: .slice at1 n ct :: .int .i64 (n : Int) :: .int .i64 (n : Int) :: s11 :: s12 :: s13 :: s14 :: s15 :: s16 :: s17 :: s18 :: s19 :: s20 :: s21 :: s22 :: []).toArray, defers := [] } Wt := by
  have hcc : (Tryd.f19.body.bind (loopFor 0)) = some (_, _) := rfl
  rw [hcc] at hcut
  cases hcut
  clear hcc
  have HE := hide hE; have HB := hide hB
  clear hE hB
  have i1 : ¬ (n : Int) < (n : Int) := by omega
  go_wp2_with fail
  exact unhide HE _ _ _ _ _ _ _ _ _ _ _ _ _ _ _ _ _ _ _ (unhide HB)
theorem ct_rounds (a0 : Option Addr) (m c0 : Nat) (at1 : Option Addr) (n ct R : Nat) (us : List Sl) (tss : List (List Op4)) (hn : n ≤ 100000) (W0 : World) (hT : IsTs W0 (.slice at1 n ct) us tss) (hm : m ≤ maxLen) (hf : ∀ i, i < n → fault m (tss.getD i []) = (0, 0) ∧ (tss.getD i []).length ≤ maxLen) (Q0 : Exit → Act → World → Prop) (b r : Code) (hcut : (Tryd.f19.body.bind (loopFor 0)) = some (b, r)) (hE : NxAE a0 m c0 at1 n ct R W0 Q0) :
    ∀ (k i : Nat), i + k = n → ∀ (s1 s2 s3 s5 s6 s7 s11 s12 s13 s14 s15 s16 s17 s18 s19 s20 s21 s22 : Value) (Wt : World), Below W0.heap.size W0 Wt → Code.rounds Tryd.prog b Q0 (k + 1) { tmps := (.slice a0 m c0 :: s1 :: s2 :: s3 :: .pointer (some ⟨R, 0, none⟩) :: s5 :: s6 :: s7 :: .slice at1 n ct :: .int .i64 (n : Int) :: .int .i64 (i : Int) :: s11 :: s12 :: s13 :: s14 :: s15 :: s16 :: s17 :: s18 :: s19 :: s20 :: s21 :: s22 :: []).toArray, defers := [] } Wt := by
  intro k
  induction k with
  | zero =>
    intro i hi
    obtain rfl : i = n := by omega
    intros
    rename_i Wt hB
    exact ct_end a0 m c0 at1 i ct R W0 Wt hB _ Q0 b r hcut hE
  | succ k ih =>
    intro i hi
    intros
    rename_i Wt hB
    refine ct_round a0 m c0 at1 n ct R i us tss (by omega) hn Wt (hT.below hB) hm (hf i (by omega)).1 (hf i (by omega)).2 _ Q0 b r hcut ?_
    unfold NxA
    intros
    rename_i W' hB'
    exact ih (i + 1) (by omega) _ _ _ _ _ _ _ _ _ _ _ _ _ _ _ _ _ _ W' (Below.next hB hB' (Nat.le_refl _))
set_option maxRecDepth 100000 in
set_option maxHeartbeats 4000000 in
theorem ct_tail (w Wt : World) (R : Nat) (hR : Wt.heap[R]? = some (.cells #[.int .i64 0, .int .i64 0] 31)) (hw : w.heap.size ≤ R) (hX : Below w.heap.size w Wt)
    {s0 s1 s2 s3 s5 s6 s7 s8 s9 s10 s11 s12 s13 s14 s15 s16 s17 s18 s19 s20 s21 s22 : Value} (b r : Code) (hcut : (Tryd.f19.body.bind (loopFor 0)) = some (b, r)) :
    r.wp Tryd.prog (bodyPost Tryd.prog Tryd.f19 fun e w' => e = .returned (.agg #[.int .i64 0, .int .i64 0]) ∧ Below w.heap.size w w') { tmps := (s0 :: s1 :: s2 :: s3 :: .pointer (some ⟨R, 0, none⟩) :: s5 :: s6 :: s7 :: s8 :: s9 :: s10 :: s11 :: s12 :: s13 :: s14 :: s15 :: s16 :: s17 :: s18 :: s19 :: s20 :: s21 :: s22 :: []).toArray, defers := [] } Wt := by
  have hcc : (Tryd.f19.body.bind (loopFor 0)) = some (_, _) := rfl
  rw [hcc] at hcut
  cases hcut
  clear hcc
  obtain ⟨f0, f1, ff0, ff1, fl⟩ := block2 hR
  have HX := hide (put2_below (y0 := .int .i64 0) (y1 := .int .i64 0) hX hw)
  clear hX hR
  go_wp2_with fail
  exact bodyPost_ret (v := .agg #[.int .i64 0, .int .i64 0]) (by simp [results, Tryd.results19, go_sem, f0, f1]) rfl ⟨rfl, unhide HX⟩
theorem ct_loop (w : World) (a0 : Option Addr) (m c0 : Nat) (at1 : Option Addr) (n ct R : Nat) (us : List Sl) (tss : List (List Op4)) (hn : n ≤ 100000) (W0 : World) (hT : IsTs W0 (.slice at1 n ct) us tss) (hm : m ≤ maxLen) (hf : ∀ i, i < n → fault m (tss.getD i []) = (0, 0) ∧ (tss.getD i []).length ≤ maxLen) (hR : W0.heap[R]? = some (.cells #[.int .i64 0, .int .i64 0] 31)) (hw : w.heap.size ≤ R) (hX : Below w.heap.size w W0)
    (K : Act → World → Prop) (b r : Code) (hK : ∀ a w', r.wp Tryd.prog (bodyPost Tryd.prog Tryd.f19 fun e w' => e = .returned (.agg #[.int .i64 0, .int .i64 0]) ∧ Below w.heap.size w w') a w' → K a w') (hcut : (Tryd.f19.body.bind (loopFor 0)) = some (b, r)) {s1 s2 s3 s5 s6 s7 s11 s12 s13 s14 s15 s16 s17 s18 s19 s20 s21 s22 : Value} :
    (Code.loop b).wp Tryd.prog (Exit.inBlock 0 (Exit.then K (bodyPost Tryd.prog Tryd.f19 fun e w' => e = .returned (.agg #[.int .i64 0, .int .i64 0]) ∧ Below w.heap.size w w'))) { tmps := (.slice a0 m c0 :: s1 :: s2 :: s3 :: .pointer (some ⟨R, 0, none⟩) :: s5 :: s6 :: s7 :: .slice at1 n ct :: .int .i64 (n : Int) :: .int .i64 0 :: s11 :: s12 :: s13 :: s14 :: s15 :: s16 :: s17 :: s18 :: s19 :: s20 :: s21 :: s22 :: []).toArray, defers := [] } W0 := by
  refine wp_loop_rounds (n + 1) ?_
  refine ct_rounds a0 m c0 at1 n ct R us tss hn W0 hT hm hf _ b r hcut ?_ n 0 (by omega) _ _ _ _ _ _ _ _ _ _ _ _ _ _ _ _ _ _ W0 (Below.refl _ _)
  unfold NxAE
  intros
  rename_i W' hB'
  exact in_b0 (hK _ _ (ct_tail w W' R (keep_below hR hB') hw (Below.next hX hB' (Nat.le_refl _)) b r hcut))
set_option maxRecDepth 100000 in
set_option maxHeartbeats 4000000 in
theorem checkTasks_ok (w : World) (a0 : Option Addr) (m c0 : Nat) (at1 : Option Addr) (n ct : Nat) (us : List Sl) (tss : List (List Op4)) (hn : n ≤ 100000) (hT : IsTs w (.slice at1 n ct) us tss) (hm : m ≤ maxLen) (hf : ∀ i, i < n → fault m (tss.getD i []) = (0, 0) ∧ (tss.getD i []).length ≤ maxLen) :
    Calls Tryd.prog 19 #[.slice a0 m c0, .slice at1 n ct] w fun e w' => e = .returned (.agg #[.int .i64 0, .int .i64 0]) ∧ Below w.heap.size w w' := by
  have HT := hide hT; have HF := hide hf
  have HK := hide (new_block w (.cells #[.int .i64 0, .int .i64 0] 31))
  have HB := hide ((Below.refl w.heap.size w).alloc (Nat.le_refl _) (.cells #[.int .i64 0, .int .i64 0] 31))
  have HT2 := hide (hT.below (unhide HB))
  clear hT hf
  go_enter Tryd.func19, Tryd.ntmps19
  go_wp2_with fail
  exact ct_loop w a0 m c0 at1 n ct w.heap.size us tss hn _ (unhide HT2) hm (unhide HF) (unhide HK) (Nat.le_refl _) (unhide HB) _ _ _ (by assumption) (by kernel_rfl)

end Go.Proofs.YtpgokeogijpmaabDoor.Mx
