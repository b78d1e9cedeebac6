/-
  cell.checkTasks, whatever it is given.
-/
import Derived.Test.YtpgokeogijpmaaaDoorMf
namespace Go.Proofs.YtpgokeogijpmaaaDoor.Mx
open Go.RowKit

/-- What cell.checkTasks answers. -/
def tasksF (m : Nat) : List (List Op4) → Int × Int
  | [] => (0, 0)
  | t :: r => if (fault m t).1 ≠ 0 then fault m t else tasksF m r
theorem tasksF_at {m : Nat} : ∀ {tss : List (List Op4)} {i : Nat}, i < tss.length → tasksF m (tss.drop i) = if (fault m (tss.getD i [])).1 ≠ 0 then fault m (tss.getD i []) else tasksF m (tss.drop (i + 1)) := fun {tss i} hi => by
  rw [List.drop_eq_getElem_cons hi]
  have e : tss.getD i [] = tss[i] := by simp [hi]
  rw [e]
  rfl
theorem tasksF_zero {m : Nat} : ∀ {tss : List (List Op4)}, (tasksF m tss).1 = 0 → tasksF m tss = (0, 0)
  | [], _ => rfl
  | t :: r, h => by
    unfold tasksF at h ⊢
    by_cases hf : (fault m t).1 ≠ 0
    · rw [if_pos hf] at h; exact absurd h hf
    · rw [if_neg hf] at h ⊢; exact tasksF_zero h
theorem tasksF_none {m : Nat} : ∀ {tss : List (List Op4)}, tasksF m tss = (0, 0) → ∀ i, i < tss.length → fault m (tss.getD i []) = (0, 0)
  | [], _, i, hi => by simp at hi
  | t :: r, h, i, hi => by
    unfold tasksF at h
    by_cases hf : (fault m t).1 ≠ 0
    · rw [if_pos hf] at h; rw [h] at hf; exact absurd rfl hf
    · rw [if_neg hf] at h
      cases i with
      | zero => exact fault_pair (by simpa using hf)
      | succ i => exact tasksF_none h i (by simpa using hi)

def NxR45 (w : World) (R : Nat) (f : Int × Int) (Q0 : Exit → Act → World → Prop) : Prop := ∀ (s0 s1 s2 s3 s5 s6 s7 s8 s9 s10 s11 s12 s13 s14 s15 s16 s17 s18 s19 s20 s21 s22 : Value) (W' : World), Below w.heap.size w W' → W'.heap[R]? = some (.cells #[.int .i64 f.1, .int .i64 f.2] 27) → Q0 .ret { tmps := (s0 :: s1 :: s2 :: s3 :: .pointer (some ⟨R, 0, none⟩) :: s5 :: s6 :: s7 :: s8 :: s9 :: s10 :: s11 :: s12 :: s13 :: s14 :: s15 :: s16 :: s17 :: s18 :: s19 :: s20 :: s21 :: s22 :: []).toArray, defers := [] } W'
set_option maxRecDepth 100000 in
set_option maxHeartbeats 4000000 in
theorem ct_bad (w : World) (a0 : Option Addr) (m c0 : Nat) (at1 : Option Addr) (n ct R : Nat) (i : Nat) (us : List Sl) (tss : List (List Op4)) (hi : i < n) (Wt : World) (hT : IsTs Wt (.slice at1 n ct) us tss) (hm : m ≤ maxLen) (f : Int × Int) (hf : fault m (tss.getD i []) = f) (hf0 : f.1 ≠ 0) (hl : (tss.getD i []).length ≤ maxLen) (hX : Below w.heap.size w Wt) (hR : Wt.heap[R]? = some (.cells #[.int .i64 0, .int .i64 0] 27)) (hw : w.heap.size ≤ R)
    {s1 s2 s3 s5 s6 s7 s11 s12 s13 s14 s15 s16 s17 s18 s19 s20 s21 s22 : Value} (N : Act → World → Prop) (Q0 : Exit → Act → World → Prop) (b r : Code) (hcut : (Tryd.f45.body.bind (loopFor 0)) = some (b, r)) (hN : NxR45 w R f Q0) :
    b.wp Tryd.prog (Exit.then N Q0) { tmps := (.slice a0 m c0 :: s1 :: s2 :: s3 :: .pointer (some ⟨R, 0, none⟩) :: s5 :: s6 :: s7 :: .slice at1 n ct :: .int .i64 (n : Int) :: .int .i64 (i : Int) :: s11 :: s12 :: s13 :: s14 :: s15 :: s16 :: s17 :: s18 :: s19 :: s20 :: s21 :: s22 :: []).toArray, defers := [] } Wt := by
  have hcc : (Tryd.f45.body.bind (loopFor 0)) = some (_, _) := rfl
  rw [hcc] at hcut
  cases hcut
  clear hcc
  have hlen := hT.row.len
  have hlu := hT.len
  obtain ⟨b0, o0, rfl, hb0, l0⟩ := hT.row.opens kq hlen (by omega)
  have c0' := l0.sls (j := i) (by omega)
  have hops := hT.each i (by omega)
  obtain ⟨⟨ua, un, uc⟩, eu⟩ : ∃ u, uAt us i = u := ⟨_, rfl⟩
  rw [eu] at c0' hops
  have c1 : Wt.cell? ⟨b0, o0 + i, none⟩ = some (.slice ua un uc) := c0'
  obtain ⟨f0', f1'⟩ := f
  simp only at hf0
  have x1 : (f0' != 0) = true := by simpa using hf0
  have HCK : Hid (Calls Tryd.prog 11 #[.slice a0 m c0, .slice ua un uc] Wt fun e w' => e = .returned (.agg #[.int .i64 f0', .int .i64 f1']) ∧ Below Wt.heap.size Wt w') := by
    have := check_any Wt a0 m c0 (.slice ua un uc) _ hops hm hl
    rw [hf] at this
    exact this
  have i0 : (0 : Int) ≤ (i : Int) := by omega
  have i1 : (i : Int) < (n : Int) := by omega
  have HN := hide hN; have HX := hide hX; have HR := hide hR
  clear hN hT c0' hops l0 hlen hlu eu hf hX hR hf0
  go_upto_region 5 with (go_at_call 11; refine (unhide HCK).mono ?_; rintro e w2 ⟨rfl, hb2⟩; have HX2 := hide (Below.next (unhide HX) hb2 (Nat.le_refl _)); have HR2 := hide (keep_below (unhide HR) hb2); clear hb2)
  have k9 := new_block w2 (.cells #[.int .i64 f0', .int .i64 f1'] 27)
  obtain ⟨f0, f1, ff0, ff1, fl⟩ := block2 k9
  have HX3 := hide ((unhide HX2).alloc (unhide HX2).size (.cells #[.int .i64 f0', .int .i64 f1'] 27))
  have HR3 := hide (keep_alloc (unhide HR2) (.cells #[.int .i64 f0', .int .i64 f1'] 27))
  obtain ⟨r0, r1, rf0, rf1, rl⟩ := block2 (unhide HR3)
  clear k9
  go_wp2_with fail
  exact unhide HN _ _ _ _ _ _ _ _ _ _ _ _ _ _ _ _ _ _ _ _ _ _ _ (put2_below (y0 := .int .i64 f0') (y1 := .int .i64 f1') (unhide HX3) hw) (put2_new (unhide HR3))
theorem ct_rounds2 (w : World) (a0 : Option Addr) (m c0 : Nat) (at1 : Option Addr) (n ct R : Nat) (us : List Sl) (tss : List (List Op4)) (hn : n ≤ 100000) (hT : IsTs w (.slice at1 n ct) us tss) (hm : m ≤ maxLen) (hl : ∀ i, i < n → (tss.getD i []).length ≤ maxLen) (hw : w.heap.size ≤ R) (f : Int × Int) (Q0 : Exit → Act → World → Prop) (b r : Code) (hcut : (Tryd.f45.body.bind (loopFor 0)) = some (b, r)) (hE : f = (0, 0) → ∀ (s1 s2 s3 s5 s6 s7 s11 s12 s13 s14 s15 s16 s17 s18 s19 s20 s21 s22 : Value) (W' : World), Below w.heap.size w W' → W'.heap[R]? = some (.cells #[.int .i64 0, .int .i64 0] 27) → Q0 (.exit 0) { tmps := (.slice a0 m c0 :: s1 :: s2 :: s3 :: .pointer (some ⟨R, 0, none⟩) :: s5 :: s6 :: s7 :: .slice at1 n ct :: .int .i64 (n : Int) :: .int .i64 (n : Int) :: s11 :: s12 :: s13 :: s14 :: s15 :: s16 :: s17 :: s18 :: s19 :: s20 :: s21 :: s22 :: []).toArray, defers := [] } W') (hR : f.1 ≠ 0 → NxR45 w R f Q0) :
    ∀ (k i : Nat), i + k = n → tasksF m (tss.drop i) = f → ∀ (s1 s2 s3 s5 s6 s7 s11 s12 s13 s14 s15 s16 s17 s18 s19 s20 s21 s22 : Value) (Wt : World), Below w.heap.size w Wt → Wt.heap[R]? = some (.cells #[.int .i64 0, .int .i64 0] 27) → Code.rounds Tryd.prog b Q0 (k + 1) { tmps := (.slice a0 m c0 :: s1 :: s2 :: s3 :: .pointer (some ⟨R, 0, none⟩) :: s5 :: s6 :: s7 :: .slice at1 n ct :: .int .i64 (n : Int) :: .int .i64 (i : Int) :: s11 :: s12 :: s13 :: s14 :: s15 :: s16 :: s17 :: s18 :: s19 :: s20 :: s21 :: s22 :: []).toArray, defers := [] } Wt := by
  have hlt : tss.length = n := by have := hT.row.len; have := hT.len; omega
  intro k
  induction k with
  | zero =>
    intro i hi hf
    obtain rfl : i = n := by omega
    intros
    rename_i Wt hX hRt
    rw [List.drop_of_length_le (by omega)] at hf
    have hf2 : f = (0, 0) := hf.symm
    exact ct_end a0 m c0 at1 i ct R Wt Wt (Below.refl _ _) _ Q0 b r hcut (by
      unfold NxAE
      intros
      rename_i W' hB'
      exact hE hf2 _ _ _ _ _ _ _ _ _ _ _ _ _ _ _ _ _ _ W' (Below.next hX hB' (Nat.le_refl _)) (keep_below hRt hB'))
  | succ k ih =>
    intro i hi hf
    intros
    rename_i Wt hX hRt
    rw [tasksF_at (by omega)] at hf
    by_cases hb : (fault m (tss.getD i [])).1 ≠ 0
    · rw [if_pos hb] at hf
      have hb2 : f.1 ≠ 0 := by rw [← hf]; exact hb
      exact ct_bad w a0 m c0 at1 n ct R i us tss (by omega) Wt (hT.below hX) hm f hf hb2 (hl i (by omega)) hX hRt hw _ Q0 b r hcut (hR hb2)
    · rw [if_neg hb] at hf
      refine ct_round a0 m c0 at1 n ct R i us tss (by omega) hn Wt (hT.below hX) hm (fault_pair (by simpa using hb)) (hl i (by omega)) _ Q0 b r hcut ?_
      unfold NxA
      intros
      rename_i W' hB'
      exact ih (i + 1) (by omega) hf _ _ _ _ _ _ _ _ _ _ _ _ _ _ _ _ _ _ W' (Below.next hX hB' (Nat.le_refl _)) (keep_below hRt hB')
set_option maxRecDepth 100000 in
set_option maxHeartbeats 4000000 in
theorem ct_ret (w : World) (R : Nat) (f : Int × Int) (K : Act → World → Prop) (n : Nat) : NxR45 w R f (Exit.inBlock n (Exit.then K (bodyPost Tryd.prog Tryd.f45 fun e w' => e = .returned (.agg #[.int .i64 f.1, .int .i64 f.2]) ∧ Below w.heap.size w w'))) := by
  unfold NxR45
  intros
  rename_i W' hX hR
  have e : ∀ {Q : Exit → Act → World → Prop} {a : Act}, Exit.inBlock n (Exit.then K Q) .ret a W' = Q .ret a W' := by intros; simp [Exit.inBlock, Exit.then]
  rw [e]
  obtain ⟨f0, f1, -, -, -⟩ := block2 hR
  exact bodyPost_ret (v := .agg #[.int .i64 f.1, .int .i64 f.2]) (by simp [results, Tryd.results45, go_sem, f0, f1]) rfl ⟨rfl, hX⟩
theorem ct_loop2 (w : World) (a0 : Option Addr) (m c0 : Nat) (at1 : Option Addr) (n ct R : Nat) (us : List Sl) (tss : List (List Op4)) (hn : n ≤ 100000) (W0 : World) (hT : IsTs w (.slice at1 n ct) us tss) (hm : m ≤ maxLen) (hl : ∀ i, i < n → (tss.getD i []).length ≤ maxLen) (f : Int × Int) (hf : tasksF m tss = f) (hR : W0.heap[R]? = some (.cells #[.int .i64 0, .int .i64 0] 27)) (hw : w.heap.size ≤ R) (hX : Below w.heap.size w W0)
    (K : Act → World → Prop) (b r : Code) (hK : ∀ a w', r.wp Tryd.prog (bodyPost Tryd.prog Tryd.f45 fun e w' => e = .returned (.agg #[.int .i64 f.1, .int .i64 f.2]) ∧ Below w.heap.size w w') a w' → K a w') (hcut : (Tryd.f45.body.bind (loopFor 0)) = some (b, r)) {s1 s2 s3 s5 s6 s7 s11 s12 s13 s14 s15 s16 s17 s18 s19 s20 s21 s22 : Value} :
    (Code.loop b).wp Tryd.prog (Exit.inBlock 0 (Exit.then K (bodyPost Tryd.prog Tryd.f45 fun e w' => e = .returned (.agg #[.int .i64 f.1, .int .i64 f.2]) ∧ Below w.heap.size w w'))) { tmps := (.slice a0 m c0 :: s1 :: s2 :: s3 :: .pointer (some ⟨R, 0, none⟩) :: s5 :: s6 :: s7 :: .slice at1 n ct :: .int .i64 (n : Int) :: .int .i64 0 :: s11 :: s12 :: s13 :: s14 :: s15 :: s16 :: s17 :: s18 :: s19 :: s20 :: s21 :: s22 :: []).toArray, defers := [] } W0 := by
  refine wp_loop_rounds (n + 1) ?_
  refine ct_rounds2 w a0 m c0 at1 n ct R us tss hn hT hm hl hw f _ b r hcut ?_ (fun _ => ct_ret w R f K 0) n 0 (by omega) hf _ _ _ _ _ _ _ _ _ _ _ _ _ _ _ _ _ _ W0 hX hR
  intro hf0
  intros
  rename_i W' hX' hR'
  subst hf0
  exact in_b0 (hK _ _ (ct_tail w W' R hR' hw hX' b r hcut))
set_option maxRecDepth 100000 in
set_option maxHeartbeats 4000000 in
theorem checkTasks_any (w : World) (a0 : Option Addr) (m c0 : Nat) (at1 : Option Addr) (n ct : Nat) (us : List Sl) (tss : List (List Op4)) (hn : n ≤ 100000) (hT : IsTs w (.slice at1 n ct) us tss) (hm : m ≤ maxLen) (hl : ∀ i, i < n → (tss.getD i []).length ≤ maxLen) :
    Calls Tryd.prog 45 #[.slice a0 m c0, .slice at1 n ct] w fun e w' => e = .returned (.agg #[.int .i64 (tasksF m tss).1, .int .i64 (tasksF m tss).2]) ∧ Below w.heap.size w w' := by
  have HT := hide hT; have HL := hide hl
  have HK := hide (new_block w (.cells #[.int .i64 0, .int .i64 0] 27))
  have HB := hide ((Below.refl w.heap.size w).alloc (Nat.le_refl _) (.cells #[.int .i64 0, .int .i64 0] 27))
  obtain ⟨f, ef⟩ : ∃ f, tasksF m tss = f := ⟨_, rfl⟩
  rw [ef]
  have HF := hide ef
  clear hT hl ef
  go_enter Tryd.func45, Tryd.ntmps45
  go_wp2_with fail
  exact ct_loop2 w a0 m c0 at1 n ct w.heap.size us tss hn _ (unhide HT) hm (unhide HL) f (unhide HF) (unhide HK) (Nat.le_refl _) (unhide HB) _ _ _ (by assumption) (by kernel_rfl)

end Go.Proofs.YtpgokeogijpmaaaDoor.Mx
