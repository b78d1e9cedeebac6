/-
  taskmillref.TasksFault and taskmilllaw.vastTasks.
-/
import Derived.Test.YtpgokeogijpmaaaDoorCb
import Derived.Test.YtpgokeogijpmaaaDoorI
namespace Go.Proofs.YtpgokeogijpmaaaDoor.Mx
open Go.RowKit

def NxT1 (w : World) (a0 : Option Addr) (m c0 : Nat) (at1 : Option Addr) (n ct R : Nat) (i : Nat) (N : Act → World → Prop) : Prop := ∀ (s2 s3 s6 s7 s8 s9 s10 s11 s12 s13 s14 s15 s16 s17 s18 s19 s20 s21 s22 s23 : Value) (W' : World), Below w.heap.size w W' → W'.heap[R]? = some (.cells #[.int .i64 0, .int .i64 0] 27) → N { tmps := (.slice a0 m c0 :: .slice at1 n ct :: s2 :: s3 :: .pointer (some ⟨R, 0, none⟩) :: .int .i64 ((i : Int) + 1) :: s6 :: s7 :: s8 :: s9 :: s10 :: s11 :: s12 :: s13 :: s14 :: s15 :: s16 :: s17 :: s18 :: s19 :: s20 :: s21 :: s22 :: s23 :: []).toArray, defers := [] } W'
def NxTE (w : World) (a0 : Option Addr) (m c0 : Nat) (at1 : Option Addr) (n ct R : Nat) (Q0 : Exit → Act → World → Prop) : Prop := ∀ (s2 s3 s6 s7 s8 s9 s10 s11 s12 s13 s14 s15 s16 s17 s18 s19 s20 s21 s22 s23 : Value) (W' : World), Below w.heap.size w W' → W'.heap[R]? = some (.cells #[.int .i64 0, .int .i64 0] 27) → Q0 (.exit 0) { tmps := (.slice a0 m c0 :: .slice at1 n ct :: s2 :: s3 :: .pointer (some ⟨R, 0, none⟩) :: .int .i64 (n : Int) :: s6 :: s7 :: s8 :: s9 :: s10 :: s11 :: s12 :: s13 :: s14 :: s15 :: s16 :: s17 :: s18 :: s19 :: s20 :: s21 :: s22 :: s23 :: []).toArray, defers := [] } W'
def NxTR (w : World) (R : Nat) (f : Int × Int) (Q0 : Exit → Act → World → Prop) : Prop := ∀ (s0 s1 s2 s3 s5 s6 s7 s8 s9 s10 s11 s12 s13 s14 s15 s16 s17 s18 s19 s20 s21 s22 s23 : Value) (W' : World), Below w.heap.size w W' → W'.heap[R]? = some (.cells #[.int .i64 f.1, .int .i64 f.2] 27) → Q0 .ret { tmps := (s0 :: s1 :: s2 :: s3 :: .pointer (some ⟨R, 0, none⟩) :: s5 :: s6 :: s7 :: s8 :: s9 :: s10 :: s11 :: s12 :: s13 :: s14 :: s15 :: s16 :: s17 :: s18 :: s19 :: s20 :: s21 :: s22 :: s23 :: []).toArray, defers := [] } W'
set_option maxRecDepth 100000 in
set_option maxHeartbeats 4000000 in
theorem tf_ok (w : World) (a0 : Option Addr) (m c0 : Nat) (at1 : Option Addr) (n ct R : Nat) (i : Nat) (us : List Sl) (tss : List (List Op4)) (hi : i < n) (hn : n ≤ 100000) (Wt : World) (hT : IsTs Wt (.slice at1 n ct) us tss) (hm : m ≤ maxLen) (hf : fault m (tss.getD i []) = (0, 0)) (hl : (tss.getD i []).length ≤ 1000000) (hX : Below w.heap.size w Wt) (hR : Wt.heap[R]? = some (.cells #[.int .i64 0, .int .i64 0] 27)) (_hw : w.heap.size ≤ R)
    {s2 s3 s6 s7 s8 s9 s10 s11 s12 s13 s14 s15 s16 s17 s18 s19 s20 s21 s22 s23 : Value} (N : Act → World → Prop) (Q0 : Exit → Act → World → Prop) (b r : Code) (hcut : (Tryd.f21.body.bind (loopFor 0)) = some (b, r)) (hN : NxT1 w a0 m c0 at1 n ct R i N) :
    b.wp Tryd.prog (Exit.then N Q0) { tmps := (.slice a0 m c0 :: .slice at1 n ct :: s2 :: s3 :: .pointer (some ⟨R, 0, none⟩) :: .int .i64 (i : Int) :: s6 :: s7 :: s8 :: s9 :: s10 :: s11 :: s12 :: s13 :: s14 :: s15 :: s16 :: s17 :: s18 :: s19 :: s20 :: s21 :: s22 :: s23 :: []).toArray, defers := [] } Wt := by
  have hcc : (Tryd.f21.body.bind (loopFor 0)) = some (_, _) := rfl
  rw [hcc] at hcut
  cases hcut
  clear hcc
  have hlen := hT.row.len
  have hlu := hT.len
  obtain ⟨b0, o0, rfl, hb0, l0⟩ := hT.row.opens kq hlen (by omega)
  have c0' := l0.sls (j := i) (by omega)
  have hops := hT.each i (by omega)
  obtain ⟨⟨ua, un, uc⟩, eu⟩ : ∃ u, uAt us i = u := ⟨_, rfl⟩
  rw [eu] at c0' hops
  have c1 : Wt.cell? ⟨b0, o0 + i, none⟩ = some (.slice ua un uc) := c0'
  have HCK : Hid (Calls Tryd.prog 13 #[.slice a0 m c0, .slice ua un uc] Wt fun e w' => e = .returned (.agg #[.int .i64 0, .int .i64 0]) ∧ Below Wt.heap.size Wt w') := by
    have := opsf_any Wt a0 m c0 (.slice ua un uc) _ hops hm (by unfold maxLen; omega)
    rw [hf] at this
    exact this
  have i0 : (0 : Int) ≤ (i : Int) := by omega
  have i1 : (i : Int) < (n : Int) := by omega
  have hwr : IntKind.i64.wrap ((i : Int) + 1) = (i : Int) + 1 := wrapi (by omega) (by omega)
  have HN := hide hN; have HX := hide hX; have HR := hide hR
  clear hN hT c0' hops l0 hlen hlu eu hf hX hR
  go_upto_region 5 with (go_at_call 13; refine (unhide HCK).mono ?_; rintro e w2 ⟨rfl, hb2⟩; have HX2 := hide (Below.next (unhide HX) hb2 (Nat.le_refl _)); have HR2 := hide (keep_below (unhide HR) hb2); clear hb2)
  have k9 := new_block w2 (.cells #[.int .i64 0, .int .i64 0] 27)
  obtain ⟨f0, f1, ff0, ff1, fl⟩ := block2 k9
  have HX3 := hide ((unhide HX2).alloc (unhide HX2).size (.cells #[.int .i64 0, .int .i64 0] 27))
  have HR3 := hide (keep_alloc (unhide HR2) (.cells #[.int .i64 0, .int .i64 0] 27))
  clear k9
  go_wp2_with fail
  exact unhide HN _ _ _ _ _ _ _ _ _ _ _ _ _ _ _ _ _ _ _ _ _ (unhide HX3) (unhide HR3)
set_option maxRecDepth 100000 in
set_option maxHeartbeats 4000000 in
theorem tf_bad (w : World) (a0 : Option Addr) (m c0 : Nat) (at1 : Option Addr) (n ct R : Nat) (i : Nat) (us : List Sl) (tss : List (List Op4)) (hi : i < n) (hn : n ≤ 100000) (Wt : World) (hT : IsTs Wt (.slice at1 n ct) us tss) (hm : m ≤ maxLen) (f0q f1q : Int) (hf : fault m (tss.getD i []) = (f0q, f1q)) (hf0 : f0q ≠ 0) (hl : (tss.getD i []).length ≤ 1000000) (hX : Below w.heap.size w Wt) (hR : Wt.heap[R]? = some (.cells #[.int .i64 0, .int .i64 0] 27)) (hw : w.heap.size ≤ R)
    {s2 s3 s6 s7 s8 s9 s10 s11 s12 s13 s14 s15 s16 s17 s18 s19 s20 s21 s22 s23 : Value} (N : Act → World → Prop) (Q0 : Exit → Act → World → Prop) (b r : Code) (hcut : (Tryd.f21.body.bind (loopFor 0)) = some (b, r)) (hN : NxTR w R (f0q, f1q) Q0) :
    b.wp Tryd.prog (Exit.then N Q0) { tmps := (.slice a0 m c0 :: .slice at1 n ct :: s2 :: s3 :: .pointer (some ⟨R, 0, none⟩) :: .int .i64 (i : Int) :: s6 :: s7 :: s8 :: s9 :: s10 :: s11 :: s12 :: s13 :: s14 :: s15 :: s16 :: s17 :: s18 :: s19 :: s20 :: s21 :: s22 :: s23 :: []).toArray, defers := [] } Wt := by
  have hcc : (Tryd.f21.body.bind (loopFor 0)) = some (_, _) := rfl
  rw [hcc] at hcut
  cases hcut
  clear hcc
  have hlen := hT.row.len
  have hlu := hT.len
  obtain ⟨b0, o0, rfl, hb0, l0⟩ := hT.row.opens kq hlen (by omega)
  have c0' := l0.sls (j := i) (by omega)
  have hops := hT.each i (by omega)
  obtain ⟨⟨ua, un, uc⟩, eu⟩ : ∃ u, uAt us i = u := ⟨_, rfl⟩
  rw [eu] at c0' hops
  have c1 : Wt.cell? ⟨b0, o0 + i, none⟩ = some (.slice ua un uc) := c0'
  have x1 : (f0q != 0) = true := by simpa using hf0
  have HCK : Hid (Calls Tryd.prog 13 #[.slice a0 m c0, .slice ua un uc] Wt fun e w' => e = .returned (.agg #[.int .i64 f0q, .int .i64 f1q]) ∧ Below Wt.heap.size Wt w') := by
    have := opsf_any Wt a0 m c0 (.slice ua un uc) _ hops hm (by unfold maxLen; omega)
    rw [hf] at this
    exact this
  have i0 : (0 : Int) ≤ (i : Int) := by omega
  have i1 : (i : Int) < (n : Int) := by omega
  have hwr : IntKind.i64.wrap ((i : Int) + 1) = (i : Int) + 1 := wrapi (by omega) (by omega)
  have HN := hide hN; have HX := hide hX; have HR := hide hR
  clear hN hT c0' hops l0 hlen hlu eu hf hX hR hf0
  go_upto_region 5 with (go_at_call 13; refine (unhide HCK).mono ?_; rintro e w2 ⟨rfl, hb2⟩; have HX2 := hide (Below.next (unhide HX) hb2 (Nat.le_refl _)); have HR2 := hide (keep_below (unhide HR) hb2); clear hb2)
  have k9 := new_block w2 (.cells #[.int .i64 f0q, .int .i64 f1q] 27)
  obtain ⟨f0, f1, ff0, ff1, fl⟩ := block2 k9
  have HX3 := hide ((unhide HX2).alloc (unhide HX2).size (.cells #[.int .i64 f0q, .int .i64 f1q] 27))
  have HR3 := hide (keep_alloc (unhide HR2) (.cells #[.int .i64 f0q, .int .i64 f1q] 27))
  obtain ⟨r0, r1, rf0, rf1, rl⟩ := block2 (unhide HR3)
  clear k9
  go_wp2_with fail
  exact unhide HN _ _ _ _ _ _ _ _ _ _ _ _ _ _ _ _ _ _ _ _ _ _ _ _ (put2_below (y0 := .int .i64 f0q) (y1 := .int .i64 f1q) (unhide HX3) hw) (put2_new (unhide HR3))
set_option maxRecDepth 100000 in
set_option maxHeartbeats 4000000 in
theorem tf_end (w : World) (a0 : Option Addr) (m c0 : Nat) (at1 : Option Addr) (n ct R : Nat) (Wt : World) (hX : Below w.heap.size w Wt) (hR : Wt.heap[R]? = some (.cells #[.int .i64 0, .int .i64 0] 27))
    {s2 s3 s6 s7 s8 s9 s10 s11 s12 s13 s14 s15 s16 s17 s18 s19 s20 s21 s22 s23 : Value} (N : Act → World → Prop) (Q0 : Exit → Act → World → Prop) (b r : Code) (hcut : (Tryd.f21.body.bind (loopFor 0)) = some (b, r)) (hE : NxTE w a0 m c0 at1 n ct R Q0) :
    b.wp Tryd.prog (Exit.then N Q0) { tmps := (.slice a0 m c0 :: .slice at1 n ct :: s2 :: s3 :: .pointer (some ⟨R, 0, none⟩) :: .int .i64 (n : Int) :: s6 :: s7 :: s8 :: s9 :: s10 :: s11 :: s12 :: s13 :: s14 :: s15 :: s16 :: s17 :: s18 :: s19 :: s20 :: s21 :: s22 :: s23 :: []).toArray, defers := [] } Wt := by
  have hcc : (Tryd.f21.body.bind (loopFor 0)) = some (_, _) := rfl
  rw [hcc] at hcut
  cases hcut
  clear hcc
  have HE := hide hE; have HX := hide hX; have HR := hide hR
  clear hE hX hR
  have i1 : ¬ (n : Int) < (n : Int) := by omega
  go_wp2_with fail
  exact unhide HE _ _ _ _ _ _ _ _ _ _ _ _ _ _ _ _ _ _ _ _ _ (unhide HX) (unhide HR)
theorem tf_rounds (w : World) (a0 : Option Addr) (m c0 : Nat) (at1 : Option Addr) (n ct R : Nat) (us : List Sl) (tss : List (List Op4)) (hn : n ≤ 100000) (hT : IsTs w (.slice at1 n ct) us tss) (hm : m ≤ maxLen) (hl : ∀ i, i < n → (tss.getD i []).length ≤ 1000000) (hw : w.heap.size ≤ R) (f : Int × Int) (Q0 : Exit → Act → World → Prop) (b r : Code) (hcut : (Tryd.f21.body.bind (loopFor 0)) = some (b, r)) (hE : f = (0, 0) → NxTE w a0 m c0 at1 n ct R Q0) (hR : f.1 ≠ 0 → NxTR w R f Q0) :
    ∀ (k i : Nat), i + k = n → tasksF m (tss.drop i) = f → ∀ (s2 s3 s6 s7 s8 s9 s10 s11 s12 s13 s14 s15 s16 s17 s18 s19 s20 s21 s22 s23 : Value) (Wt : World), Below w.heap.size w Wt → Wt.heap[R]? = some (.cells #[.int .i64 0, .int .i64 0] 27) → Code.rounds Tryd.prog b Q0 (k + 1) { tmps := (.slice a0 m c0 :: .slice at1 n ct :: s2 :: s3 :: .pointer (some ⟨R, 0, none⟩) :: .int .i64 (i : Int) :: s6 :: s7 :: s8 :: s9 :: s10 :: s11 :: s12 :: s13 :: s14 :: s15 :: s16 :: s17 :: s18 :: s19 :: s20 :: s21 :: s22 :: s23 :: []).toArray, defers := [] } Wt := by
  have hlt : tss.length = n := by have := hT.row.len; have := hT.len; omega
  intro k
  induction k with
  | zero =>
    intro i hi hf
    obtain rfl : i = n := by omega
    intros
    rename_i Wt hX hRt
    rw [List.drop_of_length_le (by omega)] at hf
    exact tf_end w a0 m c0 at1 i ct R Wt hX hRt _ Q0 b r hcut (hE hf.symm)
  | succ k ih =>
    intro i hi hf
    intros
    rename_i Wt hX hRt
    rw [tasksF_at (by omega)] at hf
    by_cases hb : (fault m (tss.getD i [])).1 ≠ 0
    · rw [if_pos hb] at hf
      have hb2 : f.1 ≠ 0 := by rw [← hf]; exact hb
      exact tf_bad w a0 m c0 at1 n ct R i us tss (by omega) hn Wt (hT.below hX) hm f.1 f.2 hf hb2 (hl i (by omega)) hX hRt hw _ Q0 b r hcut (hR hb2)
    · rw [if_neg hb] at hf
      refine tf_ok w a0 m c0 at1 n ct R i us tss (by omega) hn Wt (hT.below hX) hm (fault_pair (by simpa using hb)) (hl i (by omega)) hX hRt hw _ Q0 b r hcut ?_
      unfold NxT1
      intros
      rename_i W' hX' hR'
      exact ih (i + 1) (by omega) hf _ _ _ _ _ _ _ _ _ _ _ _ _ _ _ _ _ _ _ _ W' hX' hR'
set_option maxRecDepth 100000 in
set_option maxHeartbeats 4000000 in
theorem tf_ret (w : World) (R : Nat) (f : Int × Int) (K : Act → World → Prop) (n : Nat) : NxTR w R f (Exit.inBlock n (Exit.then K (bodyPost Tryd.prog Tryd.f21 fun e w' => e = .returned (.agg #[.int .i64 f.1, .int .i64 f.2]) ∧ Below w.heap.size w w'))) := by
  unfold NxTR
  intros
  rename_i W' hX hR
  have e : ∀ {Q : Exit → Act → World → Prop} {a : Act}, Exit.inBlock n (Exit.then K Q) .ret a W' = Q .ret a W' := by intros; simp [Exit.inBlock, Exit.then]
  rw [e]
  obtain ⟨f0, f1, -, -, -⟩ := block2 hR
  exact bodyPost_ret (v := .agg #[.int .i64 f.1, .int .i64 f.2]) (by simp [results, Tryd.results21, go_sem, f0, f1]) rfl ⟨rfl, hX⟩
set_option maxRecDepth 100000 in
set_option maxHeartbeats 4000000 in
theorem tf_tail (w Wt : World) (f : Int × Int) (hf : f = (0, 0)) (R : Nat) (hR : Wt.heap[R]? = some (.cells #[.int .i64 0, .int .i64 0] 27)) (hw : w.heap.size ≤ R) (hX : Below w.heap.size w Wt)
    {s0 s1 s2 s3 s5 s6 s7 s8 s9 s10 s11 s12 s13 s14 s15 s16 s17 s18 s19 s20 s21 s22 s23 : Value} (b r : Code) (hcut : (Tryd.f21.body.bind (loopFor 0)) = some (b, r)) :
    r.wp Tryd.prog (bodyPost Tryd.prog Tryd.f21 fun e w' => e = .returned (.agg #[.int .i64 f.1, .int .i64 f.2]) ∧ Below w.heap.size w w') { tmps := (s0 :: s1 :: s2 :: s3 :: .pointer (some ⟨R, 0, none⟩) :: s5 :: s6 :: s7 :: s8 :: s9 :: s10 :: s11 :: s12 :: s13 :: s14 :: s15 :: s16 :: s17 :: s18 :: s19 :: s20 :: s21 :: s22 :: s23 :: []).toArray, defers := [] } Wt := by
  have hcc : (Tryd.f21.body.bind (loopFor 0)) = some (_, _) := rfl
  rw [hcc] at hcut
  cases hcut
  clear hcc
  subst hf
  obtain ⟨f0, f1, ff0, ff1, fl⟩ := block2 hR
  have HX := hide (put2_below (y0 := .int .i64 0) (y1 := .int .i64 0) hX hw)
  clear hX hR
  go_wp2_with fail
  exact bodyPost_ret (v := .agg #[.int .i64 0, .int .i64 0]) (by simp [results, Tryd.results21, go_sem, f0, f1]) rfl ⟨rfl, unhide HX⟩
theorem tf_loop (w : World) (a0 : Option Addr) (m c0 : Nat) (at1 : Option Addr) (n ct R : Nat) (us : List Sl) (tss : List (List Op4)) (hn : n ≤ 100000) (W0 : World) (hT : IsTs w (.slice at1 n ct) us tss) (hm : m ≤ maxLen) (hl : ∀ i, i < n → (tss.getD i []).length ≤ 1000000) (f : Int × Int) (hf : tasksF m tss = f) (hR : W0.heap[R]? = some (.cells #[.int .i64 0, .int .i64 0] 27)) (hw : w.heap.size ≤ R) (hX : Below w.heap.size w W0)
    (K : Act → World → Prop) (b r : Code) (hK : ∀ a w', r.wp Tryd.prog (bodyPost Tryd.prog Tryd.f21 fun e w' => e = .returned (.agg #[.int .i64 f.1, .int .i64 f.2]) ∧ Below w.heap.size w w') a w' → K a w') (hcut : (Tryd.f21.body.bind (loopFor 0)) = some (b, r)) {s2 s3 s6 s7 s8 s9 s10 s11 s12 s13 s14 s15 s16 s17 s18 s19 s20 s21 s22 s23 : Value} :
    (Code.loop b).wp Tryd.prog (Exit.inBlock 0 (Exit.then K (bodyPost Tryd.prog Tryd.f21 fun e w' => e = .returned (.agg #[.int .i64 f.1, .int .i64 f.2]) ∧ Below w.heap.size w w'))) { tmps := (.slice a0 m c0 :: .slice at1 n ct :: s2 :: s3 :: .pointer (some ⟨R, 0, none⟩) :: .int .i64 0 :: s6 :: s7 :: s8 :: s9 :: s10 :: s11 :: s12 :: s13 :: s14 :: s15 :: s16 :: s17 :: s18 :: s19 :: s20 :: s21 :: s22 :: s23 :: []).toArray, defers := [] } W0 := by
  refine wp_loop_rounds (n + 1) ?_
  refine tf_rounds w a0 m c0 at1 n ct R us tss hn hT hm hl hw f _ b r hcut ?_ (fun _ => tf_ret w R f K 0) n 0 (by omega) hf _ _ _ _ _ _ _ _ _ _ _ _ _ _ _ _ _ _ _ _ W0 hX hR
  intro hf0
  unfold NxTE
  intros
  rename_i W' hX' hR'
  exact in_b0 (hK _ _ (tf_tail w W' f hf0 R hR' hw hX' b r hcut))
set_option maxRecDepth 100000 in
set_option maxHeartbeats 4000000 in
theorem tasksFault_any (w : World) (a0 : Option Addr) (m c0 : Nat) (at1 : Option Addr) (n ct : Nat) (us : List Sl) (tss : List (List Op4)) (hn : n ≤ 100000) (hT : IsTs w (.slice at1 n ct) us tss) (hm : m ≤ maxLen) (hl : ∀ i, i < n → (tss.getD i []).length ≤ 1000000) :
    Calls Tryd.prog 21 #[.slice a0 m c0, .slice at1 n ct] w fun e w' => e = .returned (.agg #[.int .i64 (tasksF m tss).1, .int .i64 (tasksF m tss).2]) ∧ Below w.heap.size w w' := by
  have HT := hide hT; have HL := hide hl
  have HK := hide (new_block w (.cells #[.int .i64 0, .int .i64 0] 27))
  have HB := hide ((Below.refl w.heap.size w).alloc (Nat.le_refl _) (.cells #[.int .i64 0, .int .i64 0] 27))
  obtain ⟨f, ef⟩ : ∃ f, tasksF m tss = f := ⟨_, rfl⟩
  rw [ef]
  have HF := hide ef
  clear hT hl ef
  go_enter Tryd.func21, Tryd.ntmps21
  go_wp2_with fail
  exact tf_loop w a0 m c0 at1 n ct w.heap.size us tss hn _ (unhide HT) hm (unhide HL) f (unhide HF) (unhide HK) (Nat.le_refl _) (unhide HB) _ _ _ (by assumption) (by kernel_rfl)

/-- Is there much of it? -/
def Vast (n : Nat) (tss : List (List Op4)) : Prop := 1000 < n ∨ ∃ i, i < n ∧ 10000 < (tss.getD i []).length
set_option maxRecDepth 100000 in
set_option maxHeartbeats 4000000 in
theorem va_go (at1 : Option Addr) (n ct : Nat) (i : Nat) (b0 o0 : Nat) (ha : at1 = some ⟨b0, o0, none⟩) (ua : Option Addr) (un uc : Nat) (hi : i < n) (hn : n ≤ 1000) (Wt : World) (hc : Wt.cell? ⟨b0, o0 + i, none⟩ = some (.slice ua un uc)) (hl : ¬ 10000 < un)
    {s1 s2 s4 s5 s6 s7 s8 s9 s10 s11 s12 s13 s14 s15 s16 s17 s18 : Value} (N : Act → World → Prop) (Q0 : Exit → Act → World → Prop) (b r : Code) (hcut : (Tryd.f18.body.bind (loopFor 0)) = some (b, r)) (hN : ∀ (s1 s2 s4 s5 s6 s7 s8 s9 s10 s11 s12 s13 s14 s15 s16 s17 s18 : Value), N { tmps := (.slice at1 n ct :: s1 :: s2 :: .int .i64 ((i : Int) + 1) :: s4 :: s5 :: s6 :: s7 :: s8 :: s9 :: s10 :: s11 :: s12 :: s13 :: s14 :: s15 :: s16 :: s17 :: s18 :: []).toArray, defers := [] } Wt) :
    b.wp Tryd.prog (Exit.then N Q0) { tmps := (.slice at1 n ct :: s1 :: s2 :: .int .i64 (i : Int) :: s4 :: s5 :: s6 :: s7 :: s8 :: s9 :: s10 :: s11 :: s12 :: s13 :: s14 :: s15 :: s16 :: s17 :: s18 :: []).toArray, defers := [] } Wt := by
  have hcc : (Tryd.f18.body.bind (loopFor 0)) = some (_, _) := rfl
  rw [hcc] at hcut
  cases hcut
  clear hcc
  subst ha
  have i0 : (0 : Int) ≤ (i : Int) := by omega
  have i1 : (i : Int) < (n : Int) := by omega
  have hwr : IntKind.i64.wrap ((i : Int) + 1) = (i : Int) + 1 := wrapi (by omega) (by omega)
  have x1 : ¬ (10000 : Int) < (un : Int) := by omega
  have HN := hide hN
  clear hN hl
  go_wp2_with fail
  exact unhide HN _ _ _ _ _ _ _ _ _ _ _ _ _ _ _ _ _
set_option maxRecDepth 100000 in
set_option maxHeartbeats 4000000 in
theorem va_big (at1 : Option Addr) (n ct : Nat) (i : Nat) (b0 o0 : Nat) (ha : at1 = some ⟨b0, o0, none⟩) (ua : Option Addr) (un uc : Nat) (hi : i < n) (hn : n ≤ 1000) (Wt : World) (hc : Wt.cell? ⟨b0, o0 + i, none⟩ = some (.slice ua un uc)) (hl : 10000 < un)
    {s1 s2 s4 s5 s6 s7 s8 s9 s10 s11 s12 s13 s14 s15 s16 s17 s18 : Value} (N : Act → World → Prop) (Q0 : Exit → Act → World → Prop) (b r : Code) (hcut : (Tryd.f18.body.bind (loopFor 0)) = some (b, r)) (hN : ∀ (s0 s1 s3 s4 s5 s6 s7 s8 s9 s10 s11 s12 s13 s14 s15 s16 s17 s18 : Value), Q0 .ret { tmps := (s0 :: s1 :: .bool true :: s3 :: s4 :: s5 :: s6 :: s7 :: s8 :: s9 :: s10 :: s11 :: s12 :: s13 :: s14 :: s15 :: s16 :: s17 :: s18 :: []).toArray, defers := [] } Wt) :
    b.wp Tryd.prog (Exit.then N Q0) { tmps := (.slice at1 n ct :: s1 :: s2 :: .int .i64 (i : Int) :: s4 :: s5 :: s6 :: s7 :: s8 :: s9 :: s10 :: s11 :: s12 :: s13 :: s14 :: s15 :: s16 :: s17 :: s18 :: []).toArray, defers := [] } Wt := by
  have hcc : (Tryd.f18.body.bind (loopFor 0)) = some (_, _) := rfl
  rw [hcc] at hcut
  cases hcut
  clear hcc
  subst ha
  have i0 : (0 : Int) ≤ (i : Int) := by omega
  have i1 : (i : Int) < (n : Int) := by omega
  have hwr : IntKind.i64.wrap ((i : Int) + 1) = (i : Int) + 1 := wrapi (by omega) (by omega)
  have x1 : (10000 : Int) < (un : Int) := by omega
  have HN := hide hN
  clear hN hl
  go_wp2_with fail
  exact unhide HN _ _ _ _ _ _ _ _ _ _ _ _ _ _ _ _ _ _
end Go.Proofs.YtpgokeogijpmaaaDoor.Mx
