/-
  cell.checkMix, whatever it is given; cell.Mix where something is wrong.
-/
import Derived.Test.YtpgokeogijpmaaaDoorCa
namespace Go.Proofs.YtpgokeogijpmaaaDoor.Mx
open Go.RowKit

/-- The first pick that is no task. -/
def pickF (n : Nat) (ps : List Int) : Nat → Nat → Int × Int
  | 0, _ => (0, 0)
  | k + 1, j => if ps.getD j 0 < 0 ∨ (n : Int) ≤ ps.getD j 0 then (3, (j : Int)) else pickF n ps k (j + 1)
theorem pickF_none {n : Nat} {ps : List Int} : ∀ (k j : Nat), (pickF n ps k j).1 = 0 → pickF n ps k j = (0, 0) ∧ ∀ i, j ≤ i → i < j + k → 0 ≤ ps.getD i 0 ∧ ps.getD i 0 < n
  | 0, j, _ => ⟨rfl, fun i h1 h2 => by omega⟩
  | k + 1, j, h => by
    unfold pickF at h ⊢
    by_cases hb : ps.getD j 0 < 0 ∨ (n : Int) ≤ ps.getD j 0
    · rw [if_pos hb] at h; simp at h
    · rw [if_neg hb] at h ⊢
      obtain ⟨h1, h2⟩ := pickF_none k (j + 1) h
      refine ⟨h1, fun i h3 h4 => ?_⟩
      by_cases e : i = j
      · subst e; omega
      · exact h2 i (by omega) (by omega)
/-- What cell.checkMix answers. -/
def mixF (m n : Nat) (tss : List (List Op4)) (ps : List Int) : Int × Int := if 64 < n ∨ 5000 < ps.length then (2, 0) else if (tasksF m tss).1 ≠ 0 then tasksF m tss else pickF n ps ps.length 0

def NxR33 (w : World) (R : Nat) (f : Int × Int) (Q0 : Exit → Act → World → Prop) : Prop := ∀ (s0 s1 s2 s3 s4 s5 s7 s8 s9 s10 s11 s12 s13 s14 s15 s16 s17 s18 s19 s20 s21 s22 s23 s24 s25 s26 s27 s28 s29 s30 s31 s32 s33 s34 s35 s36 s37 s38 s39 s40 s41 s42 s43 s44 : Value) (W' : World), Below w.heap.size w W' → W'.heap[R]? = some (.cells #[.int .i64 f.1, .int .i64 f.2] 27) → Q0 .ret { tmps := (s0 :: s1 :: s2 :: s3 :: s4 :: s5 :: .pointer (some ⟨R, 0, none⟩) :: s7 :: s8 :: s9 :: s10 :: s11 :: s12 :: s13 :: s14 :: s15 :: s16 :: s17 :: s18 :: s19 :: s20 :: s21 :: s22 :: s23 :: s24 :: s25 :: s26 :: s27 :: s28 :: s29 :: s30 :: s31 :: s32 :: s33 :: s34 :: s35 :: s36 :: s37 :: s38 :: s39 :: s40 :: s41 :: s42 :: s43 :: s44 :: []).toArray, defers := [] } W'
set_option maxRecDepth 100000 in
set_option maxHeartbeats 4000000 in
theorem cm_low (w : World) (at1 : Option Addr) (n ct R : Nat) (ap : Option Addr) (p cp : Nat) (j : Nat) (ps : List Int) (hj : j < p) (Wt : World) (hP : IsL KI Wt (.slice ap p cp) ps) (t : Int) (ht : ps.getD j 0 = t) (h0 : t < 0) (hX : Below w.heap.size w Wt) (hR : Wt.heap[R]? = some (.cells #[.int .i64 0, .int .i64 0] 27)) (hw : w.heap.size ≤ R)
    {s0 s2 s3 s4 s5 s7 s8 s9 s10 s11 s12 s13 s14 s15 s16 s17 s18 s19 s20 s21 s22 s23 s24 s25 s29 s30 s31 s32 s33 s34 s35 s36 s37 s38 s39 s40 s41 s42 s43 s44 : Value} (N : Act → World → Prop) (Q0 : Exit → Act → World → Prop) (b r : Code) (hcut : (Tryd.f33.body.bind (loopFor 0)) = some (b, r)) (hN : NxR33 w R (3, (j : Int)) Q0) :
    b.wp Tryd.prog (Exit.then N Q0) { tmps := (s0 :: .slice at1 n ct :: s2 :: s3 :: s4 :: s5 :: .pointer (some ⟨R, 0, none⟩) :: s7 :: s8 :: s9 :: s10 :: s11 :: s12 :: s13 :: s14 :: s15 :: s16 :: s17 :: s18 :: s19 :: s20 :: s21 :: s22 :: s23 :: s24 :: s25 :: .slice ap p cp :: .int .i64 (p : Int) :: .int .i64 (j : Int) :: s29 :: s30 :: s31 :: s32 :: s33 :: s34 :: s35 :: s36 :: s37 :: s38 :: s39 :: s40 :: s41 :: s42 :: s43 :: s44 :: []).toArray, defers := [] } Wt := by
  have hcc : (Tryd.f33.body.bind (loopFor 0)) = some (_, _) := rfl
  rw [hcc] at hcut
  cases hcut
  clear hcc
  have hlen := hP.len
  obtain ⟨b0, o0, rfl, hb0, l0⟩ := hP.opens ki hlen (by omega)
  have c1 := l0.ints (j := j) (by omega)
  rw [ht] at c1
  have i0 : (0 : Int) ≤ (j : Int) := by omega
  have i1 : (j : Int) < (p : Int) := by omega
  obtain ⟨r0, r1, rf0, rf1, rl⟩ := block2 hR
  have HN := hide hN; have HX := hide hX; have HR := hide hR
  clear hN hP l0 hlen ht hX hR
  go_wp2_with fail
  exact unhide HN _ _ _ _ _ _ _ _ _ _ _ _ _ _ _ _ _ _ _ _ _ _ _ _ _ _ _ _ _ _ _ _ _ _ _ _ _ _ _ _ _ _ _ _ _ (put2_below (y0 := .int .i64 3) (y1 := .int .i64 (j : Int)) (unhide HX) hw) (put2_new (unhide HR))
set_option maxRecDepth 100000 in
set_option maxHeartbeats 4000000 in
theorem cm_high (w : World) (at1 : Option Addr) (n ct R : Nat) (ap : Option Addr) (p cp : Nat) (j : Nat) (ps : List Int) (hj : j < p) (Wt : World) (hP : IsL KI Wt (.slice ap p cp) ps) (t : Int) (ht : ps.getD j 0 = t) (h0 : ¬ t < 0) (h1 : (n : Int) ≤ t) (hX : Below w.heap.size w Wt) (hR : Wt.heap[R]? = some (.cells #[.int .i64 0, .int .i64 0] 27)) (hw : w.heap.size ≤ R)
    {s0 s2 s3 s4 s5 s7 s8 s9 s10 s11 s12 s13 s14 s15 s16 s17 s18 s19 s20 s21 s22 s23 s24 s25 s29 s30 s31 s32 s33 s34 s35 s36 s37 s38 s39 s40 s41 s42 s43 s44 : Value} (N : Act → World → Prop) (Q0 : Exit → Act → World → Prop) (b r : Code) (hcut : (Tryd.f33.body.bind (loopFor 0)) = some (b, r)) (hN : NxR33 w R (3, (j : Int)) Q0) :
    b.wp Tryd.prog (Exit.then N Q0) { tmps := (s0 :: .slice at1 n ct :: s2 :: s3 :: s4 :: s5 :: .pointer (some ⟨R, 0, none⟩) :: s7 :: s8 :: s9 :: s10 :: s11 :: s12 :: s13 :: s14 :: s15 :: s16 :: s17 :: s18 :: s19 :: s20 :: s21 :: s22 :: s23 :: s24 :: s25 :: .slice ap p cp :: .int .i64 (p : Int) :: .int .i64 (j : Int) :: s29 :: s30 :: s31 :: s32 :: s33 :: s34 :: s35 :: s36 :: s37 :: s38 :: s39 :: s40 :: s41 :: s42 :: s43 :: s44 :: []).toArray, defers := [] } Wt := by
  have hcc : (Tryd.f33.body.bind (loopFor 0)) = some (_, _) := rfl
  rw [hcc] at hcut
  cases hcut
  clear hcc
  have hlen := hP.len
  obtain ⟨b0, o0, rfl, hb0, l0⟩ := hP.opens ki hlen (by omega)
  have c1 := l0.ints (j := j) (by omega)
  rw [ht] at c1
  have i0 : (0 : Int) ≤ (j : Int) := by omega
  have i1 : (j : Int) < (p : Int) := by omega
  obtain ⟨r0, r1, rf0, rf1, rl⟩ := block2 hR
  have HN := hide hN; have HX := hide hX; have HR := hide hR
  clear hN hP l0 hlen ht hX hR
  go_wp2_with fail
  exact unhide HN _ _ _ _ _ _ _ _ _ _ _ _ _ _ _ _ _ _ _ _ _ _ _ _ _ _ _ _ _ _ _ _ _ _ _ _ _ _ _ _ _ _ _ _ _ (put2_below (y0 := .int .i64 3) (y1 := .int .i64 (j : Int)) (unhide HX) hw) (put2_new (unhide HR))
theorem cm_rounds2 (w : World) (at1 : Option Addr) (n ct R : Nat) (ap : Option Addr) (p cp : Nat) (ps : List Int) (hp : p ≤ 100000) (W0 : World) (hX : Below w.heap.size w W0) (hRt : W0.heap[R]? = some (.cells #[.int .i64 0, .int .i64 0] 27)) (hw : w.heap.size ≤ R) (hP : IsL KI W0 (.slice ap p cp) ps) (f : Int × Int) (Q0 : Exit → Act → World → Prop) (b r : Code) (hcut : (Tryd.f33.body.bind (loopFor 0)) = some (b, r)) (hE : f = (0, 0) → NxBE at1 n ct R ap p cp W0 Q0) (hR : f.1 ≠ 0 → NxR33 w R f Q0) :
    ∀ (k j : Nat), j + k = p → pickF n ps k j = f → ∀ (s0 s2 s3 s4 s5 s7 s8 s9 s10 s11 s12 s13 s14 s15 s16 s17 s18 s19 s20 s21 s22 s23 s24 s25 s29 s30 s31 s32 s33 s34 s35 s36 s37 s38 s39 s40 s41 s42 s43 s44 : Value), Code.rounds Tryd.prog b Q0 (k + 1) { tmps := (s0 :: .slice at1 n ct :: s2 :: s3 :: s4 :: s5 :: .pointer (some ⟨R, 0, none⟩) :: s7 :: s8 :: s9 :: s10 :: s11 :: s12 :: s13 :: s14 :: s15 :: s16 :: s17 :: s18 :: s19 :: s20 :: s21 :: s22 :: s23 :: s24 :: s25 :: .slice ap p cp :: .int .i64 (p : Int) :: .int .i64 (j : Int) :: s29 :: s30 :: s31 :: s32 :: s33 :: s34 :: s35 :: s36 :: s37 :: s38 :: s39 :: s40 :: s41 :: s42 :: s43 :: s44 :: []).toArray, defers := [] } W0 := by
  intro k
  induction k with
  | zero =>
    intro j hj hf
    obtain rfl : j = p := by omega
    intros
    exact cm_end at1 n ct R ap j cp W0 _ Q0 b r hcut (hE hf.symm)
  | succ k ih =>
    intro j hj hf
    intros
    unfold pickF at hf
    by_cases h0 : ps.getD j 0 < 0
    · rw [if_pos (Or.inl h0)] at hf
      subst hf
      exact cm_low w at1 n ct R ap p cp j ps (by omega) W0 hP _ rfl h0 hX hRt hw _ Q0 b r hcut (hR (show (3 : Int) ≠ 0 by decide))
    by_cases h1 : (n : Int) ≤ ps.getD j 0
    · rw [if_pos (Or.inr h1)] at hf
      subst hf
      exact cm_high w at1 n ct R ap p cp j ps (by omega) W0 hP _ rfl h0 h1 hX hRt hw _ Q0 b r hcut (hR (show (3 : Int) ≠ 0 by decide))
    rw [if_neg (by omega)] at hf
    refine cm_round at1 n ct R ap p cp j ps (by omega) hp W0 hP _ rfl (by omega) (by omega) _ Q0 b r hcut ?_
    unfold NxB
    intros
    exact ih (j + 1) (by omega) hf _ _ _ _ _ _ _ _ _ _ _ _ _ _ _ _ _ _ _ _ _ _ _ _ _ _ _ _ _ _ _ _ _ _ _ _ _ _ _ _
set_option maxRecDepth 100000 in
set_option maxHeartbeats 4000000 in
theorem cm_ret (w : World) (R : Nat) (f : Int × Int) (K : Act → World → Prop) (n : Nat) : NxR33 w R f (Exit.inBlock n (Exit.then K (bodyPost Tryd.prog Tryd.f33 fun e w' => e = .returned (.agg #[.int .i64 f.1, .int .i64 f.2]) ∧ Below w.heap.size w w'))) := by
  unfold NxR33
  intros
  rename_i W' hX hR
  have e : ∀ {Q : Exit → Act → World → Prop} {a : Act}, Exit.inBlock n (Exit.then K Q) .ret a W' = Q .ret a W' := by intros; simp [Exit.inBlock, Exit.then]
  rw [e]
  obtain ⟨f0, f1, -, -, -⟩ := block2 hR
  exact bodyPost_ret (v := .agg #[.int .i64 f.1, .int .i64 f.2]) (by simp [results, Tryd.results33, go_sem, f0, f1]) rfl ⟨rfl, hX⟩
theorem cm_loop2 (w : World) (at1 : Option Addr) (n ct R : Nat) (ap : Option Addr) (p cp : Nat) (ps : List Int) (hp : p ≤ 100000) (W0 : World) (hP : IsL KI W0 (.slice ap p cp) ps) (f : Int × Int) (hf : pickF n ps p 0 = f) (hR : W0.heap[R]? = some (.cells #[.int .i64 0, .int .i64 0] 27)) (hw : w.heap.size ≤ R) (hX : Below w.heap.size w W0)
    (K : Act → World → Prop) (b r : Code) (hK : ∀ a w', r.wp Tryd.prog (bodyPost Tryd.prog Tryd.f33 fun e w' => e = .returned (.agg #[.int .i64 f.1, .int .i64 f.2]) ∧ Below w.heap.size w w') a w' → K a w') (hcut : (Tryd.f33.body.bind (loopFor 0)) = some (b, r)) {s0 s2 s3 s4 s5 s7 s8 s9 s10 s11 s12 s13 s14 s15 s16 s17 s18 s19 s20 s21 s22 s23 s24 s25 s29 s30 s31 s32 s33 s34 s35 s36 s37 s38 s39 s40 s41 s42 s43 s44 : Value} :
    (Code.loop b).wp Tryd.prog (Exit.inBlock 0 (Exit.then K (bodyPost Tryd.prog Tryd.f33 fun e w' => e = .returned (.agg #[.int .i64 f.1, .int .i64 f.2]) ∧ Below w.heap.size w w'))) { tmps := (s0 :: .slice at1 n ct :: s2 :: s3 :: s4 :: s5 :: .pointer (some ⟨R, 0, none⟩) :: s7 :: s8 :: s9 :: s10 :: s11 :: s12 :: s13 :: s14 :: s15 :: s16 :: s17 :: s18 :: s19 :: s20 :: s21 :: s22 :: s23 :: s24 :: s25 :: .slice ap p cp :: .int .i64 (p : Int) :: .int .i64 0 :: s29 :: s30 :: s31 :: s32 :: s33 :: s34 :: s35 :: s36 :: s37 :: s38 :: s39 :: s40 :: s41 :: s42 :: s43 :: s44 :: []).toArray, defers := [] } W0 := by
  refine wp_loop_rounds (p + 1) ?_
  refine cm_rounds2 w at1 n ct R ap p cp ps hp W0 hX hR hw hP f _ b r hcut ?_ (fun _ => cm_ret w R f K 0) p 0 (by omega) hf _ _ _ _ _ _ _ _ _ _ _ _ _ _ _ _ _ _ _ _ _ _ _ _ _ _ _ _ _ _ _ _ _ _ _ _ _ _ _ _
  intro hf0
  subst hf0
  unfold NxBE
  intros
  exact in_b0 (hK _ _ (cm_tail w W0 R hR hw hX b r hcut))

set_option maxRecDepth 100000 in
set_option maxHeartbeats 4000000 in
theorem cmx_n (w : World) (a0 : Option Addr) (m c0 : Nat) (at1 : Option Addr) (n ct : Nat) (ap : Option Addr) (p cp : Nat) (h1 : 64 < n) : Calls Tryd.prog 33 #[.slice a0 m c0, .slice at1 n ct, .slice ap p cp] w fun e w' => e = .returned (.agg #[.int .i64 2, .int .i64 0]) ∧ Below w.heap.size w w' := by
  have HK := hide (new_block w (.cells #[.int .i64 0, .int .i64 0] 27))
  have HB := hide ((Below.refl w.heap.size w).alloc (Nat.le_refl _) (.cells #[.int .i64 0, .int .i64 0] 27))
  obtain ⟨r0, r1, rf0, rf1, rl⟩ := block2 (unhide HK)
  have x1 : (64 : Int) < (n : Int) := by omega
  go_enter Tryd.func33, Tryd.ntmps33
  go_wp2_with fail
  exact bodyPost_ret (v := .agg #[.int .i64 2, .int .i64 0]) (by simp [results, Tryd.results33, go_sem]) rfl ⟨rfl, (Below.refl _ _).alloc (Nat.le_refl _) _⟩
set_option maxRecDepth 100000 in
set_option maxHeartbeats 4000000 in
theorem cmx_p (w : World) (a0 : Option Addr) (m c0 : Nat) (at1 : Option Addr) (n ct : Nat) (ap : Option Addr) (p cp : Nat) (h1 : ¬ 64 < n) (h2 : 5000 < p) : Calls Tryd.prog 33 #[.slice a0 m c0, .slice at1 n ct, .slice ap p cp] w fun e w' => e = .returned (.agg #[.int .i64 2, .int .i64 0]) ∧ Below w.heap.size w w' := by
  have HK := hide (new_block w (.cells #[.int .i64 0, .int .i64 0] 27))
  have HB := hide ((Below.refl w.heap.size w).alloc (Nat.le_refl _) (.cells #[.int .i64 0, .int .i64 0] 27))
  obtain ⟨r0, r1, rf0, rf1, rl⟩ := block2 (unhide HK)
  have x1 : ¬ (64 : Int) < (n : Int) := by omega
  have x2 : (5000 : Int) < (p : Int) := by omega
  go_enter Tryd.func33, Tryd.ntmps33
  go_wp2_with fail
  exact bodyPost_ret (v := .agg #[.int .i64 2, .int .i64 0]) (by simp [results, Tryd.results33, go_sem]) rfl ⟨rfl, (Below.refl _ _).alloc (Nat.le_refl _) _⟩
set_option maxRecDepth 100000 in
set_option maxHeartbeats 4000000 in
theorem cmx_tasks (w : World) (a0 : Option Addr) (m c0 : Nat) (at1 : Option Addr) (n ct : Nat) (ap : Option Addr) (p cp : Nat) (us : List Sl) (tss : List (List Op4)) (h1 : ¬ 64 < n) (h2 : ¬ 5000 < p) (hT : IsTs w (.slice at1 n ct) us tss) (hm : m ≤ maxLen) (hl : ∀ i, i < n → (tss.getD i []).length ≤ maxLen) (u v : Int) (hf : tasksF m tss = (u, v)) (hu : u ≠ 0) : Calls Tryd.prog 33 #[.slice a0 m c0, .slice at1 n ct, .slice ap p cp] w fun e w' => e = .returned (.agg #[.int .i64 u, .int .i64 v]) ∧ Below w.heap.size w w' := by
  have HK := hide (new_block w (.cells #[.int .i64 0, .int .i64 0] 27))
  have HB := hide ((Below.refl w.heap.size w).alloc (Nat.le_refl _) (.cells #[.int .i64 0, .int .i64 0] 27))
  have HCT : Hid (Calls Tryd.prog 45 #[.slice a0 m c0, .slice at1 n ct] (w.alloc (.cells #[.int .i64 0, .int .i64 0] 27)) fun e w' => e = .returned (.agg #[.int .i64 u, .int .i64 v]) ∧ Below (w.alloc (.cells #[.int .i64 0, .int .i64 0] 27)).heap.size (w.alloc (.cells #[.int .i64 0, .int .i64 0] 27)) w') := by
    have := checkTasks_any (w.alloc (.cells #[.int .i64 0, .int .i64 0] 27)) a0 m c0 at1 n ct us tss (by omega) (hT.below (unhide HB)) hm hl
    rw [hf] at this
    exact this
  have x1 : ¬ (64 : Int) < (n : Int) := by omega
  have x2 : ¬ (5000 : Int) < (p : Int) := by omega
  have x3 : (u != 0) = true := by simpa using hu
  clear hT hl hf hu
  go_enter Tryd.func33, Tryd.ntmps33
  go_upto_region 4 with (go_at_call 45; refine (unhide HCT).mono ?_; rintro e w2 ⟨rfl, hb2⟩; have HX2 := hide (Below.next (unhide HB) hb2 (Nat.le_refl _)); have HK2 := hide (keep_below (unhide HK) hb2); clear hb2)
  have k9 := new_block w2 (.cells #[.int .i64 u, .int .i64 v] 27)
  obtain ⟨f0, f1, ff0, ff1, fl⟩ := block2 k9
  have HX3 := hide ((unhide HX2).alloc (unhide HX2).size (.cells #[.int .i64 u, .int .i64 v] 27))
  obtain ⟨r0, r1, rf0, rf1, rl⟩ := block2 (keep_alloc (unhide HK2) (.cells #[.int .i64 u, .int .i64 v] 27))
  clear k9
  go_wp2_with fail
  exact bodyPost_ret (v := .agg #[.int .i64 u, .int .i64 v]) (by simp [results, Tryd.results33, go_sem, r0, r1]) rfl ⟨rfl, put2_below (y0 := .int .i64 u) (y1 := .int .i64 v) (unhide HX3) (Nat.le_refl _)⟩
set_option maxRecDepth 100000 in
set_option maxHeartbeats 4000000 in
theorem cmx_picks (w : World) (a0 : Option Addr) (m c0 : Nat) (at1 : Option Addr) (n ct : Nat) (ap : Option Addr) (p cp : Nat) (us : List Sl) (tss : List (List Op4)) (ps : List Int) (h1 : ¬ 64 < n) (h2 : ¬ 5000 < p) (hT : IsTs w (.slice at1 n ct) us tss) (hm : m ≤ maxLen) (hl : ∀ i, i < n → (tss.getD i []).length ≤ maxLen) (hf : tasksF m tss = (0, 0)) (hP : IsL KI w (.slice ap p cp) ps) : Calls Tryd.prog 33 #[.slice a0 m c0, .slice at1 n ct, .slice ap p cp] w fun e w' => e = .returned (.agg #[.int .i64 (pickF n ps p 0).1, .int .i64 (pickF n ps p 0).2]) ∧ Below w.heap.size w w' := by
  have HK := hide (new_block w (.cells #[.int .i64 0, .int .i64 0] 27))
  have HB := hide ((Below.refl w.heap.size w).alloc (Nat.le_refl _) (.cells #[.int .i64 0, .int .i64 0] 27))
  have HP := hide hP
  have HCT : Hid (Calls Tryd.prog 45 #[.slice a0 m c0, .slice at1 n ct] (w.alloc (.cells #[.int .i64 0, .int .i64 0] 27)) fun e w' => e = .returned (.agg #[.int .i64 0, .int .i64 0]) ∧ Below (w.alloc (.cells #[.int .i64 0, .int .i64 0] 27)).heap.size (w.alloc (.cells #[.int .i64 0, .int .i64 0] 27)) w') := by
    have := checkTasks_any (w.alloc (.cells #[.int .i64 0, .int .i64 0] 27)) a0 m c0 at1 n ct us tss (by omega) (hT.below (unhide HB)) hm hl
    rw [hf] at this
    exact this
  have x1 : ¬ (64 : Int) < (n : Int) := by omega
  have x2 : ¬ (5000 : Int) < (p : Int) := by omega
  obtain ⟨f, ef⟩ : ∃ f, pickF n ps p 0 = f := ⟨_, rfl⟩
  rw [ef]
  have HF := hide ef
  clear hT hl hf hP ef
  go_enter Tryd.func33, Tryd.ntmps33
  go_upto_region 4 with (go_at_call 45; refine (unhide HCT).mono ?_; rintro e w2 ⟨rfl, hb2⟩; have HX2 := hide (Below.next (unhide HB) hb2 (Nat.le_refl _)); have HK2 := hide (keep_below (unhide HK) hb2); clear hb2)
  have k9 := new_block w2 (.cells #[.int .i64 0, .int .i64 0] 27)
  obtain ⟨f0, f1, ff0, ff1, fl⟩ := block2 k9
  have HX3 := hide ((unhide HX2).alloc (unhide HX2).size (.cells #[.int .i64 0, .int .i64 0] 27))
  have HK3 := hide (keep_alloc (unhide HK2) (.cells #[.int .i64 0, .int .i64 0] 27))
  clear k9
  go_wp2_with fail
  exact cm_loop2 w at1 n ct w.heap.size ap p cp ps (by omega) _ ((unhide HP).below (unhide HX3)) f (unhide HF) (unhide HK3) (Nat.le_refl _) (unhide HX3) _ _ _ (by assumption) (by kernel_rfl)
theorem checkMix_any (w : World) (a0 : Option Addr) (m c0 : Nat) (at1 : Option Addr) (n ct : Nat) (ap : Option Addr) (p cp : Nat) (us : List Sl) (tss : List (List Op4)) (ps : List Int) (hT : IsTs w (.slice at1 n ct) us tss) (hm : m ≤ maxLen) (hl : ∀ i, i < n → (tss.getD i []).length ≤ maxLen) (hP : IsL KI w (.slice ap p cp) ps) : Calls Tryd.prog 33 #[.slice a0 m c0, .slice at1 n ct, .slice ap p cp] w fun e w' => e = .returned (.agg #[.int .i64 (mixF m n tss ps).1, .int .i64 (mixF m n tss ps).2]) ∧ Below w.heap.size w w' := by
  have hlp := hP.len
  unfold mixF
  rw [hlp]
  by_cases h1 : 64 < n
  · rw [if_pos (Or.inl h1)]
    exact cmx_n w a0 m c0 at1 n ct ap p cp h1
  by_cases h2 : 5000 < p
  · rw [if_pos (Or.inr h2)]
    exact cmx_p w a0 m c0 at1 n ct ap p cp h1 h2
  rw [if_neg (by omega)]
  by_cases hf : (tasksF m tss).1 ≠ 0
  · rw [if_pos hf]
    exact cmx_tasks w a0 m c0 at1 n ct ap p cp us tss h1 h2 hT hm hl _ _ rfl hf
  · rw [if_neg hf]
    exact cmx_picks w a0 m c0 at1 n ct ap p cp us tss ps h1 h2 hT hm hl (tasksF_zero (by simpa using hf)) hP

set_option maxRecDepth 100000 in
set_option maxHeartbeats 4000000 in
theorem mix_fault (w : World) (a0 : Option Addr) (m c0 : Nat) (at1 : Option Addr) (n ct : Nat) (ap : Option Addr) (p cp : Nat) (us : List Sl) (tss : List (List Op4)) (ps : List Int) (hT : IsTs w (.slice at1 n ct) us tss) (hm : m ≤ maxLen) (hl : ∀ i, i < n → (tss.getD i []).length ≤ maxLen) (hP : IsL KI w (.slice ap p cp) ps) (u v : Int) (hf : mixF m n tss ps = (u, v)) (hu : u ≠ 0) : Calls Tryd.prog 19 #[.slice a0 m c0, .slice at1 n ct, .slice ap p cp] w fun e w' => e = .returned (.tuple #[.slice none 0 0, .slice none 0 0, .agg #[.int .i64 u, .int .i64 v]]) ∧ Below w.heap.size w w' := by
  have HK := hide (new_block w (.cells #[.int .i64 0, .int .i64 0] 27))
  have HB := hide ((Below.refl w.heap.size w).alloc (Nat.le_refl _) (.cells #[.int .i64 0, .int .i64 0] 27))
  have HCM : Hid (Calls Tryd.prog 33 #[.slice a0 m c0, .slice at1 n ct, .slice ap p cp] (w.alloc (.cells #[.int .i64 0, .int .i64 0] 27)) fun e w' => e = .returned (.agg #[.int .i64 u, .int .i64 v]) ∧ Below (w.alloc (.cells #[.int .i64 0, .int .i64 0] 27)).heap.size (w.alloc (.cells #[.int .i64 0, .int .i64 0] 27)) w') := by
    have := checkMix_any (w.alloc (.cells #[.int .i64 0, .int .i64 0] 27)) a0 m c0 at1 n ct ap p cp us tss ps (hT.below (unhide HB)) hm hl (hP.below (unhide HB))
    rw [hf] at this
    exact this
  have x3 : (u != 0) = true := by simpa using hu
  clear hT hl hf hu hP
  go_enter Tryd.func19, Tryd.ntmps19
  go_upto_region 2 with (go_at_call 33; refine (unhide HCM).mono ?_; rintro e w2 ⟨rfl, hb2⟩; have HX2 := hide (Below.next (unhide HB) hb2 (Nat.le_refl _)); have HK2 := hide (keep_below (unhide HK) hb2); clear hb2)
  have k9 := new_block w2 (.cells #[.int .i64 u, .int .i64 v] 27)
  obtain ⟨f0, f1, ff0, ff1, fl⟩ := block2 k9
  have HX3 := hide ((unhide HX2).alloc (unhide HX2).size (.cells #[.int .i64 u, .int .i64 v] 27))
  obtain ⟨r0, r1, rf0, rf1, rl⟩ := block2 (keep_alloc (unhide HK2) (.cells #[.int .i64 u, .int .i64 v] 27))
  clear k9
  go_upto_region 3 with fail
  go_region
  all_goals
    go_wp2_with fail
    exact bodyPost_ret (v := .tuple #[.slice none 0 0, .slice none 0 0, .agg #[.int .i64 u, .int .i64 v]]) (by simp [results, Tryd.results19, go_sem, r0, r1]) rfl ⟨rfl, (put2_below (y0 := .int .i64 u) (y1 := .int .i64 v) (unhide HX3) (Nat.le_refl _)).drew⟩

end Go.Proofs.YtpgokeogijpmaaaDoor.Mx
