/-
  taskmilllaw.vastTasks.
-/
import Derived.Test.YtpgokeogijpmaaaDoorCc
namespace Go.Proofs.YtpgokeogijpmaaaDoor.Mx
open Go.RowKit

set_option maxRecDepth 100000 in
set_option maxHeartbeats 4000000 in
theorem va_end (at1 : Option Addr) (n ct : Nat) (Wt : World)
    {s1 s2 s4 s5 s6 s7 s8 s9 s10 s11 s12 s13 s14 s15 s16 s17 s18 : Value} (N : Act → World → Prop) (Q0 : Exit → Act → World → Prop) (b r : Code) (hcut : (Tryd.f18.body.bind (loopFor 0)) = some (b, r)) (hE : ∀ (s1 s2 s4 s5 s6 s7 s8 s9 s10 s11 s12 s13 s14 s15 s16 s17 s18 : Value), Q0 (.exit 0) { tmps := (.slice at1 n ct :: s1 :: s2 :: .int .i64 (n : Int) :: s4 :: s5 :: s6 :: s7 :: s8 :: s9 :: s10 :: s11 :: s12 :: s13 :: s14 :: s15 :: s16 :: s17 :: s18 :: []).toArray, defers := [] } Wt) :
    b.wp Tryd.prog (Exit.then N Q0) { tmps := (.slice at1 n ct :: s1 :: s2 :: .int .i64 (n : Int) :: s4 :: s5 :: s6 :: s7 :: s8 :: s9 :: s10 :: s11 :: s12 :: s13 :: s14 :: s15 :: s16 :: s17 :: s18 :: []).toArray, defers := [] } Wt := by
  have hcc : (Tryd.f18.body.bind (loopFor 0)) = some (_, _) := rfl
  rw [hcc] at hcut
  cases hcut
  clear hcc
  have HE := hide hE
  clear hE
  have i1 : ¬ (n : Int) < (n : Int) := by omega
  go_wp2_with fail
  exact unhide HE _ _ _ _ _ _ _ _ _ _ _ _ _ _ _ _ _
theorem va_rounds (at1 : Option Addr) (n ct : Nat) (us : List Sl) (tss : List (List Op4)) (hn : n ≤ 1000) (Wt : World) (hT : IsTs Wt (.slice at1 n ct) us tss) (Q0 : Exit → Act → World → Prop) (b r : Code) (hcut : (Tryd.f18.body.bind (loopFor 0)) = some (b, r)) (hE : (∀ i, i < n → ¬ 10000 < (tss.getD i []).length) → ∀ (s1 s2 s4 s5 s6 s7 s8 s9 s10 s11 s12 s13 s14 s15 s16 s17 s18 : Value), Q0 (.exit 0) { tmps := (.slice at1 n ct :: s1 :: s2 :: .int .i64 (n : Int) :: s4 :: s5 :: s6 :: s7 :: s8 :: s9 :: s10 :: s11 :: s12 :: s13 :: s14 :: s15 :: s16 :: s17 :: s18 :: []).toArray, defers := [] } Wt) (hR : (∃ i, i < n ∧ 10000 < (tss.getD i []).length) → ∀ (s0 s1 s3 s4 s5 s6 s7 s8 s9 s10 s11 s12 s13 s14 s15 s16 s17 s18 : Value), Q0 .ret { tmps := (s0 :: s1 :: .bool true :: s3 :: s4 :: s5 :: s6 :: s7 :: s8 :: s9 :: s10 :: s11 :: s12 :: s13 :: s14 :: s15 :: s16 :: s17 :: s18 :: []).toArray, defers := [] } Wt) :
    ∀ (k i : Nat), i + k = n → (∀ j, j < i → ¬ 10000 < (tss.getD j []).length) → ∀ (s1 s2 s4 s5 s6 s7 s8 s9 s10 s11 s12 s13 s14 s15 s16 s17 s18 : Value), Code.rounds Tryd.prog b Q0 (k + 1) { tmps := (.slice at1 n ct :: s1 :: s2 :: .int .i64 (i : Int) :: s4 :: s5 :: s6 :: s7 :: s8 :: s9 :: s10 :: s11 :: s12 :: s13 :: s14 :: s15 :: s16 :: s17 :: s18 :: []).toArray, defers := [] } Wt := by
  intro k
  induction k with
  | zero =>
    intro i hi hj
    obtain rfl : i = n := by omega
    intros
    exact va_end at1 i ct Wt _ Q0 b r hcut (hE hj)
  | succ k ih =>
    intro i hi hj
    intros
    have hlen := hT.row.len
    have hlu := hT.len
    obtain ⟨b0, o0, ha, hb0, l0⟩ := hT.row.opens kq hlen (by omega)
    have c0' := l0.sls (j := i) (by omega)
    have hops := hT.each i (by omega)
    obtain ⟨⟨ua, un, uc⟩, eu⟩ : ∃ u, uAt us i = u := ⟨_, rfl⟩
    rw [eu] at c0' hops
    have hun : un = (tss.getD i []).length := by
      obtain ⟨a', c', e⟩ := Rd.form hops
      unfold sl at e
      injection e
    by_cases hb : 10000 < un
    · exact va_big at1 n ct i b0 o0 ha ua un uc (by omega) hn Wt c0' hb _ Q0 b r hcut (hR ⟨i, by omega, by omega⟩)
    · refine va_go at1 n ct i b0 o0 ha ua un uc (by omega) hn Wt c0' hb _ Q0 b r hcut ?_
      intros
      exact ih (i + 1) (by omega) (fun j hj' => if e : j = i then by rw [e]; omega else hj j (by omega)) _ _ _ _ _ _ _ _ _ _ _ _ _ _ _ _ _
set_option maxRecDepth 100000 in
set_option maxHeartbeats 4000000 in
theorem va_tail (w : World)
    {s0 s1 s2 s3 s4 s5 s6 s7 s8 s9 s10 s11 s12 s13 s14 s15 s16 s17 s18 : Value} (b r : Code) (hcut : (Tryd.f18.body.bind (loopFor 0)) = some (b, r)) :
    r.wp Tryd.prog (bodyPost Tryd.prog Tryd.f18 fun e w' => e = .returned (.bool false) ∧ Below w.heap.size w w') { tmps := (s0 :: s1 :: s2 :: s3 :: s4 :: s5 :: s6 :: s7 :: s8 :: s9 :: s10 :: s11 :: s12 :: s13 :: s14 :: s15 :: s16 :: s17 :: s18 :: []).toArray, defers := [] } w := by
  have hcc : (Tryd.f18.body.bind (loopFor 0)) = some (_, _) := rfl
  rw [hcc] at hcut
  cases hcut
  clear hcc
  go_wp2_with fail
  go_ret
  exact ⟨rfl, Below.refl _ _⟩
set_option maxRecDepth 100000 in
set_option maxHeartbeats 4000000 in
theorem va_ret (w : World) (B : Bool) (hB : B = true) (K : Act → World → Prop) (n : Nat) {s0 s1 s3 s4 s5 s6 s7 s8 s9 s10 s11 s12 s13 s14 s15 s16 s17 s18 : Value} : Exit.inBlock n (Exit.then K (bodyPost Tryd.prog Tryd.f18 fun e w' => e = .returned (.bool B) ∧ Below w.heap.size w w')) .ret { tmps := (s0 :: s1 :: .bool true :: s3 :: s4 :: s5 :: s6 :: s7 :: s8 :: s9 :: s10 :: s11 :: s12 :: s13 :: s14 :: s15 :: s16 :: s17 :: s18 :: []).toArray, defers := [] } w := by
  have e : ∀ {Q : Exit → Act → World → Prop} {a : Act}, Exit.inBlock n (Exit.then K Q) .ret a w = Q .ret a w := by intros; simp [Exit.inBlock, Exit.then]
  rw [e]
  subst hB
  go_ret
  exact ⟨rfl, Below.refl _ _⟩
theorem va_loop (w : World) (at1 : Option Addr) (n ct : Nat) (us : List Sl) (tss : List (List Op4)) (hn : n ≤ 1000) (hT : IsTs w (.slice at1 n ct) us tss) (B : Bool) (hB : (B = true) ↔ ∃ i, i < n ∧ 10000 < (tss.getD i []).length)
    (K : Act → World → Prop) (b r : Code) (hK : ∀ a w', r.wp Tryd.prog (bodyPost Tryd.prog Tryd.f18 fun e w' => e = .returned (.bool B) ∧ Below w.heap.size w w') a w' → K a w') (hcut : (Tryd.f18.body.bind (loopFor 0)) = some (b, r)) {s1 s2 s4 s5 s6 s7 s8 s9 s10 s11 s12 s13 s14 s15 s16 s17 s18 : Value} :
    (Code.loop b).wp Tryd.prog (Exit.inBlock 0 (Exit.then K (bodyPost Tryd.prog Tryd.f18 fun e w' => e = .returned (.bool B) ∧ Below w.heap.size w w'))) { tmps := (.slice at1 n ct :: s1 :: s2 :: .int .i64 0 :: s4 :: s5 :: s6 :: s7 :: s8 :: s9 :: s10 :: s11 :: s12 :: s13 :: s14 :: s15 :: s16 :: s17 :: s18 :: []).toArray, defers := [] } w := by
  refine wp_loop_rounds (n + 1) ?_
  refine va_rounds at1 n ct us tss hn w hT _ b r hcut ?_ (fun h => by intros; exact va_ret w B (hB.2 h) K 0) n 0 (by omega) (fun j hj => by omega) _ _ _ _ _ _ _ _ _ _ _ _ _ _ _ _ _
  intro hall
  intros
  have hBf : B = false := by
    cases hb : B with
    | false => rfl
    | true =>
      obtain ⟨i, h1, h2⟩ := hB.1 hb
      exact absurd h2 (hall i h1)
  subst hBf
  exact in_b0 (hK _ _ (va_tail w b r hcut))
set_option maxRecDepth 100000 in
set_option maxHeartbeats 4000000 in
theorem vast_big (w : World) (at1 : Option Addr) (n ct : Nat) (hn : 1000 < n) : Calls Tryd.prog 18 #[.slice at1 n ct] w fun e w' => e = .returned (.bool true) ∧ Below w.heap.size w w' := by
  have x1 : (1000 : Int) < (n : Int) := by omega
  go_enter Tryd.func18, Tryd.ntmps18
  go_wp2_with fail
  go_ret
  exact ⟨rfl, Below.refl _ _⟩
set_option maxRecDepth 100000 in
set_option maxHeartbeats 4000000 in
theorem vast_any (w : World) (at1 : Option Addr) (n ct : Nat) (us : List Sl) (tss : List (List Op4)) (hn : ¬ 1000 < n) (hT : IsTs w (.slice at1 n ct) us tss) (B : Bool) (hB : (B = true) ↔ ∃ i, i < n ∧ 10000 < (tss.getD i []).length) : Calls Tryd.prog 18 #[.slice at1 n ct] w fun e w' => e = .returned (.bool B) ∧ Below w.heap.size w w' := by
  have x1 : ¬ (1000 : Int) < (n : Int) := by omega
  have HT := hide hT; have HB := hide hB
  clear hT hB
  go_enter Tryd.func18, Tryd.ntmps18
  go_wp2_with fail
  exact va_loop w at1 n ct us tss (by omega) (unhide HT) B (unhide HB) _ _ _ (by assumption) (by kernel_rfl)

end Go.Proofs.YtpgokeogijpmaaaDoor.Mx
