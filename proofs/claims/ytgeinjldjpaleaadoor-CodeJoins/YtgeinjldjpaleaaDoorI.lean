/-
  What a step does; what is wrong with a run.
-/
import Derived.Test.YtgeinjldjpaleaaDoorH
namespace Go.Proofs.YtgeinjldjpaleaaDoor
open Go.RowKit

/-- What a step does: the next instruction, the registers. -/
def stepF (i : In) (pc : Int) (r : Nat → Int) : Int × (Nat → Int) :=
  if i.1 = 1 then (pc + 1, upd r i.2.1.toNat i.2.2) else if i.1 = 2 then (pc + 1, upd r i.2.1.toNat (r i.2.2.toNat)) else if i.1 = 3 then (pc + 1, upd r i.2.1.toNat (wrap64 (r i.2.1.toNat + r i.2.2.toNat)))
  else if i.1 = 4 then (pc + 1, upd r i.2.1.toNat (wrap64 (r i.2.1.toNat - r i.2.2.toNat))) else if i.1 = 5 then (pc + 1, upd r i.2.1.toNat (lessI (r i.2.1.toNat) (r i.2.2.toNat))) else if i.1 = 6 then (i.2.1, r)
  else if r i.2.1.toNat = 0 then (i.2.2, r) else (pc + 1, r)
theorem fits_reg {p : Pg} {x : Int} (h : fitsB p 1 x = true) : ∃ A : Nat, x = A ∧ A < 8 := by
  have h1 : (1 : Int) = 2 ∨ (0 ≤ x ∧ x ≤ roomN p 1 - 1) := of_decide_eq_true h
  have h2 : roomN p 1 = 8 := rfl
  rw [h2] at h1
  exact ⟨x.toNat, by omega, by omega⟩
theorem fits_code {p : Pg} {x : Int} (h : fitsB p 3 x = true) : 0 ≤ x ∧ x < p.code.length := by
  have h1 : (3 : Int) = 2 ∨ (0 ≤ x ∧ x ≤ roomN p 3 - 1) := of_decide_eq_true h
  have h2 : roomN p 3 = p.code.length := rfl
  rw [h2] at h1
  omega
theorem wrong_none {p : Pg} {i : In} (h : wrongF p i = 0) : (1 ≤ i.1 ∧ i.1 < 23) ∧ fitsB p (ka i.1.toNat) i.2.1 = true ∧ fitsB p (kb i.1.toNat) i.2.2 = true := by
  unfold wrongF at h
  by_cases h1 : 1 ≤ i.1 ∧ i.1 < 23
  · rw [if_pos h1] at h
    by_cases h2 : fitsB p (ka i.1.toNat) i.2.1 = true ∧ fitsB p (kb i.1.toNat) i.2.2 = true
    · exact ⟨h1, h2⟩
    · rw [if_neg h2] at h; cases h
  · rw [if_neg h1] at h; cases h
/-- Where a step goes on to. -/
theorem step_pc {p : Pg} {i : In} (h : wrongF p i = 0) (ha : 1 ≤ i.1 ∧ i.1 ≤ 7) {pc : Int} (h0 : 0 ≤ pc) (h1 : pc < p.code.length) (r : Nat → Int) : 0 ≤ (stepF i pc r).1 ∧ (stepF i pc r).1 ≤ p.code.length := by
  obtain ⟨op, x, y⟩ := i
  obtain ⟨-, hx, hy⟩ := wrong_none h
  simp only at ha hx hy
  unfold stepF
  simp only
  by_cases e6 : op = 6
  · subst e6
    have := fits_code (x := x) hx
    simp
    omega
  by_cases e7 : op = 7
  · subst e7
    have := fits_code (x := y) hy
    simp
    split <;> simp <;> omega
  repeat' split
  all_goals first | (simp; omega) | (exfalso; omega)
theorem step_any (w : World) (p : Pg) (i : In) (h : wrongF p i = 0) (ha : 1 ≤ i.1 ∧ i.1 ≤ 7) (pc : Int) (r : Nat → Int) (hp0 : 0 ≤ pc) (hp1 : pc ≤ 2000) :
    Calls Tryd.prog 27 #[.agg #[.int .i64 i.1, .int .i64 i.2.1, .int .i64 i.2.2], .int .i64 pc, rv r] w fun e w' => e = .returned (.tuple #[.int .i64 (stepF i pc r).1, rv (stepF i pc r).2]) ∧ Below w.heap.size w w' := by
  obtain ⟨op, x, y⟩ := i
  obtain ⟨-, hx, hy⟩ := wrong_none h
  simp only at ha hx hy ⊢
  have hop : op = 1 ∨ op = 2 ∨ op = 3 ∨ op = 4 ∨ op = 5 ∨ op = 6 ∨ op = 7 := by omega
  rcases hop with rfl | rfl | rfl | rfl | rfl | rfl | rfl
  · obtain ⟨A, rfl, hA⟩ := fits_reg (p := p) (x := x) hx
    exact step1 w A y pc r hp0 hp1 hA
  · obtain ⟨A, rfl, hA⟩ := fits_reg (p := p) (x := x) hx
    obtain ⟨B, rfl, hB⟩ := fits_reg (p := p) (x := y) hy
    exact step2 w A B pc r hp0 hp1 hA hB
  · obtain ⟨A, rfl, hA⟩ := fits_reg (p := p) (x := x) hx
    obtain ⟨B, rfl, hB⟩ := fits_reg (p := p) (x := y) hy
    exact step3 w A B pc r hp0 hp1 hA hB
  · obtain ⟨A, rfl, hA⟩ := fits_reg (p := p) (x := x) hx
    obtain ⟨B, rfl, hB⟩ := fits_reg (p := p) (x := y) hy
    exact step4 w A B pc r hp0 hp1 hA hB
  · obtain ⟨A, rfl, hA⟩ := fits_reg (p := p) (x := x) hx
    obtain ⟨B, rfl, hB⟩ := fits_reg (p := p) (x := y) hy
    exact step5 w A B pc r hp0 hp1 hA hB
  · exact step6 w x y pc r
  · obtain ⟨A, rfl, hA⟩ := fits_reg (p := p) (x := x) hx
    by_cases h0 : r A = 0
    · have e : stepF (7, (A : Int), y) pc r = (y, r) := by unfold stepF; simp [h0]
      rw [e]
      exact step7a w A y pc r hp0 hp1 hA h0
    · have e : stepF (7, (A : Int), y) pc r = (pc + 1, r) := by unfold stepF; simp [h0]
      rw [e]
      exact step7b w A y pc r hp0 hp1 hA h0

/-- What is wrong with a run. -/
def runFault (p : Pg) (pc fuel : Int) : Int × Int := if (checkF p).1 ≠ 0 then checkF p else if (0 ≤ pc ∧ pc ≤ p.code.length) ∧ (0 ≤ fuel ∧ fuel ≤ 5000) then (0, 0) else (3, -1)

set_option maxRecDepth 100000 in
set_option maxHeartbeats 1000000 in
theorem checkRun1 (w : World) (v : Value) (p : Pg) (h : IsP w v p) (ht : Tabs w) (hn : p.code.length ≤ maxLen) (hm : p.pipes.length ≤ maxLen) (pc fuel : Int) (F0 F1 : Int) (hF : checkF p = (F0, F1)) (h0 : ¬ F0 = 0) :
    Calls Tryd.prog 25 #[v, .int .i64 pc, .int .i64 fuel] w fun e w' => e = .returned (faultV (F0, F1)) ∧ Below w.heap.size w w' := by
  obtain ⟨a, c, b, d, rfl, hc, hp⟩ := h.form
  obtain ⟨W0, e0, hB, k0, k1⟩ := two_new w (.cells #[.slice a p.code.length c, .int .i64 p.cells, .slice b p.pipes.length d, .int .i64 p.locks, .int .i64 p.groups] 25) (.cells #[.int .i64 0, .int .i64 0] 31)
  have HX := hide hB; have HE := hide e0; have HK := hide k0; have HF := hide k1
  have HC := hide fun W (hW : Below w.heap.size w W) => check_any W _ p (h.below hW) (ht.below hW) hn hm
  rw [hF] at HC
  unfold faultV at HC
  have h0' : (F0 == 0) = false := by simpa using h0
  clear hB e0 k0 k1 h hc hp ht hn hm hF
  go_enter Tryd.func25, Tryd.ntmps25
  go_upto_region 1 with fail
  rw [unhide HE]
  clear HE
  obtain ⟨⟨q0, q1, q2, q3, q4⟩, ql⟩ := block5 (unhide HK)
  obtain ⟨p0, p1, f0, f1, pl⟩ := block2 (unhide HF)
  go_upto_region 2 with (go_at_call 10; refine (unhide HC _ (unhide HX)).mono ?_; rintro e w1 ⟨rfl, b1⟩; have HX1 := hide ((unhide HX).trans (b1.mono (unhide HX).size)); have HK1 := hide (keep_below (unhide HK) b1); have HF1 := hide (keep_below (unhide HF) b1); clear b1 q0 q1 q2 q3 q4 p0 p1 f0 f1)
  obtain ⟨W2, e2, b2, k2⟩ := one_new w1 (.cells #[.int .i64 F0, .int .i64 F1] 31)
  rw [e2]
  have HX2 := hide ((unhide HX1).trans (b2.mono (unhide HX1).size))
  obtain ⟨⟨q0, q1, q2, q3, q4⟩, ql⟩ := block5 (keep_below (unhide HK1) b2)
  obtain ⟨p0, p1, f0, f1, pl⟩ := block2 (keep_below (unhide HF1) b2)
  obtain ⟨g0, g1, -, -, gl⟩ := block2 k2
  clear e2 b2 k2 HK1 HF1 HX1
  go_wp2_with fail
  exact bodyPost_ret (v := .agg #[.int .i64 (F0), .int .i64 (F1)]) (by simp [results, Tryd.results25, go_sem, p0, p1]) rfl ⟨rfl, below_set2 (unhide HX2) (Nat.le_succ _) _ _⟩

set_option maxRecDepth 100000 in
set_option maxHeartbeats 1000000 in
theorem checkRun2 (w : World) (v : Value) (p : Pg) (h : IsP w v p) (ht : Tabs w) (hn : p.code.length ≤ maxLen) (hm : p.pipes.length ≤ maxLen) (pc fuel : Int) (hF : checkF p = (0, 0)) (h1 : 0 ≤ pc ∧ pc ≤ p.code.length) (h2 : 0 ≤ fuel ∧ fuel ≤ 5000) :
    Calls Tryd.prog 25 #[v, .int .i64 pc, .int .i64 fuel] w fun e w' => e = .returned (faultV (0, 0)) ∧ Below w.heap.size w w' := by
  obtain ⟨a, c, b, d, rfl, hc, hp⟩ := h.form
  obtain ⟨W0, e0, hB, k0, k1⟩ := two_new w (.cells #[.slice a p.code.length c, .int .i64 p.cells, .slice b p.pipes.length d, .int .i64 p.locks, .int .i64 p.groups] 25) (.cells #[.int .i64 0, .int .i64 0] 31)
  have HX := hide hB; have HE := hide e0; have HK := hide k0; have HF := hide k1
  have HC := hide fun W (hW : Below w.heap.size w W) => check_any W _ p (h.below hW) (ht.below hW) hn hm
  rw [hF] at HC
  unfold faultV at HC
  have HA1 := hide fun W => within_any W pc 0 p.code.length
  rw [decide_eq_true h1] at HA1
  have HA2 := hide fun W => within_any W fuel 0 5000
  rw [decide_eq_true h2] at HA2
  clear h1 h2
  unfold maxLen at hn
  clear hB e0 k0 k1 h hc hp ht hm hF
  go_enter Tryd.func25, Tryd.ntmps25
  go_upto_region 1 with fail
  rw [unhide HE]
  clear HE
  obtain ⟨⟨q0, q1, q2, q3, q4⟩, ql⟩ := block5 (unhide HK)
  obtain ⟨p0, p1, f0, f1, pl⟩ := block2 (unhide HF)
  go_upto_region 2 with (go_at_call 10; refine (unhide HC _ (unhide HX)).mono ?_; rintro e w1 ⟨rfl, b1⟩; have HX1 := hide ((unhide HX).trans (b1.mono (unhide HX).size)); have HK1 := hide (keep_below (unhide HK) b1); have HF1 := hide (keep_below (unhide HF) b1); clear b1 q0 q1 q2 q3 q4 p0 p1 f0 f1)
  obtain ⟨W2, e2, b2, k2⟩ := one_new w1 (.cells #[.int .i64 0, .int .i64 0] 31)
  rw [e2]
  have HX2 := hide ((unhide HX1).trans (b2.mono (unhide HX1).size))
  obtain ⟨⟨q0, q1, q2, q3, q4⟩, ql⟩ := block5 (keep_below (unhide HK1) b2)
  obtain ⟨p0, p1, f0, f1, pl⟩ := block2 (keep_below (unhide HF1) b2)
  obtain ⟨g0, g1, -, -, gl⟩ := block2 k2
  clear e2 b2 k2 HK1 HF1 HX1
  go_wp2_with (first
    | (go_at_call 23; refine (unhide HA1 _).mono ?_; rintro e w1 ⟨rfl, rfl⟩; clear HA1)
    | (go_at_call 23; refine (unhide HA2 _).mono ?_; rintro e w1 ⟨rfl, rfl⟩; clear HA2))
  exact bodyPost_ret (v := .agg #[.int .i64 (0), .int .i64 (0)]) (by simp [results, Tryd.results25, go_sem, p0, p1]) rfl ⟨rfl, below_set2 (unhide HX2) (Nat.le_succ _) _ _⟩

set_option maxRecDepth 100000 in
set_option maxHeartbeats 1000000 in
theorem checkRun3 (w : World) (v : Value) (p : Pg) (h : IsP w v p) (ht : Tabs w) (hn : p.code.length ≤ maxLen) (hm : p.pipes.length ≤ maxLen) (pc fuel : Int) (hF : checkF p = (0, 0)) (h1 : ¬ (0 ≤ pc ∧ pc ≤ p.code.length)) :
    Calls Tryd.prog 25 #[v, .int .i64 pc, .int .i64 fuel] w fun e w' => e = .returned (faultV (3, -1)) ∧ Below w.heap.size w w' := by
  obtain ⟨a, c, b, d, rfl, hc, hp⟩ := h.form
  obtain ⟨W0, e0, hB, k0, k1⟩ := two_new w (.cells #[.slice a p.code.length c, .int .i64 p.cells, .slice b p.pipes.length d, .int .i64 p.locks, .int .i64 p.groups] 25) (.cells #[.int .i64 0, .int .i64 0] 31)
  have HX := hide hB; have HE := hide e0; have HK := hide k0; have HF := hide k1
  have HC := hide fun W (hW : Below w.heap.size w W) => check_any W _ p (h.below hW) (ht.below hW) hn hm
  rw [hF] at HC
  unfold faultV at HC
  have HA1 := hide fun W => within_any W pc 0 p.code.length
  rw [decide_eq_false h1] at HA1
  clear h1
  unfold maxLen at hn
  clear hB e0 k0 k1 h hc hp ht hm hF
  go_enter Tryd.func25, Tryd.ntmps25
  go_upto_region 1 with fail
  rw [unhide HE]
  clear HE
  obtain ⟨⟨q0, q1, q2, q3, q4⟩, ql⟩ := block5 (unhide HK)
  obtain ⟨p0, p1, f0, f1, pl⟩ := block2 (unhide HF)
  go_upto_region 2 with (go_at_call 10; refine (unhide HC _ (unhide HX)).mono ?_; rintro e w1 ⟨rfl, b1⟩; have HX1 := hide ((unhide HX).trans (b1.mono (unhide HX).size)); have HK1 := hide (keep_below (unhide HK) b1); have HF1 := hide (keep_below (unhide HF) b1); clear b1 q0 q1 q2 q3 q4 p0 p1 f0 f1)
  obtain ⟨W2, e2, b2, k2⟩ := one_new w1 (.cells #[.int .i64 0, .int .i64 0] 31)
  rw [e2]
  have HX2 := hide ((unhide HX1).trans (b2.mono (unhide HX1).size))
  obtain ⟨⟨q0, q1, q2, q3, q4⟩, ql⟩ := block5 (keep_below (unhide HK1) b2)
  obtain ⟨p0, p1, f0, f1, pl⟩ := block2 (keep_below (unhide HF1) b2)
  obtain ⟨g0, g1, -, -, gl⟩ := block2 k2
  clear e2 b2 k2 HK1 HF1 HX1
  go_wp2_with (go_at_call 23; refine (unhide HA1 _).mono ?_; rintro e w1 ⟨rfl, rfl⟩; clear HA1)
  exact bodyPost_ret (v := .agg #[.int .i64 (3), .int .i64 (-1)]) (by simp [results, Tryd.results25, go_sem, p0, p1]) rfl ⟨rfl, below_set2 (unhide HX2) (Nat.le_succ _) _ _⟩

set_option maxRecDepth 100000 in
set_option maxHeartbeats 1000000 in
theorem checkRun4 (w : World) (v : Value) (p : Pg) (h : IsP w v p) (ht : Tabs w) (hn : p.code.length ≤ maxLen) (hm : p.pipes.length ≤ maxLen) (pc fuel : Int) (hF : checkF p = (0, 0)) (h1 : 0 ≤ pc ∧ pc ≤ p.code.length) (h2 : ¬ (0 ≤ fuel ∧ fuel ≤ 5000)) :
    Calls Tryd.prog 25 #[v, .int .i64 pc, .int .i64 fuel] w fun e w' => e = .returned (faultV (3, -1)) ∧ Below w.heap.size w w' := by
  obtain ⟨a, c, b, d, rfl, hc, hp⟩ := h.form
  obtain ⟨W0, e0, hB, k0, k1⟩ := two_new w (.cells #[.slice a p.code.length c, .int .i64 p.cells, .slice b p.pipes.length d, .int .i64 p.locks, .int .i64 p.groups] 25) (.cells #[.int .i64 0, .int .i64 0] 31)
  have HX := hide hB; have HE := hide e0; have HK := hide k0; have HF := hide k1
  have HC := hide fun W (hW : Below w.heap.size w W) => check_any W _ p (h.below hW) (ht.below hW) hn hm
  rw [hF] at HC
  unfold faultV at HC
  have HA1 := hide fun W => within_any W pc 0 p.code.length
  rw [decide_eq_true h1] at HA1
  have HA2 := hide fun W => within_any W fuel 0 5000
  rw [decide_eq_false h2] at HA2
  clear h1 h2
  unfold maxLen at hn
  clear hB e0 k0 k1 h hc hp ht hm hF
  go_enter Tryd.func25, Tryd.ntmps25
  go_upto_region 1 with fail
  rw [unhide HE]
  clear HE
  obtain ⟨⟨q0, q1, q2, q3, q4⟩, ql⟩ := block5 (unhide HK)
  obtain ⟨p0, p1, f0, f1, pl⟩ := block2 (unhide HF)
  go_upto_region 2 with (go_at_call 10; refine (unhide HC _ (unhide HX)).mono ?_; rintro e w1 ⟨rfl, b1⟩; have HX1 := hide ((unhide HX).trans (b1.mono (unhide HX).size)); have HK1 := hide (keep_below (unhide HK) b1); have HF1 := hide (keep_below (unhide HF) b1); clear b1 q0 q1 q2 q3 q4 p0 p1 f0 f1)
  obtain ⟨W2, e2, b2, k2⟩ := one_new w1 (.cells #[.int .i64 0, .int .i64 0] 31)
  rw [e2]
  have HX2 := hide ((unhide HX1).trans (b2.mono (unhide HX1).size))
  obtain ⟨⟨q0, q1, q2, q3, q4⟩, ql⟩ := block5 (keep_below (unhide HK1) b2)
  obtain ⟨p0, p1, f0, f1, pl⟩ := block2 (keep_below (unhide HF1) b2)
  obtain ⟨g0, g1, -, -, gl⟩ := block2 k2
  clear e2 b2 k2 HK1 HF1 HX1
  go_wp2_with (first
    | (go_at_call 23; refine (unhide HA1 _).mono ?_; rintro e w1 ⟨rfl, rfl⟩; clear HA1)
    | (go_at_call 23; refine (unhide HA2 _).mono ?_; rintro e w1 ⟨rfl, rfl⟩; clear HA2))
  exact bodyPost_ret (v := .agg #[.int .i64 (3), .int .i64 (-1)]) (by simp [results, Tryd.results25, go_sem, p0, p1]) rfl ⟨rfl, below_set2 (unhide HX2) (Nat.le_succ _) _ _⟩

theorem check_zero {p : Pg} (h : (checkF p).1 = 0) : checkF p = (0, 0) ∧ p.code.length ≤ 1000 ∧ p.pipes.length ≤ 20 ∧ Ranges p ∧ ∀ j, j < p.code.length → wrongF p (p.code.getD j (0, 0, 0)) = 0 := by
  unfold checkF at h ⊢
  by_cases q1 : 1000 < p.code.length ∨ 20 < p.pipes.length
  · rw [if_pos q1] at h; cases h
  rw [if_neg q1] at h ⊢
  by_cases q2 : ¬ Ranges p
  · rw [if_pos q2] at h; cases h
  rw [if_neg q2] at h ⊢
  by_cases q3 : (firstF (pipeF p) p.pipes.length 0).1 ≠ 0
  · rw [if_pos q3] at h; exact absurd h q3
  rw [if_neg q3] at h ⊢
  obtain ⟨e1, e2⟩ := firstF_zero _ _ _ h
  exact ⟨e1, by omega, by omega, Decidable.not_not.1 q2, fun j hj => e2 j (Nat.zero_le _) (by omega)⟩
theorem checkRun_any (w : World) (v : Value) (p : Pg) (h : IsP w v p) (ht : Tabs w) (hn : p.code.length ≤ maxLen) (hm : p.pipes.length ≤ maxLen) (pc fuel : Int) :
    Calls Tryd.prog 25 #[v, .int .i64 pc, .int .i64 fuel] w fun e w' => e = .returned (faultV (runFault p pc fuel)) ∧ Below w.heap.size w w' := by
  unfold runFault
  by_cases q : (checkF p).1 = 0
  · have e := (check_zero q).1
    rw [if_neg (fun h => h q)]
    by_cases h1 : 0 ≤ pc ∧ pc ≤ p.code.length
    · by_cases h2 : 0 ≤ fuel ∧ fuel ≤ 5000
      · rw [if_pos ⟨h1, h2⟩]; exact checkRun2 w v p h ht hn hm pc fuel e h1 h2
      · rw [if_neg (fun h => h2 h.2)]; exact checkRun4 w v p h ht hn hm pc fuel e h1 h2
    · rw [if_neg (fun h => h1 h.1)]; exact checkRun3 w v p h ht hn hm pc fuel e h1
  · rw [if_pos q]
    obtain ⟨⟨F0, F1⟩, eF⟩ : ∃ F, checkF p = F := ⟨_, rfl⟩
    rw [eF] at q ⊢
    exact checkRun1 w v p h ht hn hm pc fuel F0 F1 eF q

end Go.Proofs.YtgeinjldjpaleaaDoor
