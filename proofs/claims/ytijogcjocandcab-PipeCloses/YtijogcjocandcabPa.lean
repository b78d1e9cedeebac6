/-
  taskmilllaw.PipeCloses: its early ends, and what lists it wants.
-/
import Derived.Test.YtijogcjocandcabGh
namespace Go.Proofs.Ytijogcjocandcab
open Go.RowKit

/-- A pipe that is closed. -/
def shutP (cap : Int) (l : List Int) : Pp := ⟨cap, l, true, [], []⟩
theorem shutP_good {P : Pp} (h : Good P) (j : Nat) : Good (shutP P.cap (P.items.drop j)) := by
  obtain ⟨c1, c2, c3, c4, c5, c6, c7, c8, c9⟩ := h
  unfold countP at c1
  refine ⟨?_, c2, c3, ?_, fun h => absurd h (by simp [shutP]), fun h => absurd h (by simp [shutP]), fun p hp => by simp [shutP] at hp, by simp [tasks, shutP], fun p hp => by simp [shutP] at hp⟩
  · unfold countP shutP; simp only [List.length_drop, List.length_nil]; omega
  · unfold shutP; simp only [List.length_drop]; omega
theorem shutP_task {P : Pp} (h : Good P) (hc : countP P ≤ 300) {x : Int} (hx : 1 ≤ x) (j : Nat) : taskF (shutP P.cap (P.items.drop j)) x = (0, 0) := by
  refine task_iff.2 ⟨shutP_good h j, hx, by simp [waitsL, shutP], ?_⟩
  unfold countP at hc ⊢
  unfold shutP
  simp only [List.length_drop, List.length_nil]
  omega
theorem shutP_get (cap : Int) (l : List Int) (x : Int) (j : Nat) : getL (shutP cap (l.drop j)) (x, 0, 0) false = (shutP cap (l.drop (j + 1)), ⟨true, false, decide (j < l.length), l.getD j 0, 0, []⟩) := by
  have hT : takenL (shutP cap (l.drop j)) = (shutP cap (l.drop (j + 1)), ⟨true, false, decide (j < l.length), l.getD j 0, 0, []⟩) := by
    unfold takenL
    by_cases h : j < l.length
    · rw [if_pos (show 0 < (shutP cap (l.drop j)).items.length + (shutP cap (l.drop j)).ss.length by show 0 < (l.drop j).length + 0; rw [List.length_drop]; omega)]
      unfold firstL
      rw [if_neg (show ¬ 0 < (shutP cap (l.drop j)).ss.length from Nat.lt_irrefl 0), decide_eq_true h]
      have e1 : (l.drop j).drop 1 = l.drop (j + 1) := by rw [List.drop_drop]
      have e2 : (l.drop j).getD 0 0 = l.getD j 0 := by rw [List.getD_eq_getElem?_getD, List.getD_eq_getElem?_getD, List.getElem?_drop, Nat.add_zero]
      show ((⟨cap, (l.drop j).drop 1, true, [], []⟩ : Pp), (⟨true, false, true, (l.drop j).getD 0 0, 0, []⟩ : An)) = _
      rw [e1, e2]
      rfl
    · have e1 : l.drop j = [] := List.drop_eq_nil_of_le (by omega)
      have e2 : l.drop (j + 1) = [] := List.drop_eq_nil_of_le (by omega)
      rw [if_neg (show ¬ 0 < (shutP cap (l.drop j)).items.length + (shutP cap (l.drop j)).ss.length by show ¬ 0 < (l.drop j).length + 0; rw [List.length_drop]; omega), if_pos (show (shutP cap (l.drop j)).closed = true from rfl), e1, e2, decide_eq_false h, List.getD_eq_getElem?_getD, List.getElem?_eq_none (by omega)]
      rfl
  unfold getL
  rw [hT, if_pos rfl]
theorem short_shut {P : Pp} (h : countP P ≤ 300) (j : Nat) : Short (shutP P.cap (P.items.drop j)) := by
  unfold countP at h
  refine short_of ?_
  unfold countP shutP
  simp only [List.length_drop, List.length_nil]
  omega
theorem closes_get (W : World) (v : Value) (P : Pp) (x : Int) (j : Nat) (hg : Good P) (hc : countP P ≤ 300) (hx : 1 ≤ x) (h : IsPipe W v (shutP P.cap (P.items.drop j))) :
    Calls Try.prog 8 #[v, .int .i64 x, .bool false] W fun e w' => ∃ v1 v2, e = .returned (.tuple #[v1, v2, .agg #[.int .i64 0, .int .i64 0]]) ∧ NewPipe W.heap.size w' v1 (shutP P.cap (P.items.drop (j + 1))) ∧ NewAns W.heap.size w' v2 ⟨true, false, decide (j < P.items.length), P.items.getD j 0, 0, []⟩ ∧ Below W.heap.size W w' := by
  have := Get_any W v _ x false h (short_shut hc j)
  unfold getR at this
  rw [shutP_task hg hc hx j, if_pos rfl, shutP_get] at this
  exact this
theorem closes_send (W : World) (v : Value) (P : Pp) (x : Int) (j : Nat) (hg : Good P) (hc : countP P ≤ 300) (hx : 1 ≤ x) (h : IsPipe W v (shutP P.cap (P.items.drop j))) :
    Calls Try.prog 9 #[v, .int .i64 x, .int .i64 1, .bool true] W fun e w' => ∃ v1 v2, e = .returned (.tuple #[v1, v2, .agg #[.int .i64 0, .int .i64 0]]) ∧ NewPipe W.heap.size w' v1 (shutP P.cap (P.items.drop j)) ∧ NewAns W.heap.size w' v2 ⟨true, true, false, 0, 0, []⟩ ∧ Below W.heap.size W w' := by
  have := Send_any W v _ x 1 true h (short_shut hc j)
  unfold sendR at this
  rw [shutP_task hg hc hx j, if_pos rfl] at this
  exact this
theorem closes_shut (W : World) (v : Value) (P : Pp) (j : Nat) (hg : Good P) (hc : countP P ≤ 300) (h : IsPipe W v (shutP P.cap (P.items.drop j))) :
    Calls Try.prog 7 #[v] W fun e w' => ∃ v1 v2, e = .returned (.tuple #[v1, v2, .agg #[.int .i64 0, .int .i64 0]]) ∧ NewPipe W.heap.size w' v1 (shutP P.cap (P.items.drop j)) ∧ NewAns W.heap.size w' v2 ⟨true, true, false, 0, 0, []⟩ ∧ Below W.heap.size W w' := by
  have := Shut_any W v _ h (short_shut hc j)
  unfold shutR at this
  rw [(good_iff _).2 (shutP_good hg j), if_pos rfl] at this
  exact this
theorem closes_first (W : World) (v : Value) (P : Pp) (hg : Good P) (hc : countP P ≤ 300) (hcl : P.closed = false) (h : IsPipe W v P) :
    Calls Try.prog 7 #[v] W fun e w' => ∃ v1 v2, e = .returned (.tuple #[v1, v2, .agg #[.int .i64 0, .int .i64 0]]) ∧ NewPipe W.heap.size w' v1 (shutP P.cap P.items) ∧ NewAns W.heap.size w' v2 ⟨true, false, false, 0, 0, P.gs.map wkG ++ P.ss.map wkS⟩ ∧ Below W.heap.size W w' := by
  have := Shut_any W v _ h (short_of (Nat.le_trans hc (by decide)))
  unfold shutR shutL at this
  rw [(good_iff _).2 hg, if_pos rfl, if_neg (by rw [hcl]; simp)] at this
  exact this

set_option maxRecDepth 100000 in
set_option maxHeartbeats 1000000 in
theorem closes_early1 (w : World) (v : Value) (P : Pp) (x : Int) (h : IsPipe w v P) (hs : Short P) (hv : vastL P = true)  :
    Calls Try.prog 3 #[v, .int .i64 x] w fun e w' => e = .returned (.bool true) ∧ Below w.heap.size w w' := by
  have hnot : ∀ (x : Bool) (w : World), (Op.unary .not (.bool x)).run Try.prog w = .ok (.bool (!x)) w := fun _ _ => rfl
  have hfld : ∀ (a b : Value) (w : World), (Instr.field 29 (.agg #[a, b]) 0).run Try.prog w = .ok a w := fun _ _ _ => rfl
  have HV : Hid (∀ W, Below w.heap.size w W → Calls Try.prog 5 #[v] W fun e w' => e = .returned (.bool true) ∧ Below W.heap.size W w') := fun W hW => by
    have := vast_any W v P (h.below hW) hs
    rw [hv] at this
    exact this
  have HPF : Hid (∀ W, Below w.heap.size w W → Calls Try.prog 6 #[v] W fun e w' => e = .returned (.agg #[.int .i64 (pipeF P).1, .int .i64 (pipeF P).2]) ∧ Below W.heap.size W w') := fun W hW => pfault_any W v P (h.below hW) hs
  obtain ⟨cap, items, closed, ss, gs⟩ := P
  obtain ⟨a1, c1, a2, c2, a3, c3, ev, -, -, -⟩ := h.form
  simp only at ev 
  have hs' := hs
  obtain ⟨s1, s2, s3⟩ := hs'
  simp only at s1 s2 s3
  skip
  generalize items.length = n1, ss.length = n2, gs.length = n3 at ev s1 s2 s3 
  subst ev
  skip
  have w1 : IntKind.i64.wrap ((n1 : Int) + n2) = (n1 : Int) + n2 := wrapi (by omega) (by omega)
  have w2 : IntKind.i64.wrap ((n1 : Int) + n2 + n3) = (n1 : Int) + n2 + n3 := wrapi (by omega) (by omega)
  clear h hs s1 s2 s3 hv
  have HB0 := hide ((Below.refl w.heap.size w).alloc (Nat.le_refl _) (.cells #[.int .i64 cap, .slice a1 n1 c1, .bool closed, .slice a2 n2 c2, .slice a3 n3 c3] 25))
  have HK0 := hide (new_block w (.cells #[.int .i64 cap, .slice a1 n1 c1, .bool closed, .slice a2 n2 c2, .slice a3 n3 c3] 25))
  go_enter Try.func3, Try.ntmps3
  go_wp2_with (first
    | (go_at_call 4; refine (begun_any _).mono ?_; rintro e w1 ⟨rfl, hb1⟩; have HK1 := hide (keep_below (unhide HK0) hb1); obtain ⟨⟨p0, p1, p2, p3, p4⟩, -, pl⟩ := block5 (unhide HK1); have HB1 := hide (Below.next (unhide HB0) hb1 (Nat.le_refl _)); clear hb1)
    | (go_at_call 5; refine (unhide HV _ (unhide HB1)).mono ?_; rintro e w2 ⟨rfl, hb2⟩; have HB2 := hide (Below.next (unhide HB1) hb2 (Nat.le_refl _)); have HK2 := hide (keep_below (unhide HK1) hb2); clear hb2 p0 p1 p2 p3 p4 pl; obtain ⟨⟨p0, p1, p2, p3, p4⟩, -, pl⟩ := block5 (unhide HK2))
    | (go_at_call 6; refine (unhide HPF _ (unhide HB2)).mono ?_; rintro e w3 ⟨rfl, hb3⟩; have HB3 := hide (Below.next (unhide HB2) hb3 (Nat.le_refl _)); have HK3 := hide (keep_below (unhide HK2) hb3); clear hb3 p0 p1 p2 p3 p4 pl; obtain ⟨⟨p0, p1, p2, p3, p4⟩, -, pl⟩ := block5 (unhide HK3)))
  go_ret
  exact ⟨rfl, unhide HB2⟩

set_option maxRecDepth 100000 in
set_option maxHeartbeats 1000000 in
theorem closes_early2 (w : World) (v : Value) (P : Pp) (x : Int) (h : IsPipe w v P) (hs : Short P) (hv : vastL P = false) (F0 F1 : Int) (hF : pipeF P = (F0, F1)) (h0 : F0 ≠ 0) :
    Calls Try.prog 3 #[v, .int .i64 x] w fun e w' => e = .returned (.bool true) ∧ Below w.heap.size w w' := by
  have hnot : ∀ (x : Bool) (w : World), (Op.unary .not (.bool x)).run Try.prog w = .ok (.bool (!x)) w := fun _ _ => rfl
  have hfld : ∀ (a b : Value) (w : World), (Instr.field 29 (.agg #[a, b]) 0).run Try.prog w = .ok a w := fun _ _ _ => rfl
  have HV : Hid (∀ W, Below w.heap.size w W → Calls Try.prog 5 #[v] W fun e w' => e = .returned (.bool false) ∧ Below W.heap.size W w') := fun W hW => by
    have := vast_any W v P (h.below hW) hs
    rw [hv] at this
    exact this
  have HPF : Hid (∀ W, Below w.heap.size w W → Calls Try.prog 6 #[v] W fun e w' => e = .returned (.agg #[.int .i64 (pipeF P).1, .int .i64 (pipeF P).2]) ∧ Below W.heap.size W w') := fun W hW => pfault_any W v P (h.below hW) hs
  rw [hF] at HPF
  obtain ⟨cap, items, closed, ss, gs⟩ := P
  obtain ⟨a1, c1, a2, c2, a3, c3, ev, -, -, -⟩ := h.form
  simp only at ev 
  have hs' := hs
  obtain ⟨s1, s2, s3⟩ := hs'
  simp only at s1 s2 s3
  skip
  generalize items.length = n1, ss.length = n2, gs.length = n3 at ev s1 s2 s3 
  subst ev
  skip
  have w1 : IntKind.i64.wrap ((n1 : Int) + n2) = (n1 : Int) + n2 := wrapi (by omega) (by omega)
  have w2 : IntKind.i64.wrap ((n1 : Int) + n2 + n3) = (n1 : Int) + n2 + n3 := wrapi (by omega) (by omega)
  have h01 : (F0 != 0) = true := by simpa using h0
  clear h hs s1 s2 s3 hv
  have HB0 := hide ((Below.refl w.heap.size w).alloc (Nat.le_refl _) (.cells #[.int .i64 cap, .slice a1 n1 c1, .bool closed, .slice a2 n2 c2, .slice a3 n3 c3] 25))
  have HK0 := hide (new_block w (.cells #[.int .i64 cap, .slice a1 n1 c1, .bool closed, .slice a2 n2 c2, .slice a3 n3 c3] 25))
  go_enter Try.func3, Try.ntmps3
  go_wp2_with (first
    | (go_at_call 4; refine (begun_any _).mono ?_; rintro e w1 ⟨rfl, hb1⟩; have HK1 := hide (keep_below (unhide HK0) hb1); obtain ⟨⟨p0, p1, p2, p3, p4⟩, -, pl⟩ := block5 (unhide HK1); have HB1 := hide (Below.next (unhide HB0) hb1 (Nat.le_refl _)); clear hb1)
    | (go_at_call 5; refine (unhide HV _ (unhide HB1)).mono ?_; rintro e w2 ⟨rfl, hb2⟩; have HB2 := hide (Below.next (unhide HB1) hb2 (Nat.le_refl _)); have HK2 := hide (keep_below (unhide HK1) hb2); clear hb2 p0 p1 p2 p3 p4 pl; obtain ⟨⟨p0, p1, p2, p3, p4⟩, -, pl⟩ := block5 (unhide HK2))
    | (go_at_call 6; refine (unhide HPF _ (unhide HB2)).mono ?_; rintro e w3 ⟨rfl, hb3⟩; have HB3 := hide (Below.next (unhide HB2) hb3 (Nat.le_refl _)); have HK3 := hide (keep_below (unhide HK2) hb3); clear hb3 p0 p1 p2 p3 p4 pl; obtain ⟨⟨p0, p1, p2, p3, p4⟩, -, pl⟩ := block5 (unhide HK3)))
  go_ret
  exact ⟨rfl, unhide HB3⟩

set_option maxRecDepth 100000 in
set_option maxHeartbeats 1000000 in
theorem closes_early3 (w : World) (v : Value) (P : Pp) (x : Int) (h : IsPipe w v P) (hs : Short P) (hv : vastL P = false) (hF : pipeF P = (0, 0)) (hcl : P.closed = true) :
    Calls Try.prog 3 #[v, .int .i64 x] w fun e w' => e = .returned (.bool true) ∧ Below w.heap.size w w' := by
  have hnot : ∀ (x : Bool) (w : World), (Op.unary .not (.bool x)).run Try.prog w = .ok (.bool (!x)) w := fun _ _ => rfl
  have hfld : ∀ (a b : Value) (w : World), (Instr.field 29 (.agg #[a, b]) 0).run Try.prog w = .ok a w := fun _ _ _ => rfl
  have HV : Hid (∀ W, Below w.heap.size w W → Calls Try.prog 5 #[v] W fun e w' => e = .returned (.bool false) ∧ Below W.heap.size W w') := fun W hW => by
    have := vast_any W v P (h.below hW) hs
    rw [hv] at this
    exact this
  have HPF : Hid (∀ W, Below w.heap.size w W → Calls Try.prog 6 #[v] W fun e w' => e = .returned (.agg #[.int .i64 (pipeF P).1, .int .i64 (pipeF P).2]) ∧ Below W.heap.size W w') := fun W hW => pfault_any W v P (h.below hW) hs
  rw [hF] at HPF
  obtain ⟨cap, items, closed, ss, gs⟩ := P
  obtain ⟨a1, c1, a2, c2, a3, c3, ev, -, -, -⟩ := h.form
  simp only at ev hcl
  have hs' := hs
  obtain ⟨s1, s2, s3⟩ := hs'
  simp only at s1 s2 s3
  skip
  generalize items.length = n1, ss.length = n2, gs.length = n3 at ev s1 s2 s3 
  subst ev
  subst hcl
  have w1 : IntKind.i64.wrap ((n1 : Int) + n2) = (n1 : Int) + n2 := wrapi (by omega) (by omega)
  have w2 : IntKind.i64.wrap ((n1 : Int) + n2 + n3) = (n1 : Int) + n2 + n3 := wrapi (by omega) (by omega)
  clear h hs s1 s2 s3 hv
  have HB0 := hide ((Below.refl w.heap.size w).alloc (Nat.le_refl _) (.cells #[.int .i64 cap, .slice a1 n1 c1, .bool true, .slice a2 n2 c2, .slice a3 n3 c3] 25))
  have HK0 := hide (new_block w (.cells #[.int .i64 cap, .slice a1 n1 c1, .bool true, .slice a2 n2 c2, .slice a3 n3 c3] 25))
  go_enter Try.func3, Try.ntmps3
  go_wp2_with (first
    | (go_at_call 4; refine (begun_any _).mono ?_; rintro e w1 ⟨rfl, hb1⟩; have HK1 := hide (keep_below (unhide HK0) hb1); obtain ⟨⟨p0, p1, p2, p3, p4⟩, -, pl⟩ := block5 (unhide HK1); have HB1 := hide (Below.next (unhide HB0) hb1 (Nat.le_refl _)); clear hb1)
    | (go_at_call 5; refine (unhide HV _ (unhide HB1)).mono ?_; rintro e w2 ⟨rfl, hb2⟩; have HB2 := hide (Below.next (unhide HB1) hb2 (Nat.le_refl _)); have HK2 := hide (keep_below (unhide HK1) hb2); clear hb2 p0 p1 p2 p3 p4 pl; obtain ⟨⟨p0, p1, p2, p3, p4⟩, -, pl⟩ := block5 (unhide HK2))
    | (go_at_call 6; refine (unhide HPF _ (unhide HB2)).mono ?_; rintro e w3 ⟨rfl, hb3⟩; have HB3 := hide (Below.next (unhide HB2) hb3 (Nat.le_refl _)); have HK3 := hide (keep_below (unhide HK2) hb3); clear hb3 p0 p1 p2 p3 p4 pl; obtain ⟨⟨p0, p1, p2, p3, p4⟩, -, pl⟩ := block5 (unhide HK3)))
  go_ret
  exact ⟨rfl, unhide HB3⟩

set_option maxRecDepth 100000 in
set_option maxHeartbeats 1000000 in
theorem closes_early4 (w : World) (v : Value) (P : Pp) (x : Int) (h : IsPipe w v P) (hs : Short P) (hv : vastL P = false) (hF : pipeF P = (0, 0)) (hcl : P.closed = false) (hx : x < 1) :
    Calls Try.prog 3 #[v, .int .i64 x] w fun e w' => e = .returned (.bool true) ∧ Below w.heap.size w w' := by
  have hnot : ∀ (x : Bool) (w : World), (Op.unary .not (.bool x)).run Try.prog w = .ok (.bool (!x)) w := fun _ _ => rfl
  have hfld : ∀ (a b : Value) (w : World), (Instr.field 29 (.agg #[a, b]) 0).run Try.prog w = .ok a w := fun _ _ _ => rfl
  have HV : Hid (∀ W, Below w.heap.size w W → Calls Try.prog 5 #[v] W fun e w' => e = .returned (.bool false) ∧ Below W.heap.size W w') := fun W hW => by
    have := vast_any W v P (h.below hW) hs
    rw [hv] at this
    exact this
  have HPF : Hid (∀ W, Below w.heap.size w W → Calls Try.prog 6 #[v] W fun e w' => e = .returned (.agg #[.int .i64 (pipeF P).1, .int .i64 (pipeF P).2]) ∧ Below W.heap.size W w') := fun W hW => pfault_any W v P (h.below hW) hs
  rw [hF] at HPF
  obtain ⟨cap, items, closed, ss, gs⟩ := P
  obtain ⟨a1, c1, a2, c2, a3, c3, ev, -, -, -⟩ := h.form
  simp only at ev hcl
  have hs' := hs
  obtain ⟨s1, s2, s3⟩ := hs'
  simp only at s1 s2 s3
  skip
  generalize items.length = n1, ss.length = n2, gs.length = n3 at ev s1 s2 s3 
  subst ev
  subst hcl
  have w1 : IntKind.i64.wrap ((n1 : Int) + n2) = (n1 : Int) + n2 := wrapi (by omega) (by omega)
  have w2 : IntKind.i64.wrap ((n1 : Int) + n2 + n3) = (n1 : Int) + n2 + n3 := wrapi (by omega) (by omega)
  clear h hs s1 s2 s3 hv
  have HB0 := hide ((Below.refl w.heap.size w).alloc (Nat.le_refl _) (.cells #[.int .i64 cap, .slice a1 n1 c1, .bool false, .slice a2 n2 c2, .slice a3 n3 c3] 25))
  have HK0 := hide (new_block w (.cells #[.int .i64 cap, .slice a1 n1 c1, .bool false, .slice a2 n2 c2, .slice a3 n3 c3] 25))
  go_enter Try.func3, Try.ntmps3
  go_wp2_with (first
    | (go_at_call 4; refine (begun_any _).mono ?_; rintro e w1 ⟨rfl, hb1⟩; have HK1 := hide (keep_below (unhide HK0) hb1); obtain ⟨⟨p0, p1, p2, p3, p4⟩, -, pl⟩ := block5 (unhide HK1); have HB1 := hide (Below.next (unhide HB0) hb1 (Nat.le_refl _)); clear hb1)
    | (go_at_call 5; refine (unhide HV _ (unhide HB1)).mono ?_; rintro e w2 ⟨rfl, hb2⟩; have HB2 := hide (Below.next (unhide HB1) hb2 (Nat.le_refl _)); have HK2 := hide (keep_below (unhide HK1) hb2); clear hb2 p0 p1 p2 p3 p4 pl; obtain ⟨⟨p0, p1, p2, p3, p4⟩, -, pl⟩ := block5 (unhide HK2))
    | (go_at_call 6; refine (unhide HPF _ (unhide HB2)).mono ?_; rintro e w3 ⟨rfl, hb3⟩; have HB3 := hide (Below.next (unhide HB2) hb3 (Nat.le_refl _)); have HK3 := hide (keep_below (unhide HK2) hb3); clear hb3 p0 p1 p2 p3 p4 pl; obtain ⟨⟨p0, p1, p2, p3, p4⟩, -, pl⟩ := block5 (unhide HK3)))
  go_ret
  exact ⟨rfl, unhide HB3⟩

set_option maxRecDepth 100000 in
set_option maxHeartbeats 1000000 in
theorem closes_early5 (w : World) (v : Value) (P : Pp) (x : Int) (h : IsPipe w v P) (hs : Short P) (hv : vastL P = false) (hF : pipeF P = (0, 0)) (hcl : P.closed = false) (hx : 1 ≤ x) (hc : 300 < countP P) :
    Calls Try.prog 3 #[v, .int .i64 x] w fun e w' => e = .returned (.bool true) ∧ Below w.heap.size w w' := by
  have hnot : ∀ (x : Bool) (w : World), (Op.unary .not (.bool x)).run Try.prog w = .ok (.bool (!x)) w := fun _ _ => rfl
  have hfld : ∀ (a b : Value) (w : World), (Instr.field 29 (.agg #[a, b]) 0).run Try.prog w = .ok a w := fun _ _ _ => rfl
  have HV : Hid (∀ W, Below w.heap.size w W → Calls Try.prog 5 #[v] W fun e w' => e = .returned (.bool false) ∧ Below W.heap.size W w') := fun W hW => by
    have := vast_any W v P (h.below hW) hs
    rw [hv] at this
    exact this
  have HPF : Hid (∀ W, Below w.heap.size w W → Calls Try.prog 6 #[v] W fun e w' => e = .returned (.agg #[.int .i64 (pipeF P).1, .int .i64 (pipeF P).2]) ∧ Below W.heap.size W w') := fun W hW => pfault_any W v P (h.below hW) hs
  rw [hF] at HPF
  obtain ⟨cap, items, closed, ss, gs⟩ := P
  obtain ⟨a1, c1, a2, c2, a3, c3, ev, -, -, -⟩ := h.form
  simp only at ev hcl
  have hs' := hs
  obtain ⟨s1, s2, s3⟩ := hs'
  simp only at s1 s2 s3
  have hcn : 300 < items.length + ss.length + gs.length := hc
  generalize items.length = n1, ss.length = n2, gs.length = n3 at ev s1 s2 s3 hcn
  subst ev
  subst hcl
  have w1 : IntKind.i64.wrap ((n1 : Int) + n2) = (n1 : Int) + n2 := wrapi (by omega) (by omega)
  have w2 : IntKind.i64.wrap ((n1 : Int) + n2 + n3) = (n1 : Int) + n2 + n3 := wrapi (by omega) (by omega)
  have hx0 : ¬ x < 1 := by omega
  have hc1 : (300 : Int) < (n1 : Int) + n2 + n3 := by omega
  clear h hs s1 s2 s3 hv
  have HB0 := hide ((Below.refl w.heap.size w).alloc (Nat.le_refl _) (.cells #[.int .i64 cap, .slice a1 n1 c1, .bool false, .slice a2 n2 c2, .slice a3 n3 c3] 25))
  have HK0 := hide (new_block w (.cells #[.int .i64 cap, .slice a1 n1 c1, .bool false, .slice a2 n2 c2, .slice a3 n3 c3] 25))
  go_enter Try.func3, Try.ntmps3
  go_wp2_with (first
    | (go_at_call 4; refine (begun_any _).mono ?_; rintro e w1 ⟨rfl, hb1⟩; have HK1 := hide (keep_below (unhide HK0) hb1); obtain ⟨⟨p0, p1, p2, p3, p4⟩, -, pl⟩ := block5 (unhide HK1); have HB1 := hide (Below.next (unhide HB0) hb1 (Nat.le_refl _)); clear hb1)
    | (go_at_call 5; refine (unhide HV _ (unhide HB1)).mono ?_; rintro e w2 ⟨rfl, hb2⟩; have HB2 := hide (Below.next (unhide HB1) hb2 (Nat.le_refl _)); have HK2 := hide (keep_below (unhide HK1) hb2); clear hb2 p0 p1 p2 p3 p4 pl; obtain ⟨⟨p0, p1, p2, p3, p4⟩, -, pl⟩ := block5 (unhide HK2))
    | (go_at_call 6; refine (unhide HPF _ (unhide HB2)).mono ?_; rintro e w3 ⟨rfl, hb3⟩; have HB3 := hide (Below.next (unhide HB2) hb3 (Nat.le_refl _)); have HK3 := hide (keep_below (unhide HK2) hb3); clear hb3 p0 p1 p2 p3 p4 pl; obtain ⟨⟨p0, p1, p2, p3, p4⟩, -, pl⟩ := block5 (unhide HK3)))
  go_ret
  exact ⟨rfl, unhide HB3⟩

end Go.Proofs.Ytijogcjocandcab
