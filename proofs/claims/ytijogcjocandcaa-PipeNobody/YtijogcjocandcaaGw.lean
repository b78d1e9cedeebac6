/-
  taskmilllaw.PipeGets.
-/
import Derived.Test.YtijogcjocandcaaTb
import Derived.Test.YtijogcjocandcaaZa
namespace Go.Proofs.Ytijogcjocandcaa
open Go.RowKit

/-- What is wanted of a Get. -/
def wantG (P : Pp) (x : Int) (try_ : Bool) : Pp := if (takenL P).2.done = false ∧ try_ = false then { (takenL P).1 with gs := (takenL P).1.gs ++ [(x, 0, 0)] } else (takenL P).1
theorem taken_not {P : Pp} (h : (takenL P).2.done = false) : takenL P = (P, zeroA) := by
  unfold takenL at h ⊢
  split
  · rename_i h1; rw [if_pos h1, firstL_done] at h; cases h
  · rename_i h1
    rw [if_neg h1] at h
    split
    · rename_i h2; rw [if_pos h2] at h; cases h
    · rfl
theorem want_get {P : Pp} {x : Int} {try_ : Bool} (h : (taskF P x).1 = 0) : wantG P x try_ = (getR P x try_).1 ∧ (takenL P).2 = (getR P x try_).2 := by
  unfold getR wantG
  rw [if_pos h]
  unfold getL
  cases hd : (takenL P).2.done with
  | true => simp
  | false =>
    have e := taken_not hd
    rw [e]
    cases try_ <;> simp
theorem takenL_short {P : Pp} (hc : countP P ≤ 6000) : countP (takenL P).1 ≤ 6001 ∧ (takenL P).2.wakes.length ≤ 1 := by
  unfold countP at hc ⊢
  unfold takenL
  split
  · unfold firstL
    split
    · exact ⟨by simp only [List.length_drop, List.length_append, List.length_cons, List.length_nil]; omega, by simp⟩
    · exact ⟨by simp only [List.length_drop]; omega, by simp⟩
  · split
    · exact ⟨by simp only; omega, by simp⟩
    · exact ⟨by simp only; omega, (Nat.zero_le 1 : (0 : Nat) ≤ 1)⟩
theorem getR_short {P : Pp} {x : Int} {try_ : Bool} (hc : countP P ≤ 6000) : countP (getR P x try_).1 ≤ 6001 ∧ (getR P x try_).2.wakes.length ≤ 1 := by
  unfold getR
  split
  · unfold getL
    split
    · exact takenL_short hc
    · unfold countP at hc ⊢
      split
      · exact ⟨by simp only; omega, (Nat.zero_le 1 : (0 : Nat) ≤ 1)⟩
      · exact ⟨by simp only [List.length_append, List.length_cons, List.length_nil]; omega, (Nat.zero_le 1 : (0 : Nat) ≤ 1)⟩
  · exact ⟨by decide, by decide⟩

set_option maxRecDepth 100000 in
set_option maxHeartbeats 1000000 in
theorem gets_vast (w : World) (v : Value) (P : Pp) (x : Int) (try_ : Bool) (h : IsPipe w v P) (hs : Short P) (hv : vastL P = true) :
    Calls Try.prog 4 #[v, .int .i64 x, .bool try_] w fun e w' => e = .returned (.bool true) ∧ Below w.heap.size w w' := by
  have hnot : ∀ (x : Bool) (w : World), (Op.unary .not (.bool x)).run Try.prog w = .ok (.bool (!x)) w := fun _ _ => rfl
  have HV : Hid (∀ W, Below w.heap.size w W → Calls Try.prog 10 #[v] W fun e w' => e = .returned (.bool true) ∧ Below W.heap.size W w') := fun W hW => by
    have := vast_any W v P (h.below hW) hs
    rw [hv] at this
    exact this
  obtain ⟨a1, c1, a2, c2, a3, c3, ev, -, -, -⟩ := h.form
  generalize P.cap = cap, P.items.length = n1, P.closed = closed, P.ss.length = n2, P.gs.length = n3 at ev
  subst ev
  clear h hs hv
  have HB0 := hide ((Below.refl w.heap.size w).alloc (Nat.le_refl _) (.cells #[.int .i64 cap, .slice a1 n1 c1, .bool closed, .slice a2 n2 c2, .slice a3 n3 c3] 25))
  go_enter Try.func4, Try.ntmps4
  go_wp2_with (first
    | (go_at_call 9; refine (begun_any _).mono ?_; rintro e w1 ⟨rfl, hb1⟩; obtain ⟨⟨p0, p1, p2, p3, p4⟩, -, pl⟩ := block5 (keep_below (new_block w (.cells #[.int .i64 cap, .slice a1 n1 c1, .bool closed, .slice a2 n2 c2, .slice a3 n3 c3] 25)) hb1); have HB1 := hide (Below.next (unhide HB0) hb1 (Nat.le_refl _)); clear hb1)
    | (go_at_call 10; refine (unhide HV _ (unhide HB1)).mono ?_; rintro e w2 ⟨rfl, hb2⟩; have HB2 := hide (Below.next (unhide HB1) hb2 (Nat.le_refl _)); clear hb2))
  go_ret
  exact ⟨rfl, unhide HB2⟩

set_option maxRecDepth 100000 in
set_option maxHeartbeats 2000000 in
theorem gets_main (w : World) (v : Value) (P : Pp) (x : Int) (try_ : Bool) (h : IsPipe w v P) (hc : countP P ≤ 6000) (hv : vastL P = false) :
    Calls Try.prog 4 #[v, .int .i64 x, .bool try_] w fun e w' => e = .returned (.bool true) ∧ Below w.heap.size w w' := by
  have hnot : ∀ (x : Bool) (w : World), (Op.unary .not (.bool x)).run Try.prog w = .ok (.bool (!x)) w := fun _ _ => rfl
  have hs : Short P := short_of (by omega)
  have HV : Hid (∀ W, Below w.heap.size w W → Calls Try.prog 10 #[v] W fun e w' => e = .returned (.bool false) ∧ Below W.heap.size W w') := fun W hW => by
    have := vast_any W v P (h.below hW) hs
    rw [hv] at this
    exact this
  obtain ⟨T0, T1, hT⟩ : ∃ a b, taskF P x = (a, b) := ⟨_, _, rfl⟩
  have HOW : Hid (∀ W, Below w.heap.size w W → Calls Try.prog 11 #[v] W fun e w' => ∃ v', e = .returned v' ∧ NewPipe W.heap.size w' v' P ∧ Below W.heap.size W w') := fun W hW => ownPipe_any W v P (h.below hW) hs
  obtain ⟨R1, hR1⟩ : ∃ R, getR P x try_ = R := ⟨_, rfl⟩
  have HSD : Hid (∀ W v', IsPipe W v' P → Calls Try.prog 20 #[v', .int .i64 x, .bool try_] W fun e w' => ∃ v1 v2, e = .returned (.tuple #[v1, v2, .agg #[.int .i64 T0, .int .i64 T1]]) ∧ NewPipe W.heap.size w' v1 R1.1 ∧ NewAns W.heap.size w' v2 R1.2 ∧ Below W.heap.size W w') := fun W v' hW => by
    have := Get_any W v' P x try_ hW hs
    rw [hT, hR1] at this
    exact this
  obtain ⟨R2, hR2⟩ : ∃ R, takenL P = R := ⟨_, rfl⟩
  have HST : Hid (∀ W, Below w.heap.size w W → Calls Try.prog 21 #[v, .agg #[.int .i64 x, .int .i64 0, .int .i64 0]] W fun e w' => ∃ v1 v2, e = .returned (.tuple #[v1, v2]) ∧ IsPipe w' v1 R2.1 ∧ IsAns w' v2 R2.2 ∧ Below W.heap.size W w') := fun W hW => by
    have := taken_any W v P x 0 (h.below hW) hc
    rw [hR2] at this
    exact this
  have HTF : Hid (∀ W, Below w.heap.size w W → Calls Try.prog 19 #[v, .int .i64 x] W fun e w' => e = .returned (.agg #[.int .i64 T0, .int .i64 T1]) ∧ Below W.heap.size W w') := fun W hW => by
    have := taskFault_any W v P x (h.below hW) hs
    rw [hT] at this
    exact this
  have hw1 : countP R1.1 ≤ 6001 ∧ R1.2.wakes.length ≤ 1 := by rw [← hR1]; exact getR_short hc
  have hw2 : countP R2.1 ≤ 6001 ∧ R2.2.wakes.length ≤ 1 := by rw [← hR2]; exact takenL_short hc
  obtain ⟨Wt, hWt⟩ : ∃ W, wantG P x try_ = W := ⟨_, rfl⟩
  have HWT : Hid (Wt = if R2.2.done = false ∧ try_ = false then { R2.1 with gs := R2.1.gs ++ [(x, 0, 0)] } else R2.1) := by rw [← hWt, ← hR2]; rfl
  have HEQ : Hid (T0 = 0 → Wt = R1.1 ∧ R2.2 = R1.2) := fun h0 => by
    have := want_get (P := P) (x := x) (try_ := try_) (by rw [hT]; exact h0)
    rw [hWt, hR1, hR2] at this
    exact this
  have HZZ : Hid (T0 ≠ 0 → R1.1 = zeroP ∧ R1.2 = zeroA) := fun h0 => by
    have : getR P x try_ = (zeroP, zeroA) := by unfold getR; rw [if_neg (by rw [hT]; exact h0)]
    rw [hR1] at this
    rw [this]
    exact ⟨rfl, rfl⟩
  have HW1 : Hid (countP R1.1 ≤ 6001 ∧ WShort R1.2) := ⟨hw1.1, Nat.le_trans hw1.2 (by decide)⟩
  have HW2 : Hid (countP R2.1 ≤ 6001) := hw2.1
  obtain ⟨⟨cap5, items5, closed5, ss5, gs5⟩, ⟨o0, o1, o2, o3, o4, wk5⟩⟩ := R1
  obtain ⟨R2p, R2a⟩ := R2
  simp only at HSD HST HWT HEQ HZZ HW1 HW2
  obtain ⟨a1, c1, a2, c2, a3, c3, ev, -, -, -⟩ := h.form
  obtain ⟨cap, items, closed, ss, gs⟩ := P
  simp only at ev
  obtain ⟨n1, en1⟩ : ∃ n, items.length = n := ⟨_, rfl⟩
  obtain ⟨n2, en2⟩ : ∃ n, ss.length = n := ⟨_, rfl⟩
  obtain ⟨n3, en3⟩ : ∃ n, gs.length = n := ⟨_, rfl⟩
  rw [en1, en2, en3] at ev
  have HN1 := hide en1; have HN2 := hide en2; have HN3 := hide en3
  subst ev
  clear h hs hv hT hR1 hR2 hWt hw1 hw2 hc en1 en2 en3
  have HB0 := hide ((Below.refl w.heap.size w).alloc (Nat.le_refl _) (.cells #[.int .i64 cap, .slice a1 n1 c1, .bool closed, .slice a2 n2 c2, .slice a3 n3 c3] 25))
  have HK0 := hide (new_block w (.cells #[.int .i64 cap, .slice a1 n1 c1, .bool closed, .slice a2 n2 c2, .slice a3 n3 c3] 25))
  go_enter Try.func4, Try.ntmps4
  go_upto_region 6 with (first
    | (go_at_call 9; refine (begun_any _).mono ?_; rintro e w1 ⟨rfl, hb1⟩; have HK1 := hide (keep_below (unhide HK0) hb1); obtain ⟨⟨p0, p1, p2, p3, p4⟩, -, pl⟩ := block5 (unhide HK1); have HB1 := hide (Below.next (unhide HB0) hb1 (Nat.le_refl _)); clear hb1)
    | (go_at_call 10; refine (unhide HV _ (unhide HB1)).mono ?_; rintro e w2 ⟨rfl, hb2⟩; have HB2 := hide (Below.next (unhide HB1) hb2 (Nat.le_refl _)); have HK2 := hide (keep_below (unhide HK1) hb2); clear hb2 p0 p1 p2 p3 p4 pl; obtain ⟨⟨p0, p1, p2, p3, p4⟩, -, pl⟩ := block5 (unhide HK2))
    | (go_at_call 11; refine (unhide HOW _ (unhide HB2)).mono ?_; rintro e w3 ⟨v3, rfl, hp3, hb3⟩; have HP6 := hide hp3.pipe; have HB6 := hide (Below.next (unhide HB2) hb3 (Nat.le_refl _)); have HK6 := hide (keep_below (unhide HK2) hb3); clear hb3 hp3 p0 p1 p2 p3 p4 pl)
    | (go_at_call 20; refine (unhide HSD _ _ (unhide HP6)).mono ?_; rintro e w7 ⟨v1, v2, rfl, hq7, ha7, hb7⟩; have hq := hq7.pipe; have ha := ha7.ans; obtain ⟨e1, f1, e2, f2, e3, f3, rfl, -, -, -⟩ := NewPipe.form' hq7; obtain ⟨e4, f4, rfl, -⟩ := NewAns.form' ha7; have HQ7 := hide hq; have HA7 := hide ha; have HB7 := hide (Below.next (unhide HB6) hb7 (Nat.le_refl _)); have HK7 := hide (keep_below (unhide HK6) hb7); clear hb7 hq7 ha7 hq ha))
  (generalize items5.length = m1, ss5.length = m2, gs5.length = m3, wk5.length = m4 at *)
  obtain ⟨W8, e8, hB8, k0, k1, k2⟩ := three_new w7 (.cells #[.int .i64 cap5, .slice e1 m1 f1, .bool closed5, .slice e2 m2 f2, .slice e3 m3 f3] 25) (.cells #[.bool o0, .bool o1, .bool o2, .int .i64 o3, .int .i64 o4, .slice e4 m4 f4] 34) (.cells #[.int .i64 T0, .int .i64 T1] 30)
  rw [e8]
  clear e8
  have HB9 := hide (Below.next (unhide HB7) hB8 (Nat.le_refl _)); have HK9 := hide (keep_below (unhide HK7) hB8); have HQ9 := hide ((unhide HQ7).below hB8); have HA9 := hide ((unhide HA7).below hB8)
  have JQ9 := hide k0; have JA9 := hide k1; have JF9 := hide k2
  obtain ⟨Q, eQ⟩ : ∃ X, w7.heap.size = X := ⟨_, rfl⟩
  rw [eQ] at JQ9 JA9 JF9 ⊢
  clear eQ hB8 k0 k1 k2 HB7 HK7 HQ7 HA7 HB6 HK6 HP6 HSD HOW HV HB2 HK2 HB1 HK1 HB0 HK0
  go_upto_region 7 with fail
  have HB10 := hide ((unhide HB9).alloc (unhide HB9).size (.cells #[.int .i64 x, .int .i64 0, .int .i64 0] 39)); have HK10 := hide (keep_alloc (unhide HK9) (.cells #[.int .i64 x, .int .i64 0, .int .i64 0] 39)); have JQ10 := hide (keep_alloc (unhide JQ9) (.cells #[.int .i64 x, .int .i64 0, .int .i64 0] 39)); have JA10 := hide (keep_alloc (unhide JA9) (.cells #[.int .i64 x, .int .i64 0, .int .i64 0] 39)); have JF10 := hide (keep_alloc (unhide JF9) (.cells #[.int .i64 x, .int .i64 0, .int .i64 0] 39)); have JP10 := hide (new_block W8 (.cells #[.int .i64 x, .int .i64 0, .int .i64 0] 39)); have HQ10 := hide ((unhide HQ9).below ((Below.refl _ _).alloc (Nat.le_refl _) (.cells #[.int .i64 x, .int .i64 0, .int .i64 0] 39))); have HA10 := hide ((unhide HA9).below ((Below.refl _ _).alloc (Nat.le_refl _) (.cells #[.int .i64 x, .int .i64 0, .int .i64 0] 39)))
  obtain ⟨Y, eY⟩ : ∃ X, W8.heap.size = X := ⟨_, rfl⟩
  obtain ⟨W11, e11⟩ : ∃ W, W8.alloc (.cells #[.int .i64 x, .int .i64 0, .int .i64 0] 39) = W := ⟨_, rfl⟩
  rw [eY, e11] at JP10; rw [e11] at HB10 HK10 JQ10 JA10 JF10 HQ10 HA10; rw [eY, e11]
  clear eY e11 HB9 HK9 JQ9 JA9 JF9 HQ9 HA9
  obtain ⟨⟨p0, p1, p2, p3, p4⟩, -, pl⟩ := block5 (unhide HK10)
  obtain ⟨⟨m0', m1', m2'⟩, -, ml⟩ := block3 (unhide JP10)
  obtain ⟨cap6, items6, closed6, ss6, gs6⟩ := R2p
  obtain ⟨u0, u1, u2, u3, u4, wk6⟩ := R2a
  go_upto_region 8 with (go_at_call 21; refine (unhide HST _ (unhide HB10)).mono ?_; rintro e w12 ⟨v1, v2, rfl, hq7, ha7, hb7⟩; have HG12 := hide hq7; have HD12 := hide ha7; obtain ⟨g1, h1, g2, h2, g3, h3, ev1, -, -, -⟩ := hq7.form; obtain ⟨g4, h4, ev2, -⟩ := ha7.form; simp only at ev1 ev2; subst ev1 ev2; have HB12 := hide (Below.next (unhide HB10) hb7 (Nat.le_refl _)); have HK12 := hide (keep_below (unhide HK10) hb7); have JQ12 := hide (keep_below (unhide JQ10) hb7); have JA12 := hide (keep_below (unhide JA10) hb7); have JF12 := hide (keep_below (unhide JF10) hb7); have JP12 := hide (keep_below (unhide JP10) hb7); have HQ12 := hide ((unhide HQ10).below hb7); have HA12 := hide ((unhide HA10).below hb7); clear hb7 hq7 ha7 p0 p1 p2 p3 p4 pl m0' m1' m2' ml)
  obtain ⟨l1, el1⟩ : ∃ n, items6.length = n := ⟨_, rfl⟩
  obtain ⟨l2, el2⟩ : ∃ n, ss6.length = n := ⟨_, rfl⟩
  obtain ⟨l3, el3⟩ : ∃ n, gs6.length = n := ⟨_, rfl⟩
  obtain ⟨l4, el4⟩ : ∃ n, wk6.length = n := ⟨_, rfl⟩
  rw [el1, el2, el3] at HG12; rw [el4] at HD12; rw [el1, el2, el3, el4]
  have HL1 := hide el1; have HL2 := hide el2; have HL3 := hide el3
  clear el1 el2 el3 el4
  have hT13 : Below w12.heap.size w12 ((w12.alloc (.cells #[.int .i64 cap6, .slice g1 l1 h1, .bool closed6, .slice g2 l2 h2, .slice g3 l3 h3] 25)).alloc (.cells #[.bool u0, .bool u1, .bool u2, .int .i64 u3, .int .i64 u4, .slice g4 l4 h4] 34)) := ((Below.refl _ _).alloc (Nat.le_refl _) _).alloc (by simp) _
  have HB13 := hide (Below.next (unhide HB12) hT13 (Nat.le_refl _)); have HK13 := hide (keep_below (unhide HK12) hT13); have JQ13 := hide (keep_below (unhide JQ12) hT13); have JA13 := hide (keep_below (unhide JA12) hT13); have JF13 := hide (keep_below (unhide JF12) hT13); have JP13 := hide (keep_below (unhide JP12) hT13); have HQ13 := hide ((unhide HQ12).below hT13); have HA13 := hide ((unhide HA12).below hT13); have HG13 := hide ((unhide HG12).below hT13); have HD13 := hide ((unhide HD12).below hT13)
  have JN13 := hide (keep_alloc (new_block w12 (.cells #[.int .i64 cap6, .slice g1 l1 h1, .bool closed6, .slice g2 l2 h2, .slice g3 l3 h3] 25)) (.cells #[.bool u0, .bool u1, .bool u2, .int .i64 u3, .int .i64 u4, .slice g4 l4 h4] 34)); have JB13 := hide (new_block (w12.alloc (.cells #[.int .i64 cap6, .slice g1 l1 h1, .bool closed6, .slice g2 l2 h2, .slice g3 l3 h3] 25)) (.cells #[.bool u0, .bool u1, .bool u2, .int .i64 u3, .int .i64 u4, .slice g4 l4 h4] 34))
  rw [World.size_alloc] at JB13
  have hN0 : w.heap.size < w12.heap.size := (block5 (unhide HK12)).2.2
  have hN1 : Q + 1 + 1 < w12.heap.size := (block2 (unhide JF12)).2.2.2.2
  have hN2 : Y < w12.heap.size := (block3 (unhide JP12)).2.2
  obtain ⟨N, eN⟩ : ∃ X, w12.heap.size = X := ⟨_, rfl⟩
  obtain ⟨W13, e13⟩ : ∃ W, (w12.alloc (.cells #[.int .i64 cap6, .slice g1 l1 h1, .bool closed6, .slice g2 l2 h2, .slice g3 l3 h3] 25)).alloc (.cells #[.bool u0, .bool u1, .bool u2, .int .i64 u3, .int .i64 u4, .slice g4 l4 h4] 34) = W := ⟨_, rfl⟩
  rw [e13] at HB13 HK13 JQ13 JA13 JF13 JP13 HQ13 HA13 HG13 HD13
  rw [eN, e13] at JN13 JB13
  rw [eN] at hN0 hN1 hN2
  rw [eN, e13]
  rw [e13] at hT13
  have HT13 := hide hT13; have HNE := hide eN
  clear eN e13 hT13 HB12 HK12 JQ12 JA12 JF12 JP12 HB10 HK10 JQ10 JA10 JF10 JP10 HQ10 HA10 HST
  obtain ⟨⟨x0, x1, x2, x3, x4, x5⟩, -, xl⟩ := block6 (unhide JB13)
  by_cases hdt : u0 = false ∧ try_ = false
  · obtain ⟨rfl, rfl⟩ := hdt
    have hWt := unhide HWT
    rw [if_pos ⟨rfl, rfl⟩] at hWt
    have HWE := hide hWt
    clear hWt HWT
    go_upto_region 9 with fail
    clear x0 x1 x2 x3 x4 x5 xl
    obtain ⟨HGI, HGS, HGG⟩ : IsL KI W13 (.slice g1 l1 h1) items6 ∧ IsL KP W13 (.slice g2 l2 h2) ss6 ∧ IsL KP W13 (.slice g3 l3 h3) gs6 := by
      obtain ⟨vi, vs, vg, ev, i1, i2, i3⟩ := unhide HG13
      cases ev
      exact ⟨i1, i2, i3⟩
    have HGI' := hide HGI; have HGS' := hide HGS; have HGG' := hide HGG
    clear HGI HGS HGG
    have hl2 : l3 ≤ 6001 := by have := unhide HW2; unfold countP at this; simp only at this; rw [unhide HL3] at this; omega
    have HOP : Hid (∀ W, Below W13.heap.size W13 W → Calls Try.prog 17 #[.slice g3 l3 h3] W fun e w' => ∃ a' c', e = .returned (.slice a' l3 c') ∧ Own KP W.heap.size w' (.slice a' l3 c') gs6 ∧ Below W.heap.size W w') := fun W hW => by
      have := ownPosts_any W _ gs6 ((unhide HGG').below hW) (by rw [unhide HL3]; omega)
      rw [unhide HL3] at this
      exact this
    obtain ⟨⟨p0, p1, p2, p3, p4⟩, ⟨y0, y1, y2, y3, y4⟩, pl⟩ := block5 (unhide JN13)
    obtain ⟨⟨m0', m1', m2'⟩, -, ml⟩ := block3 (unhide JP13)
    have o1 := (block5 (keep_alloc (unhide JN13) (.cells #[.int .i64 x, .int .i64 0, .int .i64 0] 39))).1.2.2.2.2
    have o2 := (block3 (keep_alloc (unhide JP13) (.cells #[.int .i64 x, .int .i64 0, .int .i64 0] 39))).1
    go_region_law (first
      | (refine step_append kp rfl (.tmp 43) (.tmp 45) rfl W13.heap.size _ gs6 rfl (by first | exact unhide HO14 | exact Own.below (unhide HO14) ((Below.refl _ _).alloc (Nat.le_refl _) _)) _ [(x, 0, 0)] rfl (by first | exact unhide HIO | exact isl_one kp w14 (x, 0, 0)) (l3 + 1) (by rw [unhide HL3]; rfl) (by show (l3 + 1) * 24 ≤ 140737488355328; omega) (by first | exact (unhide HX14).size | exact Nat.le_trans (unhide HX14).size (by simp)) ?_; intro b6 d6 w15 ho6 hg6; have HO15 := hide ho6; have HX15 : Hid (Below W13.heap.size W13 w15) := (by first | exact (unhide HX14).grown hg6 (unhide HX14).size (fun k hk => ((unhide HO14).lt k hk).1) | exact ((unhide HX14).alloc (unhide HX14).size _).grown hg6 (Nat.le_trans (unhide HX14).size (by simp)) (fun k hk => ((unhide HO14).lt k hk).1)); obtain ⟨⟨e0', e1', e2', e3', e4'⟩, ⟨l0', l1', l2', l3', l4'⟩, pl6⟩ := block5 (keep_below (unhide JN13) (unhide HX15)); clear ho6 hg6)
      | (go_simp; go_at_call 17; refine (unhide HOP _ (by first | exact (Below.refl _ _).drew | exact ((Below.refl _ _).alloc (Nat.le_refl _) _).drew | exact (Below.refl _ _).drew.alloc (Nat.le_refl _) _)).mono ?_; rintro e w14 ⟨b5, d5, rfl, ho5, hb5⟩; have HO14 : Hid (Own KP W13.heap.size w14 (.slice b5 l3 d5) gs6) := ho5.base (by first | exact Nat.le_refl _ | simp [World.drew]); have HX14 : Hid (Below W13.heap.size W13 w14) := Below.next (by first | exact (Below.refl _ _).drew | exact ((Below.refl _ _).alloc (Nat.le_refl _) _).drew | exact (Below.refl _ _).drew.alloc (Nat.le_refl _) _) hb5 (Nat.le_refl _); (first | (have HIO : Hid (IsL KP w14 (.slice (some ⟨W13.heap.size, 0, none⟩) 1 1) [(x, 0, 0)]) := IsL.below (IsL.below (isl_one kp W13 (x, 0, 0)) (Below.refl _ _).drew) hb5) | skip); obtain ⟨⟨p0', p1', p2', p3', p4'⟩, ⟨y0', y1', y2', y3', y4'⟩, pl'⟩ := block5 (keep_below (unhide JN13) (unhide HX14)); obtain ⟨⟨v0', v1', v2'⟩, -, vl'⟩ := block3 (keep_below (unhide JP13) (unhide HX14)); have o3 := (block5 (keep_alloc (keep_below (unhide JN13) (unhide HX14)) (.cells #[.int .i64 x, .int .i64 0, .int .i64 0] 39))).1.2.2.2.2; clear ho5 hb5))
    all_goals (
      have hNW : N < W13.heap.size := (block5 (unhide JN13)).2.2
      have BV : Below w12.heap.size w12 (w15.setCell ⟨N, 4, none⟩ (.slice b6 (l3 + 1) d6)) := ((unhide HT13).trans ((unhide HX15).mono (unhide HT13).size)).setCell (show w12.heap.size ≤ N by rw [unhide HNE]; exact Nat.le_refl _) _
      have HBv := hide (below_set (i := 4) (Below.next (unhide HB13) (unhide HX15) (Nat.le_refl _)) (show w.heap.size ≤ N by omega) (.slice b6 (l3 + 1) d6))
      have HKv := hide (keep_set (g := N) (o := 4) (v := .slice b6 (l3 + 1) d6) (keep_below (unhide HK13) (unhide HX15)) (by omega))
      have JQv := hide (keep_set (g := N) (o := 4) (v := .slice b6 (l3 + 1) d6) (keep_below (unhide JQ13) (unhide HX15)) (by omega))
      have JAv := hide (keep_set (g := N) (o := 4) (v := .slice b6 (l3 + 1) d6) (keep_below (unhide JA13) (unhide HX15)) (by omega))
      have JFv := hide (keep_set (g := N) (o := 4) (v := .slice b6 (l3 + 1) d6) (keep_below (unhide JF13) (unhide HX15)) (by omega))
      have JBv := hide (keep_set (g := N) (o := 4) (v := .slice b6 (l3 + 1) d6) (keep_below (unhide JB13) (unhide HX15)) (by omega))
      have JNv := hide (set_block5 (i := 4) (y := .slice b6 (l3 + 1) d6) (keep_below (unhide JN13) (unhide HX15)))
      have HQv := hide ((unhide HQ12).below BV); have HAv := hide ((unhide HA12).below BV); have HDv := hide ((unhide HD12).below BV)
      have HGv : Hid (IsPipe (w15.setCell ⟨N, 4, none⟩ (.slice b6 (l3 + 1) d6)) (.agg #[.int .i64 cap6, .slice g1 l1 h1, .bool closed6, .slice g2 l2 h2, .slice b6 (l3 + 1) d6]) Wt) := by
        rw [unhide HWE]
        obtain ⟨vi, vs, vg, ev, i1, i2, i3⟩ := (unhide HG12).below BV
        cases ev
        exact ⟨_, _, _, rfl, i1, i2, ((unhide HO15).set hNW).isl⟩
      obtain ⟨W16, e16⟩ : ∃ W, w15.setCell ⟨N, 4, none⟩ (.slice b6 (l3 + 1) d6) = W := ⟨_, rfl⟩
      rw [e16] at HBv HKv JQv JAv JFv JBv JNv HQv HAv HDv HGv ⊢
      simp only [List.setIfInBounds_toArray, List.set_cons_zero, List.set_cons_succ] at JNv
      clear e16 BV p0' p1' p2' p3' p4' y0' y1' y2' y3' y4' pl' v0' v1' v2' vl' o1 o2 o3 e0' e1' e2' e3' e4' l0' l1' l2' l3' l4' pl6 p0 p1 p2 p3 p4 y0 y1 y2 y3 y4 pl m0' m1' m2' ml
      have HSS : Hid (∀ W, Below W16.heap.size W16 W → (W.cell? ⟨Q, 0, none⟩ = some (.int .i64 cap5) ∧ W.cell? ⟨Q, 1, none⟩ = some (.slice e1 m1 f1) ∧ W.cell? ⟨Q, 2, none⟩ = some (.bool closed5) ∧ W.cell? ⟨Q, 3, none⟩ = some (.slice e2 m2 f2) ∧ W.cell? ⟨Q, 4, none⟩ = some (.slice e3 m3 f3)) ∧ (W.cell? ⟨Q + 1, 0, none⟩ = some (.bool o0) ∧ W.cell? ⟨Q + 1, 1, none⟩ = some (.bool o1) ∧ W.cell? ⟨Q + 1, 2, none⟩ = some (.bool o2) ∧ W.cell? ⟨Q + 1, 3, none⟩ = some (.int .i64 o3) ∧ W.cell? ⟨Q + 1, 4, none⟩ = some (.int .i64 o4) ∧ W.cell? ⟨Q + 1, 5, none⟩ = some (.slice e4 m4 f4)) ∧ (W.cell? ⟨Q + 1 + 1, 0, none⟩ = some (.int .i64 T0) ∧ W.cell? ⟨Q + 1 + 1, 1, none⟩ = some (.int .i64 T1)) ∧ (W.cell? ⟨w.heap.size, 0, none⟩ = some (.int .i64 cap) ∧ W.cell? ⟨w.heap.size, 1, none⟩ = some (.slice a1 n1 c1) ∧ W.cell? ⟨w.heap.size, 2, none⟩ = some (.bool closed) ∧ W.cell? ⟨w.heap.size, 3, none⟩ = some (.slice a2 n2 c2) ∧ W.cell? ⟨w.heap.size, 4, none⟩ = some (.slice a3 n3 c3)) ∧ (W.cell? ⟨N, 0, none⟩ = some (.int .i64 cap6) ∧ W.cell? ⟨N, 1, none⟩ = some (.slice g1 l1 h1) ∧ W.cell? ⟨N, 2, none⟩ = some (.bool closed6) ∧ W.cell? ⟨N, 3, none⟩ = some (.slice g2 l2 h2) ∧ W.cell? ⟨N, 4, none⟩ = some (.slice b6 (l3 + 1) d6)) ∧ (W.cell? ⟨N + 1, 0, none⟩ = some (.bool false) ∧ W.cell? ⟨N + 1, 1, none⟩ = some (.bool u1) ∧ W.cell? ⟨N + 1, 2, none⟩ = some (.bool u2) ∧ W.cell? ⟨N + 1, 3, none⟩ = some (.int .i64 u3) ∧ W.cell? ⟨N + 1, 4, none⟩ = some (.int .i64 u4) ∧ W.cell? ⟨N + 1, 5, none⟩ = some (.slice g4 l4 h4)) ∧ Below W16.heap.size W16 W) := fun W hW =>
        ⟨(block5 (keep_below (unhide JQv) hW)).1, (block6 (keep_below (unhide JAv) hW)).1, ⟨(block2 (keep_below (unhide JFv) hW)).1, (block2 (keep_below (unhide JFv) hW)).2.1⟩, (block5 (keep_below (unhide HKv) hW)).1, (block5 (keep_below (unhide JNv) hW)).1, (block6 (keep_below (unhide JBv) hW)).1, hW⟩
      go_wp2_with fail
      go_region_held3 (fun W => (W.cell? ⟨Q, 0, none⟩ = some (.int .i64 cap5) ∧ W.cell? ⟨Q, 1, none⟩ = some (.slice e1 m1 f1) ∧ W.cell? ⟨Q, 2, none⟩ = some (.bool closed5) ∧ W.cell? ⟨Q, 3, none⟩ = some (.slice e2 m2 f2) ∧ W.cell? ⟨Q, 4, none⟩ = some (.slice e3 m3 f3)) ∧ (W.cell? ⟨Q + 1, 0, none⟩ = some (.bool o0) ∧ W.cell? ⟨Q + 1, 1, none⟩ = some (.bool o1) ∧ W.cell? ⟨Q + 1, 2, none⟩ = some (.bool o2) ∧ W.cell? ⟨Q + 1, 3, none⟩ = some (.int .i64 o3) ∧ W.cell? ⟨Q + 1, 4, none⟩ = some (.int .i64 o4) ∧ W.cell? ⟨Q + 1, 5, none⟩ = some (.slice e4 m4 f4)) ∧ (W.cell? ⟨Q + 1 + 1, 0, none⟩ = some (.int .i64 T0) ∧ W.cell? ⟨Q + 1 + 1, 1, none⟩ = some (.int .i64 T1)) ∧ (W.cell? ⟨w.heap.size, 0, none⟩ = some (.int .i64 cap) ∧ W.cell? ⟨w.heap.size, 1, none⟩ = some (.slice a1 n1 c1) ∧ W.cell? ⟨w.heap.size, 2, none⟩ = some (.bool closed) ∧ W.cell? ⟨w.heap.size, 3, none⟩ = some (.slice a2 n2 c2) ∧ W.cell? ⟨w.heap.size, 4, none⟩ = some (.slice a3 n3 c3)) ∧ (W.cell? ⟨N, 0, none⟩ = some (.int .i64 cap6) ∧ W.cell? ⟨N, 1, none⟩ = some (.slice g1 l1 h1) ∧ W.cell? ⟨N, 2, none⟩ = some (.bool closed6) ∧ W.cell? ⟨N, 3, none⟩ = some (.slice g2 l2 h2) ∧ W.cell? ⟨N, 4, none⟩ = some (.slice b6 (l3 + 1) d6)) ∧ (W.cell? ⟨N + 1, 0, none⟩ = some (.bool false) ∧ W.cell? ⟨N + 1, 1, none⟩ = some (.bool u1) ∧ W.cell? ⟨N + 1, 2, none⟩ = some (.bool u2) ∧ W.cell? ⟨N + 1, 3, none⟩ = some (.int .i64 u3) ∧ W.cell? ⟨N + 1, 4, none⟩ = some (.int .i64 u4) ∧ W.cell? ⟨N + 1, 5, none⟩ = some (.slice g4 l4 h4)) ∧ Below W16.heap.size W16 W)
        (first | with_reducible exact unhide HSS _ (Below.refl _ _).drew | with_reducible exact unhide HSS _ (unhide HZ))
        (first
          | (go_at_call 19; refine (unhide HTF _ (Below.next (unhide HBv) (Below.refl _ _).drew (Nat.le_refl _))).mono ?_; rintro e w15 ⟨rfl, hb15⟩; have HZ : Hid (Below W16.heap.size W16 w15) := Below.next (Below.refl _ _).drew hb15 (Nat.le_refl _); clear hb15)
          | (go_at_call 18; refine (pipeAs_any _ _ _ _ _ _ _ _ _ T0 T1 ((unhide HQv).below (unhide HZ)) ((unhide HAv).below (unhide HZ)) ((unhide HGv).below (unhide HZ)) ((unhide HDv).below (unhide HZ)) (short_of (unhide HW1).1) (unhide HW1).2 (unhide HEQ) (unhide HZZ)).mono ?_; rintro e w16 ⟨rfl, hb16⟩; have HZ2 : Hid (Below W16.heap.size W16 w16) := Below.next (unhide HZ) hb16 (Nat.le_refl _); clear HZ hb16; have HZ := HZ2; clear HZ2))
      go_wp2_with fail
      go_ret
      exact ⟨rfl, Below.next (unhide HBv) (unhide HZ) (Nat.le_refl _)⟩
    )
  · have hWt := unhide HWT
    rw [if_neg hdt] at hWt
    subst hWt
    have HGv := HG13; have HBv := HB13; have HKv := HK13; have JQv := JQ13; have JAv := JA13; have JFv := JF13; have JNv := JN13; have JBv := JB13; have HQv := HQ13; have HAv := HA13; have HDv := HD13
    have hd : (!u0 && !try_) = false := by
      cases u0 <;> cases try_ <;> simp_all
    clear hdt HWT HG13 HB13 HK13 JQ13 JA13 JF13 JN13 JB13 HQ13 HA13 HD13 JP13
    cases u0 with
    | true =>
      go_upto_region 10 with fail
      clear x0 x1 x2 x3 x4 x5 xl
      have HSS : Hid (∀ W, Below W13.heap.size W13 W → (W.cell? ⟨Q, 0, none⟩ = some (.int .i64 cap5) ∧ W.cell? ⟨Q, 1, none⟩ = some (.slice e1 m1 f1) ∧ W.cell? ⟨Q, 2, none⟩ = some (.bool closed5) ∧ W.cell? ⟨Q, 3, none⟩ = some (.slice e2 m2 f2) ∧ W.cell? ⟨Q, 4, none⟩ = some (.slice e3 m3 f3)) ∧ (W.cell? ⟨Q + 1, 0, none⟩ = some (.bool o0) ∧ W.cell? ⟨Q + 1, 1, none⟩ = some (.bool o1) ∧ W.cell? ⟨Q + 1, 2, none⟩ = some (.bool o2) ∧ W.cell? ⟨Q + 1, 3, none⟩ = some (.int .i64 o3) ∧ W.cell? ⟨Q + 1, 4, none⟩ = some (.int .i64 o4) ∧ W.cell? ⟨Q + 1, 5, none⟩ = some (.slice e4 m4 f4)) ∧ (W.cell? ⟨Q + 1 + 1, 0, none⟩ = some (.int .i64 T0) ∧ W.cell? ⟨Q + 1 + 1, 1, none⟩ = some (.int .i64 T1)) ∧ (W.cell? ⟨w.heap.size, 0, none⟩ = some (.int .i64 cap) ∧ W.cell? ⟨w.heap.size, 1, none⟩ = some (.slice a1 n1 c1) ∧ W.cell? ⟨w.heap.size, 2, none⟩ = some (.bool closed) ∧ W.cell? ⟨w.heap.size, 3, none⟩ = some (.slice a2 n2 c2) ∧ W.cell? ⟨w.heap.size, 4, none⟩ = some (.slice a3 n3 c3)) ∧ (W.cell? ⟨N, 0, none⟩ = some (.int .i64 cap6) ∧ W.cell? ⟨N, 1, none⟩ = some (.slice g1 l1 h1) ∧ W.cell? ⟨N, 2, none⟩ = some (.bool closed6) ∧ W.cell? ⟨N, 3, none⟩ = some (.slice g2 l2 h2) ∧ W.cell? ⟨N, 4, none⟩ = some (.slice g3 l3 h3)) ∧ (W.cell? ⟨N + 1, 0, none⟩ = some (.bool true) ∧ W.cell? ⟨N + 1, 1, none⟩ = some (.bool u1) ∧ W.cell? ⟨N + 1, 2, none⟩ = some (.bool u2) ∧ W.cell? ⟨N + 1, 3, none⟩ = some (.int .i64 u3) ∧ W.cell? ⟨N + 1, 4, none⟩ = some (.int .i64 u4) ∧ W.cell? ⟨N + 1, 5, none⟩ = some (.slice g4 l4 h4)) ∧ Below W13.heap.size W13 W) := fun W hW =>
        ⟨(block5 (keep_below (unhide JQv) hW)).1, (block6 (keep_below (unhide JAv) hW)).1, ⟨(block2 (keep_below (unhide JFv) hW)).1, (block2 (keep_below (unhide JFv) hW)).2.1⟩, (block5 (keep_below (unhide HKv) hW)).1, (block5 (keep_below (unhide JNv) hW)).1, (block6 (keep_below (unhide JBv) hW)).1, hW⟩
      go_wp2_with fail
      go_region_held3 (fun W => (W.cell? ⟨Q, 0, none⟩ = some (.int .i64 cap5) ∧ W.cell? ⟨Q, 1, none⟩ = some (.slice e1 m1 f1) ∧ W.cell? ⟨Q, 2, none⟩ = some (.bool closed5) ∧ W.cell? ⟨Q, 3, none⟩ = some (.slice e2 m2 f2) ∧ W.cell? ⟨Q, 4, none⟩ = some (.slice e3 m3 f3)) ∧ (W.cell? ⟨Q + 1, 0, none⟩ = some (.bool o0) ∧ W.cell? ⟨Q + 1, 1, none⟩ = some (.bool o1) ∧ W.cell? ⟨Q + 1, 2, none⟩ = some (.bool o2) ∧ W.cell? ⟨Q + 1, 3, none⟩ = some (.int .i64 o3) ∧ W.cell? ⟨Q + 1, 4, none⟩ = some (.int .i64 o4) ∧ W.cell? ⟨Q + 1, 5, none⟩ = some (.slice e4 m4 f4)) ∧ (W.cell? ⟨Q + 1 + 1, 0, none⟩ = some (.int .i64 T0) ∧ W.cell? ⟨Q + 1 + 1, 1, none⟩ = some (.int .i64 T1)) ∧ (W.cell? ⟨w.heap.size, 0, none⟩ = some (.int .i64 cap) ∧ W.cell? ⟨w.heap.size, 1, none⟩ = some (.slice a1 n1 c1) ∧ W.cell? ⟨w.heap.size, 2, none⟩ = some (.bool closed) ∧ W.cell? ⟨w.heap.size, 3, none⟩ = some (.slice a2 n2 c2) ∧ W.cell? ⟨w.heap.size, 4, none⟩ = some (.slice a3 n3 c3)) ∧ (W.cell? ⟨N, 0, none⟩ = some (.int .i64 cap6) ∧ W.cell? ⟨N, 1, none⟩ = some (.slice g1 l1 h1) ∧ W.cell? ⟨N, 2, none⟩ = some (.bool closed6) ∧ W.cell? ⟨N, 3, none⟩ = some (.slice g2 l2 h2) ∧ W.cell? ⟨N, 4, none⟩ = some (.slice g3 l3 h3)) ∧ (W.cell? ⟨N + 1, 0, none⟩ = some (.bool true) ∧ W.cell? ⟨N + 1, 1, none⟩ = some (.bool u1) ∧ W.cell? ⟨N + 1, 2, none⟩ = some (.bool u2) ∧ W.cell? ⟨N + 1, 3, none⟩ = some (.int .i64 u3) ∧ W.cell? ⟨N + 1, 4, none⟩ = some (.int .i64 u4) ∧ W.cell? ⟨N + 1, 5, none⟩ = some (.slice g4 l4 h4)) ∧ Below W13.heap.size W13 W)
        (first | with_reducible exact unhide HSS _ (Below.refl _ _).drew | with_reducible exact unhide HSS _ (unhide HZ))
        (first
          | (go_at_call 19; refine (unhide HTF _ (Below.next (unhide HBv) (Below.refl _ _).drew (Nat.le_refl _))).mono ?_; rintro e w15 ⟨rfl, hb15⟩; have HZ : Hid (Below W13.heap.size W13 w15) := Below.next (Below.refl _ _).drew hb15 (Nat.le_refl _); clear hb15)
          | (go_at_call 18; refine (pipeAs_any _ _ _ _ _ _ _ _ _ T0 T1 ((unhide HQv).below (unhide HZ)) ((unhide HAv).below (unhide HZ)) ((unhide HGv).below (unhide HZ)) ((unhide HDv).below (unhide HZ)) (short_of (unhide HW1).1) (unhide HW1).2 (unhide HEQ) (unhide HZZ)).mono ?_; rintro e w16 ⟨rfl, hb16⟩; have HZ2 : Hid (Below W13.heap.size W13 w16) := Below.next (unhide HZ) hb16 (Nat.le_refl _); clear HZ hb16; have HZ := HZ2; clear HZ2))
      go_wp2_with fail
      go_ret
      exact ⟨rfl, Below.next (unhide HBv) (unhide HZ) (Nat.le_refl _)⟩
    | false =>
      cases try_ with
      | false => cases hd
      | true =>
        go_upto_region 10 with fail
        clear x0 x1 x2 x3 x4 x5 xl
        have HSS : Hid (∀ W, Below W13.heap.size W13 W → (W.cell? ⟨Q, 0, none⟩ = some (.int .i64 cap5) ∧ W.cell? ⟨Q, 1, none⟩ = some (.slice e1 m1 f1) ∧ W.cell? ⟨Q, 2, none⟩ = some (.bool closed5) ∧ W.cell? ⟨Q, 3, none⟩ = some (.slice e2 m2 f2) ∧ W.cell? ⟨Q, 4, none⟩ = some (.slice e3 m3 f3)) ∧ (W.cell? ⟨Q + 1, 0, none⟩ = some (.bool o0) ∧ W.cell? ⟨Q + 1, 1, none⟩ = some (.bool o1) ∧ W.cell? ⟨Q + 1, 2, none⟩ = some (.bool o2) ∧ W.cell? ⟨Q + 1, 3, none⟩ = some (.int .i64 o3) ∧ W.cell? ⟨Q + 1, 4, none⟩ = some (.int .i64 o4) ∧ W.cell? ⟨Q + 1, 5, none⟩ = some (.slice e4 m4 f4)) ∧ (W.cell? ⟨Q + 1 + 1, 0, none⟩ = some (.int .i64 T0) ∧ W.cell? ⟨Q + 1 + 1, 1, none⟩ = some (.int .i64 T1)) ∧ (W.cell? ⟨w.heap.size, 0, none⟩ = some (.int .i64 cap) ∧ W.cell? ⟨w.heap.size, 1, none⟩ = some (.slice a1 n1 c1) ∧ W.cell? ⟨w.heap.size, 2, none⟩ = some (.bool closed) ∧ W.cell? ⟨w.heap.size, 3, none⟩ = some (.slice a2 n2 c2) ∧ W.cell? ⟨w.heap.size, 4, none⟩ = some (.slice a3 n3 c3)) ∧ (W.cell? ⟨N, 0, none⟩ = some (.int .i64 cap6) ∧ W.cell? ⟨N, 1, none⟩ = some (.slice g1 l1 h1) ∧ W.cell? ⟨N, 2, none⟩ = some (.bool closed6) ∧ W.cell? ⟨N, 3, none⟩ = some (.slice g2 l2 h2) ∧ W.cell? ⟨N, 4, none⟩ = some (.slice g3 l3 h3)) ∧ (W.cell? ⟨N + 1, 0, none⟩ = some (.bool false) ∧ W.cell? ⟨N + 1, 1, none⟩ = some (.bool u1) ∧ W.cell? ⟨N + 1, 2, none⟩ = some (.bool u2) ∧ W.cell? ⟨N + 1, 3, none⟩ = some (.int .i64 u3) ∧ W.cell? ⟨N + 1, 4, none⟩ = some (.int .i64 u4) ∧ W.cell? ⟨N + 1, 5, none⟩ = some (.slice g4 l4 h4)) ∧ Below W13.heap.size W13 W) := fun W hW =>
          ⟨(block5 (keep_below (unhide JQv) hW)).1, (block6 (keep_below (unhide JAv) hW)).1, ⟨(block2 (keep_below (unhide JFv) hW)).1, (block2 (keep_below (unhide JFv) hW)).2.1⟩, (block5 (keep_below (unhide HKv) hW)).1, (block5 (keep_below (unhide JNv) hW)).1, (block6 (keep_below (unhide JBv) hW)).1, hW⟩
        go_wp2_with fail
        go_region_held3 (fun W => (W.cell? ⟨Q, 0, none⟩ = some (.int .i64 cap5) ∧ W.cell? ⟨Q, 1, none⟩ = some (.slice e1 m1 f1) ∧ W.cell? ⟨Q, 2, none⟩ = some (.bool closed5) ∧ W.cell? ⟨Q, 3, none⟩ = some (.slice e2 m2 f2) ∧ W.cell? ⟨Q, 4, none⟩ = some (.slice e3 m3 f3)) ∧ (W.cell? ⟨Q + 1, 0, none⟩ = some (.bool o0) ∧ W.cell? ⟨Q + 1, 1, none⟩ = some (.bool o1) ∧ W.cell? ⟨Q + 1, 2, none⟩ = some (.bool o2) ∧ W.cell? ⟨Q + 1, 3, none⟩ = some (.int .i64 o3) ∧ W.cell? ⟨Q + 1, 4, none⟩ = some (.int .i64 o4) ∧ W.cell? ⟨Q + 1, 5, none⟩ = some (.slice e4 m4 f4)) ∧ (W.cell? ⟨Q + 1 + 1, 0, none⟩ = some (.int .i64 T0) ∧ W.cell? ⟨Q + 1 + 1, 1, none⟩ = some (.int .i64 T1)) ∧ (W.cell? ⟨w.heap.size, 0, none⟩ = some (.int .i64 cap) ∧ W.cell? ⟨w.heap.size, 1, none⟩ = some (.slice a1 n1 c1) ∧ W.cell? ⟨w.heap.size, 2, none⟩ = some (.bool closed) ∧ W.cell? ⟨w.heap.size, 3, none⟩ = some (.slice a2 n2 c2) ∧ W.cell? ⟨w.heap.size, 4, none⟩ = some (.slice a3 n3 c3)) ∧ (W.cell? ⟨N, 0, none⟩ = some (.int .i64 cap6) ∧ W.cell? ⟨N, 1, none⟩ = some (.slice g1 l1 h1) ∧ W.cell? ⟨N, 2, none⟩ = some (.bool closed6) ∧ W.cell? ⟨N, 3, none⟩ = some (.slice g2 l2 h2) ∧ W.cell? ⟨N, 4, none⟩ = some (.slice g3 l3 h3)) ∧ (W.cell? ⟨N + 1, 0, none⟩ = some (.bool false) ∧ W.cell? ⟨N + 1, 1, none⟩ = some (.bool u1) ∧ W.cell? ⟨N + 1, 2, none⟩ = some (.bool u2) ∧ W.cell? ⟨N + 1, 3, none⟩ = some (.int .i64 u3) ∧ W.cell? ⟨N + 1, 4, none⟩ = some (.int .i64 u4) ∧ W.cell? ⟨N + 1, 5, none⟩ = some (.slice g4 l4 h4)) ∧ Below W13.heap.size W13 W)
          (first | with_reducible exact unhide HSS _ (Below.refl _ _).drew | with_reducible exact unhide HSS _ (unhide HZ))
          (first
            | (go_at_call 19; refine (unhide HTF _ (Below.next (unhide HBv) (Below.refl _ _).drew (Nat.le_refl _))).mono ?_; rintro e w15 ⟨rfl, hb15⟩; have HZ : Hid (Below W13.heap.size W13 w15) := Below.next (Below.refl _ _).drew hb15 (Nat.le_refl _); clear hb15)
            | (go_at_call 18; refine (pipeAs_any _ _ _ _ _ _ _ _ _ T0 T1 ((unhide HQv).below (unhide HZ)) ((unhide HAv).below (unhide HZ)) ((unhide HGv).below (unhide HZ)) ((unhide HDv).below (unhide HZ)) (short_of (unhide HW1).1) (unhide HW1).2 (unhide HEQ) (unhide HZZ)).mono ?_; rintro e w16 ⟨rfl, hb16⟩; have HZ2 : Hid (Below W13.heap.size W13 w16) := Below.next (unhide HZ) hb16 (Nat.le_refl _); clear HZ hb16; have HZ := HZ2; clear HZ2))
        go_wp2_with fail
        go_ret
        exact ⟨rfl, Below.next (unhide HBv) (unhide HZ) (Nat.le_refl _)⟩

theorem gets_walk (w : World) (v : Value) (P : Pp) (x : Int) (try_ : Bool) (h : IsPipe w v P) (hs : Short P) :
    Calls Try.prog 4 #[v, .int .i64 x, .bool try_] w fun e w' => e = .returned (.bool true) ∧ Below w.heap.size w w' := by
  cases hv : vastL P with
  | true => exact gets_vast w v P x try_ h hs hv
  | false => exact gets_main w v P x try_ h (not_vast hv) hv
end Go.Proofs.Ytijogcjocandcaa
