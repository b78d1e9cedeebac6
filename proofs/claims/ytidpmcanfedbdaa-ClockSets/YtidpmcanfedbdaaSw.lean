/-
  The walk of taskmilllaw.ClockSets.
-/
import Derived.Test.YtidpmcanfedbdaaUn
namespace Go.Proofs.Ytidpmcanfedbdaa
open Go.RowKit

theorem But.put_self {g : Nat} {w W : World} (h : But g w W) (x y : Value) : But g w (put2 W g x y) :=
  ⟨h.os, h.tape, h.output, Nat.le_trans h.size (by simp [put2, World.setCell]), fun k hk hg => (put2_keep hg).trans (h.block k hk hg)⟩
/-- Is what Set is asked out of range? -/
def badQ (id after period : Int) : Bool := decide (id < 1 ∨ after < 1 ∨ 1000000000 < after ∨ period < 0 ∨ 1000000000 < period)
/-- What Set tells ahead of ErrMuch. -/
def setU (C : Int × Int) (id after period : Int) : Int × Int := if (C.1 == 0 && badQ id after period) = true then (3, -1) else C
/-- What Set tells at last. -/
def setV (U : Int × Int) (m : Nat) (next : Int) : Int × Int := if (U.1 == 0 && (decide (m = 5000) || next == 1000000000)) = true then (9, 0) else U
theorem setF_uv (now next : Int) (xs : List Al) (id after period : Int) : setF now next xs id after period = setV (setU (clockF now next xs) id after period) (noL id xs).length next := by
  unfold setF
  by_cases h0 : (clockF now next xs).1 = 0
  · rw [if_neg (by simpa using h0)]
    have e0 : ((clockF now next xs).1 == 0) = true := by simpa using h0
    by_cases h1 : id < 1 ∨ after < 1 ∨ 1000000000 < after ∨ period < 0 ∨ 1000000000 < period
    · have hU : setU (clockF now next xs) id after period = (3, -1) := by unfold setU badQ; rw [e0, Bool.true_and, if_pos (decide_eq_true h1)]
      rw [hU, if_pos (by omega)]
      rfl
    · have hU : setU (clockF now next xs) id after period = clockF now next xs := by
        unfold setU badQ
        rw [e0, Bool.true_and, decide_eq_false h1]
        rfl
      rw [hU, if_neg (by omega)]
      unfold setV
      rw [e0, Bool.true_and]
      by_cases h2 : (noL id xs).length = 5000 ∨ next = 1000000000
      · rw [if_pos h2, if_pos (by rcases h2 with h2 | h2 <;> simp [h2])]
      · rw [if_neg h2, if_neg (by simp; omega)]
        exact (clockF_good h0).1.symm
  · rw [if_pos h0]
    have e0 : ((clockF now next xs).1 == 0) = false := by simpa using h0
    have hU : setU (clockF now next xs) id after period = clockF now next xs := by
      unfold setU
      rw [e0, Bool.false_and]
      rfl
    rw [hU]
    unfold setV
    rw [e0, Bool.false_and]
    rfl
theorem sets_facts {now next : Int} {xs : List Al} {id after period C0 C1 U0 U1 V0 V1 F0 F1 n1 x1 n2 x2 T0 T1 r Q0 Q1 : Int} {zs1 zs2 : List Al} {was is : Bool} (hc : clockF now next xs = (C0, C1)) (hu : setU (C0, C1) id after period = (U0, U1)) (hv : setV (U0, U1) (noL id xs).length next = (V0, V1)) (h1 : setR now next xs id after period = ((F0, F1), (n1, x1, zs1), was)) (h2 : stopR now next xs id = ((T0, T1), (n2, x2, zs2), is)) (h3 : soonR now next xs = (r, (Q0, Q1))) :
    F0 = V0 ∧ F1 = V1 ∧ T0 = C0 ∧ T1 = C1 ∧ (V0 ≠ 0 → n1 = 0 ∧ x1 = 0 ∧ zs1 = [] ∧ was = false) ∧
    (V0 = 0 → C0 = 0 ∧ n1 = now ∧ x1 = next + 1 ∧ zs1 = insL (id, now + after, period, next) (noL id xs) ∧ was = xs.any (fun p => p.1 == id) ∧ 1 ≤ after ∧ after ≤ 1000000000) ∧
    (C0 ≠ 0 → n2 = 0 ∧ x2 = 0 ∧ zs2 = [] ∧ is = false ∧ r = 0 ∧ Q0 = C0 ∧ Q1 = C1) ∧
    (C0 = 0 → C1 = 0 ∧ Good now next xs ∧ n2 = now ∧ x2 = next ∧ zs2 = noL id xs ∧ is = xs.any (fun p => p.1 == id) ∧ (xs = [] → r = 0 ∧ Q0 = 6 ∧ Q1 = 0) ∧ (∀ x l, xs = x :: l → r = x.2.1 - now ∧ Q0 = 0 ∧ Q1 = 0)) := by
  have hsf : setF now next xs id after period = (V0, V1) := by rw [setF_uv, hc, hu, hv]
  have hF : F0 = V0 ∧ F1 = V1 ∧ (V0 ≠ 0 → n1 = 0 ∧ x1 = 0 ∧ zs1 = [] ∧ was = false) ∧ (V0 = 0 → C0 = 0 ∧ n1 = now ∧ x1 = next + 1 ∧ zs1 = insL (id, now + after, period, next) (noL id xs) ∧ was = xs.any (fun p => p.1 == id) ∧ 1 ≤ after ∧ after ≤ 1000000000) := by
    unfold setR at h1
    rw [hsf] at h1
    by_cases hv0 : V0 ≠ 0
    · rw [if_pos hv0] at h1
      cases h1
      exact ⟨rfl, rfl, fun _ => ⟨rfl, rfl, rfl, rfl⟩, fun e => absurd e hv0⟩
    · rw [if_neg hv0] at h1
      have hv00 : V0 = 0 := Decidable.not_not.1 hv0
      obtain ⟨g1, g2, g3, g4, g5, -⟩ := setF_good (now := now) (next := next) (xs := xs) (id := id) (after := after) (period := period) (by rw [hsf]; exact hv00)
      rw [hsf] at g1
      have hcc : C0 = 0 := by have := good_clockF g2; rw [hc] at this; exact congrArg Prod.fst this
      cases h1
      refine ⟨hv00.symm, (congrArg Prod.snd g1).symm, fun e => absurd hv00 e, fun _ => ⟨hcc, rfl, rfl, rfl, noL_was id xs, g4, g5⟩⟩
  obtain ⟨f1, f2, f3, f4⟩ := hF
  refine ⟨f1, f2, ?_⟩
  by_cases h0 : C0 ≠ 0
  · unfold stopR at h2
    unfold soonR at h3
    rw [hc, if_pos h0] at h2 h3
    cases h2
    cases h3
    exact ⟨rfl, rfl, f3, f4, fun _ => ⟨rfl, rfl, rfl, rfl, rfl, rfl, rfl⟩, fun e => absurd e h0⟩
  · have h00 : C0 = 0 := Decidable.not_not.1 h0
    obtain ⟨g1, g2⟩ := clockF_good (now := now) (next := next) (xs := xs) (by rw [hc]; exact h00)
    rw [hc] at g1
    have hc1 : C1 = 0 := congrArg Prod.snd g1
    unfold stopR at h2
    unfold soonR at h3
    rw [hc, if_neg h0] at h2 h3
    cases h2
    refine ⟨h00.symm, hc1.symm, f3, f4, fun e => absurd h00 e, fun _ => ⟨hc1, g2, rfl, rfl, rfl, noL_was id xs, fun e => ?_, fun x l e => ?_⟩⟩
    · subst e
      cases h3
      exact ⟨rfl, rfl, rfl⟩
    · subst e
      cases h3
      exact ⟨rfl, rfl, rfl⟩

set_option maxRecDepth 100000 in
set_option maxHeartbeats 2000000 in
theorem sets_walk (w : World) (v : Value) (now next : Int) (xs : List Al) (id after period : Int) (h : IsC w v now next xs) (hm : xs.length * 32 ≤ 140737488355328) :
    Calls Try.prog 3 #[v, .int .i64 id, .int .i64 after, .int .i64 period] w fun e w' => e = .returned (.bool true) ∧ Below w.heap.size w w' := by
  have hn : xs.length ≤ maxLen := by unfold maxLen; omega
  have HIC := hide h
  obtain ⟨a0, c0, rfl, hL⟩ := h.form
  obtain ⟨⟨C0, C1⟩, e0⟩ : ∃ r, clockF now next xs = r := ⟨_, rfl⟩
  obtain ⟨⟨U0, U1⟩, eU⟩ : ∃ r, setU (C0, C1) id after period = r := ⟨_, rfl⟩
  obtain ⟨⟨V0, V1⟩, eV⟩ : ∃ r, setV (U0, U1) (noL id xs).length next = r := ⟨_, rfl⟩
  obtain ⟨⟨⟨F0, F1⟩, ⟨n1, x1, zs1⟩, was⟩, e1⟩ : ∃ r, setR now next xs id after period = r := ⟨_, rfl⟩
  obtain ⟨⟨⟨T0, T1⟩, ⟨n2, x2, zs2⟩, is⟩, e2⟩ : ∃ r, stopR now next xs id = r := ⟨_, rfl⟩
  obtain ⟨⟨r, Q0, Q1⟩, e3⟩ : ∃ r, soonR now next xs = r := ⟨_, rfl⟩
  obtain ⟨rfl, rfl, rfl, rfl, hz1, hz2, hz3, hz4⟩ := sets_facts e0 eU eV e1 e2 e3
  have HZ1 := hide hz1; have HZ2 := hide hz2; have HZ3 := hide hz3; have HZ4 := hide hz4; have HEU := hide eU; have HEV := hide eV
  have HCK : Hid (∀ W a c, IsL KA W (.slice a xs.length c) xs → Calls Try.prog 11 #[.agg #[.int .i64 now, .int .i64 next, .slice a xs.length c]] W fun e w' => e = .returned (.agg #[.int .i64 T0, .int .i64 T1]) ∧ Below W.heap.size W w') := fun W a c hl => by
    have := check_any W _ now next xs ⟨_, rfl, hl⟩ hn
    rw [e0] at this
    exact this
  have HSE : Hid (∀ W a c, IsL KA W (.slice a xs.length c) xs → Calls Try.prog 12 #[.agg #[.int .i64 now, .int .i64 next, .slice a xs.length c], .int .i64 id, .int .i64 after, .int .i64 period] W fun e w' => ∃ av cv, e = .returned (.tuple #[.agg #[.int .i64 n1, .int .i64 x1, .slice av zs1.length cv], .bool was, .agg #[.int .i64 F0, .int .i64 F1]]) ∧ IsL KA w' (.slice av zs1.length cv) zs1 ∧ Below W.heap.size W w') := fun W a c hl => set_any W _ now next xs id after period ⟨_, rfl, hl⟩ hn F0 F1 n1 x1 zs1 was e1
  have HST : Hid (∀ W a c, IsL KA W (.slice a xs.length c) xs → Calls Try.prog 13 #[.agg #[.int .i64 now, .int .i64 next, .slice a xs.length c], .int .i64 id] W fun e w' => ∃ av cv, e = .returned (.tuple #[.agg #[.int .i64 n2, .int .i64 x2, .slice av zs2.length cv], .bool is, .agg #[.int .i64 T0, .int .i64 T1]]) ∧ IsL KA w' (.slice av zs2.length cv) zs2 ∧ Below W.heap.size W w') := fun W a c hl => stop_any W _ now next xs id ⟨_, rfl, hl⟩ hn T0 T1 n2 x2 zs2 is e2
  have HSN : Hid (∀ W a c, IsL KA W (.slice a xs.length c) xs → Calls Try.prog 14 #[.agg #[.int .i64 now, .int .i64 next, .slice a xs.length c]] W fun e w' => e = .returned (.tuple #[.int .i64 r, .agg #[.int .i64 Q0, .int .i64 Q1]]) ∧ Below W.heap.size W w') := fun W a c hl => soon_any W _ now next xs ⟨_, rfl, hl⟩ hn r Q0 Q1 e3
  have HCF : Hid (∀ W, Below w.heap.size w W → Calls Try.prog 15 #[.agg #[.int .i64 now, .int .i64 next, .slice a0 xs.length c0]] W fun e w' => e = .returned (.agg #[.int .i64 T0, .int .i64 T1]) ∧ Below W.heap.size W w') := fun W hW => by
    have := clockFault_any W _ now next xs ((unhide HIC).below hW) hn
    rw [e0] at this
    exact this
  have HOW : Hid (∀ W, Below w.heap.size w W → Calls Try.prog 10 #[.agg #[.int .i64 now, .int .i64 next, .slice a0 xs.length c0]] W fun e w' => ∃ a c, e = .returned (.agg #[.int .i64 now, .int .i64 next, .slice a xs.length c]) ∧ IsL KA w' (.slice a xs.length c) xs ∧ Below W.heap.size W w') := fun W hW => ownClock_any W _ now next xs ((unhide HIC).below hW) hm
  have HSX : Hid (∀ W a c, Below w.heap.size w W → IsL KA W (.slice a xs.length c) xs → xs.length ≤ 6000 → Calls Try.prog 16 #[.agg #[.int .i64 now, .int .i64 next, .slice a xs.length c], .agg #[.int .i64 now, .int .i64 next, .slice a0 xs.length c0]] W fun e w' => e = .returned (.bool true) ∧ Below W.heap.size W w') := fun W a c hW hl h6 => sameClock_same W _ _ now next xs ⟨_, rfl, hl⟩ ((unhide HIC).below hW) (by omega)
  have HNA : Hid (∀ W, Below w.heap.size w W → xs.length ≤ 6000 → Calls Try.prog 18 #[.agg #[.int .i64 now, .int .i64 next, .slice a0 xs.length c0], .int .i64 id] W fun e w' => ∃ a c, e = .returned (.tuple #[.agg #[.int .i64 now, .int .i64 next, .slice a (noL id xs).length c], .bool (xs.any (fun p => p.1 == id))]) ∧ Own KA W.heap.size w' (.slice a (noL id xs).length c) (noL id xs) ∧ Below W.heap.size W w') := fun W hW h6 => noAlarm_own W _ now next xs id ((unhide HIC).below hW) (by omega)
  have HLG := hide (fun W => long_any W xs.length hn)
  have H0 := hide (hL.opens ka rfl)
  obtain ⟨had, ehad⟩ : ∃ b, xs.any (fun p => p.1 == id) = b := ⟨_, rfl⟩
  rw [ehad] at HNA HZ2 HZ4
  obtain ⟨ys, eys⟩ : ∃ ys, noL id xs = ys := ⟨_, rfl⟩
  have hyl : (noL id xs).length ≤ xs.length := (noL_sub id xs).length_le
  rw [eys] at HNA HZ2 HZ4 HEV hyl
  obtain ⟨n, en⟩ : ∃ n, xs.length = n := ⟨_, rfl⟩
  rw [en] at HCK HSE HST HSN HCF HOW HSX HNA HLG H0 hm hn hyl ⊢
  obtain ⟨m, em⟩ : ∃ m, ys.length = m := ⟨_, rfl⟩
  obtain ⟨m1, em1⟩ : ∃ m, zs1.length = m := ⟨_, rfl⟩
  obtain ⟨m2, em2⟩ : ∃ m, zs2.length = m := ⟨_, rfl⟩
  rw [em] at HNA HEV hyl; rw [em1] at HSE; rw [em2] at HST
  have HN := hide en; have HEM := hide em; have HEM1 := hide em1; have HEM2 := hide em2
  clear h hL en em em1 em2 e0 e1 e2 e3 hz1 hz2 hz3 hz4 eU eV ehad eys HIC
  obtain ⟨W0, e0, hB, k0⟩ : ∃ W, w.alloc (.cells #[.int .i64 now, .int .i64 next, .slice a0 n c0] 24) = W ∧ Below w.heap.size w W ∧ W.heap[w.heap.size]? = some (.cells #[.int .i64 now, .int .i64 next, .slice a0 n c0] 24) := ⟨_, rfl, (Below.refl _ _).alloc (Nat.le_refl _) _, new_block _ _⟩
  have HX := hide hB; have HP := hide k0; have HE := hide e0
  clear hB k0 e0
  go_enter Try.func3, Try.ntmps3
  go_upto_region 1 with fail
  rw [unhide HE]
  clear HE
  go_upto_region 3 with (go_at_call 8; refine (begun_any _).mono ?_; rintro e w1 ⟨rfl, hb1⟩; have HX_1 := hide (Below.next (unhide HX) hb1 (by first | exact Nat.le_refl _ | (have := unhide HBA; omega))); have Kp_1 := hide (keep_below (unhide HP) hb1); clear HX HP; clear hb1)
  obtain ⟨⟨p0, p1, p2⟩, ⟨pf0, pf1, pf2⟩, pl⟩ := block3 (unhide Kp_1)
  by_cases hlong : (700 < n ∧ n < 4999) ∨ 6000 < n
  · rw [decide_eq_true hlong] at HLG
    go_wp2_with (go_at_call 9; refine (unhide HLG _).mono ?_; rintro e w1b ⟨rfl, rfl⟩)
    go_ret
    exact ⟨rfl, unhide HX_1⟩
  rw [decide_eq_false hlong] at HLG
  have hn6 : n ≤ 6000 := by omega
  have HSX2 := hide (fun W a c hW hl => unhide HSX W a c hW hl hn6)
  have HNA2 := hide (fun W hW => unhide HNA W hW hn6)
  clear hlong HSX HNA
  go_upto_region 6 with (first | (go_at_call 9; refine (unhide HLG _).mono ?_; rintro e w1b ⟨rfl, hw1b⟩; subst hw1b) | (go_at_call 10; refine (unhide HOW _ (unhide HX_1)).mono ?_; rintro e w2 ⟨a2, c2, rfl, hl2, hb2⟩; have HL2 := hide hl2; have HCX : Hid (Below w2.heap.size w2 w2) := Below.refl _ _; have HX_2 := hide (Below.next (unhide HX_1) hb2 (by first | exact Nat.le_refl _ | (have := unhide HBA; omega))); have Kp_2 := hide (keep_below (unhide Kp_1) hb2); clear HX_1 Kp_1; clear hb2 hl2 p0 p1 p2 pf0 pf1 pf2 pl))
  have HX_3 := hide ((unhide HX_2).alloc (Nat.le_trans (show w.heap.size ≤ w.heap.size from Nat.le_refl _) (unhide HX_2).size) (.cells #[.int .i64 now, .int .i64 next, .slice a2 n c2] 24))
  have Kp_3 := hide (keep_alloc (unhide Kp_2) (.cells #[.int .i64 now, .int .i64 next, .slice a2 n c2] 24))
  have Cx_3 := hide ((unhide HCX).alloc (unhide HCX).size (.cells #[.int .i64 now, .int .i64 next, .slice a2 n c2] 24))
  have Kx_3 := hide (new_block w2 (.cells #[.int .i64 now, .int .i64 next, .slice a2 n c2] 24))
  have hlp_x : w.heap.size < w2.heap.size := size_of (unhide Kp_2)
  obtain ⟨TX, eTX⟩ : ∃ X, w2.heap.size = X := ⟨_, rfl⟩
  obtain ⟨W1, eW1⟩ : ∃ X, w2.alloc (.cells #[.int .i64 now, .int .i64 next, .slice a2 n c2] 24) = X := ⟨_, rfl⟩
  rw [eTX, eW1] at Kx_3; rw [eW1] at HX_3 Kp_3 Cx_3; rw [eTX] at hlp_x; rw [eTX, eW1]
  have hleTX : w2.heap.size ≤ TX := Nat.le_of_eq eTX
  clear eTX eW1 HX_2 Kp_2 HCX
  obtain ⟨⟨x0, x1, x2⟩, ⟨xf0, xf1, xf2⟩, xl⟩ := block3 (unhide Kx_3)
  go_upto_region 7 with (go_at_call 11; refine (unhide HCK _ a2 c2 ((unhide HL2).below (unhide Cx_3))).mono ?_; rintro e w3 ⟨rfl, hb3⟩; have HX_4 := hide (Below.next (unhide HX_3) hb3 (by first | exact Nat.le_refl _ | (have := unhide HBA; omega))); have Kp_4 := hide (keep_below (unhide Kp_3) hb3); have Kx_4 := hide (keep_below (unhide Kx_3) hb3); have Cx_4 := hide (Below.next (unhide Cx_3) hb3 (Nat.le_refl _)); clear HX_3 Kp_3 Kx_3 Cx_3; clear hb3 x0 x1 x2 xf0 xf1 xf2 xl)
  have HX_5 := hide ((unhide HX_4).alloc (Nat.le_trans (show w.heap.size ≤ w.heap.size from Nat.le_refl _) (unhide HX_4).size) (.cells #[.int .i64 T0, .int .i64 T1] 29))
  have Kp_5 := hide (keep_alloc (unhide Kp_4) (.cells #[.int .i64 T0, .int .i64 T1] 29))
  have Kx_5 := hide (keep_alloc (unhide Kx_4) (.cells #[.int .i64 T0, .int .i64 T1] 29))
  have Cx_5 := hide ((unhide Cx_4).alloc (unhide Cx_4).size (.cells #[.int .i64 T0, .int .i64 T1] 29))
  have Kk_5 := hide (new_block w3 (.cells #[.int .i64 T0, .int .i64 T1] 29))
  have hlp_k : w.heap.size < w3.heap.size := size_of (unhide Kp_4)
  have hlx_k : TX < w3.heap.size := size_of (unhide Kx_4)
  obtain ⟨TK, eTK⟩ : ∃ X, w3.heap.size = X := ⟨_, rfl⟩
  obtain ⟨W2, eW2⟩ : ∃ X, w3.alloc (.cells #[.int .i64 T0, .int .i64 T1] 29) = X := ⟨_, rfl⟩
  rw [eTK, eW2] at Kk_5; rw [eW2] at HX_5 Kp_5 Kx_5 Cx_5; rw [eTK] at hlp_k hlx_k; rw [eTK, eW2]
  clear eTK eW2 HX_4 Kp_4 Kx_4 Cx_4
  obtain ⟨⟨x0, x1, x2⟩, ⟨xf0, xf1, xf2⟩, xl⟩ := block3 (unhide Kx_5)
  go_upto_region 8 with (go_at_call 12; refine (unhide HSE _ a2 c2 ((unhide HL2).below (unhide Cx_5))).mono ?_; rintro e w4 ⟨av1, cv1, rfl, hl4, hb4⟩; have HL4 := hide hl4; have HCA : Hid (Below w4.heap.size w4 w4) := Below.refl _ _; have HX_6 := hide (Below.next (unhide HX_5) hb4 (by first | exact Nat.le_refl _ | (have := unhide HBA; omega))); have Kp_6 := hide (keep_below (unhide Kp_5) hb4); have Kx_6 := hide (keep_below (unhide Kx_5) hb4); have Kk_6 := hide (keep_below (unhide Kk_5) hb4); have Cx_6 := hide (Below.next (unhide Cx_5) hb4 (Nat.le_refl _)); clear HX_5 Kp_5 Kx_5 Kk_5 Cx_5; clear hb4 hl4 x0 x1 x2 xf0 xf1 xf2 xl)
  obtain ⟨W3, eW3, hBW3, k0_7, k1_7⟩ := two_new w4 (.cells #[.int .i64 n1, .int .i64 x1, .slice av1 m1 cv1] 24) (.cells #[.int .i64 F0, .int .i64 F1] 29)
  rw [eW3]
  clear eW3
  have hlp_a : w.heap.size < w4.heap.size := size_of (unhide Kp_6)
  have hlx_a : TX < w4.heap.size := size_of (unhide Kx_6)
  have hlk_a : TK < w4.heap.size := size_of (unhide Kk_6)
  (have HX_7 := hide (Below.next (unhide HX_6) hBW3 (by first | exact Nat.le_refl _ | (have := unhide HBA; omega))); have Kp_7 := hide (keep_below (unhide Kp_6) hBW3); have Kx_7 := hide (keep_below (unhide Kx_6) hBW3); have Kk_7 := hide (keep_below (unhide Kk_6) hBW3); have Cx_7 := hide (Below.next (unhide Cx_6) hBW3 (Nat.le_refl _)); have Ca_7 := hide (Below.next (unhide HCA) hBW3 (Nat.le_refl _)); clear HX_6 Kp_6 Kx_6 Kk_6 Cx_6 HCA)
  obtain ⟨X1, eX1⟩ : ∃ X, w4.heap.size = X := ⟨_, rfl⟩
  rw [eX1] at k0_7 k1_7 hlp_a hlx_a hlk_a ⊢
  have Ka_7 := hide k0_7
  have Kf1_7 := hide k1_7
  have hleX1 : w4.heap.size ≤ X1 := Nat.le_of_eq eX1
  clear eX1 hBW3 k0_7 k1_7
  obtain ⟨⟨x0, x1, x2⟩, ⟨xf0, xf1, xf2⟩, xl⟩ := block3 (unhide Kx_7)
  go_upto_region 9 with (go_at_call 13; refine (unhide HST _ a2 c2 ((unhide HL2).below (unhide Cx_7))).mono ?_; rintro e w5 ⟨av2, cv2, rfl, hl5, hb5⟩; have HL5 := hide hl5; have HCB : Hid (Below w5.heap.size w5 w5) := Below.refl _ _; have HX_8 := hide (Below.next (unhide HX_7) hb5 (by first | exact Nat.le_refl _ | (have := unhide HBA; omega))); have Kp_8 := hide (keep_below (unhide Kp_7) hb5); have Kx_8 := hide (keep_below (unhide Kx_7) hb5); have Kk_8 := hide (keep_below (unhide Kk_7) hb5); have Ka_8 := hide (keep_below (unhide Ka_7) hb5); have Kf1_8 := hide (keep_below (unhide Kf1_7) hb5); have Cx_8 := hide (Below.next (unhide Cx_7) hb5 (Nat.le_refl _)); have Ca_8 := hide (Below.next (unhide Ca_7) hb5 (Nat.le_refl _)); clear HX_7 Kp_7 Kx_7 Kk_7 Ka_7 Kf1_7 Cx_7 Ca_7; clear hb5 hl5 x0 x1 x2 xf0 xf1 xf2 xl)
  obtain ⟨W4, eW4, hBW4, k0_9, k1_9⟩ := two_new w5 (.cells #[.int .i64 n2, .int .i64 x2, .slice av2 m2 cv2] 24) (.cells #[.int .i64 T0, .int .i64 T1] 29)
  rw [eW4]
  clear eW4
  have hlp_b : w.heap.size < w5.heap.size := size_of (unhide Kp_8)
  have hlx_b : TX < w5.heap.size := size_of (unhide Kx_8)
  have hlk_b : TK < w5.heap.size := size_of (unhide Kk_8)
  have hla_b : X1 < w5.heap.size := size_of (unhide Ka_8)
  have hlf1_b : X1 + 1 < w5.heap.size := size_of (unhide Kf1_8)
  (have HX_9 := hide (Below.next (unhide HX_8) hBW4 (by first | exact Nat.le_refl _ | (have := unhide HBA; omega))); have Kp_9 := hide (keep_below (unhide Kp_8) hBW4); have Kx_9 := hide (keep_below (unhide Kx_8) hBW4); have Kk_9 := hide (keep_below (unhide Kk_8) hBW4); have Ka_9 := hide (keep_below (unhide Ka_8) hBW4); have Kf1_9 := hide (keep_below (unhide Kf1_8) hBW4); have Cx_9 := hide (Below.next (unhide Cx_8) hBW4 (Nat.le_refl _)); have Ca_9 := hide (Below.next (unhide Ca_8) hBW4 (Nat.le_refl _)); have Cb_9 := hide (Below.next (unhide HCB) hBW4 (Nat.le_refl _)); clear HX_8 Kp_8 Kx_8 Kk_8 Ka_8 Kf1_8 Cx_8 Ca_8 HCB)
  obtain ⟨X2, eX2⟩ : ∃ X, w5.heap.size = X := ⟨_, rfl⟩
  rw [eX2] at k0_9 k1_9 hlp_b hlx_b hlk_b hla_b hlf1_b ⊢
  have Kb_9 := hide k0_9
  have Kf2_9 := hide k1_9
  have hleX2 : w5.heap.size ≤ X2 := Nat.le_of_eq eX2
  clear eX2 hBW4 k0_9 k1_9
  obtain ⟨⟨x0, x1, x2⟩, ⟨xf0, xf1, xf2⟩, xl⟩ := block3 (unhide Kx_9)
  go_upto_region 10 with (go_at_call 14; refine (unhide HSN _ a2 c2 ((unhide HL2).below (unhide Cx_9))).mono ?_; rintro e w6 ⟨rfl, hb6⟩; have HX_10 := hide (Below.next (unhide HX_9) hb6 (by first | exact Nat.le_refl _ | (have := unhide HBA; omega))); have Kp_10 := hide (keep_below (unhide Kp_9) hb6); have Kx_10 := hide (keep_below (unhide Kx_9) hb6); have Kk_10 := hide (keep_below (unhide Kk_9) hb6); have Ka_10 := hide (keep_below (unhide Ka_9) hb6); have Kf1_10 := hide (keep_below (unhide Kf1_9) hb6); have Kb_10 := hide (keep_below (unhide Kb_9) hb6); have Kf2_10 := hide (keep_below (unhide Kf2_9) hb6); have Cx_10 := hide (Below.next (unhide Cx_9) hb6 (Nat.le_refl _)); have Ca_10 := hide (Below.next (unhide Ca_9) hb6 (Nat.le_refl _)); have Cb_10 := hide (Below.next (unhide Cb_9) hb6 (Nat.le_refl _)); clear HX_9 Kp_9 Kx_9 Kk_9 Ka_9 Kf1_9 Kb_9 Kf2_9 Cx_9 Ca_9 Cb_9; clear hb6 x0 x1 x2 xf0 xf1 xf2 xl)
  have HX_11 := hide ((unhide HX_10).alloc (Nat.le_trans (show w.heap.size ≤ w.heap.size from Nat.le_refl _) (unhide HX_10).size) (.cells #[.int .i64 Q0, .int .i64 Q1] 29))
  have Kp_11 := hide (keep_alloc (unhide Kp_10) (.cells #[.int .i64 Q0, .int .i64 Q1] 29))
  have Kx_11 := hide (keep_alloc (unhide Kx_10) (.cells #[.int .i64 Q0, .int .i64 Q1] 29))
  have Kk_11 := hide (keep_alloc (unhide Kk_10) (.cells #[.int .i64 Q0, .int .i64 Q1] 29))
  have Ka_11 := hide (keep_alloc (unhide Ka_10) (.cells #[.int .i64 Q0, .int .i64 Q1] 29))
  have Kf1_11 := hide (keep_alloc (unhide Kf1_10) (.cells #[.int .i64 Q0, .int .i64 Q1] 29))
  have Kb_11 := hide (keep_alloc (unhide Kb_10) (.cells #[.int .i64 Q0, .int .i64 Q1] 29))
  have Kf2_11 := hide (keep_alloc (unhide Kf2_10) (.cells #[.int .i64 Q0, .int .i64 Q1] 29))
  have Cx_11 := hide ((unhide Cx_10).alloc (unhide Cx_10).size (.cells #[.int .i64 Q0, .int .i64 Q1] 29))
  have Ca_11 := hide ((unhide Ca_10).alloc (unhide Ca_10).size (.cells #[.int .i64 Q0, .int .i64 Q1] 29))
  have Cb_11 := hide ((unhide Cb_10).alloc (unhide Cb_10).size (.cells #[.int .i64 Q0, .int .i64 Q1] 29))
  have Kf3_11 := hide (new_block w6 (.cells #[.int .i64 Q0, .int .i64 Q1] 29))
  have hlp_f3 : w.heap.size < w6.heap.size := size_of (unhide Kp_10)
  have hlx_f3 : TX < w6.heap.size := size_of (unhide Kx_10)
  have hlk_f3 : TK < w6.heap.size := size_of (unhide Kk_10)
  have hla_f3 : X1 < w6.heap.size := size_of (unhide Ka_10)
  have hlf1_f3 : X1 + 1 < w6.heap.size := size_of (unhide Kf1_10)
  have hlb_f3 : X2 < w6.heap.size := size_of (unhide Kb_10)
  have hlf2_f3 : X2 + 1 < w6.heap.size := size_of (unhide Kf2_10)
  obtain ⟨TS, eTS⟩ : ∃ X, w6.heap.size = X := ⟨_, rfl⟩
  obtain ⟨W5, eW5⟩ : ∃ X, w6.alloc (.cells #[.int .i64 Q0, .int .i64 Q1] 29) = X := ⟨_, rfl⟩
  rw [eTS, eW5] at Kf3_11; rw [eW5] at HX_11 Kp_11 Kx_11 Kk_11 Ka_11 Kf1_11 Kb_11 Kf2_11 Cx_11 Ca_11 Cb_11; rw [eTS] at hlp_f3 hlx_f3 hlk_f3 hla_f3 hlf1_f3 hlb_f3 hlf2_f3; rw [eTS, eW5]
  clear eTS eW5 HX_10 Kp_10 Kx_10 Kk_10 Ka_10 Kf1_10 Kb_10 Kf2_10 Cx_10 Ca_10 Cb_10
  obtain ⟨⟨p0, p1, p2⟩, ⟨pf0, pf1, pf2⟩, pl⟩ := block3 (unhide Kp_11)
  go_upto_region 11 with (go_at_call 15; refine (unhide HCF _ (unhide HX_11)).mono ?_; rintro e w7 ⟨rfl, hb7⟩; have HX_12 := hide (Below.next (unhide HX_11) hb7 (by first | exact Nat.le_refl _ | (have := unhide HBA; omega))); have Kp_12 := hide (keep_below (unhide Kp_11) hb7); have Kx_12 := hide (keep_below (unhide Kx_11) hb7); have Kk_12 := hide (keep_below (unhide Kk_11) hb7); have Ka_12 := hide (keep_below (unhide Ka_11) hb7); have Kf1_12 := hide (keep_below (unhide Kf1_11) hb7); have Kb_12 := hide (keep_below (unhide Kb_11) hb7); have Kf2_12 := hide (keep_below (unhide Kf2_11) hb7); have Kf3_12 := hide (keep_below (unhide Kf3_11) hb7); have Cx_12 := hide (Below.next (unhide Cx_11) hb7 (Nat.le_refl _)); have Ca_12 := hide (Below.next (unhide Ca_11) hb7 (Nat.le_refl _)); have Cb_12 := hide (Below.next (unhide Cb_11) hb7 (Nat.le_refl _)); clear HX_11 Kp_11 Kx_11 Kk_11 Ka_11 Kf1_11 Kb_11 Kf2_11 Kf3_11 Cx_11 Ca_11 Cb_11; clear hb7 p0 p1 p2 pf0 pf1 pf2 pl)
  have HX_13 := hide ((unhide HX_12).alloc (Nat.le_trans (show w.heap.size ≤ w.heap.size from Nat.le_refl _) (unhide HX_12).size) (.cells #[.int .i64 T0, .int .i64 T1] 29))
  have Kp_13 := hide (keep_alloc (unhide Kp_12) (.cells #[.int .i64 T0, .int .i64 T1] 29))
  have Kx_13 := hide (keep_alloc (unhide Kx_12) (.cells #[.int .i64 T0, .int .i64 T1] 29))
  have Kk_13 := hide (keep_alloc (unhide Kk_12) (.cells #[.int .i64 T0, .int .i64 T1] 29))
  have Ka_13 := hide (keep_alloc (unhide Ka_12) (.cells #[.int .i64 T0, .int .i64 T1] 29))
  have Kf1_13 := hide (keep_alloc (unhide Kf1_12) (.cells #[.int .i64 T0, .int .i64 T1] 29))
  have Kb_13 := hide (keep_alloc (unhide Kb_12) (.cells #[.int .i64 T0, .int .i64 T1] 29))
  have Kf2_13 := hide (keep_alloc (unhide Kf2_12) (.cells #[.int .i64 T0, .int .i64 T1] 29))
  have Kf3_13 := hide (keep_alloc (unhide Kf3_12) (.cells #[.int .i64 T0, .int .i64 T1] 29))
  have Cx_13 := hide ((unhide Cx_12).alloc (unhide Cx_12).size (.cells #[.int .i64 T0, .int .i64 T1] 29))
  have Ca_13 := hide ((unhide Ca_12).alloc (unhide Ca_12).size (.cells #[.int .i64 T0, .int .i64 T1] 29))
  have Cb_13 := hide ((unhide Cb_12).alloc (unhide Cb_12).size (.cells #[.int .i64 T0, .int .i64 T1] 29))
  have Ku_13 := hide (new_block w7 (.cells #[.int .i64 T0, .int .i64 T1] 29))
  have hlp_u : w.heap.size < w7.heap.size := size_of (unhide Kp_12)
  have hlx_u : TX < w7.heap.size := size_of (unhide Kx_12)
  have hlk_u : TK < w7.heap.size := size_of (unhide Kk_12)
  have hla_u : X1 < w7.heap.size := size_of (unhide Ka_12)
  have hlf1_u : X1 + 1 < w7.heap.size := size_of (unhide Kf1_12)
  have hlb_u : X2 < w7.heap.size := size_of (unhide Kb_12)
  have hlf2_u : X2 + 1 < w7.heap.size := size_of (unhide Kf2_12)
  have hlf3_u : TS < w7.heap.size := size_of (unhide Kf3_12)
  obtain ⟨TU, eTU⟩ : ∃ X, w7.heap.size = X := ⟨_, rfl⟩
  obtain ⟨W6, eW6⟩ : ∃ X, w7.alloc (.cells #[.int .i64 T0, .int .i64 T1] 29) = X := ⟨_, rfl⟩
  rw [eTU, eW6] at Ku_13; rw [eW6] at HX_13 Kp_13 Kx_13 Kk_13 Ka_13 Kf1_13 Kb_13 Kf2_13 Kf3_13 Cx_13 Ca_13 Cb_13; rw [eTU] at hlp_u hlx_u hlk_u hla_u hlf1_u hlb_u hlf2_u hlf3_u; rw [eTU, eW6]
  clear eTU eW6 HX_12 Kp_12 Kx_12 Kk_12 Ka_12 Kf1_12 Kb_12 Kf2_12 Kf3_12 Cx_12 Ca_12 Cb_12
  obtain ⟨k0, k1, kf0, kf1, kl⟩ := block2 (unhide Kk_13)
  obtain ⟨u0, u1, uf0, uf1, ul⟩ := block2 (unhide Ku_13)
  obtain ⟨⟨x0, x1, x2⟩, ⟨xf0, xf1, xf2⟩, xl⟩ := block3 (unhide Kx_13)
  obtain ⟨⟨p0, p1, p2⟩, ⟨pf0, pf1, pf2⟩, pl⟩ := block3 (unhide Kp_13)
  have xc0 : (T0 == T0) = true := by simp
  have xc1 : (T1 == T1) = true := by simp
  go_upto_region 14 with (go_at_call 16; refine (unhide HSX2 _ a2 c2 (unhide HX_13) ((unhide HL2).below (unhide Cx_13))).mono ?_; rintro e w8 ⟨rfl, hb8⟩; have HX_14 := hide (Below.next (unhide HX_13) hb8 (by first | exact Nat.le_refl _ | (have := unhide HBA; omega))); have Kp_14 := hide (keep_below (unhide Kp_13) hb8); have Kx_14 := hide (keep_below (unhide Kx_13) hb8); have Kk_14 := hide (keep_below (unhide Kk_13) hb8); have Ka_14 := hide (keep_below (unhide Ka_13) hb8); have Kf1_14 := hide (keep_below (unhide Kf1_13) hb8); have Kb_14 := hide (keep_below (unhide Kb_13) hb8); have Kf2_14 := hide (keep_below (unhide Kf2_13) hb8); have Kf3_14 := hide (keep_below (unhide Kf3_13) hb8); have Ku_14 := hide (keep_below (unhide Ku_13) hb8); have Cx_14 := hide (Below.next (unhide Cx_13) hb8 (Nat.le_refl _)); have Ca_14 := hide (Below.next (unhide Ca_13) hb8 (Nat.le_refl _)); have Cb_14 := hide (Below.next (unhide Cb_13) hb8 (Nat.le_refl _)); clear HX_13 Kp_13 Kx_13 Kk_13 Ka_13 Kf1_13 Kb_13 Kf2_13 Kf3_13 Ku_13 Cx_13 Ca_13 Cb_13; clear hb8 k0 k1 kf0 kf1 kl u0 u1 uf0 uf1 ul x0 x1 x2 xf0 xf1 xf2 xl p0 p1 p2 pf0 pf1 pf2 pl; obtain ⟨u0, u1, uf0, uf1, ul⟩ := block2 (unhide Ku_14))
  clear u0 u1 uf0 uf1 ul
  have HX_15 := hide ((unhide HX_14).alloc (Nat.le_trans (show w.heap.size ≤ w.heap.size from Nat.le_refl _) (unhide HX_14).size) (.cells #[.int .i64 T0, .int .i64 T1] 29))
  have Kp_15 := hide (keep_alloc (unhide Kp_14) (.cells #[.int .i64 T0, .int .i64 T1] 29))
  have Kx_15 := hide (keep_alloc (unhide Kx_14) (.cells #[.int .i64 T0, .int .i64 T1] 29))
  have Kk_15 := hide (keep_alloc (unhide Kk_14) (.cells #[.int .i64 T0, .int .i64 T1] 29))
  have Ka_15 := hide (keep_alloc (unhide Ka_14) (.cells #[.int .i64 T0, .int .i64 T1] 29))
  have Kf1_15 := hide (keep_alloc (unhide Kf1_14) (.cells #[.int .i64 T0, .int .i64 T1] 29))
  have Kb_15 := hide (keep_alloc (unhide Kb_14) (.cells #[.int .i64 T0, .int .i64 T1] 29))
  have Kf2_15 := hide (keep_alloc (unhide Kf2_14) (.cells #[.int .i64 T0, .int .i64 T1] 29))
  have Kf3_15 := hide (keep_alloc (unhide Kf3_14) (.cells #[.int .i64 T0, .int .i64 T1] 29))
  have Ku_15 := hide (keep_alloc (unhide Ku_14) (.cells #[.int .i64 T0, .int .i64 T1] 29))
  have Cx_15 := hide ((unhide Cx_14).alloc (unhide Cx_14).size (.cells #[.int .i64 T0, .int .i64 T1] 29))
  have Ca_15 := hide ((unhide Ca_14).alloc (unhide Ca_14).size (.cells #[.int .i64 T0, .int .i64 T1] 29))
  have Cb_15 := hide ((unhide Cb_14).alloc (unhide Cb_14).size (.cells #[.int .i64 T0, .int .i64 T1] 29))
  have Kv_15 := hide (new_block w8 (.cells #[.int .i64 T0, .int .i64 T1] 29))
  have hlp_v : w.heap.size < w8.heap.size := size_of (unhide Kp_14)
  have hlx_v : TX < w8.heap.size := size_of (unhide Kx_14)
  have hlk_v : TK < w8.heap.size := size_of (unhide Kk_14)
  have hla_v : X1 < w8.heap.size := size_of (unhide Ka_14)
  have hlf1_v : X1 + 1 < w8.heap.size := size_of (unhide Kf1_14)
  have hlb_v : X2 < w8.heap.size := size_of (unhide Kb_14)
  have hlf2_v : X2 + 1 < w8.heap.size := size_of (unhide Kf2_14)
  have hlf3_v : TS < w8.heap.size := size_of (unhide Kf3_14)
  have hlu_v : TU < w8.heap.size := size_of (unhide Ku_14)
  obtain ⟨T, eT⟩ : ∃ X, w8.heap.size = X := ⟨_, rfl⟩
  obtain ⟨W7, eW7⟩ : ∃ X, w8.alloc (.cells #[.int .i64 T0, .int .i64 T1] 29) = X := ⟨_, rfl⟩
  rw [eT, eW7] at Kv_15; rw [eW7] at HX_15 Kp_15 Kx_15 Kk_15 Ka_15 Kf1_15 Kb_15 Kf2_15 Kf3_15 Ku_15 Cx_15 Ca_15 Cb_15; rw [eT] at hlp_v hlx_v hlk_v hla_v hlf1_v hlb_v hlf2_v hlf3_v hlu_v; rw [eT, eW7]
  clear eT eW7 HX_14 Kp_14 Kx_14 Kk_14 Ka_14 Kf1_14 Kb_14 Kf2_14 Kf3_14 Ku_14 Cx_14 Ca_14 Cb_14
  clear HCK HSE HST HSN HCF HOW HSX2 HLG
  obtain ⟨bb, ebb⟩ : ∃ bb, (T0 == 0 && badQ id after period) = bb := ⟨_, rfl⟩
  have HBT : Hid (bb = true → U0 = 3 ∧ U1 = -1) := fun h => by have := unhide HEU; unfold setU at this; rw [if_pos (ebb.trans h)] at this; cases this; exact ⟨rfl, rfl⟩
  have HBTF : Hid (bb = false → U0 = T0 ∧ U1 = T1) := fun h => by have := unhide HEU; unfold setU at this; rw [if_neg (by rw [ebb.trans h]; decide)] at this; cases this; exact ⟨rfl, rfl⟩
  obtain ⟨v0, v1, vf0, vf1, vl⟩ := block2 (unhide Kv_15)
  go_cut [88] (fun s W => s = .bool bb ∧ W = W7)
  case first =>
    by_cases hT : T0 = 0
    · have xt : (T0 == 0) = true := by simpa using hT
      rw [xt, Bool.true_and] at ebb
      unfold badQ at ebb
      by_cases g1 : id < 1
      · rw [decide_eq_true (Or.inl g1)] at ebb
        subst ebb
        subst hT
        go_wp2_with fail
        go_meet
        case rel => exact ⟨rfl, rfl⟩
      by_cases g2 : after < 1
      · rw [decide_eq_true (Or.inr (Or.inl g2))] at ebb
        subst ebb
        subst hT
        go_wp2_with fail
        go_meet
        case rel => exact ⟨rfl, rfl⟩
      by_cases g3 : 1000000000 < after
      · rw [decide_eq_true (Or.inr (Or.inr (Or.inl g3)))] at ebb
        subst ebb
        subst hT
        go_wp2_with fail
        go_meet
        case rel => exact ⟨rfl, rfl⟩
      by_cases g4 : period < 0
      · rw [decide_eq_true (Or.inr (Or.inr (Or.inr (Or.inl g4))))] at ebb
        subst ebb
        subst hT
        go_wp2_with fail
        go_meet
        case rel => exact ⟨rfl, rfl⟩
      by_cases g5 : 1000000000 < period
      · rw [decide_eq_true (Or.inr (Or.inr (Or.inr (Or.inr g5))))] at ebb
        subst ebb
        subst hT
        go_wp2_with fail
        go_meet
        case rel => exact ⟨rfl, rfl⟩
      rw [decide_eq_false (by omega)] at ebb
      subst ebb
      subst hT
      go_wp2_with fail
      go_meet
      case rel => exact ⟨rfl, rfl⟩
    · have xt : (T0 == 0) = false := by simpa using hT
      rw [xt, Bool.false_and] at ebb
      subst ebb
      clear hT
      go_wp2_with fail
      go_meet
      case rel => exact ⟨rfl, rfl⟩
  case rest =>
    obtain ⟨rfl, hwc⟩ := hcut
    have hwd := hwc.symm
    subst hwd
    clear hwc
    clear v0 v1 vf0 vf1 vl
    go_upto_if 88 with fail
    go_cut [20] (fun s W => s = .pointer (some ⟨T, 0, none⟩) ∧ Hid (W.heap[T]? = some (.cells #[.int .i64 U0, .int .i64 U1] 29 (0, 0))) ∧ Hid (But T W7 W))
    case first =>
      obtain ⟨v0, v1, vf0, vf1, vl⟩ := block2 (unhide Kv_15)
      cases bb with
      | true =>
        obtain ⟨rfl, rfl⟩ := unhide HBT rfl
        go_wp2_with (go_at_call 17; refine (f_any _ _ _).mono ?_; rintro e w9 ⟨rfl, hb9⟩; have HB9 := hide hb9; have HV9 := hide (keep_below (unhide Kv_15) hb9); clear hb9 v0 v1 vf0 vf1 vl; obtain ⟨v0, v1, vf0, vf1, vl⟩ := block2 (unhide HV9))
        go_meet
        case rel => exact ⟨rfl, put2_new (unhide HV9), (But.of_below (unhide HB9)).put_self _ _⟩
      | false =>
        obtain ⟨rfl, rfl⟩ := unhide HBTF rfl
        go_wp2_with fail
        go_meet
        case rel => exact ⟨rfl, unhide Kv_15, But.refl _ _⟩
    case rest =>
      obtain ⟨rfl, HV88, HB88⟩ := hcut
      have Kp_16 := hide (keep_but (unhide Kp_15) (unhide HB88) (Nat.ne_of_lt hlp_v))
      have Kx_16 := hide (keep_but (unhide Kx_15) (unhide HB88) (Nat.ne_of_lt hlx_v))
      have Kk_16 := hide (keep_but (unhide Kk_15) (unhide HB88) (Nat.ne_of_lt hlk_v))
      have Ka_16 := hide (keep_but (unhide Ka_15) (unhide HB88) (Nat.ne_of_lt hla_v))
      have Kf1_16 := hide (keep_but (unhide Kf1_15) (unhide HB88) (Nat.ne_of_lt hlf1_v))
      have Kb_16 := hide (keep_but (unhide Kb_15) (unhide HB88) (Nat.ne_of_lt hlb_v))
      have Kf2_16 := hide (keep_but (unhide Kf2_15) (unhide HB88) (Nat.ne_of_lt hlf2_v))
      have Kf3_16 := hide (keep_but (unhide Kf3_15) (unhide HB88) (Nat.ne_of_lt hlf3_v))
      have Ku_16 := hide (keep_but (unhide Ku_15) (unhide HB88) (Nat.ne_of_lt hlu_v))
      have Cx_16 := hide ((unhide Cx_15).trans ((unhide HB88).below (Nat.le_trans hleTX (Nat.le_of_lt hlx_v)) (unhide Cx_15).size))
      have Ca_16 := hide ((unhide Ca_15).trans ((unhide HB88).below (Nat.le_trans hleX1 (Nat.le_of_lt hla_v)) (unhide Ca_15).size))
      have Cb_16 := hide ((unhide Cb_15).trans ((unhide HB88).below (Nat.le_trans hleX2 (Nat.le_of_lt hlb_v)) (unhide Cb_15).size))
      have HX_16 := hide ((unhide HX_15).trans ((unhide HB88).below (Nat.le_of_lt hlp_v) (unhide HX_15).size))
      clear Kp_15 Kx_15 Kk_15 Ka_15 Kf1_15 Kb_15 Kf2_15 Kf3_15 Ku_15 Cx_15 Ca_15 Cb_15 HX_15 Kv_15
      obtain ⟨⟨p0, p1, p2⟩, ⟨pf0, pf1, pf2⟩, pl⟩ := block3 (unhide Kp_16)
      go_upto_region 17 with (go_at_call 18; refine (unhide HNA2 _ (unhide HX_16)).mono ?_; rintro e wl ⟨al, cl, rfl, hol, hbl⟩; have HOL := hide (hol.base (unhide HX_16).size); have HX_18 := hide (Below.next (unhide HX_16) hbl (by first | exact Nat.le_refl _ | (have := unhide HBA; omega))); have Kp_18 := hide (keep_below (unhide Kp_16) hbl); have Kx_18 := hide (keep_below (unhide Kx_16) hbl); have Kk_18 := hide (keep_below (unhide Kk_16) hbl); have Ka_18 := hide (keep_below (unhide Ka_16) hbl); have Kf1_18 := hide (keep_below (unhide Kf1_16) hbl); have Kb_18 := hide (keep_below (unhide Kb_16) hbl); have Kf2_18 := hide (keep_below (unhide Kf2_16) hbl); have Kf3_18 := hide (keep_below (unhide Kf3_16) hbl); have Ku_18 := hide (keep_below (unhide Ku_16) hbl); have Kv_18 := hide (keep_below (unhide HV88) hbl); have Cx_18 := hide (Below.next (unhide Cx_16) hbl (Nat.le_refl _)); have Ca_18 := hide (Below.next (unhide Ca_16) hbl (Nat.le_refl _)); have Cb_18 := hide (Below.next (unhide Cb_16) hbl (Nat.le_refl _)); clear HX_16 Kp_16 Kx_16 Kk_16 Ka_16 Kf1_16 Kb_16 Kf2_16 Kf3_16 Ku_16 HV88 Cx_16 Ca_16 Cb_16; clear hol hbl p0 p1 p2 pf0 pf1 pf2 pl)
      have HX_19 := hide ((unhide HX_18).alloc (Nat.le_trans (show w.heap.size ≤ w.heap.size from Nat.le_refl _) (unhide HX_18).size) (.cells #[.int .i64 now, .int .i64 next, .slice al m cl] 24))
      have Kp_19 := hide (keep_alloc (unhide Kp_18) (.cells #[.int .i64 now, .int .i64 next, .slice al m cl] 24))
      have Kx_19 := hide (keep_alloc (unhide Kx_18) (.cells #[.int .i64 now, .int .i64 next, .slice al m cl] 24))
      have Kk_19 := hide (keep_alloc (unhide Kk_18) (.cells #[.int .i64 now, .int .i64 next, .slice al m cl] 24))
      have Ka_19 := hide (keep_alloc (unhide Ka_18) (.cells #[.int .i64 now, .int .i64 next, .slice al m cl] 24))
      have Kf1_19 := hide (keep_alloc (unhide Kf1_18) (.cells #[.int .i64 now, .int .i64 next, .slice al m cl] 24))
      have Kb_19 := hide (keep_alloc (unhide Kb_18) (.cells #[.int .i64 now, .int .i64 next, .slice al m cl] 24))
      have Kf2_19 := hide (keep_alloc (unhide Kf2_18) (.cells #[.int .i64 now, .int .i64 next, .slice al m cl] 24))
      have Kf3_19 := hide (keep_alloc (unhide Kf3_18) (.cells #[.int .i64 now, .int .i64 next, .slice al m cl] 24))
      have Ku_19 := hide (keep_alloc (unhide Ku_18) (.cells #[.int .i64 now, .int .i64 next, .slice al m cl] 24))
      have Kv_19 := hide (keep_alloc (unhide Kv_18) (.cells #[.int .i64 now, .int .i64 next, .slice al m cl] 24))
      have Oy_19 := hide ((unhide HOL).below ((Below.refl _ _).alloc (Nat.le_refl _) (.cells #[.int .i64 now, .int .i64 next, .slice al m cl] 24)))
      have Cx_19 := hide ((unhide Cx_18).alloc (unhide Cx_18).size (.cells #[.int .i64 now, .int .i64 next, .slice al m cl] 24))
      have Ca_19 := hide ((unhide Ca_18).alloc (unhide Ca_18).size (.cells #[.int .i64 now, .int .i64 next, .slice al m cl] 24))
      have Cb_19 := hide ((unhide Cb_18).alloc (unhide Cb_18).size (.cells #[.int .i64 now, .int .i64 next, .slice al m cl] 24))
      have Kl_19 := hide (new_block wl (.cells #[.int .i64 now, .int .i64 next, .slice al m cl] 24))
      have hlp_l : w.heap.size < wl.heap.size := size_of (unhide Kp_18)
      have hlx_l : TX < wl.heap.size := size_of (unhide Kx_18)
      have hlk_l : TK < wl.heap.size := size_of (unhide Kk_18)
      have hla_l : X1 < wl.heap.size := size_of (unhide Ka_18)
      have hlf1_l : X1 + 1 < wl.heap.size := size_of (unhide Kf1_18)
      have hlb_l : X2 < wl.heap.size := size_of (unhide Kb_18)
      have hlf2_l : X2 + 1 < wl.heap.size := size_of (unhide Kf2_18)
      have hlf3_l : TS < wl.heap.size := size_of (unhide Kf3_18)
      have hlu_l : TU < wl.heap.size := size_of (unhide Ku_18)
      have hlv_l : T < wl.heap.size := size_of (unhide Kv_18)
      obtain ⟨TL, eTL⟩ : ∃ X, wl.heap.size = X := ⟨_, rfl⟩
      obtain ⟨W9, eW9⟩ : ∃ X, wl.alloc (.cells #[.int .i64 now, .int .i64 next, .slice al m cl] 24) = X := ⟨_, rfl⟩
      rw [eTL, eW9] at Kl_19; rw [eW9] at HX_19 Kp_19 Kx_19 Kk_19 Ka_19 Kf1_19 Kb_19 Kf2_19 Kf3_19 Ku_19 Kv_19 Oy_19 Cx_19 Ca_19 Cb_19; rw [eTL] at hlp_l hlx_l hlk_l hla_l hlf1_l hlb_l hlf2_l hlf3_l hlu_l hlv_l; rw [eTL, eW9]
      clear eTL eW9 HX_18 Kp_18 Kx_18 Kk_18 Ka_18 Kf1_18 Kb_18 Kf2_18 Kf3_18 Ku_18 Kv_18 HOL Cx_18 Ca_18 Cb_18
      obtain ⟨cc, ecc⟩ : ∃ cc, (U0 == 0 && (decide (m = 5000) || next == 1000000000)) = cc := ⟨_, rfl⟩
      have HCT : Hid (cc = true → F0 = 9 ∧ F1 = 0) := fun h => by have := unhide HEV; unfold setV at this; rw [if_pos (ecc.trans h)] at this; cases this; exact ⟨rfl, rfl⟩
      have HCTF : Hid (cc = false → F0 = U0 ∧ F1 = U1) := fun h => by have := unhide HEV; unfold setV at this; rw [if_neg (by rw [ecc.trans h]; decide)] at this; cases this; exact ⟨rfl, rfl⟩
      obtain ⟨v0, v1, vf0, vf1, vl⟩ := block2 (unhide Kv_19)
      obtain ⟨⟨l0, l1, l2⟩, ⟨lf0, lf1, lf2⟩, ll⟩ := block3 (unhide Kl_19)
      obtain ⟨⟨p0, p1, p2⟩, ⟨pf0, pf1, pf2⟩, pl⟩ := block3 (unhide Kp_19)
      go_cut [109] (fun s W => s = .bool cc ∧ W = W9)
      case first =>
        by_cases hT : U0 = 0
        · have xt : (U0 == 0) = true := by simpa using hT
          rw [xt, Bool.true_and] at ecc
          by_cases g1 : m = 5000
          · rw [decide_eq_true g1, Bool.true_or] at ecc
            have xm : ((m : Int) == 5000) = true := by rw [beq_iff_eq]; omega
            subst ecc
            subst hT
            clear g1
            go_wp2_with fail
            go_meet
            case rel => exact ⟨rfl, rfl⟩
          have xm : ((m : Int) == 5000) = false := by rw [beq_eq_false_iff_ne]; omega
          rw [decide_eq_false g1, Bool.false_or] at ecc
          clear g1
          cases hx9 : (next == 1000000000) with
          | true =>
            rw [hx9] at ecc
            subst ecc
            subst hT
            go_wp2_with fail
            go_meet
            case rel => exact ⟨rfl, rfl⟩
          | false =>
            rw [hx9] at ecc
            subst ecc
            subst hT
            go_wp2_with fail
            go_meet
            case rel => exact ⟨rfl, rfl⟩
        · have xt : (U0 == 0) = false := by simpa using hT
          rw [xt, Bool.false_and] at ecc
          subst ecc
          clear hT
          go_wp2_with fail
          go_meet
          case rel => exact ⟨rfl, rfl⟩
      case rest =>
        obtain ⟨rfl, hwc⟩ := hcut
        have hwd := hwc.symm
        subst hwd
        clear hwc
        clear v0 v1 vf0 vf1 vl l0 l1 l2 lf0 lf1 lf2 ll p0 p1 p2 pf0 pf1 pf2 pl
        go_upto_if 109 with fail
        go_cut [20] (fun s W => s = .pointer (some ⟨T, 0, none⟩) ∧ Hid (W.heap[T]? = some (.cells #[.int .i64 F0, .int .i64 F1] 29 (0, 0))) ∧ Hid (But T W9 W))
        case first =>
          obtain ⟨v0, v1, vf0, vf1, vl⟩ := block2 (unhide Kv_19)
          cases cc with
          | true =>
            obtain ⟨rfl, rfl⟩ := unhide HCT rfl
            go_wp2_with (go_at_call 17; refine (f_any _ _ _).mono ?_; rintro e w9 ⟨rfl, hb9⟩; have HB9 := hide hb9; have HV9 := hide (keep_below (unhide Kv_19) hb9); clear hb9 v0 v1 vf0 vf1 vl; obtain ⟨v0, v1, vf0, vf1, vl⟩ := block2 (unhide HV9))
            go_meet
            case rel => exact ⟨rfl, put2_new (unhide HV9), (But.of_below (unhide HB9)).put_self _ _⟩
          | false =>
            obtain ⟨rfl, rfl⟩ := unhide HCTF rfl
            go_wp2_with fail
            go_meet
            case rel => exact ⟨rfl, unhide Kv_19, But.refl _ _⟩
        case rest =>
          obtain ⟨rfl, HV109, HB109⟩ := hcut
          have Kp_20 := hide (keep_but (unhide Kp_19) (unhide HB109) (Nat.ne_of_lt hlp_v))
          have Kx_20 := hide (keep_but (unhide Kx_19) (unhide HB109) (Nat.ne_of_lt hlx_v))
          have Kk_20 := hide (keep_but (unhide Kk_19) (unhide HB109) (Nat.ne_of_lt hlk_v))
          have Ka_20 := hide (keep_but (unhide Ka_19) (unhide HB109) (Nat.ne_of_lt hla_v))
          have Kf1_20 := hide (keep_but (unhide Kf1_19) (unhide HB109) (Nat.ne_of_lt hlf1_v))
          have Kb_20 := hide (keep_but (unhide Kb_19) (unhide HB109) (Nat.ne_of_lt hlb_v))
          have Kf2_20 := hide (keep_but (unhide Kf2_19) (unhide HB109) (Nat.ne_of_lt hlf2_v))
          have Kf3_20 := hide (keep_but (unhide Kf3_19) (unhide HB109) (Nat.ne_of_lt hlf3_v))
          have Ku_20 := hide (keep_but (unhide Ku_19) (unhide HB109) (Nat.ne_of_lt hlu_v))
          have Kl_20 := hide (keep_but (unhide Kl_19) (unhide HB109) (Nat.ne_of_gt hlv_l))
          have Oy_20 := hide ((unhide Oy_19).keep (fun k hk => (unhide HB109).block k ((unhide Oy_19).lt k hk).2 (Own.ne (unhide Oy_19) (unhide Kv_19) (by decide) k hk)))
          have Cx_20 := hide ((unhide Cx_19).trans ((unhide HB109).below (Nat.le_trans hleTX (Nat.le_of_lt hlx_v)) (unhide Cx_19).size))
          have Ca_20 := hide ((unhide Ca_19).trans ((unhide HB109).below (Nat.le_trans hleX1 (Nat.le_of_lt hla_v)) (unhide Ca_19).size))
          have Cb_20 := hide ((unhide Cb_19).trans ((unhide HB109).below (Nat.le_trans hleX2 (Nat.le_of_lt hlb_v)) (unhide Cb_19).size))
          have HX_20 := hide ((unhide HX_19).trans ((unhide HB109).below (Nat.le_of_lt hlp_v) (unhide HX_19).size))
          clear Kp_19 Kx_19 Kk_19 Ka_19 Kf1_19 Kb_19 Kf2_19 Kf3_19 Ku_19 Kl_19 Oy_19 Cx_19 Ca_19 Cb_19 HX_19 Kv_19
          obtain ⟨e0, e1, ef0, ef1, el⟩ := block2 (unhide Kf1_20)
          obtain ⟨v0, v1, vf0, vf1, vl⟩ := block2 (unhide HV109)
          have xf0 : (F0 == F0) = true := by simp
          have xf1 : (F1 == F1) = true := by simp
          go_upto_if 116 with fail
          clear e0 e1 ef0 ef1 el v0 v1 vf0 vf1 vl
          go_cut [20] (fun s W => s = .pointer (some ⟨T, 0, none⟩) ∧ Hid (Below wc.heap.size wc W))
          case first =>
            by_cases hV : F0 ≠ 0
            · obtain ⟨rfl, rfl, rfl, rfl⟩ := unhide HZ1 hV
              obtain rfl : m1 = 0 := (unhide HEM1).symm
              have xv : (F0 != 0) = true := by simpa using hV
              clear hV
              obtain ⟨⟨a0', a1', a2'⟩, -, al'⟩ := block3 (unhide Ka_20)
              obtain ⟨v0, v1, -, -, vl⟩ := block2 (unhide HV109)
              have HSC := hide (sameClock_same wc (.agg #[.int .i64 0, .int .i64 0, .slice av1 0 cv1]) (.agg #[.int .i64 0, .int .i64 0, .slice none 0 0]) 0 0 [] ⟨_, rfl, (unhide HL4).below (unhide Ca_20)⟩ (zero_c _) (by simp))
              go_wp2_with (go_at_call 16; refine (unhide HSC).mono ?_; rintro e w8c ⟨rfl, hb8⟩; have HB8 := hide hb8; clear hb8)
              go_meet
              case rel => exact ⟨rfl, unhide HB8⟩
            · obtain rfl : F0 = 0 := Decidable.not_not.1 hV
              obtain ⟨hT0, hn1, hx1, hzz, hwa, ha1, ha2⟩ := unhide HZ2 rfl
              have hn1s := hn1.symm; have hx1s := hx1.symm; have hwas := hwa.symm
              clear hn1 hx1 hwa
              subst hn1s
              subst hx1s
              subst hwas
              have gd := (unhide HZ4 hT0).2.1
              have gn0 := gd.n0; have gn1 := gd.n1; have gn2 := gd.n2; have gn3 := gd.n3
              have hm1 : m1 = m + 1 := by rw [← unhide HEM1, hzz, ins_len, unhide HEM]
              have HZZ := hide hzz; have HM1 := hide hm1
              obtain ⟨wh, ewh⟩ : ∃ wh, now + after = wh := ⟨_, rfl⟩
              have hwh : IntKind.i64.wrap (now + after) = wh := (wrapi (by omega) (by omega)).trans ewh
              rw [ewh] at HZZ
              have xh : (had != had) = false := by cases had <;> rfl
              have xh2 : (had == had) = true := by cases had <;> rfl
              have xv : ((0 : Int) != 0) = false := rfl
              clear hV hzz hm1 gd ewh ha1 ha2 hT0
              have HSS : Hid (∀ W, Below wc.heap.size wc W → (W.cell? ⟨X1, 0, none⟩ = some (.int .i64 now) ∧ W.cell? ⟨X1, 1, none⟩ = some (.int .i64 (next + 1)) ∧ W.cell? ⟨X1, 2, none⟩ = some (.slice av1 m1 cv1)) ∧ (W.cell? ⟨TL, 0, none⟩ = some (.int .i64 now) ∧ W.cell? ⟨TL, 1, none⟩ = some (.int .i64 next) ∧ W.cell? ⟨TL, 2, none⟩ = some (.slice al m cl)) ∧ W.cell? ⟨w.heap.size, 0, none⟩ = some (.int .i64 now) ∧ Below wc.heap.size wc W) := fun W hW => ⟨(block3 (keep_below (unhide Ka_20) hW)).1, (block3 (keep_below (unhide Kl_20) hW)).1, (block3 (keep_below (unhide Kp_20) hW)).1.1, hW⟩
              have HWA : Hid (∀ W, Below wc.heap.size wc W → Calls Try.prog 19 #[.agg #[.int .i64 now, .int .i64 next, .slice al m cl], .agg #[.int .i64 id, .int .i64 wh, .int .i64 period, .int .i64 0]] W fun e w' => ∃ a c, e = .returned (.agg #[.int .i64 now, .int .i64 (next + 1), .slice a (m + 1) c]) ∧ IsL KA w' (.slice a (m + 1) c) zs1 ∧ Below W.heap.size W w') := fun W hW => by
                have := withAlarm_any W (.agg #[.int .i64 now, .int .i64 next, .slice al m cl]) now next ys id wh period 0 ⟨_, rfl, ((unhide Oy_20).below hW).isl⟩ (by rw [unhide HEM]; omega) gn2 gn3
                rw [unhide HEM, ← unhide HZZ] at this
                exact this.mono fun e w' ⟨a, c, h1, h2, h3⟩ => ⟨a, c, h1, h2.isl, h3⟩
              have HSC : Hid (∀ W a c, Below wc.heap.size wc W → IsL KA W (.slice a (m + 1) c) zs1 → Calls Try.prog 16 #[.agg #[.int .i64 now, .int .i64 (next + 1), .slice av1 m1 cv1], .agg #[.int .i64 now, .int .i64 (next + 1), .slice a (m + 1) c]] W fun e w' => e = .returned (.bool true) ∧ Below W.heap.size W w') := fun W a c hW hl => sameClock_same W _ _ now (next + 1) zs1 ⟨_, rfl, ((unhide HL4).below (unhide Ca_20)).below hW⟩ ⟨_, rfl, hl⟩ (by rw [unhide HEM1, unhide HM1]; omega)
              obtain ⟨v0, v1, -, -, vl⟩ := block2 (unhide HV109)
              go_upto_region 24 with fail
              clear v0 v1 vl
              obtain ⟨⟨a0', a1', a2'⟩, ⟨l0', l1', l2'⟩, p0', -⟩ := unhide HSS _ (Below.refl _ _)
              go_wp2_with fail
              go_region_held3 (fun W => (W.cell? ⟨X1, 0, none⟩ = some (.int .i64 now) ∧ W.cell? ⟨X1, 1, none⟩ = some (.int .i64 (next + 1)) ∧ W.cell? ⟨X1, 2, none⟩ = some (.slice av1 m1 cv1)) ∧ (W.cell? ⟨TL, 0, none⟩ = some (.int .i64 now) ∧ W.cell? ⟨TL, 1, none⟩ = some (.int .i64 next) ∧ W.cell? ⟨TL, 2, none⟩ = some (.slice al m cl)) ∧ W.cell? ⟨w.heap.size, 0, none⟩ = some (.int .i64 now) ∧ Below wc.heap.size wc W)
                (first | with_reducible exact unhide HSS _ (Below.refl _ _).drew | with_reducible exact unhide HSS _ (unhide HY7) | with_reducible exact unhide HSS _ (unhide HY8))
                (first | (go_at_call 19; refine (unhide HWA _ (by go_split_ands; assumption)).mono ?_; rintro e w7c ⟨a7, c7, rfl, hl7, hb7⟩; have HY7 : Hid (Below wc.heap.size wc w7c) := Below.next (by go_split_ands; assumption) hb7 (Nat.le_refl _); have HL7 := hide hl7; clear hb7 hl7) | (go_at_call 16; refine (unhide HSC _ a7 c7 (unhide HY7) (unhide HL7)).mono ?_; rintro e w8c ⟨rfl, hb8⟩; have HY8 : Hid (Below wc.heap.size wc w8c) := Below.next (unhide HY7) hb8 (Nat.le_refl _); clear hb8))
              all_goals
                go_wp2_with fail
                go_meet
                case rel => exact ⟨rfl, unhide HY8⟩
          case rest =>
            obtain ⟨rfl, HBZ⟩ := hcut
            clear HZ1 HZ2 HNA2
            (have HX_22 := hide (Below.next (unhide HX_20) (unhide HBZ) (by first | exact Nat.le_refl _ | (have := unhide HBA; omega))); have Kp_22 := hide (keep_below (unhide Kp_20) (unhide HBZ)); have Kx_22 := hide (keep_below (unhide Kx_20) (unhide HBZ)); have Kk_22 := hide (keep_below (unhide Kk_20) (unhide HBZ)); have Ka_22 := hide (keep_below (unhide Ka_20) (unhide HBZ)); have Kf1_22 := hide (keep_below (unhide Kf1_20) (unhide HBZ)); have Kb_22 := hide (keep_below (unhide Kb_20) (unhide HBZ)); have Kf2_22 := hide (keep_below (unhide Kf2_20) (unhide HBZ)); have Kf3_22 := hide (keep_below (unhide Kf3_20) (unhide HBZ)); have Ku_22 := hide (keep_below (unhide Ku_20) (unhide HBZ)); have Kv_22 := hide (keep_below (unhide HV109) (unhide HBZ)); have Kl_22 := hide (keep_below (unhide Kl_20) (unhide HBZ)); have Oy_22 := hide ((unhide Oy_20).below (unhide HBZ)); have Cx_22 := hide (Below.next (unhide Cx_20) (unhide HBZ) (Nat.le_refl _)); have Ca_22 := hide (Below.next (unhide Ca_20) (unhide HBZ) (Nat.le_refl _)); have Cb_22 := hide (Below.next (unhide Cb_20) (unhide HBZ) (Nat.le_refl _)); clear HX_20 Kp_20 Kx_20 Kk_20 Ka_20 Kf1_20 Kb_20 Kf2_20 Kf3_20 Ku_20 HV109 Kl_20 Oy_20 Cx_20 Ca_20 Cb_20)
            by_cases hT : T0 ≠ 0
            · obtain ⟨rfl, rfl, rfl, rfl, rfl, rfl, rfl⟩ := unhide HZ3 hT
              obtain rfl : m2 = 0 := (unhide HEM2).symm
              have xq0 : (Q0 == Q0) = true := by simp
              have xq1 : (Q1 == Q1) = true := by simp
              have xt : (Q0 == 0) = false := by simpa using hT
              have xt2 : (Q0 != 0) = true := by simpa using hT
              clear hT
              obtain ⟨⟨b0', b1', b2'⟩, -, bl'⟩ := block3 (unhide Kb_22)
              obtain ⟨f20, f21, -, -, f2l⟩ := block2 (unhide Kf2_22)
              obtain ⟨f30, f31, -, -, f3l⟩ := block2 (unhide Kf3_22)
              obtain ⟨u0, u1, uf0, uf1, ul⟩ := block2 (unhide Ku_22)
              have HSC := hide (sameClock_same wc (.agg #[.int .i64 0, .int .i64 0, .slice av2 0 cv2]) (.agg #[.int .i64 0, .int .i64 0, .slice none 0 0]) 0 0 [] ⟨_, rfl, (unhide HL5).below (unhide Cb_22)⟩ (zero_c _) (by simp))
              go_wp2_with (go_at_call 16; refine (unhide HSC).mono ?_; rintro e w8 ⟨rfl, hb8⟩; have HX8 := hide (Below.next (unhide HX_22) hb8 (Nat.le_refl _)); have HF28 := hide (keep_below (unhide Kf2_22) hb8); have HF38 := hide (keep_below (unhide Kf3_22) hb8); have HU8 := hide (keep_below (unhide Ku_22) hb8); clear hb8 b0' b1' b2' bl' f20 f21 f2l f30 f31 f3l u0 u1 uf0 uf1 ul; obtain ⟨f20, f21, -, -, f2l⟩ := block2 (unhide HF28); obtain ⟨f30, f31, -, -, f3l⟩ := block2 (unhide HF38); obtain ⟨u0, u1, uf0, uf1, ul⟩ := block2 (unhide HU8))
              go_ret
              exact ⟨rfl, unhide HX8⟩
            obtain rfl : T0 = 0 := Decidable.not_not.1 hT
            obtain ⟨rfl, gd, hn2, hx2, hzy, his, hE, hC⟩ := unhide HZ4 rfl
            have hn2s := hn2.symm; have hx2s := hx2.symm; have hiss := his.symm
            clear hn2 hx2 his
            subst hn2s
            subst hx2s
            subst hiss
            have hm2 : m = m2 := by rw [← unhide HEM2, hzy, unhide HEM]
            subst hm2
            have HZY := hide hzy; have HE1 := hide hE; have HC1 := hide hC; have HGD := hide gd
            have xh : (had != had) = false := by cases had <;> rfl
            have xh2 : (had == had) = true := by cases had <;> rfl
            clear hT hzy hE hC gd HZ3 HZ4
            obtain ⟨⟨b0', b1', b2'⟩, -, bl'⟩ := block3 (unhide Kb_22)
            obtain ⟨⟨l0', l1', l2'⟩, -, ll'⟩ := block3 (unhide Kl_22)
            obtain ⟨f20, f21, -, -, f2l⟩ := block2 (unhide Kf2_22)
            obtain ⟨u0, u1, uf0, uf1, ul⟩ := block2 (unhide Ku_22)
            have HSC := hide (sameClock_same wc (.agg #[.int .i64 now, .int .i64 next, .slice av2 m cv2]) (.agg #[.int .i64 now, .int .i64 next, .slice al m cl]) now next ys ⟨_, rfl, by have := (unhide HL5).below (unhide Cb_22); rw [unhide HZY] at this; exact this⟩ ⟨_, rfl, (unhide Oy_22).isl⟩ (by rw [unhide HEM]; omega))
            go_upto_region 28 with (go_at_call 16; refine (unhide HSC).mono ?_; rintro e w8 ⟨rfl, hb8⟩; have HX8 := hide (Below.next (unhide HX_22) hb8 (Nat.le_refl _)); have HF38 := hide (keep_below (unhide Kf3_22) hb8); have HU8 := hide (keep_below (unhide Ku_22) hb8); have HP8 := hide (keep_below (unhide Kp_22) hb8); clear hb8 b0' b1' b2' bl' l0' l1' l2' ll' f20 f21 f2l u0 u1 uf0 uf1 ul)
            obtain ⟨f30, f31, -, -, f3l⟩ := block2 (unhide HF38)
            obtain ⟨u0, u1, uf0, uf1, ul⟩ := block2 (unhide HU8)
            obtain ⟨⟨p0, p1, p2⟩, -, pl⟩ := block3 (unhide HP8)
            cases xs with
            | nil =>
              obtain rfl : n = 0 := (unhide HN).symm
              obtain ⟨rfl, rfl, rfl⟩ := unhide HE1 rfl
              have us : TS ≠ TU := by omega
              have us2 : TU ≠ TS := by omega
              go_wp2_with (go_at_call 17; refine (f_any _ _ _).mono ?_; rintro e w9 ⟨rfl, hb9⟩; have HX9 := hide (Below.next (unhide HX8) hb9 (Nat.le_refl _)); have HF39 := hide (keep_below (unhide HF38) hb9); have HU9 := hide (keep_below (unhide HU8) hb9); clear hb9 f30 f31 f3l u0 u1 uf0 uf1 ul p0 p1 p2 pl; obtain ⟨f30, f31, -, -, f3l⟩ := block2 (unhide HF39); obtain ⟨u0, u1, uf0, uf1, ul⟩ := block2 (unhide HU9))
              go_ret
              exact ⟨rfl, put2_below (unhide HX9) (by omega)⟩
            | cons x l =>
              obtain ⟨t, d, u, y⟩ := x
              obtain ⟨rfl, rfl, rfl⟩ := unhide HC1 _ _ rfl
              have hn0 : 0 < n := by rw [← unhide HN]; simp
              have xn : ((n : Int) == 0) = false := by rw [beq_eq_false_iff_ne]; omega
              have i0 : (0 : Int) < (n : Int) := by omega
              have hxr := (oor_iff now next (t, d, u, y)).1 ((unhide HGD).rng _ (by simp))
              simp only at hxr
              have gn0 := (unhide HGD).n0; have gn1 := (unhide HGD).n1
              have hwd : IntKind.i64.wrap (d - now) = d - now := wrapi (by omega) (by omega)
              have xr : (d - now == d - now) = true := by simp
              obtain ⟨b0, o0, rfl, hb0, l0⟩ := unhide H0 hn0
              obtain ⟨k0, k1, k2, k3⟩ := (l0.below (unhide HX8) hb0).alarm (j := 0) (by simp) (t := t) (c := d) (u := u) (y := y) rfl
              simp only [Nat.zero_mul, Nat.add_zero] at k0 k1 k2 k3
              clear l0 H0
              go_upto_region 34 with fail
              go_wp2_with fail
              go_quiet (fail)
              go_wp2_with fail
              go_ret
              exact ⟨rfl, below_drewN (unhide HX8) _⟩
end Go.Proofs.Ytidpmcanfedbdaa
