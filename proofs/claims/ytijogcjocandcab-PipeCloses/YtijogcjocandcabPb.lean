/-
  taskmilllaw.PipeCloses.
-/
import Derived.Test.YtijogcjocandcabPa
import Derived.Deep.QuietTactic
import Derived.BigQuiet
namespace Go.Proofs.Ytijogcjocandcab
open Go.RowKit

theorem NewPipe.below {B : Nat} {w w' : World} {v : Value} {P : Pp} (h : NewPipe B w v P) (hb : Below w.heap.size w w') : NewPipe B w' v P := by
  obtain ⟨vi, vs, vg, rfl, h1, h2, h3⟩ := h
  exact ⟨vi, vs, vg, rfl, h1.below hb, h2.below hb, h3.below hb⟩
theorem NewPipe.put5 {B R : Nat} {w : World} {v : Value} {P : Pp} {y0 y1 y2 y3 y4 : Value} (h : NewPipe B w v P) (hR : R < B) : NewPipe B (put5 w R y0 y1 y2 y3 y4) v P := by
  obtain ⟨vi, vs, vg, rfl, h1, h2, h3⟩ := h
  have hk : ∀ k, B ≤ k → k < w.heap.size → (Go.Proofs.Ytijogcjocandcab.put5 w R y0 y1 y2 y3 y4).heap[k]? = w.heap[k]? := fun k hk _ => put5_keep (by omega)
  exact ⟨vi, vs, vg, rfl, h1.keep ki hk, h2.keep kp hk, h3.keep kp hk⟩
theorem put2_same {w : World} {R : Nat} {x y : Value} {t : TypeId} (h : w.heap[R]? = some (.cells #[x, y] t (0, 0))) : Go.Proofs.Ytijogcjocandcab.put2 w R x y = w := by
  have hh : (Go.Proofs.Ytijogcjocandcab.put2 w R x y).heap = w.heap := by
    refine Array.ext_getElem? fun k => ?_
    by_cases e : k = R
    · subst e
      rw [put2_new h, h]
    · exact put2_keep e
  have e2 : Go.Proofs.Ytijogcjocandcab.put2 w R x y = { w with heap := (Go.Proofs.Ytijogcjocandcab.put2 w R x y).heap } := rfl
  rw [e2, hh]
theorem shut_form {base : Nat} {w : World} {v : Value} {cap : Int} {l : List Int} (h : NewPipe base w v (shutP cap l)) : ∃ a c b d e f, v = .agg #[.int .i64 cap, .slice a l.length c, .bool true, .slice b 0 d, .slice e 0 f] := by
  obtain ⟨a1, c1, a2, c2, a3, c3, ev, -, -, -⟩ := h.form
  exact ⟨a1, c1, a2, c2, a3, c3, ev⟩

set_option maxRecDepth 100000 in
set_option maxHeartbeats 4000000 in
theorem closes_main (w : World) (v : Value) (P : Pp) (x : Int) (h : IsPipe w v P) (hv : vastL P = false) (hF : pipeF P = (0, 0)) (hcl : P.closed = false) (hx : 1 ≤ x) (hc : countP P ≤ 300) :
    Calls Try.prog 3 #[v, .int .i64 x] w fun e w' => e = .returned (.bool true) ∧ Below w.heap.size w w' := by
  have hs : Short P := short_of (Nat.le_trans hc (by decide))
  have hnot : ∀ (x : Bool) (w : World), (Op.unary .not (.bool x)).run Try.prog w = .ok (.bool (!x)) w := fun _ _ => rfl
  have hfld : ∀ (a b : Value) (w : World), (Instr.field 29 (.agg #[a, b]) 0).run Try.prog w = .ok a w := fun _ _ _ => rfl
  have HV : Hid (∀ W, Below w.heap.size w W → Calls Try.prog 5 #[v] W fun e w' => e = .returned (.bool false) ∧ Below W.heap.size W w') := fun W hW => by
    have := vast_any W v P (h.below hW) hs
    rw [hv] at this
    exact this
  have HPF : Hid (∀ W, Below w.heap.size w W → Calls Try.prog 6 #[v] W fun e w' => e = .returned (.agg #[.int .i64 (pipeF P).1, .int .i64 (pipeF P).2]) ∧ Below W.heap.size W w') := fun W hW => pfault_any W v P (h.below hW) hs
  rw [hF] at HPF
  have hg := (good_iff P).1 hF
  have HS1 : Hid (∀ W, Below w.heap.size w W → Calls Try.prog 7 #[v] W fun e w' => ∃ v1 v2, e = .returned (.tuple #[v1, v2, .agg #[.int .i64 0, .int .i64 0]]) ∧ NewPipe W.heap.size w' v1 (shutP P.cap P.items) ∧ NewAns W.heap.size w' v2 ⟨true, false, false, 0, 0, P.gs.map wkG ++ P.ss.map wkS⟩ ∧ Below W.heap.size W w') := fun W hW => closes_first W v P hg hc hcl (h.below hW)
  have HGT : Hid (∀ W v' j, IsPipe W v' (shutP P.cap (P.items.drop j)) → Calls Try.prog 8 #[v', .int .i64 x, .bool false] W fun e w' => ∃ v1 v2, e = .returned (.tuple #[v1, v2, .agg #[.int .i64 0, .int .i64 0]]) ∧ NewPipe W.heap.size w' v1 (shutP P.cap (P.items.drop (j + 1))) ∧ NewAns W.heap.size w' v2 ⟨true, false, decide (j < P.items.length), P.items.getD j 0, 0, []⟩ ∧ Below W.heap.size W w') := fun W v' j hW => closes_get W v' P x j hg hc hx hW
  have HSD : Hid (∀ W v' j, IsPipe W v' (shutP P.cap (P.items.drop j)) → Calls Try.prog 9 #[v', .int .i64 x, .int .i64 1, .bool true] W fun e w' => ∃ v1 v2, e = .returned (.tuple #[v1, v2, .agg #[.int .i64 0, .int .i64 0]]) ∧ NewPipe W.heap.size w' v1 (shutP P.cap (P.items.drop j)) ∧ NewAns W.heap.size w' v2 ⟨true, true, false, 0, 0, []⟩ ∧ Below W.heap.size W w') := fun W v' j hW => closes_send W v' P x j hg hc hx hW
  have HS2 : Hid (∀ W v' j, IsPipe W v' (shutP P.cap (P.items.drop j)) → Calls Try.prog 7 #[v'] W fun e w' => ∃ v1 v2, e = .returned (.tuple #[v1, v2, .agg #[.int .i64 0, .int .i64 0]]) ∧ NewPipe W.heap.size w' v1 (shutP P.cap (P.items.drop j)) ∧ NewAns W.heap.size w' v2 ⟨true, true, false, 0, 0, []⟩ ∧ Below W.heap.size W w') := fun W v' j hW => closes_shut W v' P j hg hc hW
  obtain ⟨cap, items, closed, ss, gs⟩ := P
  obtain ⟨a1, c1, a2, c2, a3, c3, ev, hI, -, -⟩ := h.form
  have hc' : items.length + ss.length + gs.length ≤ 300 := hc
  simp only at ev hcl HS1 HGT HSD HS2 hI
  subst hcl
  have H1 := hide (hI.opens ki rfl)
  have hwl : (gs.map wkG ++ ss.map wkS).length = ss.length + gs.length := by rw [List.length_append, List.length_map, List.length_map, Nat.add_comm]
  obtain ⟨wk, ewk⟩ : ∃ k, gs.map wkG ++ ss.map wkS = k := ⟨_, rfl⟩
  rw [ewk] at hwl HS1
  obtain ⟨n1, en1⟩ : ∃ n, items.length = n := ⟨_, rfl⟩
  obtain ⟨n2, en2⟩ : ∃ n, ss.length = n := ⟨_, rfl⟩
  obtain ⟨n3, en3⟩ : ∃ n, gs.length = n := ⟨_, rfl⟩
  rw [en1, en2, en3] at ev hc'; rw [en2, en3] at hwl; rw [en1] at HGT H1
  have HN1 := hide en1
  have HWL := hide hwl
  subst ev
  clear h hs hv hF hg hc hI ewk en1 en2 en3 hwl
  have w1 : IntKind.i64.wrap ((n1 : Int) + n2) = (n1 : Int) + n2 := wrapi (by omega) (by omega)
  have w2 : IntKind.i64.wrap ((n1 : Int) + n2 + n3) = (n1 : Int) + n2 + n3 := wrapi (by omega) (by omega)
  have w3 : IntKind.i64.wrap ((n2 : Int) + n3) = (n2 : Int) + n3 := wrapi (by omega) (by omega)
  have w4 : IntKind.i64.wrap ((n1 : Int) + 1) = (n1 : Int) + 1 := wrapi (by omega) (by omega)
  have hx0 : ¬ x < 1 := by omega
  have hc1 : ¬ (300 : Int) < (n1 : Int) + n2 + n3 := by omega
  have HB0 := hide ((Below.refl w.heap.size w).alloc (Nat.le_refl _) (.cells #[.int .i64 cap, .slice a1 n1 c1, .bool false, .slice a2 n2 c2, .slice a3 n3 c3] 25))
  have HK0 := hide (new_block w (.cells #[.int .i64 cap, .slice a1 n1 c1, .bool false, .slice a2 n2 c2, .slice a3 n3 c3] 25))
  obtain ⟨W0, e0⟩ : ∃ X, w.alloc (.cells #[.int .i64 cap, .slice a1 n1 c1, .bool false, .slice a2 n2 c2, .slice a3 n3 c3] 25) = X := ⟨_, rfl⟩
  rw [e0] at HB0 HK0
  have HW0 := hide e0
  clear e0
  go_enter Try.func3, Try.ntmps3
  go_upto_region 1 with fail
  rw [unhide HW0]
  clear HW0
  obtain ⟨⟨p0, p1, p2, p3, p4⟩, ⟨pf0, pf1, pf2, pf3, pf4⟩, pl⟩ := block5 (unhide HK0)
  go_upto_region 6 with (first
      | (go_at_call 4; refine (begun_any _).mono ?_; rintro e w1 ⟨rfl, hb1⟩; have HX_1 := hide (Below.next (unhide HB0) hb1 (by first | exact Nat.le_refl _ | (have := unhide HBA; omega))); have Kp_1 := hide (keep_below (unhide HK0) hb1); clear HB0 HK0; clear hb1 p0 p1 p2 p3 p4 pf0 pf1 pf2 pf3 pf4 pl; obtain ⟨⟨p0, p1, p2, p3, p4⟩, ⟨pf0, pf1, pf2, pf3, pf4⟩, pl⟩ := block5 (unhide Kp_1))
      | (go_at_call 5; refine (unhide HV _ (unhide HX_1)).mono ?_; rintro e w2 ⟨rfl, hb2⟩; have HX_2 := hide (Below.next (unhide HX_1) hb2 (by first | exact Nat.le_refl _ | (have := unhide HBA; omega))); have Kp_2 := hide (keep_below (unhide Kp_1) hb2); clear HX_1 Kp_1; clear hb2 p0 p1 p2 p3 p4 pf0 pf1 pf2 pf3 pf4 pl; obtain ⟨⟨p0, p1, p2, p3, p4⟩, ⟨pf0, pf1, pf2, pf3, pf4⟩, pl⟩ := block5 (unhide Kp_2))
      | (go_at_call 6; refine (unhide HPF _ (unhide HX_2)).mono ?_; rintro e w3 ⟨rfl, hb3⟩; have HX_3 := hide (Below.next (unhide HX_2) hb3 (by first | exact Nat.le_refl _ | (have := unhide HBA; omega))); have Kp_3 := hide (keep_below (unhide Kp_2) hb3); clear HX_2 Kp_2; clear hb3 p0 p1 p2 p3 p4 pf0 pf1 pf2 pf3 pf4 pl; obtain ⟨⟨p0, p1, p2, p3, p4⟩, ⟨pf0, pf1, pf2, pf3, pf4⟩, pl⟩ := block5 (unhide Kp_3))
      | (go_at_call 7; refine (unhide HS1 _ (unhide HX_3)).mono ?_; rintro e w4 ⟨v1, v2, rfl, hq7, ha7, hb7⟩; have HQ1 := hide hq7.pipe; obtain ⟨x1, y1, xs1, ys1, xg1, yg1, rfl⟩ := shut_form hq7; obtain ⟨xw1, yw1, rfl, -⟩ := NewAns.form' ha7; rw [unhide HN1] at HQ1 ⊢; rw [unhide HWL]; have HX_4 := hide (Below.next (unhide HX_3) hb7 (by first | exact Nat.le_refl _ | (have := unhide HBA; omega))); have Kp_4 := hide (keep_below (unhide Kp_3) hb7); clear HX_3 Kp_3; clear hb7 hq7 ha7 p0 p1 p2 p3 p4 pf0 pf1 pf2 pf3 pf4 pl))
  have HW4 := hide (size_of (unhide Kp_4))
  have HX4 := HX_4
  have KP4 := Kp_4
  obtain ⟨W5, e5, hB5, k0, k1, k2⟩ := three_new w4 (.cells #[.int .i64 cap, .slice x1 n1 y1, .bool true, .slice xs1 0 ys1, .slice xg1 0 yg1] 25) (.cells #[.bool true, .bool false, .bool false, .int .i64 0, .int .i64 0, .slice xw1 (n2 + n3) yw1] 33) (.cells #[.int .i64 0, .int .i64 0] 29)
  rw [e5]
  clear e5
  obtain ⟨N, eN⟩ : ∃ X, w4.heap.size = X := ⟨_, rfl⟩
  have HBN : Hid (Below N w4 W5) := (by rw [← eN]; exact hB5)
  have HNE := hide eN
  have KQ := hide k0; have KA := hide k1; have KF := hide k2
  have HQ5 := hide ((unhide HQ1).below hB5)
  rw [eN] at KQ KA KF HW4 ⊢
  clear eN hB5 k0 k1 k2
  have KP5 := hide (keep_at (unhide KP4) (unhide HBN) (unhide HW4))
  obtain ⟨p0, p1, p2, p3, p4⟩ := (block5 (unhide KP5)).1
  obtain ⟨a0, a1', a2', a3', a4, a5⟩ := (block6 (unhide KA)).1
  obtain ⟨f0, f1, -, -, fl⟩ := block2 (unhide KF)
  go_wp2_with fail
  clear p0 p1 p2 p3 p4 a0 a1' a2' a3' a4 a5 f0 f1 fl
  go_loopw [8] (fun i wr => ∃ (j m : Nat) (a b e : Option Addr) (c d f : Nat), j ≤ n1 + 2 ∧ i = .int .i64 j ∧ wr.heap[N]? = some (.cells #[.int .i64 cap, .slice a m c, .bool true, .slice b 0 d, .slice e 0 f] 25) ∧ IsPipe wr (.agg #[.int .i64 cap, .slice a m c, .bool true, .slice b 0 d, .slice e 0 f]) (shutP cap (items.drop j)) ∧ wr.heap[N + 1 + 1]? = some (.cells #[.int .i64 0, .int .i64 0] 29) ∧ Below N w4 wr) (fun i _ => n1 + 2 - (intOf i).toNat)
  case atStart => exact ⟨0, n1, x1, xs1, xg1, y1, ys1, yg1, Nat.zero_le _, rfl, unhide KQ, unhide HQ5, unhide KF, unhide HBN⟩
  case round =>
    obtain ⟨j, m, a, b, e, c, d, f, hj, rfl, hkq, hq, hkf, hbn⟩ := hrel
    have HKQ := hide hkq; have HQ := hide hq; have HKF := hide hkf; have HBw := hide hbn
    clear hkq hq hkf hbn KQ KA KF HQ5 HBN KP5
    have HKP := hide (keep_at (unhide KP4) (unhide HBw) (unhide HW4))
    have HXw : Hid (Below w.heap.size w wr) := (unhide HX4).trans ((unhide HBw).mono (Nat.le_of_lt (unhide HW4)))
    obtain ⟨p0, p1, p2, p3, p4⟩ := (block5 (unhide HKP)).1
    obtain ⟨⟨q0, q1, q2, q3, q4⟩, ⟨qf0, qf1, qf2, qf3, qf4⟩, ql⟩ := block5 (unhide HKQ)
    by_cases hlt : j ≤ n1 + 1
    · have i1 : (j : Int) ≤ (n1 : Int) + 1 := by omega
      obtain ⟨iz, hiz⟩ : ∃ z, items.getD j 0 = z := ⟨_, rfl⟩
      have HG2 := hide (unhide HGT wr _ j (unhide HQ))
      obtain ⟨D, hD⟩ : ∃ l, items.drop (j + 1) = l := ⟨_, rfl⟩
      rw [hiz, hD] at HG2
      have HIZ := hide hiz; have HD := hide hD
      clear hiz hD
      obtain ⟨Bq, eBq⟩ : ∃ X, wr.heap.size = X := ⟨_, rfl⟩
      have HBQ : Hid (N < Bq) := (by rw [← eBq]; exact size_of (unhide HKQ))
      go_upto_region 12 with (go_at_call 8; refine (unhide HG2).mono ?_; rintro e' w5 ⟨v1, v2, rfl, hq7, ha7, hb7⟩; rw [eBq] at hq7; have HQ2 := hide hq7; obtain ⟨x2, y2, xs2, ys2, xg2, yg2, rfl⟩ := shut_form hq7; obtain ⟨xw2, yw2, rfl, -⟩ := NewAns.form' ha7; have HX5 := hide hb7; clear hb7 hq7 ha7)
      obtain ⟨l2, el2⟩ : ∃ l, D.length = l := ⟨_, rfl⟩
      rw [el2] at HQ2 ⊢
      clear el2 p0 p1 p2 p3 p4 q0 q1 q2 q3 q4 qf0 qf1 qf2 qf3 qf4
      obtain ⟨W6, e6, hB6, k0, k1, k2⟩ := three_new w5 (.cells #[.int .i64 cap, .slice x2 l2 y2, .bool true, .slice xs2 0 ys2, .slice xg2 0 yg2] 25) (.cells #[.bool true, .bool false, .bool (decide (j < n1)), .int .i64 iz, .int .i64 0, .slice xw2 0 yw2] 33) (.cells #[.int .i64 0, .int .i64 0] 29)
      rw [e6]
      clear e6
      have HB6 := hide (Below.next (unhide HX5) hB6 (Nat.le_refl _)); have HY6 := hide hB6
      have KN := hide k0; have KB := hide k1; have KG := hide k2; have HQ6 := hide ((unhide HQ2).below hB6)
      have KQ6 := hide (keep_below (unhide HKQ) (unhide HB6)); have KF6 := hide (keep_below (unhide HKF) (unhide HB6)); have KP6 := hide (keep_below (unhide HKP) (unhide HB6))
      have HBw6 : Hid (Below N w4 W6) := Below.next (unhide HBw) (unhide HB6) (by rw [unhide HNE]; exact Nat.le_refl _)
      have HX6 := hide (Below.next (unhide HXw) (unhide HB6) (Nat.le_refl _))
      have hMl : N < w5.heap.size := Nat.lt_of_lt_of_le (size_of (unhide HKQ)) (unhide HX5).size
      have hMl2 : N + 1 + 1 < w5.heap.size := Nat.lt_of_lt_of_le (size_of (unhide HKF)) (unhide HX5).size
      obtain ⟨M, eM⟩ : ∃ X, w5.heap.size = X := ⟨_, rfl⟩
      rw [eM] at KN KB KG hMl hMl2 ⊢
      have HME := hide eM
      have HQ5 := HQ2
      clear eM hB6 k0 k1 k2 HB6 HKQ HKF HKP HBw HXw HX5
      obtain ⟨p0, p1, p2, p3, p4⟩ := (block5 (unhide KP6)).1
      obtain ⟨b0, b1, b2, b3, b4, b5⟩ := (block6 (unhide KB)).1
      obtain ⟨g0, g1, -, -, gl⟩ := block2 (unhide KG)
      have hQl := unhide HW4
      by_cases hjn : j < n1
      · obtain ⟨b0', o0', ea1, hb0, l0⟩ := unhide H1 (by omega)
        have k0 : W6.cell? ⟨b0', o0' + j, none⟩ = some (.int .i64 iz) := by
          have := (l0.below (unhide HX6) hb0).ints (j := j) (by rw [unhide HN1]; exact hjn)
          rw [unhide HIZ] at this
          exact this
        subst ea1
        have i2 : (j : Int) < (n1 : Int) := by omega
        have i3 : (0 : Int) ≤ (j : Int) := by omega
        have dj : decide (j < n1) = true := decide_eq_true hjn
        rw [dj] at b2
        have iz0 : (iz != iz) = false := by simp
        clear l0 dj
        go_wp2_with fail
        go_quiet (fail)
        have KN7 : Hid ((W6.drewN nq).heap[M]? = some (.cells #[.int .i64 cap, .slice x2 l2 y2, .bool true, .slice xs2 0 ys2, .slice xg2 0 yg2] 25)) := unhide KN
        have KQ7 : Hid ((W6.drewN nq).heap[N]? = some (.cells #[.int .i64 cap, .slice a m c, .bool true, .slice b 0 d, .slice e 0 f] 25)) := unhide KQ6
        have KF7 : Hid ((W6.drewN nq).heap[N + 1 + 1]? = some (.cells #[.int .i64 0, .int .i64 0] 29)) := unhide KF6
        have HY7 : Hid (Below w5.heap.size w5 (W6.drewN nq)) := below_drewN (unhide HY6) nq
        have HB7 : Hid (Below N w4 (W6.drewN nq)) := below_drewN (unhide HBw6) nq
        obtain ⟨W7, e7⟩ : ∃ X, W6.drewN nq = X := ⟨_, rfl⟩
        rw [e7] at KN7 KQ7 KF7 HY7 HB7 ⊢
        clear e7 p0 p1 p2 p3 p4 b0 b1 b2 b3 b4 b5 g0 g1 gl
        obtain ⟨y0, y1, y2', y3, y4⟩ := (block5 (unhide KN7)).1
        obtain ⟨⟨q0, q1, q2, q3, q4⟩, ⟨qf0, qf1, qf2, qf3, qf4⟩, ql2⟩ := block5 (unhide KQ7)
        go_wp2_with fail
        have KQ8 := hide (put5_new (y0 := .int .i64 cap) (y1 := .slice x2 l2 y2) (y2 := .bool true) (y3 := .slice xs2 0 ys2) (y4 := .slice xg2 0 yg2) (unhide KQ7)); have KF8 := hide ((put5_keep (y0 := .int .i64 cap) (y1 := .slice x2 l2 y2) (y2 := .bool true) (y3 := .slice xs2 0 ys2) (y4 := .slice xg2 0 yg2) (show N + 1 + 1 ≠ N by omega)).trans (unhide KF7)); have HB8 := hide (put5_below (y0 := .int .i64 cap) (y1 := .slice x2 l2 y2) (y2 := .bool true) (y3 := .slice xs2 0 ys2) (y4 := .slice xg2 0 yg2) (unhide HB7) (Nat.le_refl N))
        have HQ8 := hide (NewPipe.put5 (y0 := .int .i64 cap) (y1 := .slice x2 l2 y2) (y2 := .bool true) (y3 := .slice xs2 0 ys2) (y4 := .slice xg2 0 yg2) (NewPipe.below (unhide HQ5) (unhide HY7)) (unhide HBQ)).pipe
        obtain ⟨W8, e8⟩ : ∃ X, put5 W7 N (.int .i64 cap) (.slice x2 l2 y2) (.bool true) (.slice xs2 0 ys2) (.slice xg2 0 yg2) = X := ⟨_, rfl⟩
        rw [e8] at KQ8 KF8 HB8 HQ8
        have e9 : (((((W7).setCell ⟨N, 0, none⟩ (.int .i64 cap)).setCell ⟨N, 1, none⟩ (.slice x2 l2 y2)).setCell ⟨N, 2, none⟩ (.bool true)).setCell ⟨N, 3, none⟩ (.slice xs2 0 ys2)).setCell ⟨N, 4, none⟩ (.slice xg2 0 yg2) = W8 := e8
        rw [e9]
        clear e8 e9
        go_roundw
        case rel => exact ⟨j + 1, l2, x2, xs2, xg2, y2, ys2, yg2, by omega, by go_num, unhide KQ8, by rw [unhide HD]; exact unhide HQ8, unhide KF8, unhide HB8⟩
        case measure => simp [intOf]; omega
      · have i2 : ¬ (j : Int) < (n1 : Int) := by omega
        have iz0 : iz = 0 := by
          have h0 := unhide HIZ
          rw [List.getD_eq_getElem?_getD, List.getElem?_eq_none (by rw [unhide HN1]; omega)] at h0
          exact h0.symm
        have dj : decide (j < n1) = false := decide_eq_false hjn
        rw [dj] at b2
        subst iz0
        clear dj
        go_wp2_with fail
        go_quiet (fail)
        have KN7 : Hid ((W6.drewN nq).heap[M]? = some (.cells #[.int .i64 cap, .slice x2 l2 y2, .bool true, .slice xs2 0 ys2, .slice xg2 0 yg2] 25)) := unhide KN
        have KQ7 : Hid ((W6.drewN nq).heap[N]? = some (.cells #[.int .i64 cap, .slice a m c, .bool true, .slice b 0 d, .slice e 0 f] 25)) := unhide KQ6
        have KF7 : Hid ((W6.drewN nq).heap[N + 1 + 1]? = some (.cells #[.int .i64 0, .int .i64 0] 29)) := unhide KF6
        have HY7 : Hid (Below w5.heap.size w5 (W6.drewN nq)) := below_drewN (unhide HY6) nq
        have HB7 : Hid (Below N w4 (W6.drewN nq)) := below_drewN (unhide HBw6) nq
        obtain ⟨W7, e7⟩ : ∃ X, W6.drewN nq = X := ⟨_, rfl⟩
        rw [e7] at KN7 KQ7 KF7 HY7 HB7 ⊢
        clear e7 p0 p1 p2 p3 p4 b0 b1 b2 b3 b4 b5 g0 g1 gl
        obtain ⟨y0, y1, y2', y3, y4⟩ := (block5 (unhide KN7)).1
        obtain ⟨⟨q0, q1, q2, q3, q4⟩, ⟨qf0, qf1, qf2, qf3, qf4⟩, ql2⟩ := block5 (unhide KQ7)
        go_wp2_with fail
        have KQ8 := hide (put5_new (y0 := .int .i64 cap) (y1 := .slice x2 l2 y2) (y2 := .bool true) (y3 := .slice xs2 0 ys2) (y4 := .slice xg2 0 yg2) (unhide KQ7)); have KF8 := hide ((put5_keep (y0 := .int .i64 cap) (y1 := .slice x2 l2 y2) (y2 := .bool true) (y3 := .slice xs2 0 ys2) (y4 := .slice xg2 0 yg2) (show N + 1 + 1 ≠ N by omega)).trans (unhide KF7)); have HB8 := hide (put5_below (y0 := .int .i64 cap) (y1 := .slice x2 l2 y2) (y2 := .bool true) (y3 := .slice xs2 0 ys2) (y4 := .slice xg2 0 yg2) (unhide HB7) (Nat.le_refl N))
        have HQ8 := hide (NewPipe.put5 (y0 := .int .i64 cap) (y1 := .slice x2 l2 y2) (y2 := .bool true) (y3 := .slice xs2 0 ys2) (y4 := .slice xg2 0 yg2) (NewPipe.below (unhide HQ5) (unhide HY7)) (unhide HBQ)).pipe
        obtain ⟨W8, e8⟩ : ∃ X, put5 W7 N (.int .i64 cap) (.slice x2 l2 y2) (.bool true) (.slice xs2 0 ys2) (.slice xg2 0 yg2) = X := ⟨_, rfl⟩
        rw [e8] at KQ8 KF8 HB8 HQ8
        have e9 : (((((W7).setCell ⟨N, 0, none⟩ (.int .i64 cap)).setCell ⟨N, 1, none⟩ (.slice x2 l2 y2)).setCell ⟨N, 2, none⟩ (.bool true)).setCell ⟨N, 3, none⟩ (.slice xs2 0 ys2)).setCell ⟨N, 4, none⟩ (.slice xg2 0 yg2) = W8 := e8
        rw [e9]
        clear e8 e9
        go_roundw
        case rel => exact ⟨j + 1, l2, x2, xs2, xg2, y2, ys2, yg2, by omega, by go_num, unhide KQ8, by rw [unhide HD]; exact unhide HQ8, unhide KF8, unhide HB8⟩
        case measure => simp [intOf]; omega
    · have i1 : ¬ (j : Int) ≤ (n1 : Int) + 1 := by omega
      go_upto_region 15 with fail
      clear p0 p1 p2 p3 p4
      obtain ⟨D, hD⟩ : ∃ l, items.drop j = l := ⟨_, rfl⟩
      have HS9 : Hid (∀ W v', IsPipe W v' (shutP cap D) → Calls Try.prog 9 #[v', .int .i64 x, .int .i64 1, .bool true] W fun e w' => ∃ v1 v2, e = .returned (.tuple #[v1, v2, .agg #[.int .i64 0, .int .i64 0]]) ∧ NewPipe W.heap.size w' v1 (shutP cap D) ∧ NewAns W.heap.size w' v2 ⟨true, true, false, 0, 0, []⟩ ∧ Below W.heap.size W w') := (by rw [← hD]; exact fun W v' => unhide HSD W v' j)
      have HS7 : Hid (∀ W v', IsPipe W v' (shutP cap D) → Calls Try.prog 7 #[v'] W fun e w' => ∃ v1 v2, e = .returned (.tuple #[v1, v2, .agg #[.int .i64 0, .int .i64 0]]) ∧ NewPipe W.heap.size w' v1 (shutP cap D) ∧ NewAns W.heap.size w' v2 ⟨true, true, false, 0, 0, []⟩ ∧ Below W.heap.size W w') := (by rw [← hD]; exact fun W v' => unhide HS2 W v' j)
      rw [hD] at HQ
      obtain ⟨ld, eld⟩ : ∃ k, D.length = k := ⟨_, rfl⟩
      have HLD := hide eld
      clear hD eld HSD HS2 HGT
      go_upto_region 16 with (go_at_call 9; refine (unhide HS9 _ _ (unhide HQ)).mono ?_; rintro e' w5 ⟨v1, v2, rfl, hq7, ha7, hb7⟩; obtain ⟨x2, y2, xs2, ys2, xg2, yg2, rfl⟩ := shut_form hq7; rw [unhide HLD]; obtain ⟨xw2, yw2, rfl, -⟩ := NewAns.form' ha7; have KF5 := hide (keep_below (unhide HKF) hb7); have KQ5 := hide (keep_below (unhide HKQ) hb7); have HQ5 := hide ((unhide HQ).below hb7); have HX5 := hide (Below.next (unhide HXw) hb7 (Nat.le_refl _)); clear hb7 hq7 ha7; obtain ⟨f0, f1, ff0, ff1, fl⟩ := block2 (keep_alloc (keep_alloc (unhide KF5) (.cells #[.int .i64 cap, .slice x2 ld y2, .bool true, .slice xs2 0 ys2, .slice xg2 0 yg2] 25)) (.cells #[.bool true, .bool true, .bool false, .int .i64 0, .int .i64 0, .slice xw2 0 yw2] 33)))
      have KF6 := hide (keep_alloc (keep_alloc (unhide KF5) (.cells #[.int .i64 cap, .slice x2 ld y2, .bool true, .slice xs2 0 ys2, .slice xg2 0 yg2] 25)) (.cells #[.bool true, .bool true, .bool false, .int .i64 0, .int .i64 0, .slice xw2 0 yw2] 33))
      have ep : ((((w5.alloc (.cells #[.int .i64 cap, .slice x2 ld y2, .bool true, .slice xs2 0 ys2, .slice xg2 0 yg2] 25)).alloc (.cells #[.bool true, .bool true, .bool false, .int .i64 0, .int .i64 0, .slice xw2 0 yw2] 33)).setCell ⟨N + 1 + 1, 0, none⟩ (.int .i64 0)).setCell ⟨N + 1 + 1, 1, none⟩ (.int .i64 0)) = (w5.alloc (.cells #[.int .i64 cap, .slice x2 ld y2, .bool true, .slice xs2 0 ys2, .slice xg2 0 yg2] 25)).alloc (.cells #[.bool true, .bool true, .bool false, .int .i64 0, .int .i64 0, .slice xw2 0 yw2] 33) := put2_same (unhide KF6)
      rw [ep]
      clear ep f0 f1 ff0 ff1 fl
      obtain ⟨W6, e6, hB6, k0, k1⟩ := two_new w5 (.cells #[.int .i64 cap, .slice x2 ld y2, .bool true, .slice xs2 0 ys2, .slice xg2 0 yg2] 25) (.cells #[.bool true, .bool true, .bool false, .int .i64 0, .int .i64 0, .slice xw2 0 yw2] 33)
      rw [e6] at KF6 ⊢
      clear e6
      have KQ6 := hide (keep_below (unhide KQ5) hB6); have HQ6 := hide ((unhide HQ5).below hB6); have HX6 := hide (Below.next (unhide HX5) hB6 (Nat.le_refl _)); have KC6 := hide k1
      obtain ⟨M, eM⟩ : ∃ X, w5.heap.size = X := ⟨_, rfl⟩
      rw [eM] at KC6 ⊢
      clear eM hB6 k0 k1 KQ5 HQ5 HX5 KF5 q0 q1 q2 q3 q4 qf0 qf1 qf2 qf3 qf4
      obtain ⟨q0, q1, q2, q3, q4⟩ := (block5 (unhide KQ6)).1
      go_upto_region 17 with (go_at_call 7; refine (unhide HS7 _ _ (unhide HQ6)).mono ?_; rintro e' w7 ⟨v1, v2, rfl, hq7, ha7, hb7⟩; obtain ⟨x3, y3, xs3, ys3, xg3, yg3, rfl⟩ := shut_form hq7; rw [unhide HLD]; obtain ⟨xw3, yw3, rfl, -⟩ := NewAns.form' ha7; have KF7 := hide (keep_below (unhide KF6) hb7); have KC7 := hide (keep_below (unhide KC6) hb7); have HX7 := hide (Below.next (unhide HX6) hb7 (Nat.le_refl _)); clear hb7 hq7 ha7 q0 q1 q2 q3 q4)
      obtain ⟨W8, e8, hB8, k0, k1, k2⟩ := three_new w7 (.cells #[.int .i64 cap, .slice x3 ld y3, .bool true, .slice xs3 0 ys3, .slice xg3 0 yg3] 25) (.cells #[.bool true, .bool true, .bool false, .int .i64 0, .int .i64 0, .slice xw3 0 yw3] 33) (.cells #[.int .i64 0, .int .i64 0] 29)
      rw [e8]
      clear e8
      have KF8 := hide (keep_below (unhide KF7) hB8); have KC8 := hide (keep_below (unhide KC7) hB8); have HX8 := hide (Below.next (unhide HX7) hB8 (Nat.le_refl _)); have KD8 := hide k1; have KG8 := hide k2
      obtain ⟨L, eL⟩ : ∃ X, w7.heap.size = X := ⟨_, rfl⟩
      rw [eL] at KD8 KG8 ⊢
      clear eL hB8 k0 k1 k2
      obtain ⟨f0, f1, -, -, -⟩ := block2 (unhide KF8)
      obtain ⟨g0, g1, -, -, -⟩ := block2 (unhide KG8)
      obtain ⟨c0', c1', c2', c3', c4', c5'⟩ := (block6 (unhide KC8)).1
      obtain ⟨d0', d1', d2', d3', d4', d5'⟩ := (block6 (unhide KD8)).1
      go_wp2_with fail
      go_ret
      exact ⟨rfl, unhide HX8⟩

theorem closes_walk (w : World) (v : Value) (P : Pp) (x : Int) (h : IsPipe w v P) (hs : Short P) :
    Calls Try.prog 3 #[v, .int .i64 x] w fun e w' => e = .returned (.bool true) ∧ Below w.heap.size w w' := by
  cases hv : vastL P with
  | true => exact closes_early1 w v P x h hs hv
  | false =>
    by_cases h0 : (pipeF P).1 = 0
    · have hF := pipeF_zero h0
      cases hc : P.closed with
      | true => exact closes_early3 w v P x h hs hv hF hc
      | false =>
        by_cases hx : x < 1
        · exact closes_early4 w v P x h hs hv hF hc hx
        · by_cases hn : 300 < countP P
          · exact closes_early5 w v P x h hs hv hF hc (by omega) hn
          · exact closes_main w v P x h hv hF hc (by omega) (by omega)
    · exact closes_early2 w v P x h hs hv _ _ rfl h0
end Go.Proofs.Ytijogcjocandcab
