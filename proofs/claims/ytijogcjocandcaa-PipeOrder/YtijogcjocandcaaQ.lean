/-
  pipe.send, whatever comes; pipe.get where nothing is there.
-/
import Derived.Test.YtijogcjocandcaaP
namespace Go.Proofs.Ytijogcjocandcaa
open Go.RowKit

theorem send_any (w : World) (base : Nat) (v : Value) (P : Pp) (t c u : Int) (try_ : Bool) (h : OwnPipe base w v P) (hb : base ≤ w.heap.size) (hc : countP P ≤ 5000) :
    Calls Try.prog 38 #[v, .agg #[.int .i64 t, .int .i64 c, .int .i64 u], .bool try_] w fun e w' => ∃ v1 v2, e = .returned (.tuple #[v1, v2]) ∧ NewPipe base w' v1 (sendL P (t, c, u) try_).1 ∧ NewAns base w' v2 (sendL P (t, c, u) try_).2 ∧ Below base w w' := by
  cases h1 : P.closed with
  | true =>
    have e : sendL P (t, c, u) try_ = (P, ⟨true, true, false, 0, 0, []⟩) := by
      have e0 : sentL P (t, c, u) = (P, ⟨true, true, false, 0, 0, []⟩) := by unfold sentL; rw [if_pos h1]
      unfold sendL; rw [e0]; rfl
    rw [e]
    exact send_closed w base v P t c u try_ h hb hc h1
  | false =>
    by_cases h2 : 0 < P.gs.length
    · have e : sendL P (t, c, u) try_ = ({ P with gs := P.gs.drop 1 }, ⟨true, false, false, 0, 0, [((pAt P.gs 0).1, (pAt P.gs 0).2.1, u, true, false)]⟩) := by
        have e0 : sentL P (t, c, u) = ({ P with gs := P.gs.drop 1 }, ⟨true, false, false, 0, 0, [((pAt P.gs 0).1, (pAt P.gs 0).2.1, u, true, false)]⟩) := by unfold sentL; rw [if_neg (by rw [h1]; simp), if_pos h2]
        unfold sendL; rw [e0]; rfl
      rw [e]
      exact send_getter w base v P t c u try_ h hb hc h1 h2
    · by_cases h3 : (P.items.length : Int) < P.cap
      · have e : sendL P (t, c, u) try_ = ({ P with items := P.items ++ [u] }, ⟨true, false, false, 0, 0, []⟩) := by
          have e0 : sentL P (t, c, u) = ({ P with items := P.items ++ [u] }, ⟨true, false, false, 0, 0, []⟩) := by unfold sentL; rw [if_neg (by rw [h1]; simp), if_neg h2, if_pos h3]
          unfold sendL; rw [e0]; rfl
        rw [e]
        exact send_room w base v P t c u try_ h hb hc h1 h2 h3
      · have e0 : sentL P (t, c, u) = (P, zeroA) := by unfold sentL; rw [if_neg (by rw [h1]; simp), if_neg h2, if_neg h3]
        cases try_ with
        | true =>
          have e : sendL P (t, c, u) true = (P, zeroA) := by unfold sendL; rw [e0]; rfl
          rw [e]
          exact send_try w base v P t c u h hb hc h1 h2 h3
        | false =>
          have e : sendL P (t, c, u) false = ({ P with ss := P.ss ++ [(t, c, u)] }, zeroA) := by unfold sendL; rw [e0]; rfl
          rw [e]
          exact send_wait w base v P t c u h hb hc h1 h2 h3

set_option maxRecDepth 100000 in
set_option maxHeartbeats 1000000 in
theorem get_closed (w : World) (base : Nat) (v : Value) (P : Pp) (t c u : Int) (try_ : Bool) (h : OwnPipe base w v P) (hb : base ≤ w.heap.size) (hc : countP P ≤ 5000) (hy : P.closed = true) (hz3 : ¬ 0 < P.items.length + P.ss.length) :
    Calls Try.prog 42 #[v, .agg #[.int .i64 t, .int .i64 c, .int .i64 u], .bool try_] w fun e w' => ∃ v1 v2, e = .returned (.tuple #[v1, v2]) ∧ NewPipe base w' v1 P ∧ NewAns base w' v2 ⟨true, false, false, 0, 0, []⟩ ∧ Below base w w' := by
  obtain ⟨cap, items, closed, ss, gs⟩ := P
  obtain ⟨vi, vs, vg, rfl, hI, hS, hG, hA1, hA2, hA3⟩ := h
  obtain ⟨a1, c1, rfl⟩ := hI.form
  obtain ⟨a2, c2, rfl⟩ := hS.form
  obtain ⟨a3, c3, rfl⟩ := hG.form
  have hc' : items.length + ss.length + gs.length ≤ 5000 := hc
  clear hc
  simp only at hI hS hG hA1 hA2 hA3 hy hz3 ⊢
  have HBA := hide hb
  subst hy
  have HI := hide hI; have HS := hide hS; have HG := hide hG; have HA1 := hide hA1; have HA2 := hide hA2; have HA3 := hide hA3
  clear hI hS hG hA1 hA2 hA3 hb
  have HZ3 := hide hz3; clear hz3
  obtain ⟨n1, en1⟩ : ∃ n, items.length = n := ⟨_, rfl⟩
  obtain ⟨n2, en2⟩ : ∃ n, ss.length = n := ⟨_, rfl⟩
  obtain ⟨n3, en3⟩ : ∃ n, gs.length = n := ⟨_, rfl⟩
  rw [en1] at HI HA1 HA2; rw [en2] at HS HA1 HA3; rw [en3] at HG HA2 HA3
  rw [en1, en2, en3] at hc'
  rw [en1, en2, en3]
  have HN1 := hide en1; have HN2 := hide en2; have HN3 := hide en3
  clear en1 en2 en3
  have z3 : ¬ (0 : Int) < (n1 : Int) + n2 := by have := unhide HZ3; rw [unhide HN1, unhide HN2] at this; omega
  have wl : IntKind.i64.wrap ((n1 : Int) + n2) = (n1 : Int) + n2 := wrapi (by omega) (by omega)
  obtain ⟨W0, e0, hB, k0, k1, k2, k3⟩ := four_new w (.cells #[.int .i64 cap, .slice a1 n1 c1, .bool true, .slice a2 n2 c2, .slice a3 n3 c3] 25) (.cells #[.int .i64 t, .int .i64 c, .int .i64 u] 39) (.cells #[.int .i64 0, .slice none 0 0, .bool false, .slice none 0 0, .slice none 0 0] 25) (.cells #[.bool false, .bool false, .bool false, .int .i64 0, .int .i64 0, .slice none 0 0] 34)
  have HB := hide hB; have HK0 := hide k0; have HK1 := hide k1; have HK2 := hide k2; have HK3 := hide k3; have HE := hide e0
  clear hB k0 k1 k2 k3 e0
  go_enter Try.func42, Try.ntmps42
  go_upto_region 1 with fail
  rw [unhide HE]
  clear HE
  obtain ⟨⟨p0, p1, p2, p3, p4⟩, ⟨y0, y1, y2, y3, y4⟩, pl⟩ := block5 (unhide HK0)
  obtain ⟨⟨m0, m1, m2⟩, -, ml⟩ := block3 (unhide HK1)
  obtain ⟨⟨q0, q1, q2, q3, q4⟩, ⟨f0, f1, f2, f3, f4⟩, ql⟩ := block5 (unhide HK2)
  obtain ⟨⟨s0, s1, s2, s3, s4, s5⟩, ⟨g0, g1, g2, g3, g4, g5⟩, sl⟩ := block6 (unhide HK3)
  go_wp2_with fail
  exact bodyPost_ret (v := .tuple #[.agg #[.int .i64 cap, .slice a1 n1 c1, .bool true, .slice a2 n2 c2, .slice a3 n3 c3], .agg #[.bool true, .bool false, .bool false, .int .i64 0, .int .i64 0, .slice none 0 0]]) (by simp [results, Try.results42, go_sem, q0, q1, q2, q3, q4, s0, s1, s2, s3, s4, s5]) rfl ⟨_, _, rfl, ⟨_, _, _, rfl, ((unhide HI).below (put6_below (put5_below (unhide HB) (by omega)) (by omega))).new, ((unhide HS).below (put6_below (put5_below (unhide HB) (by omega)) (by omega))).new, ((unhide HG).below (put6_below (put5_below (unhide HB) (by omega)) (by omega))).new⟩, ⟨_, rfl, new_nil _ _⟩, ((put6_below (put5_below (unhide HB) (by omega)) (by omega))).mono (unhide HBA)⟩

set_option maxRecDepth 100000 in
set_option maxHeartbeats 1000000 in
theorem get_try (w : World) (base : Nat) (v : Value) (P : Pp) (t c u : Int) (h : OwnPipe base w v P) (hb : base ≤ w.heap.size) (hc : countP P ≤ 5000) (hy : P.closed = false) (hz3 : ¬ 0 < P.items.length + P.ss.length) :
    Calls Try.prog 42 #[v, .agg #[.int .i64 t, .int .i64 c, .int .i64 u], .bool true] w fun e w' => ∃ v1 v2, e = .returned (.tuple #[v1, v2]) ∧ NewPipe base w' v1 P ∧ NewAns base w' v2 zeroA ∧ Below base w w' := by
  obtain ⟨cap, items, closed, ss, gs⟩ := P
  obtain ⟨vi, vs, vg, rfl, hI, hS, hG, hA1, hA2, hA3⟩ := h
  obtain ⟨a1, c1, rfl⟩ := hI.form
  obtain ⟨a2, c2, rfl⟩ := hS.form
  obtain ⟨a3, c3, rfl⟩ := hG.form
  have hc' : items.length + ss.length + gs.length ≤ 5000 := hc
  clear hc
  simp only at hI hS hG hA1 hA2 hA3 hy hz3 ⊢
  have HBA := hide hb
  subst hy
  have HI := hide hI; have HS := hide hS; have HG := hide hG; have HA1 := hide hA1; have HA2 := hide hA2; have HA3 := hide hA3
  clear hI hS hG hA1 hA2 hA3 hb
  have HZ3 := hide hz3; clear hz3
  obtain ⟨n1, en1⟩ : ∃ n, items.length = n := ⟨_, rfl⟩
  obtain ⟨n2, en2⟩ : ∃ n, ss.length = n := ⟨_, rfl⟩
  obtain ⟨n3, en3⟩ : ∃ n, gs.length = n := ⟨_, rfl⟩
  rw [en1] at HI HA1 HA2; rw [en2] at HS HA1 HA3; rw [en3] at HG HA2 HA3
  rw [en1, en2, en3] at hc'
  rw [en1, en2, en3]
  have HN1 := hide en1; have HN2 := hide en2; have HN3 := hide en3
  clear en1 en2 en3
  have z3 : ¬ (0 : Int) < (n1 : Int) + n2 := by have := unhide HZ3; rw [unhide HN1, unhide HN2] at this; omega
  have wl : IntKind.i64.wrap ((n1 : Int) + n2) = (n1 : Int) + n2 := wrapi (by omega) (by omega)
  obtain ⟨W0, e0, hB, k0, k1, k2, k3⟩ := four_new w (.cells #[.int .i64 cap, .slice a1 n1 c1, .bool false, .slice a2 n2 c2, .slice a3 n3 c3] 25) (.cells #[.int .i64 t, .int .i64 c, .int .i64 u] 39) (.cells #[.int .i64 0, .slice none 0 0, .bool false, .slice none 0 0, .slice none 0 0] 25) (.cells #[.bool false, .bool false, .bool false, .int .i64 0, .int .i64 0, .slice none 0 0] 34)
  have HB := hide hB; have HK0 := hide k0; have HK1 := hide k1; have HK2 := hide k2; have HK3 := hide k3; have HE := hide e0
  clear hB k0 k1 k2 k3 e0
  go_enter Try.func42, Try.ntmps42
  go_upto_region 1 with fail
  rw [unhide HE]
  clear HE
  obtain ⟨⟨p0, p1, p2, p3, p4⟩, ⟨y0, y1, y2, y3, y4⟩, pl⟩ := block5 (unhide HK0)
  obtain ⟨⟨m0, m1, m2⟩, -, ml⟩ := block3 (unhide HK1)
  obtain ⟨⟨q0, q1, q2, q3, q4⟩, ⟨f0, f1, f2, f3, f4⟩, ql⟩ := block5 (unhide HK2)
  obtain ⟨⟨s0, s1, s2, s3, s4, s5⟩, ⟨g0, g1, g2, g3, g4, g5⟩, sl⟩ := block6 (unhide HK3)
  go_wp2_with fail
  exact bodyPost_ret (v := .tuple #[.agg #[.int .i64 cap, .slice a1 n1 c1, .bool false, .slice a2 n2 c2, .slice a3 n3 c3], .agg #[.bool false, .bool false, .bool false, .int .i64 0, .int .i64 0, .slice none 0 0]]) (by simp [results, Try.results42, go_sem, q0, q1, q2, q3, q4, s0, s1, s2, s3, s4, s5]) rfl ⟨_, _, rfl, ⟨_, _, _, rfl, ((unhide HI).below (put6_below (put5_below (unhide HB) (by omega)) (by omega))).new, ((unhide HS).below (put6_below (put5_below (unhide HB) (by omega)) (by omega))).new, ((unhide HG).below (put6_below (put5_below (unhide HB) (by omega)) (by omega))).new⟩, ⟨_, rfl, new_nil _ _⟩, ((put6_below (put5_below (unhide HB) (by omega)) (by omega))).mono (unhide HBA)⟩

set_option maxRecDepth 100000 in
set_option maxHeartbeats 1000000 in
theorem get_wait (w : World) (base : Nat) (v : Value) (P : Pp) (t c u : Int) (h : OwnPipe base w v P) (hb : base ≤ w.heap.size) (hc : countP P ≤ 5000) (hy : P.closed = false) (hz3 : ¬ 0 < P.items.length + P.ss.length) :
    Calls Try.prog 42 #[v, .agg #[.int .i64 t, .int .i64 c, .int .i64 u], .bool false] w fun e w' => ∃ v1 v2, e = .returned (.tuple #[v1, v2]) ∧ NewPipe base w' v1 { P with gs := P.gs ++ [(t, c, u)] } ∧ NewAns base w' v2 zeroA ∧ Below base w w' := by
  obtain ⟨cap, items, closed, ss, gs⟩ := P
  obtain ⟨vi, vs, vg, rfl, hI, hS, hG, hA1, hA2, hA3⟩ := h
  obtain ⟨a1, c1, rfl⟩ := hI.form
  obtain ⟨a2, c2, rfl⟩ := hS.form
  obtain ⟨a3, c3, rfl⟩ := hG.form
  have hc' : items.length + ss.length + gs.length ≤ 5000 := hc
  clear hc
  simp only at hI hS hG hA1 hA2 hA3 hy hz3 ⊢
  have HBA := hide hb
  subst hy
  have HI := hide hI; have HS := hide hS; have HG := hide hG; have HA1 := hide hA1; have HA2 := hide hA2; have HA3 := hide hA3
  clear hI hS hG hA1 hA2 hA3 hb
  have HZ3 := hide hz3; clear hz3
  obtain ⟨n1, en1⟩ : ∃ n, items.length = n := ⟨_, rfl⟩
  obtain ⟨n2, en2⟩ : ∃ n, ss.length = n := ⟨_, rfl⟩
  obtain ⟨n3, en3⟩ : ∃ n, gs.length = n := ⟨_, rfl⟩
  rw [en1] at HI HA1 HA2; rw [en2] at HS HA1 HA3; rw [en3] at HG HA2 HA3
  rw [en1, en2, en3] at hc'
  rw [en1, en2, en3]
  have HN1 := hide en1; have HN2 := hide en2; have HN3 := hide en3
  clear en1 en2 en3
  have z3 : ¬ (0 : Int) < (n1 : Int) + n2 := by have := unhide HZ3; rw [unhide HN1, unhide HN2] at this; omega
  have wl : IntKind.i64.wrap ((n1 : Int) + n2) = (n1 : Int) + n2 := wrapi (by omega) (by omega)
  obtain ⟨W0, e0, hB, k0, k1, k2, k3⟩ := four_new w (.cells #[.int .i64 cap, .slice a1 n1 c1, .bool false, .slice a2 n2 c2, .slice a3 n3 c3] 25) (.cells #[.int .i64 t, .int .i64 c, .int .i64 u] 39) (.cells #[.int .i64 0, .slice none 0 0, .bool false, .slice none 0 0, .slice none 0 0] 25) (.cells #[.bool false, .bool false, .bool false, .int .i64 0, .int .i64 0, .slice none 0 0] 34)
  have HB := hide hB; have HK0 := hide k0; have HK1 := hide k1; have HK2 := hide k2; have HK3 := hide k3; have HE := hide e0
  clear hB k0 k1 k2 k3 e0
  go_enter Try.func42, Try.ntmps42
  go_upto_region 1 with fail
  rw [unhide HE]
  clear HE
  obtain ⟨⟨p0, p1, p2, p3, p4⟩, ⟨y0, y1, y2, y3, y4⟩, pl⟩ := block5 (unhide HK0)
  obtain ⟨⟨m0, m1, m2⟩, -, ml⟩ := block3 (unhide HK1)
  obtain ⟨⟨q0, q1, q2, q3, q4⟩, ⟨f0, f1, f2, f3, f4⟩, ql⟩ := block5 (unhide HK2)
  obtain ⟨⟨s0, s1, s2, s3, s4, s5⟩, ⟨g0, g1, g2, g3, g4, g5⟩, sl⟩ := block6 (unhide HK3)
  have HIO := hide (isl_one kp W0 (t, c, u))
  go_upto_region 7 with (at_builtin; refine wpList_append kp rfl (.tmp 30) (.tmp 32) rfl base _ gs rfl (((unhide HG).below (unhide HB)).below ((Below.refl _ _).alloc (Nat.le_refl _) _)) _ [(t, c, u)] rfl (unhide HIO) (n3 + 1) (by rw [unhide HN3]; rfl) (by show (n3 + 1) * 24 ≤ 140737488355328; omega) (Nat.le_trans (unhide HBA) (Nat.le_trans (unhide HB).size (by simp))) ?_; intro b9 d9 w9 ho9 hg9; have HO9 := hide ho9; have HG9 := hide hg9; clear p0 p1 p2 p3 p4 y0 y1 y2 y3 y4 pl m0 m1 m2 ml q0 q1 q2 q3 q4 f0 f1 f2 f3 f4 ql s0 s1 s2 s3 s4 s5 g0 g1 g2 g3 g4 g5 sl; clear ho9 hg9; obtain ⟨⟨p0, p1, p2, p3, p4⟩, ⟨y0, y1, y2, y3, y4⟩, pl⟩ := block5 (keep_grown (keep_alloc (unhide HK0) _) (unhide HG9) (fun j hj => by have := ((unhide HG).lt j hj).2; omega)))
  have HQ9 := hide (keep_grown (keep_alloc (unhide HK0) (.cells #[.int .i64 t, .int .i64 c, .int .i64 u] 39)) (unhide HG9) (fun j hj => by have := ((unhide HG).lt j hj).2; omega))
  have HR9 := hide (keep_grown (keep_alloc (unhide HK2) (.cells #[.int .i64 t, .int .i64 c, .int .i64 u] 39)) (unhide HG9) (fun j hj => by have := ((unhide HG).lt j hj).2; omega))
  have HV9 := hide (keep_grown (keep_alloc (unhide HK3) (.cells #[.int .i64 t, .int .i64 c, .int .i64 u] 39)) (unhide HG9) (fun j hj => by have := ((unhide HG).lt j hj).2; omega))
  have HB9 := hide ((((unhide HB).mono (unhide HBA)).alloc (Nat.le_trans (unhide HBA) (unhide HB).size) (.cells #[.int .i64 t, .int .i64 c, .int .i64 u] 39)).grown (unhide HG9) (Nat.le_trans (unhide HBA) (Nat.le_trans (unhide HB).size (by simp))) (fun j hj => ((unhide HG).lt j hj).1))
  have HI9 := hide (Own.grown (((unhide HI).below (unhide HB)).below ((Below.refl _ _).alloc (Nat.le_refl _) (.cells #[.int .i64 t, .int .i64 c, .int .i64 u] 39))) (unhide HG9) (fun k hk hk2 => unhide HA2 k hk2 hk))
  have HS9 := hide (Own.grown (((unhide HS).below (unhide HB)).below ((Below.refl _ _).alloc (Nat.le_refl _) (.cells #[.int .i64 t, .int .i64 c, .int .i64 u] 39))) (unhide HG9) (fun k hk hk2 => unhide HA3 k hk2 hk))
  clear p0 p1 p2 p3 p4 y0 y1 y2 y3 y4 pl
  have HQ8 := hide (set_block5 (i := 4) (y := .slice b9 (n3 + 1) d9) (unhide HQ9))
  have HR8 := hide (keep_set (g := w.heap.size) (o := 4) (v := .slice b9 (n3 + 1) d9) (unhide HR9) (by omega))
  have HV8 := hide (keep_set (g := w.heap.size) (o := 4) (v := .slice b9 (n3 + 1) d9) (unhide HV9) (by omega))
  have HB8 := hide (below_set (i := 4) (unhide HB9) (unhide HBA) (.slice b9 (n3 + 1) d9))
  have HO8 := hide ((unhide HO9).keep (w' := w9.setCell ⟨w.heap.size, 4, none⟩ (.slice b9 (n3 + 1) d9)) (fun k hk => Below.heap_setCell _ _ _ _ (by have := (unhide HO9).ne (unhide HQ9) (by decide) k hk; simpa using this)))
  have HI8 := hide ((unhide HI9).keep (w' := w9.setCell ⟨w.heap.size, 4, none⟩ (.slice b9 (n3 + 1) d9)) (fun k hk => Below.heap_setCell _ _ _ _ (by have := (unhide HI9).ne (unhide HQ9) (by decide) k hk; simpa using this)))
  have HS8 := hide ((unhide HS9).keep (w' := w9.setCell ⟨w.heap.size, 4, none⟩ (.slice b9 (n3 + 1) d9)) (fun k hk => Below.heap_setCell _ _ _ _ (by have := (unhide HS9).ne (unhide HQ9) (by decide) k hk; simpa using this)))
  obtain ⟨W8, e8⟩ : ∃ W, w9.setCell ⟨w.heap.size, 4, none⟩ (.slice b9 (n3 + 1) d9) = W := ⟨_, rfl⟩
  rw [e8] at HQ8 HR8 HV8 HB8 HO8 HI8 HS8 ⊢
  clear e8
  simp only [List.setIfInBounds_toArray, List.set_cons_zero, List.set_cons_succ] at HQ8
  obtain ⟨⟨p0, p1, p2, p3, p4⟩, -, pl⟩ := block5 (unhide HQ8)
  obtain ⟨⟨q0, q1, q2, q3, q4⟩, ⟨f0, f1, f2, f3, f4⟩, ql⟩ := block5 (unhide HR8)
  obtain ⟨⟨s0, s1, s2, s3, s4, s5⟩, ⟨g0, g1, g2, g3, g4, g5⟩, sl⟩ := block6 (unhide HV8)
  go_wp2_with fail
  exact bodyPost_ret (v := .tuple #[.agg #[.int .i64 cap, .slice a1 n1 c1, .bool false, .slice a2 n2 c2, .slice b9 (n3 + 1) d9], .agg #[.bool false, .bool false, .bool false, .int .i64 0, .int .i64 0, .slice none 0 0]]) (by simp [results, Try.results42, go_sem, q0, q1, q2, q3, q4, s0, s1, s2, s3, s4, s5]) rfl ⟨_, _, rfl, ⟨_, _, _, rfl, ((unhide HI8).keep (fun k hk => (put6_keep ((unhide HI8).ne (unhide HV8) (by decide) k hk)).trans (put5_keep ((unhide HI8).ne (unhide HR8) (by decide) k hk)))).new, ((unhide HS8).keep (fun k hk => (put6_keep ((unhide HS8).ne (unhide HV8) (by decide) k hk)).trans (put5_keep ((unhide HS8).ne (unhide HR8) (by decide) k hk)))).new, ((unhide HO8).keep (fun k hk => (put6_keep ((unhide HO8).ne (unhide HV8) (by decide) k hk)).trans (put5_keep ((unhide HO8).ne (unhide HR8) (by decide) k hk)))).new⟩, ⟨_, rfl, new_nil _ _⟩, put6_below (put5_below (unhide HB8) (by have := unhide HBA; omega)) (by have := unhide HBA; omega)⟩

end Go.Proofs.Ytijogcjocandcaa
