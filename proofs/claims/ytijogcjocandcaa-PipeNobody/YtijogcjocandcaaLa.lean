/-
  pipe.Leave.
-/
import Derived.Test.YtijogcjocandcaaDb
import Derived.Test.YtijogcjocandcaaSb
namespace Go.Proofs.Ytijogcjocandcaa
open Go.RowKit

theorem deleteOf_any (w : World) (base : Nat) (v : Value) (xs : List Po) (h : Own KP base w v xs) (hn : xs.length ≤ maxLen) (g : Nat) (x : Int) (hg : w.heap[g]? = some (.cells #[.int .i64 x] 3 (0, 0))) :
    Calls Try.prog 45 #[v, .func (.func 53) #[] #[.pointer (some ⟨g, 0, none⟩)]] w fun e w' => ∃ a m c, e = .returned (.slice a m c) ∧ m = (leftL (isOfP x) xs).length ∧ Own KP base w' (.slice a m c) (leftL (isOfP x) xs) ∧ (Value.slice a m c).ownBlock = v.ownBlock ∧ w.grownBy w' v.ownBlock :=
  deleteFunc_any w base v xs h hn 53 enters53 _ (isOfP x) (fun W y hW => isof53_any W g x y.1 y.2.1 y.2.2 (keep_grown hg hW (fun j hj => Own.ne h hg (by decide) j hj)))
theorem Apart.symm {a b : Value} (h : Apart a b) : Apart b a := fun k hk h' => h k h' hk
theorem Apart.of_eq {a b c : Value} (h : Apart a b) (e : c.ownBlock = a.ownBlock) : Apart c b := fun j hj => h j (e ▸ hj)
theorem Apart.of_eq2 {a b c : Value} (h : Apart a b) (e : c.ownBlock = b.ownBlock) : Apart a c := fun j hj => by rw [e]; exact h j hj
theorem Below.of_grown {B : Nat} {w w1 w2 : World} {row : Option Nat} (h : Below B w w1) (hg : w1.grownBy w2 row) (hB : B ≤ w1.heap.size) (hr : ∀ k, row = some k → B ≤ k) : Below B w w2 := h.grown hg hB hr
/-- What is wrong with a Leave. -/
def leaveF (P : Pp) (x : Int) : Int × Int := if (pipeF P).1 ≠ 0 then pipeF P else if waitsL P x = true then (0, 0) else (6, 0)
/-- What a Leave does. -/
def leaveL (P : Pp) (x : Int) : Pp := { P with ss := leftL (isOfP x) P.ss, gs := leftL (isOfP x) P.gs }

set_option maxRecDepth 100000 in
set_option maxHeartbeats 1000000 in
theorem leave_fault (w : World) (v : Value) (P : Pp) (x : Int) (h : IsPipe w v P) (hs : Short P) (F0 F1 : Int) (hf : pipeF P = (F0, F1)) (hF : F0 ≠ 0) :
    Calls Try.prog 23 #[v, .int .i64 x] w fun e w' => ∃ v1, e = .returned (.tuple #[v1, .agg #[.int .i64 F0, .int .i64 F1]]) ∧ NewPipe w.heap.size w' v1 zeroP ∧ Below w.heap.size w w' := by
  have hF1 : (F0 != 0) = true := by simpa using hF
  obtain ⟨cap, items, closed, ss, gs⟩ := P
  have HCT : Hid (∀ W, Below w.heap.size w W → Calls Try.prog 12 #[v] W fun e w' => e = .returned (.agg #[.int .i64 F0, .int .i64 F1]) ∧ Below W.heap.size W w') := fun W hW => by
    have := check_any W v _ (h.below hW) hs
    rw [hf] at this
    exact this
  have HV := hide h; have HSH := hide hs
  obtain ⟨a1, c1, a2, c2, a3, c3, ev, -, -, -⟩ := h.form
  simp only at ev
  obtain ⟨n1, en1⟩ : ∃ n, items.length = n := ⟨_, rfl⟩
  obtain ⟨n2, en2⟩ : ∃ n, ss.length = n := ⟨_, rfl⟩
  obtain ⟨n3, en3⟩ : ∃ n, gs.length = n := ⟨_, rfl⟩
  rw [en1, en2, en3] at ev
  have HN1 := hide en1; have HN2 := hide en2; have HN3 := hide en3
  subst ev
  obtain ⟨W0, e0, hB, k0, k1, k2⟩ := three_new w (.cells #[.int .i64 cap, .slice a1 n1 c1, .bool closed, .slice a2 n2 c2, .slice a3 n3 c3] 25) (.cells #[.int .i64 0, .slice none 0 0, .bool false, .slice none 0 0, .slice none 0 0] 25) (.cells #[.int .i64 0, .int .i64 0] 30)
  have HB := hide hB; have Kp := hide k0; have Kr := hide k1; have Kf := hide k2; have HE := hide e0
  clear hB k0 k1 k2 e0 h hs hf en1 en2 en3
  go_enter Try.func23, Try.ntmps23
  go_upto_region 1 with fail
  rw [unhide HE]
  clear HE
  obtain ⟨⟨p0, p1, p2, p3, p4⟩, ⟨pf0, pf1, pf2, pf3, pf4⟩, pl⟩ := block5 (unhide Kp)
  go_upto_region 2 with (go_at_call 12; refine (unhide HCT _ (unhide HB)).mono ?_; rintro e w1 ⟨rfl, hb1⟩; have HX_1 := hide (Below.next (unhide HB) hb1 (by first | exact Nat.le_refl _ | (have := unhide HBA; omega))); have Kp_1 := hide (keep_below (unhide Kp) hb1); have Kr_1 := hide (keep_below (unhide Kr) hb1); have Kf_1 := hide (keep_below (unhide Kf) hb1); clear HB Kp Kr Kf; clear hb1 p0 p1 p2 p3 p4 pf0 pf1 pf2 pf3 pf4 pl)
  have HX_2 := hide ((unhide HX_1).alloc (Nat.le_trans (show w.heap.size ≤ w.heap.size from Nat.le_refl _) (unhide HX_1).size) (.cells #[.int .i64 F0, .int .i64 F1] 30))
  have Kp_2 := hide (keep_alloc (unhide Kp_1) (.cells #[.int .i64 F0, .int .i64 F1] 30))
  have Kr_2 := hide (keep_alloc (unhide Kr_1) (.cells #[.int .i64 F0, .int .i64 F1] 30))
  have Kf_2 := hide (keep_alloc (unhide Kf_1) (.cells #[.int .i64 F0, .int .i64 F1] 30))
  have KT_2 := hide (new_block w1 (.cells #[.int .i64 F0, .int .i64 F1] 30))
  have hlp_T : w.heap.size < w1.heap.size := size_of (unhide Kp_1)
  have hlr_T : w.heap.size + 1 < w1.heap.size := size_of (unhide Kr_1)
  have hlf_T : w.heap.size + 1 + 1 < w1.heap.size := size_of (unhide Kf_1)
  obtain ⟨T, eT⟩ : ∃ X, w1.heap.size = X := ⟨_, rfl⟩
  obtain ⟨W2, eW2⟩ : ∃ X, w1.alloc (.cells #[.int .i64 F0, .int .i64 F1] 30) = X := ⟨_, rfl⟩
  rw [eT, eW2] at KT_2; rw [eW2] at HX_2 Kp_2 Kr_2 Kf_2; rw [eT] at hlp_T hlr_T hlf_T; rw [eT, eW2]
  clear eT eW2 HX_1 Kp_1 Kr_1 Kf_1
  obtain ⟨t0, t1, tf0, tf1, tl⟩ := block2 (unhide KT_2)
  have u0 : T ≠ w.heap.size + 1 := by omega
  have u1 : w.heap.size + 1 ≠ T := by omega
  have u2 : T ≠ w.heap.size + 1 + 1 := by omega
  have u3 : w.heap.size + 1 + 1 ≠ T := by omega
  clear t0 t1 tf0 tf1 tl
  obtain ⟨⟨p0, p1, p2, p3, p4⟩, ⟨pf0, pf1, pf2, pf3, pf4⟩, pl⟩ := block5 (unhide Kp_2)
  obtain ⟨⟨q0, q1, q2, q3, q4⟩, ⟨qf0, qf1, qf2, qf3, qf4⟩, ql⟩ := block5 (unhide Kr_2)
  obtain ⟨r0, r1, rf0, rf1, rl⟩ := block2 (unhide Kf_2)
  obtain ⟨t0, t1, tf0, tf1, tl⟩ := block2 (unhide KT_2)
  go_wp2_with fail
  go_region
  obtain ⟨Wf, ef⟩ : ∃ W, (put2 (put5 W2 (w.heap.size + 1) (.int .i64 0) (.slice none 0 0) (.bool false) (.slice none 0 0) (.slice none 0 0)) (w.heap.size + 1 + 1) (.int .i64 F0) (.int .i64 F1)).drew = W := ⟨_, rfl⟩
  have H5 := hide (keep_below ((put2_keep (y0 := .int .i64 F0) (y1 := .int .i64 F1) (show w.heap.size + 1 ≠ w.heap.size + 1 + 1 by omega)).trans (put5_new (y0 := .int .i64 0) (y1 := .slice none 0 0) (y2 := .bool false) (y3 := .slice none 0 0) (y4 := .slice none 0 0) (unhide Kr_2))) (Below.refl _ _).drew)
  have H2 := hide (keep_below (put2_new (y0 := .int .i64 F0) (y1 := .int .i64 F1) ((put5_keep (y0 := .int .i64 0) (y1 := .slice none 0 0) (y2 := .bool false) (y3 := .slice none 0 0) (y4 := .slice none 0 0) (show w.heap.size + 1 + 1 ≠ w.heap.size + 1 by omega)).trans (unhide Kf_2))) (Below.refl _ _).drew)
  have HBf : Hid (Below w.heap.size w (put2 (put5 W2 (w.heap.size + 1) (.int .i64 0) (.slice none 0 0) (.bool false) (.slice none 0 0) (.slice none 0 0)) (w.heap.size + 1 + 1) (.int .i64 F0) (.int .i64 F1)).drew) := (put2_below (put5_below (unhide HX_2) (by omega)) (by omega)).drew
  have HKf : Hid (∀ k, k ≠ w.heap.size + 1 → k ≠ w.heap.size + 1 + 1 → ((put2 (put5 W2 (w.heap.size + 1) (.int .i64 0) (.slice none 0 0) (.bool false) (.slice none 0 0) (.slice none 0 0)) (w.heap.size + 1 + 1) (.int .i64 F0) (.int .i64 F1)).drew).heap[k]? = W2.heap[k]?) := fun k h5 h6 => (drew_at _ k).trans ((put2_keep h6).trans (put5_keep h5))
  rw [ef] at H5 H2 HBf HKf
  have ef2 : ((((((((W2).setCell ⟨w.heap.size + 1, 0, none⟩ (.int .i64 0)).setCell ⟨w.heap.size + 1, 1, none⟩ (.slice none 0 0)).setCell ⟨w.heap.size + 1, 2, none⟩ (.bool false)).setCell ⟨w.heap.size + 1, 3, none⟩ (.slice none 0 0)).setCell ⟨w.heap.size + 1, 4, none⟩ (.slice none 0 0)).setCell ⟨w.heap.size + 1 + 1, 0, none⟩ (.int .i64 F0)).setCell ⟨w.heap.size + 1 + 1, 1, none⟩ (.int .i64 F1)).drew = Wf := ef
  rw [ef2]
  clear ef ef2
  clear p0 p1 p2 p3 p4 pf0 pf1 pf2 pf3 pf4 pl q0 q1 q2 q3 q4 qf0 qf1 qf2 qf3 qf4 ql r0 r1 rf0 rf1 rl t0 t1 tf0 tf1 tl
  obtain ⟨⟨q0, q1, q2, q3, q4⟩, -, -⟩ := block5 (unhide H5)
  obtain ⟨r0, r1, -, -, -⟩ := block2 (unhide H2)
  go_wp2_with fail
  refine bodyPost_ret (v := .tuple #[.agg #[.int .i64 0, .slice none 0 0, .bool false, .slice none 0 0, .slice none 0 0], .agg #[.int .i64 F0, .int .i64 F1]]) (by simp [results, Try.results23, go_sem, q0, q1, q2, q3, q4, r0, r1]) rfl ⟨_, rfl, zero_newpipe _ _, unhide HBf⟩

set_option maxRecDepth 100000 in
set_option maxHeartbeats 1000000 in
theorem leave_none (w : World) (v : Value) (P : Pp) (x : Int) (h : IsPipe w v P) (hs : Short P) (hf : pipeF P = (0, 0)) (hw : waitsL P x = false) :
    Calls Try.prog 23 #[v, .int .i64 x] w fun e w' => ∃ v1, e = .returned (.tuple #[v1, .agg #[.int .i64 6, .int .i64 0]]) ∧ NewPipe w.heap.size w' v1 zeroP ∧ Below w.heap.size w w' := by
  obtain ⟨cap, items, closed, ss, gs⟩ := P
  have HCT : Hid (∀ W, Below w.heap.size w W → Calls Try.prog 12 #[v] W fun e w' => e = .returned (.agg #[.int .i64 0, .int .i64 0]) ∧ Below W.heap.size W w') := fun W hW => by
    have := check_any W v _ (h.below hW) hs
    rw [hf] at this
    exact this
  have HWA : Hid (∀ W, Below w.heap.size w W → Calls Try.prog 44 #[v, .int .i64 x] W fun e w' => e = .returned (.bool false) ∧ Below W.heap.size W w') := fun W hW => by
    have := waits_any W v _ x (h.below hW) hs
    rw [hw] at this
    exact this
  have hnot : ∀ (x : Bool) (w : World), (Op.unary .not (.bool x)).run Try.prog w = .ok (.bool (!x)) w := fun _ _ => rfl
  have HV := hide h; have HSH := hide hs
  obtain ⟨a1, c1, a2, c2, a3, c3, ev, -, -, -⟩ := h.form
  simp only at ev
  obtain ⟨n1, en1⟩ : ∃ n, items.length = n := ⟨_, rfl⟩
  obtain ⟨n2, en2⟩ : ∃ n, ss.length = n := ⟨_, rfl⟩
  obtain ⟨n3, en3⟩ : ∃ n, gs.length = n := ⟨_, rfl⟩
  rw [en1, en2, en3] at ev
  have HN1 := hide en1; have HN2 := hide en2; have HN3 := hide en3
  subst ev
  obtain ⟨W0, e0, hB, k0, k1, k2⟩ := three_new w (.cells #[.int .i64 cap, .slice a1 n1 c1, .bool closed, .slice a2 n2 c2, .slice a3 n3 c3] 25) (.cells #[.int .i64 0, .slice none 0 0, .bool false, .slice none 0 0, .slice none 0 0] 25) (.cells #[.int .i64 0, .int .i64 0] 30)
  have HB := hide hB; have Kp := hide k0; have Kr := hide k1; have Kf := hide k2; have HE := hide e0
  clear hB k0 k1 k2 e0 h hs hf en1 en2 en3
  go_enter Try.func23, Try.ntmps23
  go_upto_region 1 with fail
  rw [unhide HE]
  clear HE
  obtain ⟨⟨p0, p1, p2, p3, p4⟩, ⟨pf0, pf1, pf2, pf3, pf4⟩, pl⟩ := block5 (unhide Kp)
  go_upto_region 2 with (go_at_call 12; refine (unhide HCT _ (unhide HB)).mono ?_; rintro e w1 ⟨rfl, hb1⟩; have HX_1 := hide (Below.next (unhide HB) hb1 (by first | exact Nat.le_refl _ | (have := unhide HBA; omega))); have Kp_1 := hide (keep_below (unhide Kp) hb1); have Kr_1 := hide (keep_below (unhide Kr) hb1); have Kf_1 := hide (keep_below (unhide Kf) hb1); clear HB Kp Kr Kf; clear hb1 p0 p1 p2 p3 p4 pf0 pf1 pf2 pf3 pf4 pl)
  have HX_2 := hide ((unhide HX_1).alloc (Nat.le_trans (show w.heap.size ≤ w.heap.size from Nat.le_refl _) (unhide HX_1).size) (.cells #[.int .i64 0, .int .i64 0] 30))
  have Kp_2 := hide (keep_alloc (unhide Kp_1) (.cells #[.int .i64 0, .int .i64 0] 30))
  have Kr_2 := hide (keep_alloc (unhide Kr_1) (.cells #[.int .i64 0, .int .i64 0] 30))
  have Kf_2 := hide (keep_alloc (unhide Kf_1) (.cells #[.int .i64 0, .int .i64 0] 30))
  have KT_2 := hide (new_block w1 (.cells #[.int .i64 0, .int .i64 0] 30))
  have hlp_T : w.heap.size < w1.heap.size := size_of (unhide Kp_1)
  have hlr_T : w.heap.size + 1 < w1.heap.size := size_of (unhide Kr_1)
  have hlf_T : w.heap.size + 1 + 1 < w1.heap.size := size_of (unhide Kf_1)
  obtain ⟨T, eT⟩ : ∃ X, w1.heap.size = X := ⟨_, rfl⟩
  obtain ⟨W2, eW2⟩ : ∃ X, w1.alloc (.cells #[.int .i64 0, .int .i64 0] 30) = X := ⟨_, rfl⟩
  rw [eT, eW2] at KT_2; rw [eW2] at HX_2 Kp_2 Kr_2 Kf_2; rw [eT] at hlp_T hlr_T hlf_T; rw [eT, eW2]
  clear eT eW2 HX_1 Kp_1 Kr_1 Kf_1
  obtain ⟨t0, t1, tf0, tf1, tl⟩ := block2 (unhide KT_2)
  obtain ⟨⟨p0, p1, p2, p3, p4⟩, ⟨pf0, pf1, pf2, pf3, pf4⟩, pl⟩ := block5 (unhide Kp_2)
  go_upto_region 5 with (go_at_call 44; refine (unhide HWA _ (unhide HX_2)).mono ?_; rintro e w3 ⟨rfl, hb3⟩; have HX_3 := hide (Below.next (unhide HX_2) hb3 (by first | exact Nat.le_refl _ | (have := unhide HBA; omega))); have Kp_3 := hide (keep_below (unhide Kp_2) hb3); have Kr_3 := hide (keep_below (unhide Kr_2) hb3); have Kf_3 := hide (keep_below (unhide Kf_2) hb3); have KT_3 := hide (keep_below (unhide KT_2) hb3); clear HX_2 Kp_2 Kr_2 Kf_2 KT_2; clear hb3 p0 p1 p2 p3 p4 pf0 pf1 pf2 pf3 pf4 pl t0 t1 tf0 tf1 tl)
  obtain ⟨⟨q0, q1, q2, q3, q4⟩, ⟨qf0, qf1, qf2, qf3, qf4⟩, ql⟩ := block5 (unhide Kr_3)
  obtain ⟨r0, r1, rf0, rf1, rl⟩ := block2 (unhide Kf_3)
  go_wp2_with fail
  obtain ⟨Wf, ef⟩ : ∃ W, (put2 (put5 w3 (w.heap.size + 1) (.int .i64 0) (.slice none 0 0) (.bool false) (.slice none 0 0) (.slice none 0 0)) (w.heap.size + 1 + 1) (.int .i64 6) (.int .i64 0)) = W := ⟨_, rfl⟩
  have H5 := hide (keep_below ((put2_keep (y0 := .int .i64 6) (y1 := .int .i64 0) (show w.heap.size + 1 ≠ w.heap.size + 1 + 1 by omega)).trans (put5_new (y0 := .int .i64 0) (y1 := .slice none 0 0) (y2 := .bool false) (y3 := .slice none 0 0) (y4 := .slice none 0 0) (unhide Kr_3))) (Below.refl _ _))
  have H2 := hide (keep_below (put2_new (y0 := .int .i64 6) (y1 := .int .i64 0) ((put5_keep (y0 := .int .i64 0) (y1 := .slice none 0 0) (y2 := .bool false) (y3 := .slice none 0 0) (y4 := .slice none 0 0) (show w.heap.size + 1 + 1 ≠ w.heap.size + 1 by omega)).trans (unhide Kf_3))) (Below.refl _ _))
  have HBf : Hid (Below w.heap.size w (put2 (put5 w3 (w.heap.size + 1) (.int .i64 0) (.slice none 0 0) (.bool false) (.slice none 0 0) (.slice none 0 0)) (w.heap.size + 1 + 1) (.int .i64 6) (.int .i64 0))) := (put2_below (put5_below (unhide HX_3) (by omega)) (by omega))
  have HKf : Hid (∀ k, k ≠ w.heap.size + 1 → k ≠ w.heap.size + 1 + 1 → ((put2 (put5 w3 (w.heap.size + 1) (.int .i64 0) (.slice none 0 0) (.bool false) (.slice none 0 0) (.slice none 0 0)) (w.heap.size + 1 + 1) (.int .i64 6) (.int .i64 0))).heap[k]? = w3.heap[k]?) := fun k h5 h6 => ((put2_keep h6).trans (put5_keep h5))
  rw [ef] at H5 H2 HBf HKf
  have ef2 : (((((((w3).setCell ⟨w.heap.size + 1, 0, none⟩ (.int .i64 0)).setCell ⟨w.heap.size + 1, 1, none⟩ (.slice none 0 0)).setCell ⟨w.heap.size + 1, 2, none⟩ (.bool false)).setCell ⟨w.heap.size + 1, 3, none⟩ (.slice none 0 0)).setCell ⟨w.heap.size + 1, 4, none⟩ (.slice none 0 0)).setCell ⟨w.heap.size + 1 + 1, 0, none⟩ (.int .i64 6)).setCell ⟨w.heap.size + 1 + 1, 1, none⟩ (.int .i64 0) = Wf := ef
  rw [ef2]
  clear ef ef2
  clear q0 q1 q2 q3 q4 qf0 qf1 qf2 qf3 qf4 ql r0 r1 rf0 rf1 rl
  obtain ⟨⟨q0, q1, q2, q3, q4⟩, -, -⟩ := block5 (unhide H5)
  obtain ⟨r0, r1, -, -, -⟩ := block2 (unhide H2)
  refine bodyPost_ret (v := .tuple #[.agg #[.int .i64 0, .slice none 0 0, .bool false, .slice none 0 0, .slice none 0 0], .agg #[.int .i64 6, .int .i64 0]]) (by simp [results, Try.results23, go_sem, q0, q1, q2, q3, q4, r0, r1]) rfl ⟨_, rfl, zero_newpipe _ _, unhide HBf⟩

set_option maxRecDepth 100000 in
set_option maxHeartbeats 1000000 in
theorem leave_do (w : World) (v : Value) (P : Pp) (x : Int) (h : IsPipe w v P) (hs : Short P) (hf : pipeF P = (0, 0)) (hw : waitsL P x = true) :
    Calls Try.prog 23 #[v, .int .i64 x] w fun e w' => ∃ v1, e = .returned (.tuple #[v1, .agg #[.int .i64 0, .int .i64 0]]) ∧ NewPipe w.heap.size w' v1 (leaveL P x) ∧ Below w.heap.size w w' := by
  obtain ⟨cap, items, closed, ss, gs⟩ := P
  have HCT : Hid (∀ W, Below w.heap.size w W → Calls Try.prog 12 #[v] W fun e w' => e = .returned (.agg #[.int .i64 0, .int .i64 0]) ∧ Below W.heap.size W w') := fun W hW => by
    have := check_any W v _ (h.below hW) hs
    rw [hf] at this
    exact this
  have HWA : Hid (∀ W, Below w.heap.size w W → Calls Try.prog 44 #[v, .int .i64 x] W fun e w' => e = .returned (.bool true) ∧ Below W.heap.size W w') := fun W hW => by
    have := waits_any W v _ x (h.below hW) hs
    rw [hw] at this
    exact this
  have hnot : ∀ (x : Bool) (w : World), (Op.unary .not (.bool x)).run Try.prog w = .ok (.bool (!x)) w := fun _ _ => rfl
  have HV := hide h; have HSH := hide hs
  obtain ⟨a1, c1, a2, c2, a3, c3, ev, -, -, -⟩ := h.form
  simp only at ev
  obtain ⟨n1, en1⟩ : ∃ n, items.length = n := ⟨_, rfl⟩
  obtain ⟨n2, en2⟩ : ∃ n, ss.length = n := ⟨_, rfl⟩
  obtain ⟨n3, en3⟩ : ∃ n, gs.length = n := ⟨_, rfl⟩
  rw [en1, en2, en3] at ev
  have HN1 := hide en1; have HN2 := hide en2; have HN3 := hide en3
  subst ev
  obtain ⟨W0, e0, hB, k0, k1, k2⟩ := three_new w (.cells #[.int .i64 cap, .slice a1 n1 c1, .bool closed, .slice a2 n2 c2, .slice a3 n3 c3] 25) (.cells #[.int .i64 0, .slice none 0 0, .bool false, .slice none 0 0, .slice none 0 0] 25) (.cells #[.int .i64 0, .int .i64 0] 30)
  have HB := hide hB; have Kp := hide k0; have Kr := hide k1; have Kf := hide k2; have HE := hide e0
  clear hB k0 k1 k2 e0 h hs hf en1 en2 en3
  go_enter Try.func23, Try.ntmps23
  go_upto_region 1 with fail
  rw [unhide HE]
  clear HE
  obtain ⟨⟨p0, p1, p2, p3, p4⟩, ⟨pf0, pf1, pf2, pf3, pf4⟩, pl⟩ := block5 (unhide Kp)
  go_upto_region 2 with (go_at_call 12; refine (unhide HCT _ (unhide HB)).mono ?_; rintro e w1 ⟨rfl, hb1⟩; have HX_1 := hide (Below.next (unhide HB) hb1 (by first | exact Nat.le_refl _ | (have := unhide HBA; omega))); have Kp_1 := hide (keep_below (unhide Kp) hb1); have Kr_1 := hide (keep_below (unhide Kr) hb1); have Kf_1 := hide (keep_below (unhide Kf) hb1); clear HB Kp Kr Kf; clear hb1 p0 p1 p2 p3 p4 pf0 pf1 pf2 pf3 pf4 pl)
  have HX_2 := hide ((unhide HX_1).alloc (Nat.le_trans (show w.heap.size ≤ w.heap.size from Nat.le_refl _) (unhide HX_1).size) (.cells #[.int .i64 0, .int .i64 0] 30))
  have Kp_2 := hide (keep_alloc (unhide Kp_1) (.cells #[.int .i64 0, .int .i64 0] 30))
  have Kr_2 := hide (keep_alloc (unhide Kr_1) (.cells #[.int .i64 0, .int .i64 0] 30))
  have Kf_2 := hide (keep_alloc (unhide Kf_1) (.cells #[.int .i64 0, .int .i64 0] 30))
  have KT_2 := hide (new_block w1 (.cells #[.int .i64 0, .int .i64 0] 30))
  have hlp_T : w.heap.size < w1.heap.size := size_of (unhide Kp_1)
  have hlr_T : w.heap.size + 1 < w1.heap.size := size_of (unhide Kr_1)
  have hlf_T : w.heap.size + 1 + 1 < w1.heap.size := size_of (unhide Kf_1)
  obtain ⟨T, eT⟩ : ∃ X, w1.heap.size = X := ⟨_, rfl⟩
  obtain ⟨W2, eW2⟩ : ∃ X, w1.alloc (.cells #[.int .i64 0, .int .i64 0] 30) = X := ⟨_, rfl⟩
  rw [eT, eW2] at KT_2; rw [eW2] at HX_2 Kp_2 Kr_2 Kf_2; rw [eT] at hlp_T hlr_T hlf_T; rw [eT, eW2]
  clear eT eW2 HX_1 Kp_1 Kr_1 Kf_1
  obtain ⟨t0, t1, tf0, tf1, tl⟩ := block2 (unhide KT_2)
  obtain ⟨⟨p0, p1, p2, p3, p4⟩, ⟨pf0, pf1, pf2, pf3, pf4⟩, pl⟩ := block5 (unhide Kp_2)
  go_upto_region 6 with (go_at_call 44; refine (unhide HWA _ (unhide HX_2)).mono ?_; rintro e w3 ⟨rfl, hb3⟩; have HX_3 := hide (Below.next (unhide HX_2) hb3 (by first | exact Nat.le_refl _ | (have := unhide HBA; omega))); have Kp_3 := hide (keep_below (unhide Kp_2) hb3); have Kr_3 := hide (keep_below (unhide Kr_2) hb3); have Kf_3 := hide (keep_below (unhide Kf_2) hb3); have KT_3 := hide (keep_below (unhide KT_2) hb3); clear HX_2 Kp_2 Kr_2 Kf_2 KT_2; clear hb3 p0 p1 p2 p3 p4 pf0 pf1 pf2 pf3 pf4 pl t0 t1 tf0 tf1 tl)
  obtain ⟨⟨p0, p1, p2, p3, p4⟩, ⟨pf0, pf1, pf2, pf3, pf4⟩, pl⟩ := block5 (unhide Kp_3)
  obtain ⟨B3, eB3⟩ : ∃ X, w3.heap.size = X := ⟨_, rfl⟩
  have HB3 : Hid (w.heap.size ≤ B3) := (by rw [← eB3]; exact (unhide HX_3).size)
  go_upto_region 7 with (go_at_call 39; refine (fresh_any _ _ _ (IsPipe.below (unhide HV) (unhide HX_3)) (unhide HSH)).mono ?_; rintro e w4 ⟨v4, rfl, ho4, hb4⟩; rw [eB3] at ho4; have HS4 : Hid (B3 ≤ w4.heap.size) := (by rw [← eB3]; exact hb4.size); have HX_4 := hide (Below.next (unhide HX_3) hb4 (by first | exact Nat.le_refl _ | (have := unhide HBA; omega))); have Kp_4 := hide (keep_below (unhide Kp_3) hb4); have Kr_4 := hide (keep_below (unhide Kr_3) hb4); have Kf_4 := hide (keep_below (unhide Kf_3) hb4); have KT_4 := hide (keep_below (unhide KT_3) hb4); clear HX_3 Kp_3 Kr_3 Kf_3 KT_3; clear hb4 eB3 p0 p1 p2 p3 p4 pf0 pf1 pf2 pf3 pf4 pl; obtain ⟨vi, vs, vg, ev, oi, os_, og, ha1, ha2, ha3⟩ := ho4; obtain ⟨b1, d1, e1⟩ := oi.form; obtain ⟨b2, d2, e2⟩ := os_.form; obtain ⟨b3, d3, e3⟩ := og.form; simp only at ev e1 e2 e3 oi os_ og; rw [unhide HN1] at e1; rw [unhide HN2] at e2; rw [unhide HN3] at e3; subst e1; subst e2; subst e3; subst ev; have OI := hide oi; have OS := hide os_; have OG := hide og; have HA1 := hide ha1; have HA2 := hide ha2; have HA3 := hide ha3; clear oi os_ og ha1 ha2 ha3)
  have HX_5 := hide ((unhide HX_4).alloc (Nat.le_trans (show w.heap.size ≤ w.heap.size from Nat.le_refl _) (unhide HX_4).size) (.cells #[.int .i64 cap, .slice b1 n1 d1, .bool closed, .slice b2 n2 d2, .slice b3 n3 d3] 25))
  have Kp_5 := hide (keep_alloc (unhide Kp_4) (.cells #[.int .i64 cap, .slice b1 n1 d1, .bool closed, .slice b2 n2 d2, .slice b3 n3 d3] 25))
  have Kr_5 := hide (keep_alloc (unhide Kr_4) (.cells #[.int .i64 cap, .slice b1 n1 d1, .bool closed, .slice b2 n2 d2, .slice b3 n3 d3] 25))
  have Kf_5 := hide (keep_alloc (unhide Kf_4) (.cells #[.int .i64 cap, .slice b1 n1 d1, .bool closed, .slice b2 n2 d2, .slice b3 n3 d3] 25))
  have KT_5 := hide (keep_alloc (unhide KT_4) (.cells #[.int .i64 cap, .slice b1 n1 d1, .bool closed, .slice b2 n2 d2, .slice b3 n3 d3] 25))
  have OI_5 := hide ((unhide OI).below ((Below.refl _ _).alloc (Nat.le_refl _) (.cells #[.int .i64 cap, .slice b1 n1 d1, .bool closed, .slice b2 n2 d2, .slice b3 n3 d3] 25)))
  have OS_5 := hide ((unhide OS).below ((Below.refl _ _).alloc (Nat.le_refl _) (.cells #[.int .i64 cap, .slice b1 n1 d1, .bool closed, .slice b2 n2 d2, .slice b3 n3 d3] 25)))
  have OG_5 := hide ((unhide OG).below ((Below.refl _ _).alloc (Nat.le_refl _) (.cells #[.int .i64 cap, .slice b1 n1 d1, .bool closed, .slice b2 n2 d2, .slice b3 n3 d3] 25)))
  have KY_5 := hide (new_block w4 (.cells #[.int .i64 cap, .slice b1 n1 d1, .bool closed, .slice b2 n2 d2, .slice b3 n3 d3] 25))
  have hlp_Y : w.heap.size < w4.heap.size := size_of (unhide Kp_4)
  have hlr_Y : w.heap.size + 1 < w4.heap.size := size_of (unhide Kr_4)
  have hlf_Y : w.heap.size + 1 + 1 < w4.heap.size := size_of (unhide Kf_4)
  have hlT_Y : T < w4.heap.size := size_of (unhide KT_4)
  obtain ⟨Y, eY⟩ : ∃ X, w4.heap.size = X := ⟨_, rfl⟩
  obtain ⟨W5, eW5⟩ : ∃ X, w4.alloc (.cells #[.int .i64 cap, .slice b1 n1 d1, .bool closed, .slice b2 n2 d2, .slice b3 n3 d3] 25) = X := ⟨_, rfl⟩
  rw [eY, eW5] at KY_5; rw [eW5] at HX_5 Kp_5 Kr_5 Kf_5 KT_5 OI_5 OS_5 OG_5; rw [eY] at hlp_Y hlr_Y hlf_Y hlT_Y HS4; rw [eY, eW5]
  clear eY eW5 HX_4 Kp_4 Kr_4 Kf_4 KT_4 OI OS OG
  have HSL : Hid (n2 ≤ maxLen ∧ n3 ≤ maxLen) := by obtain ⟨q1, q2, q3⟩ := unhide HSH; simp only at q1 q2 q3; rw [unhide HN2] at q2; rw [unhide HN3] at q3; unfold maxLen; exact ⟨by omega, by omega⟩
  have HA_SI := hide (Apart.symm (unhide HA1)); have HA_SG := hide (unhide HA3); have HA_GI := hide (Apart.symm (unhide HA2)); have HA_GS := hide (Apart.symm (unhide HA3))
  clear HA1 HA2 HA3
  obtain ⟨⟨y0, y1, y2, y3, y4⟩, ⟨yf0, yf1, yf2, yf3, yf4⟩, yl⟩ := block5 (unhide KY_5)
  go_wp2_with fail
  go_region_law (first
    | (go_simp; go_at_call 46; refine (isOf_any _ x).mono ?_; rintro e w6 ⟨rfl, hk6, hb6⟩; have hx6 : Below W5.heap.size W5 w6 := Below.next (by first | exact (Below.refl _ _).drew | exact Below.refl _ _) hb6 (Nat.le_refl _); have HK6 := hide hk6; have HX_6 := hide (Below.next (unhide HX_5) hx6 (by first | exact Nat.le_refl _ | (have := unhide HBA; omega))); have Kp_6 := hide (keep_below (unhide Kp_5) hx6); have Kr_6 := hide (keep_below (unhide Kr_5) hx6); have Kf_6 := hide (keep_below (unhide Kf_5) hx6); have KT_6 := hide (keep_below (unhide KT_5) hx6); have KY_6 := hide (keep_below (unhide KY_5) hx6); have OI_6 := hide ((unhide OI_5).below hx6); have OS_6 := hide ((unhide OS_5).below hx6); have OG_6 := hide ((unhide OG_5).below hx6); clear HX_5 Kp_5 Kr_5 Kf_5 KT_5 KY_5 OI_5 OS_5 OG_5; clear hk6 hb6 hx6; obtain ⟨⟨y0', y1', y2', y3', y4'⟩, ⟨yf0', yf1', yf2', yf3', yf4'⟩, yl'⟩ := block5 (unhide KY_6))
    | (go_simp; go_at_call 45; refine (deleteOf_any _ B3 _ ss (unhide OS_6) (by rw [unhide HN2]; exact (unhide HSL).1) _ x (unhide HK6)).mono ?_; rintro e w7 ⟨A, mA, cA, rfl, hm7, ho7, hob7, hg7⟩; have HMA := hide hm7; have HEA := hide hob7; have HX_7 := hide (Below.of_grown (unhide HX_6) hg7 (unhide HX_6).size (fun k hk => by have h1 := ((unhide OS_6).lt k hk).1; have h2 := unhide HB3; omega)); have Kp_7 := hide (keep_grown (unhide Kp_6) hg7 (fun j hj => Own.ne (unhide OS_6) (unhide Kp_6) (by decide) j hj)); have Kr_7 := hide (keep_grown (unhide Kr_6) hg7 (fun j hj => Own.ne (unhide OS_6) (unhide Kr_6) (by decide) j hj)); have Kf_7 := hide (keep_grown (unhide Kf_6) hg7 (fun j hj => Own.ne (unhide OS_6) (unhide Kf_6) (by decide) j hj)); have KT_7 := hide (keep_grown (unhide KT_6) hg7 (fun j hj => Own.ne (unhide OS_6) (unhide KT_6) (by decide) j hj)); have KY_7 := hide (keep_grown (unhide KY_6) hg7 (fun j hj => Own.ne (unhide OS_6) (unhide KY_6) (by decide) j hj)); have OI_7 := hide ((unhide OI_6).grown hg7 (unhide HA_SI)); have OS_7 := hide ho7; have OG_7 := hide ((unhide OG_6).grown hg7 (unhide HA_SG)); clear HX_6 Kp_6 Kr_6 Kf_6 KT_6 KY_6 OI_6 OS_6 OG_6; clear hm7 ho7 hob7 hg7 HK6; clear y0' y1' y2' y3' y4' yf0' yf1' yf2' yf3' yf4' yl'; obtain ⟨⟨y0', y1', y2', y3', y4'⟩, ⟨yf0', yf1', yf2', yf3', yf4'⟩, yl'⟩ := block5 (unhide KY_7)))
  all_goals (
    clear y0' y1' y2' y3' y4' yf0' yf1' yf2' yf3' yf4' yl'
    clear y0 y1 y2 y3 y4 yf0 yf1 yf2 yf3 yf4 yl
    have HX_8 := hide (below_set (i := 3) (unhide HX_7) (show w.heap.size ≤ Y by first | omega | (have := unhide HBA; omega)) (.slice A mA cA))
    have Kp_8 := hide (keep_set (g := Y) (o := 3) (v := .slice A mA cA) (unhide Kp_7) (by omega))
    have Kr_8 := hide (keep_set (g := Y) (o := 3) (v := .slice A mA cA) (unhide Kr_7) (by omega))
    have Kf_8 := hide (keep_set (g := Y) (o := 3) (v := .slice A mA cA) (unhide Kf_7) (by omega))
    have KT_8 := hide (keep_set (g := Y) (o := 3) (v := .slice A mA cA) (unhide KT_7) (by omega))
    have KY_8 := hide (set_block5 (i := 3) (y := .slice A mA cA) (unhide KY_7))
    have OI_8 := hide ((unhide OI_7).keep (fun k hk => Below.heap_setCell w7 ⟨Y, 3, none⟩ (.slice A mA cA) k (by have := Own.ne (unhide OI_7) (unhide KY_7) (by decide) k hk; simpa using this)))
    have OS_8 := hide ((unhide OS_7).keep (fun k hk => Below.heap_setCell w7 ⟨Y, 3, none⟩ (.slice A mA cA) k (by have := Own.ne (unhide OS_7) (unhide KY_7) (by decide) k hk; simpa using this)))
    have OG_8 := hide ((unhide OG_7).keep (fun k hk => Below.heap_setCell w7 ⟨Y, 3, none⟩ (.slice A mA cA) k (by have := Own.ne (unhide OG_7) (unhide KY_7) (by decide) k hk; simpa using this)))
    obtain ⟨W8, eW8⟩ : ∃ X, w7.setCell ⟨Y, 3, none⟩ (.slice A mA cA) = X := ⟨_, rfl⟩
    rw [eW8] at HX_8 Kp_8 Kr_8 Kf_8 KT_8 KY_8 OI_8 OS_8 OG_8 ⊢
    clear eW8 HX_7 Kp_7 Kr_7 Kf_7 KT_7 KY_7 OI_7 OS_7 OG_7
    simp only [List.setIfInBounds_toArray, List.set_cons_zero, List.set_cons_succ] at KY_8
    have HA_GS2 := hide (Apart.of_eq2 (unhide HA_GS) (unhide HEA))
    obtain ⟨⟨y0, y1, y2, y3, y4⟩, ⟨yf0, yf1, yf2, yf3, yf4⟩, yl⟩ := block5 (unhide KY_8)
    go_wp2_with fail
    go_region_law (first
      | (go_simp; go_at_call 46; refine (isOf_any _ x).mono ?_; rintro e w9 ⟨rfl, hk6, hb6⟩; have hx6 : Below W8.heap.size W8 w9 := Below.next (by first | exact (Below.refl _ _).drew | exact Below.refl _ _) hb6 (Nat.le_refl _); have HK6 := hide hk6; have HX_9 := hide (Below.next (unhide HX_8) hx6 (by first | exact Nat.le_refl _ | (have := unhide HBA; omega))); have Kp_9 := hide (keep_below (unhide Kp_8) hx6); have Kr_9 := hide (keep_below (unhide Kr_8) hx6); have Kf_9 := hide (keep_below (unhide Kf_8) hx6); have KT_9 := hide (keep_below (unhide KT_8) hx6); have KY_9 := hide (keep_below (unhide KY_8) hx6); have OI_9 := hide ((unhide OI_8).below hx6); have OS_9 := hide ((unhide OS_8).below hx6); have OG_9 := hide ((unhide OG_8).below hx6); clear HX_8 Kp_8 Kr_8 Kf_8 KT_8 KY_8 OI_8 OS_8 OG_8; clear hk6 hb6 hx6; obtain ⟨⟨y0', y1', y2', y3', y4'⟩, ⟨yf0', yf1', yf2', yf3', yf4'⟩, yl'⟩ := block5 (unhide KY_9))
      | (go_simp; go_at_call 45; refine (deleteOf_any _ B3 _ gs (unhide OG_9) (by rw [unhide HN3]; exact (unhide HSL).2) _ x (unhide HK6)).mono ?_; rintro e w10 ⟨C, mC, cC, rfl, hm7, ho7, hob7, hg7⟩; have HMC := hide hm7; have HEC := hide hob7; have HX_10 := hide (Below.of_grown (unhide HX_9) hg7 (unhide HX_9).size (fun k hk => by have h1 := ((unhide OG_9).lt k hk).1; have h2 := unhide HB3; omega)); have Kp_10 := hide (keep_grown (unhide Kp_9) hg7 (fun j hj => Own.ne (unhide OG_9) (unhide Kp_9) (by decide) j hj)); have Kr_10 := hide (keep_grown (unhide Kr_9) hg7 (fun j hj => Own.ne (unhide OG_9) (unhide Kr_9) (by decide) j hj)); have Kf_10 := hide (keep_grown (unhide Kf_9) hg7 (fun j hj => Own.ne (unhide OG_9) (unhide Kf_9) (by decide) j hj)); have KT_10 := hide (keep_grown (unhide KT_9) hg7 (fun j hj => Own.ne (unhide OG_9) (unhide KT_9) (by decide) j hj)); have KY_10 := hide (keep_grown (unhide KY_9) hg7 (fun j hj => Own.ne (unhide OG_9) (unhide KY_9) (by decide) j hj)); have OI_10 := hide ((unhide OI_9).grown hg7 (unhide HA_GI)); have OS_10 := hide ((unhide OS_9).grown hg7 (unhide HA_GS2)); have OG_10 := hide ho7; clear HX_9 Kp_9 Kr_9 Kf_9 KT_9 KY_9 OI_9 OS_9 OG_9; clear hm7 ho7 hob7 hg7 HK6; clear y0' y1' y2' y3' y4' yf0' yf1' yf2' yf3' yf4' yl'; obtain ⟨⟨y0', y1', y2', y3', y4'⟩, ⟨yf0', yf1', yf2', yf3', yf4'⟩, yl'⟩ := block5 (unhide KY_10)))
    all_goals (
      clear y0' y1' y2' y3' y4' yf0' yf1' yf2' yf3' yf4' yl'
      clear y0 y1 y2 y3 y4 yf0 yf1 yf2 yf3 yf4 yl
      have HX_11 := hide (below_set (i := 4) (unhide HX_10) (show w.heap.size ≤ Y by first | omega | (have := unhide HBA; omega)) (.slice C mC cC))
      have Kp_11 := hide (keep_set (g := Y) (o := 4) (v := .slice C mC cC) (unhide Kp_10) (by omega))
      have Kr_11 := hide (keep_set (g := Y) (o := 4) (v := .slice C mC cC) (unhide Kr_10) (by omega))
      have Kf_11 := hide (keep_set (g := Y) (o := 4) (v := .slice C mC cC) (unhide Kf_10) (by omega))
      have KT_11 := hide (keep_set (g := Y) (o := 4) (v := .slice C mC cC) (unhide KT_10) (by omega))
      have KY_11 := hide (set_block5 (i := 4) (y := .slice C mC cC) (unhide KY_10))
      have OI_11 := hide ((unhide OI_10).keep (fun k hk => Below.heap_setCell w10 ⟨Y, 4, none⟩ (.slice C mC cC) k (by have := Own.ne (unhide OI_10) (unhide KY_10) (by decide) k hk; simpa using this)))
      have OS_11 := hide ((unhide OS_10).keep (fun k hk => Below.heap_setCell w10 ⟨Y, 4, none⟩ (.slice C mC cC) k (by have := Own.ne (unhide OS_10) (unhide KY_10) (by decide) k hk; simpa using this)))
      have OG_11 := hide ((unhide OG_10).keep (fun k hk => Below.heap_setCell w10 ⟨Y, 4, none⟩ (.slice C mC cC) k (by have := Own.ne (unhide OG_10) (unhide KY_10) (by decide) k hk; simpa using this)))
      obtain ⟨W11, eW11⟩ : ∃ X, w10.setCell ⟨Y, 4, none⟩ (.slice C mC cC) = X := ⟨_, rfl⟩
      rw [eW11] at HX_11 Kp_11 Kr_11 Kf_11 KT_11 KY_11 OI_11 OS_11 OG_11 ⊢
      clear eW11 HX_10 Kp_10 Kr_10 Kf_10 KT_10 KY_10 OI_10 OS_10 OG_10
      simp only [List.setIfInBounds_toArray, List.set_cons_zero, List.set_cons_succ] at KY_11
      obtain ⟨⟨q0, q1, q2, q3, q4⟩, ⟨qf0, qf1, qf2, qf3, qf4⟩, ql⟩ := block5 (unhide Kr_11)
      obtain ⟨r0, r1, rf0, rf1, rl⟩ := block2 (unhide Kf_11)
      obtain ⟨⟨y0, y1, y2, y3, y4⟩, ⟨yf0, yf1, yf2, yf3, yf4⟩, yl⟩ := block5 (unhide KY_11)
      go_wp2_with fail
      obtain ⟨Wf, ef⟩ : ∃ W, (put2 (put5 W11 (w.heap.size + 1) (.int .i64 cap) (.slice b1 n1 d1) (.bool closed) (.slice A mA cA) (.slice C mC cC)) (w.heap.size + 1 + 1) (.int .i64 0) (.int .i64 0)) = W := ⟨_, rfl⟩
      have H5 := hide (keep_below ((put2_keep (y0 := .int .i64 0) (y1 := .int .i64 0) (show w.heap.size + 1 ≠ w.heap.size + 1 + 1 by omega)).trans (put5_new (y0 := .int .i64 cap) (y1 := .slice b1 n1 d1) (y2 := .bool closed) (y3 := .slice A mA cA) (y4 := .slice C mC cC) (unhide Kr_11))) (Below.refl _ _))
      have H2 := hide (keep_below (put2_new (y0 := .int .i64 0) (y1 := .int .i64 0) ((put5_keep (y0 := .int .i64 cap) (y1 := .slice b1 n1 d1) (y2 := .bool closed) (y3 := .slice A mA cA) (y4 := .slice C mC cC) (show w.heap.size + 1 + 1 ≠ w.heap.size + 1 by omega)).trans (unhide Kf_11))) (Below.refl _ _))
      have HBf : Hid (Below w.heap.size w (put2 (put5 W11 (w.heap.size + 1) (.int .i64 cap) (.slice b1 n1 d1) (.bool closed) (.slice A mA cA) (.slice C mC cC)) (w.heap.size + 1 + 1) (.int .i64 0) (.int .i64 0))) := (put2_below (put5_below (unhide HX_11) (by omega)) (by omega))
      have HKf : Hid (∀ k, k ≠ w.heap.size + 1 → k ≠ w.heap.size + 1 + 1 → ((put2 (put5 W11 (w.heap.size + 1) (.int .i64 cap) (.slice b1 n1 d1) (.bool closed) (.slice A mA cA) (.slice C mC cC)) (w.heap.size + 1 + 1) (.int .i64 0) (.int .i64 0))).heap[k]? = W11.heap[k]?) := fun k h5 h6 => ((put2_keep h6).trans (put5_keep h5))
      rw [ef] at H5 H2 HBf HKf
      have ef2 : (((((((W11).setCell ⟨w.heap.size + 1, 0, none⟩ (.int .i64 cap)).setCell ⟨w.heap.size + 1, 1, none⟩ (.slice b1 n1 d1)).setCell ⟨w.heap.size + 1, 2, none⟩ (.bool closed)).setCell ⟨w.heap.size + 1, 3, none⟩ (.slice A mA cA)).setCell ⟨w.heap.size + 1, 4, none⟩ (.slice C mC cC)).setCell ⟨w.heap.size + 1 + 1, 0, none⟩ (.int .i64 0)).setCell ⟨w.heap.size + 1 + 1, 1, none⟩ (.int .i64 0) = Wf := ef
      rw [ef2]
      clear ef ef2
      clear q0 q1 q2 q3 q4 qf0 qf1 qf2 qf3 qf4 ql r0 r1 rf0 rf1 rl y0 y1 y2 y3 y4 yf0 yf1 yf2 yf3 yf4 yl
      obtain ⟨⟨q0, q1, q2, q3, q4⟩, -, -⟩ := block5 (unhide H5)
      obtain ⟨r0, r1, -, -, -⟩ := block2 (unhide H2)
      refine bodyPost_ret (v := .tuple #[.agg #[.int .i64 cap, .slice b1 n1 d1, .bool closed, .slice A mA cA, .slice C mC cC], .agg #[.int .i64 0, .int .i64 0]]) (by simp [results, Try.results23, go_sem, q0, q1, q2, q3, q4, r0, r1]) rfl ⟨_, rfl, ⟨_, _, _, rfl, (((unhide OI_11).keep (fun k hk => unhide HKf k (Own.ne (unhide OI_11) (unhide Kr_11) (by decide) k hk) (Own.ne (unhide OI_11) (unhide Kf_11) (by decide) k hk))).base (unhide HB3)).new, (((unhide OS_11).keep (fun k hk => unhide HKf k (Own.ne (unhide OS_11) (unhide Kr_11) (by decide) k hk) (Own.ne (unhide OS_11) (unhide Kf_11) (by decide) k hk))).base (unhide HB3)).new, (((unhide OG_11).keep (fun k hk => unhide HKf k (Own.ne (unhide OG_11) (unhide Kr_11) (by decide) k hk) (Own.ne (unhide OG_11) (unhide Kf_11) (by decide) k hk))).base (unhide HB3)).new⟩, unhide HBf⟩
    )
  )

/-- What a Leave answers. -/
def leaveR (P : Pp) (x : Int) : Pp := if (leaveF P x).1 = 0 then leaveL P x else zeroP
theorem Leave_any (w : World) (v : Value) (P : Pp) (x : Int) (h : IsPipe w v P) (hs : Short P) :
    Calls Try.prog 23 #[v, .int .i64 x] w fun e w' => ∃ v1, e = .returned (.tuple #[v1, faultV (leaveF P x)]) ∧ NewPipe w.heap.size w' v1 (leaveR P x) ∧ Below w.heap.size w w' := by
  by_cases h0 : (pipeF P).1 = 0
  · have hp := pipeF_zero h0
    cases hw : waitsL P x with
    | true =>
      have e : leaveF P x = (0, 0) := by unfold leaveF; rw [if_neg (by simpa using h0), if_pos hw]
      have e2 : leaveR P x = leaveL P x := by unfold leaveR; rw [e]; rfl
      rw [e, e2]
      exact leave_do w v P x h hs hp hw
    | false =>
      have e : leaveF P x = (6, 0) := by unfold leaveF; rw [if_neg (by simpa using h0), if_neg (by rw [hw]; simp)]
      have e2 : leaveR P x = zeroP := by unfold leaveR; rw [e]; rfl
      rw [e, e2]
      exact leave_none w v P x h hs hp hw
  · have e : leaveF P x = pipeF P := by unfold leaveF; rw [if_pos h0]
    have e2 : leaveR P x = zeroP := by unfold leaveR; rw [e, if_neg h0]
    rw [e, e2]
    exact leave_fault w v P x h hs _ _ rfl h0
end Go.Proofs.Ytijogcjocandcaa
