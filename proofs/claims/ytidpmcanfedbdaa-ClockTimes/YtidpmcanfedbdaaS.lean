/-
  What goes off, on lists; clock.checkPass; clock.Pass where its arguments are wrong.
-/
import Derived.Test.YtidpmcanfedbdaaR
namespace Go.Proofs.Ytidpmcanfedbdaa
open Go.RowKit

/-- What goes off until E: at most so many more; none: too much. -/
def runL (E : Int) : Nat → Int → List Al → List (Int × Int) → Option (Int × List Al × List (Int × Int))
  | 0, nx, zs, td => match zs with
    | [] => some (nx, [], td)
    | x :: r => if x.2.1 ≤ E then none else some (nx, x :: r, td)
  | f + 1, nx, zs, td => match zs with
    | [] => some (nx, [], td)
    | x :: r => if x.2.1 ≤ E then (if x.2.2.1 ≠ 0 ∧ nx = 1000000000 then none else runL E f (offL nx x r).1 (offL nx x r).2 (td ++ [(x.2.1, x.1)])) else some (nx, x :: r, td)
theorem runL_nil (E : Int) (f : Nat) (nx : Int) (td : List (Int × Int)) : runL E f nx [] td = some (nx, [], td) := by cases f <;> rfl
theorem runL_stop {E : Int} {x : Al} (h : ¬ x.2.1 ≤ E) (f : Nat) (nx : Int) (r : List Al) (td : List (Int × Int)) : runL E f nx (x :: r) td = some (nx, x :: r, td) := by
  cases f <;> simp only [runL] <;> rw [if_neg h]
theorem runL_zero {E : Int} {x : Al} (h : x.2.1 ≤ E) (nx : Int) (r : List Al) (td : List (Int × Int)) : runL E 0 nx (x :: r) td = none := by
  simp only [runL]; rw [if_pos h]
theorem runL_much {E : Int} {x : Al} (h : x.2.1 ≤ E) {nx : Int} (h2 : x.2.2.1 ≠ 0 ∧ nx = 1000000000) (f : Nat) (r : List Al) (td : List (Int × Int)) : runL E f nx (x :: r) td = none := by
  cases f with
  | zero => exact runL_zero h nx r td
  | succ f => simp only [runL]; rw [if_pos h, if_pos h2]
theorem runL_go {E : Int} {x : Al} (h : x.2.1 ≤ E) {nx : Int} (h2 : ¬ (x.2.2.1 ≠ 0 ∧ nx = 1000000000)) (f : Nat) (r : List Al) (td : List (Int × Int)) : runL E (f + 1) nx (x :: r) td = runL E f (offL nx x r).1 (offL nx x r).2 (td ++ [(x.2.1, x.1)]) := by
  simp only [runL]; rw [if_pos h, if_neg h2]
theorem Good.off {now next E : Int} {x : Al} {xs : List Al} (h : Good now next (x :: xs)) (hE : x.2.1 ≤ E) (hE1 : E ≤ 1000000000) (h2 : ¬ (x.2.2.1 ≠ 0 ∧ next = 1000000000)) : Good now (offL next x xs).1 (offL next x xs).2 := by
  have hx := (oor_iff now next x).1 (h.rng x (by simp))
  have hs := h.sub (List.sublist_cons_self x xs)
  have hn := h.n3
  unfold offL
  by_cases hp : x.2.2.1 = 0
  · rw [if_pos hp]; exact hs
  · rw [if_neg hp]
    have hl := h.len
    rw [List.length_cons] at hl
    refine hs.ins (fun b hb e => ?_) (by omega) (by omega) (by omega) (by omega) (by omega) (by omega) (by omega)
    have := h.ids
    rw [List.pairwise_cons] at this
    exact this.1 b hb e.symm

/-- What is wrong with a Pass. -/
def passF (now next : Int) (xs : List Al) (ticks : Int) : Int × Int := if (clockF now next xs).1 ≠ 0 then clockF now next xs else if ¬ (0 ≤ ticks ∧ ticks ≤ 1000000000) then (3, -1) else if 1000000000 < now + ticks then (9, 0) else (0, 0)
theorem passF_good {now next : Int} {xs : List Al} {ticks : Int} (h : (passF now next xs ticks).1 = 0) : passF now next xs ticks = (0, 0) ∧ Good now next xs ∧ 0 ≤ ticks ∧ ticks ≤ 1000000000 ∧ now + ticks ≤ 1000000000 := by
  unfold passF at h ⊢
  split at h
  · rename_i q; exact absurd h q
  rename_i q0
  split at h
  · cases h
  rename_i q1
  split at h
  · cases h
  rename_i q2
  rw [if_neg q0, if_neg q1, if_neg q2]
  exact ⟨rfl, (clockF_good (by omega)).2, by omega, by omega, by omega⟩
theorem passF_fine {now next : Int} {xs : List Al} {ticks : Int} (g : Good now next xs) (h1 : 0 ≤ ticks ∧ ticks ≤ 1000000000) (h2 : now + ticks ≤ 1000000000) : passF now next xs ticks = (0, 0) := by
  unfold passF
  rw [good_clockF g, if_neg (by simp), if_neg (by omega), if_neg (by omega)]

set_option maxRecDepth 100000 in
set_option maxHeartbeats 2000000 in
theorem checkPass_any (w : World) (v : Value) (now next : Int) (xs : List Al) (ticks : Int) (h : IsC w v now next xs) (hn : xs.length ≤ maxLen) :
    Calls Try.prog 34 #[v, .int .i64 ticks] w fun e w' => e = .returned (faultV (passF now next xs ticks)) ∧ Below w.heap.size w w' := by
  have HC : Hid (∀ W, Below w.heap.size w W → Calls Try.prog 11 #[v] W fun e w' => e = .returned (faultV (clockF now next xs)) ∧ Below W.heap.size W w') := fun W hW => check_any W v now next xs (h.below hW) hn
  obtain ⟨R, eR⟩ : ∃ R, passF now next xs ticks = R := ⟨_, rfl⟩
  rw [eR]
  unfold passF at eR
  have HGD : Hid ((clockF now next xs).1 = 0 → 0 ≤ now ∧ now ≤ 1000000000) := fun hz => ⟨(clockF_good hz).2.n0, (clockF_good hz).2.n1⟩
  obtain ⟨⟨F0, F1⟩, eF⟩ : ∃ F, clockF now next xs = F := ⟨_, rfl⟩
  rw [eF] at HC eR HGD
  obtain ⟨a0, c0, rfl, hL⟩ := h.form
  generalize xs.length = n at *
  simp only at eR HGD
  have HR := hide eR
  clear h hL eR eF
  obtain ⟨W0, e0, hB, k0, k1⟩ := two_new w (.cells #[.int .i64 now, .int .i64 next, .slice a0 n c0] 24) (.cells #[.int .i64 0, .int .i64 0] 29)
  have HX := hide hB; have HP := hide k0; have HQ := hide k1; have HE := hide e0
  clear hB k0 k1 e0
  go_enter Try.func34, Try.ntmps34
  go_upto_region 1 with fail
  rw [unhide HE]
  clear HE
  obtain ⟨⟨p0, p1, p2⟩, ⟨pf0, pf1, pf2⟩, pl⟩ := block3 (unhide HP)
  go_upto_region 2 with (go_at_call 11; refine (unhide HC _ (unhide HX)).mono ?_; rintro e w1 ⟨he, hb1⟩; obtain rfl : e = .returned (.agg #[.int .i64 F0, .int .i64 F1]) := he; have HX_1 := hide (Below.next (unhide HX) hb1 (by first | exact Nat.le_refl _ | (have := unhide HBA; omega))); have Kp_1 := hide (keep_below (unhide HP) hb1); have Kq_1 := hide (keep_below (unhide HQ) hb1); clear HX HP HQ; clear hb1 p0 p1 p2 pf0 pf1 pf2 pl)
  have HX_2 := hide ((unhide HX_1).alloc (Nat.le_trans (show w.heap.size ≤ w.heap.size from Nat.le_refl _) (unhide HX_1).size) (.cells #[.int .i64 F0, .int .i64 F1] 29))
  have Kp_2 := hide (keep_alloc (unhide Kp_1) (.cells #[.int .i64 F0, .int .i64 F1] 29))
  have Kq_2 := hide (keep_alloc (unhide Kq_1) (.cells #[.int .i64 F0, .int .i64 F1] 29))
  have Kf_2 := hide (new_block w1 (.cells #[.int .i64 F0, .int .i64 F1] 29))
  have hlp_f : w.heap.size < w1.heap.size := size_of (unhide Kp_1)
  have hlq_f : w.heap.size + 1 < w1.heap.size := size_of (unhide Kq_1)
  obtain ⟨T, eT⟩ : ∃ X, w1.heap.size = X := ⟨_, rfl⟩
  obtain ⟨W2, eW2⟩ : ∃ X, w1.alloc (.cells #[.int .i64 F0, .int .i64 F1] 29) = X := ⟨_, rfl⟩
  rw [eT, eW2] at Kf_2; rw [eW2] at HX_2 Kp_2 Kq_2; rw [eT] at hlp_f hlq_f; rw [eT, eW2]
  clear eT eW2 HX_1 Kp_1 Kq_1
  have hqt : w.heap.size + 1 < T := by omega
  obtain ⟨⟨p0, p1, p2⟩, ⟨pf0, pf1, pf2⟩, pl⟩ := block3 (unhide Kp_2)
  obtain ⟨q0, q1, qf0, qf1, ql⟩ := block2 (unhide Kq_2)
  obtain ⟨f0, f1, ff0, ff1, fl⟩ := block2 (unhide Kf_2)
  by_cases hF : F0 = 0
  · have hr := unhide HR
    rw [if_neg (by simpa using hF)] at hr
    have HR2 := hide hr
    obtain ⟨hg0, hg1⟩ := unhide HGD hF
    subst hF
    clear HR hr HGD
    have HA := hide (fun W => within_any W ticks 0 1000000000)
    by_cases h2 : 0 ≤ ticks ∧ ticks ≤ 1000000000
    · rw [decide_eq_true h2] at HA
      have hr := unhide HR2
      rw [if_neg (by omega)] at hr
      have HR3 := hide hr
      have hw1 : IntKind.i64.wrap (now + ticks) = now + ticks := wrapi (by omega) (by omega)
      clear HR2 hr h2
      by_cases h3 : 1000000000 < now + ticks
      · have hr := unhide HR3
        rw [if_pos h3] at hr
        subst hr
        clear HR3
        go_wp2_with (go_at_call 23; (with_reducible refine Calls.mono (unhide HA _) ?_); rintro e w3 ⟨rfl, rfl⟩)
        exact bodyPost_ret (v := .agg #[.int .i64 9, .int .i64 0]) (by simp [results, Try.results34, go_sem, q0, q1]) rfl ⟨rfl, below_set2 (unhide HX_2) (Nat.le_succ _) _ _⟩
      · have hr := unhide HR3
        rw [if_neg h3] at hr
        subst hr
        clear HR3
        go_wp2_with (go_at_call 23; (with_reducible refine Calls.mono (unhide HA _) ?_); rintro e w3 ⟨rfl, rfl⟩)
        exact bodyPost_ret (v := .agg #[.int .i64 0, .int .i64 0]) (by simp [results, Try.results34, go_sem, q0, q1]) rfl ⟨rfl, below_set2 (unhide HX_2) (Nat.le_succ _) _ _⟩
    · rw [decide_eq_false h2] at HA
      have hr := unhide HR2
      rw [if_pos h2] at hr
      subst hr
      clear HR2 h2
      go_wp2_with (go_at_call 23; (with_reducible refine Calls.mono (unhide HA _) ?_); rintro e w3 ⟨rfl, rfl⟩)
      exact bodyPost_ret (v := .agg #[.int .i64 3, .int .i64 (-1)]) (by simp [results, Try.results34, go_sem, q0, q1]) rfl ⟨rfl, below_set2 (unhide HX_2) (Nat.le_succ _) _ _⟩
  · have hr := unhide HR
    rw [if_pos hF] at hr
    subst hr
    have x0 : (F0 != 0) = true := by simpa using hF
    clear HR hF
    go_wp2_with fail
    exact bodyPost_ret (v := .agg #[.int .i64 F0, .int .i64 F1]) (by simp [results, Try.results34, go_sem, q0, q1]) rfl ⟨rfl, below_set2 (unhide HX_2) (Nat.le_succ _) _ _⟩

set_option maxRecDepth 100000 in
set_option maxHeartbeats 2000000 in
theorem pass_fault (w : World) (v : Value) (now next : Int) (xs : List Al) (ticks : Int) (h : IsC w v now next xs) (hn : xs.length ≤ maxLen) (hf : (passF now next xs ticks).1 ≠ 0) :
    Calls Try.prog 20 #[v, .int .i64 ticks] w fun e w' => e = .returned (.tuple #[.agg #[.int .i64 0, .int .i64 0, .slice none 0 0], .slice none 0 0, faultV (passF now next xs ticks)]) ∧ Below w.heap.size w w' := by
  have HC : Hid (∀ W, Below w.heap.size w W → Calls Try.prog 34 #[v, .int .i64 ticks] W fun e w' => e = .returned (faultV (passF now next xs ticks)) ∧ Below W.heap.size W w') := fun W hW => checkPass_any W v now next xs ticks (h.below hW) hn
  obtain ⟨⟨F0, F1⟩, eF⟩ : ∃ F, passF now next xs ticks = F := ⟨_, rfl⟩
  rw [eF] at HC hf ⊢
  obtain ⟨a0, c0, rfl, hL⟩ := h.form
  generalize xs.length = n at *
  have x0 : (F0 != 0) = true := by simpa using hf
  clear h hL eF hf
  obtain ⟨W0, e0, hB, k0, k1, k2⟩ := three_new w (.cells #[.int .i64 now, .int .i64 next, .slice a0 n c0] 24) (.cells #[.int .i64 0, .int .i64 0, .slice none 0 0] 24) (.cells #[.int .i64 0, .int .i64 0] 29)
  have HX := hide hB; have HP := hide k0; have HQ := hide k1; have HG := hide k2; have HE := hide e0
  clear hB k0 k1 k2 e0
  go_enter Try.func20, Try.ntmps20
  go_upto_region 1 with fail
  rw [unhide HE]
  clear HE
  obtain ⟨⟨p0, p1, p2⟩, ⟨pf0, pf1, pf2⟩, pl⟩ := block3 (unhide HP)
  go_upto_region 2 with (go_at_call 34; refine (unhide HC _ (unhide HX)).mono ?_; rintro e w1 ⟨he, hb1⟩; obtain rfl : e = .returned (.agg #[.int .i64 F0, .int .i64 F1]) := he; have HX_1 := hide (Below.next (unhide HX) hb1 (by first | exact Nat.le_refl _ | (have := unhide HBA; omega))); have Kp_1 := hide (keep_below (unhide HP) hb1); have Kq_1 := hide (keep_below (unhide HQ) hb1); have Kg_1 := hide (keep_below (unhide HG) hb1); clear HX HP HQ HG; clear hb1 p0 p1 p2 pf0 pf1 pf2 pl)
  have HX_2 := hide ((unhide HX_1).alloc (Nat.le_trans (show w.heap.size ≤ w.heap.size from Nat.le_refl _) (unhide HX_1).size) (.cells #[.int .i64 F0, .int .i64 F1] 29))
  have Kp_2 := hide (keep_alloc (unhide Kp_1) (.cells #[.int .i64 F0, .int .i64 F1] 29))
  have Kq_2 := hide (keep_alloc (unhide Kq_1) (.cells #[.int .i64 F0, .int .i64 F1] 29))
  have Kg_2 := hide (keep_alloc (unhide Kg_1) (.cells #[.int .i64 F0, .int .i64 F1] 29))
  have Kf_2 := hide (new_block w1 (.cells #[.int .i64 F0, .int .i64 F1] 29))
  have hlp_f : w.heap.size < w1.heap.size := size_of (unhide Kp_1)
  have hlq_f : w.heap.size + 1 < w1.heap.size := size_of (unhide Kq_1)
  have hlg_f : w.heap.size + 1 + 1 < w1.heap.size := size_of (unhide Kg_1)
  obtain ⟨T, eT⟩ : ∃ X, w1.heap.size = X := ⟨_, rfl⟩
  obtain ⟨W2, eW2⟩ : ∃ X, w1.alloc (.cells #[.int .i64 F0, .int .i64 F1] 29) = X := ⟨_, rfl⟩
  rw [eT, eW2] at Kf_2; rw [eW2] at HX_2 Kp_2 Kq_2 Kg_2; rw [eT] at hlp_f hlq_f hlg_f; rw [eT, eW2]
  clear eT eW2 HX_1 Kp_1 Kq_1 Kg_1
  obtain ⟨f0, f1, ff0, ff1, fl⟩ := block2 (unhide Kf_2)
  go_upto_region 3 with fail
  clear f0 f1 ff0 ff1 fl
  obtain ⟨⟨q0, q1, q2⟩, ⟨qf0, qf1, qf2⟩, ql⟩ := block3 (unhide Kq_2)
  obtain ⟨g0, g1, gf0, gf1, gl⟩ := block2 (unhide Kg_2)
  obtain ⟨f0, f1, ff0, ff1, fl⟩ := block2 (unhide Kf_2)
  have u1_ : w.heap.size + 1 ≠ T := by omega
  have u2_ : w.heap.size + 1 + 1 ≠ T := by omega
  have u3_ : T ≠ w.heap.size + 1 := by omega
  have u4_ : T ≠ w.heap.size + 1 + 1 := by omega
  go_wp2_with fail
  go_region
  clear q0 q1 q2 qf0 qf1 qf2 ql g0 g1 gf0 gf1 gl f0 f1 ff0 ff1 fl
  have HX_3 := hide (putL_below (y0 := .int .i64 0) (y1 := .int .i64 0) (y2 := .slice none 0 0) (unhide HX_2) (show w.heap.size ≤ w.heap.size + 1 by first | omega | (have := unhide HBA; omega)))
  have Kp_3 := hide ((putL_keep (y0 := .int .i64 0) (y1 := .int .i64 0) (y2 := .slice none 0 0) (show w.heap.size ≠ w.heap.size + 1 by omega)).trans (unhide Kp_2))
  have Kq_3 := hide (putL_new (y0 := .int .i64 0) (y1 := .int .i64 0) (y2 := .slice none 0 0) (unhide Kq_2))
  have Kg_3 := hide ((putL_keep (y0 := .int .i64 0) (y1 := .int .i64 0) (y2 := .slice none 0 0) (show w.heap.size + 1 + 1 ≠ w.heap.size + 1 by omega)).trans (unhide Kg_2))
  have Kf_3 := hide ((putL_keep (y0 := .int .i64 0) (y1 := .int .i64 0) (y2 := .slice none 0 0) (show T ≠ w.heap.size + 1 by omega)).trans (unhide Kf_2))
  obtain ⟨V1, eV1⟩ : ∃ X, putL W2 (w.heap.size + 1) (.int .i64 0) (.int .i64 0) (.slice none 0 0) = X := ⟨_, rfl⟩
  rw [eV1] at HX_3 Kp_3 Kq_3 Kg_3 Kf_3
  have eV12 : (((W2).setCell ⟨w.heap.size + 1, 0, none⟩ (.int .i64 0)).setCell ⟨w.heap.size + 1, 1, none⟩ (.int .i64 0)).setCell ⟨w.heap.size + 1, 2, none⟩ (.slice none 0 0) = V1 := eV1
  rw [eV12]
  clear eV1 eV12 HX_2 Kp_2 Kq_2 Kg_2 Kf_2
  have HX_4 := hide (put2_below (y0 := .int .i64 F0) (y1 := .int .i64 F1) (unhide HX_3) (show w.heap.size ≤ w.heap.size + 1 + 1 by first | omega | (have := unhide HBA; omega)))
  have Kp_4 := hide ((put2_keep (y0 := .int .i64 F0) (y1 := .int .i64 F1) (show w.heap.size ≠ w.heap.size + 1 + 1 by omega)).trans (unhide Kp_3))
  have Kq_4 := hide ((put2_keep (y0 := .int .i64 F0) (y1 := .int .i64 F1) (show w.heap.size + 1 ≠ w.heap.size + 1 + 1 by omega)).trans (unhide Kq_3))
  have Kg_4 := hide (put2_new (y0 := .int .i64 F0) (y1 := .int .i64 F1) (unhide Kg_3))
  have Kf_4 := hide ((put2_keep (y0 := .int .i64 F0) (y1 := .int .i64 F1) (show T ≠ w.heap.size + 1 + 1 by omega)).trans (unhide Kf_3))
  obtain ⟨V2, eV2⟩ : ∃ X, put2 V1 (w.heap.size + 1 + 1) (.int .i64 F0) (.int .i64 F1) = X := ⟨_, rfl⟩
  rw [eV2] at HX_4 Kp_4 Kq_4 Kg_4 Kf_4
  have eV22 : ((V1).setCell ⟨w.heap.size + 1 + 1, 0, none⟩ (.int .i64 F0)).setCell ⟨w.heap.size + 1 + 1, 1, none⟩ (.int .i64 F1) = V2 := eV2
  rw [eV22]
  clear eV2 eV22 HX_3 Kp_3 Kq_3 Kg_3 Kf_3
  have hV3 : Below V2.heap.size V2 V2.drew := (Below.refl _ _).drew
  obtain ⟨V3, eV3⟩ : ∃ X, V2.drew = X := ⟨_, rfl⟩
  rw [eV3] at hV3 ⊢
  (have HX_5 := hide (Below.next (unhide HX_4) hV3 (by first | exact Nat.le_refl _ | (have := unhide HBA; omega))); have Kp_5 := hide (keep_below (unhide Kp_4) hV3); have Kq_5 := hide (keep_below (unhide Kq_4) hV3); have Kg_5 := hide (keep_below (unhide Kg_4) hV3); have Kf_5 := hide (keep_below (unhide Kf_4) hV3); clear HX_4 Kp_4 Kq_4 Kg_4 Kf_4)
  clear hV3 eV3
  obtain ⟨⟨q0, q1, q2⟩, ⟨qf0, qf1, qf2⟩, ql⟩ := block3 (unhide Kq_5)
  obtain ⟨g0, g1, gf0, gf1, gl⟩ := block2 (unhide Kg_5)
  go_wp2_with fail
  exact bodyPost_ret (v := .tuple #[.agg #[.int .i64 0, .int .i64 0, .slice none 0 0], .slice none 0 0, .agg #[.int .i64 F0, .int .i64 F1]]) (by simp [results, Try.results20, go_sem, q0, q1, q2, g0, g1]) rfl ⟨rfl, unhide HX_5⟩

end Go.Proofs.Ytidpmcanfedbdaa
