/-
  buddy.Take of a space of which nothing is wrong.
-/
import Derived.Test.YtomhfnjnmhdpkaaU
namespace Go.Proofs.Ytomhfnjnmhdpkaa
open Go.RowKit

theorem halves_len (n t : Int) : ∀ (k : Nat) (c : Int), (halves n t k c).2.length ≤ k
  | 0, _ => Nat.le_refl _
  | k + 1, c => by
    rw [halves]
    by_cases h : n ≤ c / 2
    · rw [if_pos h]; simp only [List.length_cons]; have := halves_len n t k (c / 2); omega
    · rw [if_neg h]; exact Nat.zero_le _
/-- What is asked of a block that is taken. -/
def asks (z : Int) (x : Bl) : Bool := decide (z ≤ x.2)
theorem leastStep_or (p : Bl → Bool) (o : Option Bl) (y : Bl) : leastStep p o y = o ∨ (leastStep p o y = some y ∧ p y = true) := by
  cases hp : p y with
  | false =>
    left
    unfold leastStep
    rw [hp, Bool.false_and]
    rfl
  | true =>
    unfold leastStep
    rw [hp, Bool.true_and]
    cases o with
    | none => exact Or.inr ⟨rfl, rfl⟩
    | some a =>
      by_cases h : y.2 < a.2
      · right; exact ⟨if_pos (decide_eq_true h), rfl⟩
      · left; exact if_neg (by simpa using h)
theorem leastL_mem {p : Bl → Bool} : ∀ (xs : List Bl) (o : Option Bl) (x : Bl), xs.foldl (leastStep p) o = some x → o = some x ∨ (x ∈ xs ∧ p x = true)
  | [], _, _, h => Or.inl h
  | y :: ys, o, x, h => by
    rcases leastL_mem ys _ x h with h1 | ⟨h1, h2⟩
    · rcases leastStep_or p o y with h3 | ⟨h3, h4⟩
      · rw [h3] at h1; exact Or.inl h1
      · rw [h3] at h1
        injection h1 with h1
        subst h1
        exact Or.inr ⟨by simp, h4⟩
    · exact Or.inr ⟨List.mem_cons_of_mem _ h1, h2⟩

set_option maxRecDepth 100000 in
set_option maxHeartbeats 4000000 in
theorem take_none (w : World) (v : Value) (b : Int) (us fs : List Bl) (z : Int) (h : IsS w v b us fs) (hn : us.length ≤ 100000) (hm : fs.length ≤ 100000) (hb1 : Bnd us) (hb2 : Bnd fs) (hf : spaceF b us fs = (0, 0)) (hz1 : 1 ≤ z) (hz2 : z ≤ 1073741824) (hl : leastL (asks z) fs = none) :
    Calls Try.prog 11 #[v, .int .i64 z] w fun e w' => e = .returned (.tuple #[noS, .int .i64 0, faultV (6, 0)]) ∧ Below w.heap.size w w' := by
  have HC : Hid (∀ W, Below w.heap.size w W → Calls Try.prog 10 #[v] W fun e w' => e = .returned (faultV (0, 0)) ∧ Below W.heap.size W w') := fun W hW => by
    have := check_any W v b us fs (h.below hW) hn hm hb1 hb2
    rw [hf] at this; exact this
  obtain ⟨hg1, hg2, hg3, hg4, hg5, hg6⟩ := spaceF_good hf
  obtain ⟨hu1, hu2⟩ := pow30 hg1.1 hg1.2
  obtain ⟨a0, c0, a1, c1, rfl, hu, hfr⟩ := h.form
  have HUN : Hid (∀ W, Calls Try.prog 21 #[.int .i64 30] W fun e w' => e = .returned (.int .i64 1073741824) ∧ w' = W) := fun W => unitsOf_any W 30 (by decide) (by decide)
  have HLE : Hid (∀ W, Below w.heap.size w W → W.heap[w.heap.size + 1]? = some (.cells #[.int .i64 z] 3 (0, 0)) → Calls Try.prog 25 #[.slice a1 fs.length c1, .func (.func 26) #[] #[.pointer (some ⟨w.heap.size + 1, 0, none⟩)]] W fun e w' => e = .returned (leastV (leastL (asks z) fs)) ∧ Below W.heap.size W w') := fun W hW hk =>
    least_any W _ fs (hfr.below hW) hm 26 enters_take #[.pointer (some ⟨w.heap.size + 1, 0, none⟩)] (asks z) (fun W2 x hW2 => take1_any W2 (w.heap.size + 1) z x.1 x.2 (keep_below hk hW2))
  rw [hl] at HLE
  obtain ⟨n, en⟩ : ∃ n, us.length = n := ⟨_, rfl⟩
  obtain ⟨m, em⟩ : ∃ m, fs.length = m := ⟨_, rfl⟩
  rw [en, em] at HC hg2 ⊢
  rw [en] at hn
  rw [em] at HLE hm
  have hq : ∀ w, (Op.equalIn 10000 29 (.agg #[.int .i64 0, .int .i64 0]) (.agg #[.int .i64 0, .int .i64 0])).run Try.prog w = .ok true w := fun w => by rw [flt_eq]; rfl
  have hnz : ¬ z < 1 := by omega
  have hnz2 : ¬ 1073741824 < z := by omega
  clear h hf hb1 hb2 hl hu hfr hg1 hg2 hg3 hg4 hg5 hg6 en em hu1 hu2
  obtain ⟨W0, e0, hB, k0, k1, k2, k3⟩ := four_new w (.cells #[.int .i64 b, .slice a0 n c0, .slice a1 m c1] 24) (.cells #[.int .i64 z] 3) (.cells #[.int .i64 0, .slice none 0 0, .slice none 0 0] 24) (.cells #[.int .i64 0, .int .i64 0] 29)
  have HX := hide hB; have HP := hide k0; have HN := hide k1; have HQ := hide k2; have HG := hide k3; have HE := hide e0
  clear hB k0 k1 k2 k3 e0
  go_enter Try.func11, Try.ntmps11
  go_upto_region 1 with fail
  rw [unhide HE]
  clear HE
  obtain ⟨⟨p0, p1, p2⟩, ⟨pf0, pf1, pf2⟩, pl⟩ := block3 (unhide HP)
  go_upto_region 2 with (go_at_call 10; refine (unhide HC _ (unhide HX)).mono ?_; rintro e w1 ⟨he, hb1⟩; obtain rfl : e = .returned (.agg #[.int .i64 0, .int .i64 0]) := he; have HX_1 := hide (Below.next (unhide HX) hb1 (by first | exact Nat.le_refl _ | (have := unhide HBA; omega))); have Kp_1 := hide (keep_below (unhide HP) hb1); have Kn_1 := hide (keep_below (unhide HN) hb1); have Kq_1 := hide (keep_below (unhide HQ) hb1); have Kg_1 := hide (keep_below (unhide HG) hb1); clear HX HP HN HQ HG; clear hb1 p0 p1 p2 pf0 pf1 pf2 pl)
  have HX_2 := hide ((unhide HX_1).alloc (Nat.le_trans (show w.heap.size ≤ w.heap.size from Nat.le_refl _) (unhide HX_1).size) (.cells #[.int .i64 0, .int .i64 0] 29))
  have Kp_2 := hide (keep_alloc (unhide Kp_1) (.cells #[.int .i64 0, .int .i64 0] 29))
  have Kn_2 := hide (keep_alloc (unhide Kn_1) (.cells #[.int .i64 0, .int .i64 0] 29))
  have Kq_2 := hide (keep_alloc (unhide Kq_1) (.cells #[.int .i64 0, .int .i64 0] 29))
  have Kg_2 := hide (keep_alloc (unhide Kg_1) (.cells #[.int .i64 0, .int .i64 0] 29))
  have Kf_2 := hide (new_block w1 (.cells #[.int .i64 0, .int .i64 0] 29))
  have hlp_f : w.heap.size < w1.heap.size := size_of (unhide Kp_1)
  have hln_f : w.heap.size + 1 < w1.heap.size := size_of (unhide Kn_1)
  have hlq_f : w.heap.size + 1 + 1 < w1.heap.size := size_of (unhide Kq_1)
  have hlg_f : w.heap.size + 1 + 1 + 1 < w1.heap.size := size_of (unhide Kg_1)
  obtain ⟨T, eT⟩ : ∃ X, w1.heap.size = X := ⟨_, rfl⟩
  obtain ⟨W2, eW2⟩ : ∃ X, w1.alloc (.cells #[.int .i64 0, .int .i64 0] 29) = X := ⟨_, rfl⟩
  rw [eT, eW2] at Kf_2; rw [eW2] at HX_2 Kp_2 Kn_2 Kq_2 Kg_2; rw [eT] at hlp_f hln_f hlq_f hlg_f; rw [eT, eW2]
  clear eT eW2 HX_1 Kp_1 Kn_1 Kq_1 Kg_1
  obtain ⟨f0, f1, ff0, ff1, fl⟩ := block2 (unhide Kf_2)
  go_upto_region 4 with fail
  clear f0 f1 ff0 ff1 fl
  obtain ⟨n0, nf0, nl⟩ := block1 (unhide Kn_2)
  go_quiet ((go_at_call 21; exact Calls.quiet_of_same (unhide HUN _)))
  have hV0 : Below W2.heap.size W2 (W2.drewN nq) := below_drewN (Below.refl _ _) nq
  obtain ⟨V0, eV0⟩ : ∃ X, W2.drewN nq = X := ⟨_, rfl⟩
  rw [eV0] at hV0 ⊢
  (have HX_3 := hide (Below.next (unhide HX_2) hV0 (by first | exact Nat.le_refl _ | (have := unhide HBA; omega))); have Kp_3 := hide (keep_below (unhide Kp_2) hV0); have Kn_3 := hide (keep_below (unhide Kn_2) hV0); have Kq_3 := hide (keep_below (unhide Kq_2) hV0); have Kg_3 := hide (keep_below (unhide Kg_2) hV0); have Kf_3 := hide (keep_below (unhide Kf_2) hV0); clear HX_2 Kp_2 Kn_2 Kq_2 Kg_2 Kf_2)
  clear hV0 eV0
  clear n0 nf0 nl
  obtain ⟨⟨p0, p1, p2⟩, ⟨pf0, pf1, pf2⟩, pl⟩ := block3 (unhide Kp_3)
  have HCS := hide (unhide HX_3)
  have HCN := hide (unhide Kn_3)
  go_upto_region 7 with (go_at_call 25; refine (unhide HLE _ (unhide HCS) (unhide HCN)).mono ?_; rintro e w6 ⟨he, hb6⟩; obtain rfl : e = .returned (.tuple #[.agg #[.int .i64 0, .int .i64 0], .bool false]) := he; have HX_4 := hide (Below.next (unhide HX_3) hb6 (by first | exact Nat.le_refl _ | (have := unhide HBA; omega))); have Kp_4 := hide (keep_below (unhide Kp_3) hb6); have Kn_4 := hide (keep_below (unhide Kn_3) hb6); have Kq_4 := hide (keep_below (unhide Kq_3) hb6); have Kg_4 := hide (keep_below (unhide Kg_3) hb6); have Kf_4 := hide (keep_below (unhide Kf_3) hb6); clear HX_3 Kp_3 Kn_3 Kq_3 Kg_3 Kf_3; clear HCS HCN hb6 p0 p1 p2 pf0 pf1 pf2 pl)
  have HX_5 := hide ((unhide HX_4).alloc (Nat.le_trans (show w.heap.size ≤ w.heap.size from Nat.le_refl _) (unhide HX_4).size) (.cells #[.int .i64 0, .int .i64 0] 38))
  have Kp_5 := hide (keep_alloc (unhide Kp_4) (.cells #[.int .i64 0, .int .i64 0] 38))
  have Kn_5 := hide (keep_alloc (unhide Kn_4) (.cells #[.int .i64 0, .int .i64 0] 38))
  have Kq_5 := hide (keep_alloc (unhide Kq_4) (.cells #[.int .i64 0, .int .i64 0] 38))
  have Kg_5 := hide (keep_alloc (unhide Kg_4) (.cells #[.int .i64 0, .int .i64 0] 38))
  have Kf_5 := hide (keep_alloc (unhide Kf_4) (.cells #[.int .i64 0, .int .i64 0] 38))
  have Ko_5 := hide (new_block w6 (.cells #[.int .i64 0, .int .i64 0] 38))
  have hlp_o : w.heap.size < w6.heap.size := size_of (unhide Kp_4)
  have hln_o : w.heap.size + 1 < w6.heap.size := size_of (unhide Kn_4)
  have hlq_o : w.heap.size + 1 + 1 < w6.heap.size := size_of (unhide Kq_4)
  have hlg_o : w.heap.size + 1 + 1 + 1 < w6.heap.size := size_of (unhide Kg_4)
  have hlf_o : T < w6.heap.size := size_of (unhide Kf_4)
  obtain ⟨T2, eT2⟩ : ∃ X, w6.heap.size = X := ⟨_, rfl⟩
  obtain ⟨W3, eW3⟩ : ∃ X, w6.alloc (.cells #[.int .i64 0, .int .i64 0] 38) = X := ⟨_, rfl⟩
  rw [eT2, eW3] at Ko_5; rw [eW3] at HX_5 Kp_5 Kn_5 Kq_5 Kg_5 Kf_5; rw [eT2] at hlp_o hln_o hlq_o hlg_o hlf_o; rw [eT2, eW3]
  clear eT2 eW3 HX_4 Kp_4 Kn_4 Kq_4 Kg_4 Kf_4
  obtain ⟨⟨q0, q1, q2⟩, ⟨qf0, qf1, qf2⟩, ql⟩ := block3 (unhide Kq_5)
  obtain ⟨g0, g1, gf0, gf1, gl⟩ := block2 (unhide Kg_5)
  go_wp2_with fail
  have HX_6 := hide (putL_below (y0 := .int .i64 0) (y1 := .slice none 0 0) (y2 := .slice none 0 0) (unhide HX_5) (show w.heap.size ≤ w.heap.size + 1 + 1 by first | omega | (have := unhide HBA; omega)))
  have Kp_6 := hide ((putL_keep (y0 := .int .i64 0) (y1 := .slice none 0 0) (y2 := .slice none 0 0) (show w.heap.size ≠ w.heap.size + 1 + 1 by omega)).trans (unhide Kp_5))
  have Kn_6 := hide ((putL_keep (y0 := .int .i64 0) (y1 := .slice none 0 0) (y2 := .slice none 0 0) (show w.heap.size + 1 ≠ w.heap.size + 1 + 1 by omega)).trans (unhide Kn_5))
  have Kq_6 := hide (putL_new (y0 := .int .i64 0) (y1 := .slice none 0 0) (y2 := .slice none 0 0) (unhide Kq_5))
  have Kg_6 := hide ((putL_keep (y0 := .int .i64 0) (y1 := .slice none 0 0) (y2 := .slice none 0 0) (show w.heap.size + 1 + 1 + 1 ≠ w.heap.size + 1 + 1 by omega)).trans (unhide Kg_5))
  have Kf_6 := hide ((putL_keep (y0 := .int .i64 0) (y1 := .slice none 0 0) (y2 := .slice none 0 0) (show T ≠ w.heap.size + 1 + 1 by omega)).trans (unhide Kf_5))
  have Ko_6 := hide ((putL_keep (y0 := .int .i64 0) (y1 := .slice none 0 0) (y2 := .slice none 0 0) (show T2 ≠ w.heap.size + 1 + 1 by omega)).trans (unhide Ko_5))
  obtain ⟨V1, eV1⟩ : ∃ X, putL W3 (w.heap.size + 1 + 1) (.int .i64 0) (.slice none 0 0) (.slice none 0 0) = X := ⟨_, rfl⟩
  rw [eV1] at HX_6 Kp_6 Kn_6 Kq_6 Kg_6 Kf_6 Ko_6
  have eV12 : (((W3).setCell ⟨w.heap.size + 1 + 1, 0, none⟩ (.int .i64 0)).setCell ⟨w.heap.size + 1 + 1, 1, none⟩ (.slice none 0 0)).setCell ⟨w.heap.size + 1 + 1, 2, none⟩ (.slice none 0 0) = V1 := eV1
  rw [eV12]
  clear eV1 eV12 HX_5 Kp_5 Kn_5 Kq_5 Kg_5 Kf_5 Ko_5
  have HX_7 := hide (put2_below (y0 := .int .i64 6) (y1 := .int .i64 0) (unhide HX_6) (show w.heap.size ≤ w.heap.size + 1 + 1 + 1 by first | omega | (have := unhide HBA; omega)))
  have Kp_7 := hide ((put2_keep (y0 := .int .i64 6) (y1 := .int .i64 0) (show w.heap.size ≠ w.heap.size + 1 + 1 + 1 by omega)).trans (unhide Kp_6))
  have Kn_7 := hide ((put2_keep (y0 := .int .i64 6) (y1 := .int .i64 0) (show w.heap.size + 1 ≠ w.heap.size + 1 + 1 + 1 by omega)).trans (unhide Kn_6))
  have Kq_7 := hide ((put2_keep (y0 := .int .i64 6) (y1 := .int .i64 0) (show w.heap.size + 1 + 1 ≠ w.heap.size + 1 + 1 + 1 by omega)).trans (unhide Kq_6))
  have Kg_7 := hide (put2_new (y0 := .int .i64 6) (y1 := .int .i64 0) (unhide Kg_6))
  have Kf_7 := hide ((put2_keep (y0 := .int .i64 6) (y1 := .int .i64 0) (show T ≠ w.heap.size + 1 + 1 + 1 by omega)).trans (unhide Kf_6))
  have Ko_7 := hide ((put2_keep (y0 := .int .i64 6) (y1 := .int .i64 0) (show T2 ≠ w.heap.size + 1 + 1 + 1 by omega)).trans (unhide Ko_6))
  obtain ⟨V2, eV2⟩ : ∃ X, put2 V1 (w.heap.size + 1 + 1 + 1) (.int .i64 6) (.int .i64 0) = X := ⟨_, rfl⟩
  rw [eV2] at HX_7 Kp_7 Kn_7 Kq_7 Kg_7 Kf_7 Ko_7
  have eV22 : ((V1).setCell ⟨w.heap.size + 1 + 1 + 1, 0, none⟩ (.int .i64 6)).setCell ⟨w.heap.size + 1 + 1 + 1, 1, none⟩ (.int .i64 0) = V2 := eV2
  rw [eV22]
  clear eV2 eV22 HX_6 Kp_6 Kn_6 Kq_6 Kg_6 Kf_6 Ko_6
  clear q0 q1 q2 qf0 qf1 qf2 ql g0 g1 gf0 gf1 gl
  obtain ⟨⟨q0, q1, q2⟩, ⟨qf0, qf1, qf2⟩, ql⟩ := block3 (unhide Kq_7)
  obtain ⟨g0, g1, gf0, gf1, gl⟩ := block2 (unhide Kg_7)
  exact bodyPost_ret (v := .tuple #[.agg #[.int .i64 0, .slice none 0 0, .slice none 0 0], .int .i64 0, .agg #[.int .i64 6, .int .i64 0]]) (by simp [results, Try.results11, go_sem, q0, q1, q2, g0, g1]) rfl ⟨rfl, unhide HX_7⟩

set_option maxRecDepth 100000 in
set_option maxHeartbeats 4000000 in
theorem take_much (w : World) (v : Value) (b : Int) (us fs : List Bl) (z : Int) (h : IsS w v b us fs) (hn : us.length ≤ 100000) (hm : fs.length ≤ 100000) (hb1 : Bnd us) (hb2 : Bnd fs) (hf : spaceF b us fs = (0, 0)) (hz1 : 1 ≤ z) (hz2 : z ≤ 1073741824) (x : Bl) (hl : leastL (asks z) fs = some x) (hq5 : 5000 < us.length + fs.length + (halves z x.1 31 x.2).2.length) :
    Calls Try.prog 11 #[v, .int .i64 z] w fun e w' => e = .returned (.tuple #[noS, .int .i64 0, faultV (9, 0)]) ∧ Below w.heap.size w w' := by
  have HC : Hid (∀ W, Below w.heap.size w W → Calls Try.prog 10 #[v] W fun e w' => e = .returned (faultV (0, 0)) ∧ Below W.heap.size W w') := fun W hW => by
    have := check_any W v b us fs (h.below hW) hn hm hb1 hb2
    rw [hf] at this; exact this
  obtain ⟨hg1, hg2, hg3, hg4, hg5, hg6⟩ := spaceF_good hf
  obtain ⟨hu1, hu2⟩ := pow30 hg1.1 hg1.2
  obtain ⟨a0, c0, a1, c1, rfl, hu, hfr⟩ := h.form
  have HUN : Hid (∀ W, Calls Try.prog 21 #[.int .i64 30] W fun e w' => e = .returned (.int .i64 1073741824) ∧ w' = W) := fun W => unitsOf_any W 30 (by decide) (by decide)
  have HLE : Hid (∀ W, Below w.heap.size w W → W.heap[w.heap.size + 1]? = some (.cells #[.int .i64 z] 3 (0, 0)) → Calls Try.prog 25 #[.slice a1 fs.length c1, .func (.func 26) #[] #[.pointer (some ⟨w.heap.size + 1, 0, none⟩)]] W fun e w' => e = .returned (leastV (leastL (asks z) fs)) ∧ Below W.heap.size W w') := fun W hW hk =>
    least_any W _ fs (hfr.below hW) hm 26 enters_take #[.pointer (some ⟨w.heap.size + 1, 0, none⟩)] (asks z) (fun W2 x hW2 => take1_any W2 (w.heap.size + 1) z x.1 x.2 (keep_below hk hW2))
  rw [hl] at HLE
  obtain ⟨S0, C0⟩ := x
  have hmem : (S0, C0) ∈ fs ∧ asks z (S0, C0) = true := by
    rcases leastL_mem fs none (S0, C0) hl with h1 | h1
    · cases h1
    · exact h1
  obtain ⟨hp, h0, hmo, hend⟩ := fit_parts (hg4.1 _ hmem.1)
  simp only at hp h0 hmo hend
  have hpos := pw_pos hp
  have HHA : Hid (∀ W, Calls Try.prog 27 #[.agg #[.int .i64 S0, .int .i64 C0], .int .i64 z] W fun e w' => ∃ a cp, e = .returned (.tuple #[.agg #[.int .i64 S0, .int .i64 (halves z S0 31 C0).1], .slice a (halves z S0 31 C0).2.length cp]) ∧ Own KB W.heap.size w' (.slice a (halves z S0 31 C0).2.length cp) (halves z S0 31 C0).2 ∧ Below W.heap.size W w') := fun W => halved_any W S0 C0 z 31 hp h0 (by omega) hmo hz1 (by rw [show (2 : Int) ^ 31 = 2147483648 from by decide]; omega) (by decide)
  have hql := halves_len z S0 31 C0
  simp only at hq5
  obtain ⟨OC, eOC⟩ : ∃ X, (halves z S0 31 C0).1 = X := ⟨_, rfl⟩
  obtain ⟨SL, eSL⟩ : ∃ X, (halves z S0 31 C0).2 = X := ⟨_, rfl⟩
  obtain ⟨q, eq⟩ : ∃ X, SL.length = X := ⟨_, rfl⟩
  rw [eOC, eSL, eq] at HHA
  rw [eSL, eq] at hql
  have HQL := hide eq
  rw [eSL, eq] at hq5
  obtain ⟨n, en⟩ : ∃ n, us.length = n := ⟨_, rfl⟩
  obtain ⟨m, em⟩ : ∃ m, fs.length = m := ⟨_, rfl⟩
  rw [en, em] at HC hg2 ⊢
  rw [en] at hn
  rw [em] at HLE hm
  have hq : ∀ w, (Op.equalIn 10000 29 (.agg #[.int .i64 0, .int .i64 0]) (.agg #[.int .i64 0, .int .i64 0])).run Try.prog w = .ok true w := fun w => by rw [flt_eq]; rfl
  have hnz : ¬ z < 1 := by omega
  have hnz2 : ¬ 1073741824 < z := by omega
  rw [en, em] at hq5
  have hs1 : IntKind.i64.wrap ((n : Int) + (m : Int)) = (n : Int) + (m : Int) := wrapi (by omega) (by omega)
  have hs2 : IntKind.i64.wrap ((n : Int) + (m : Int) + (q : Int)) = (n : Int) + (m : Int) + (q : Int) := wrapi (by omega) (by omega)
  have hs3 : (5000 : Int) < (n : Int) + (m : Int) + (q : Int) := by omega
  clear h hf hb1 hb2 hl hu hfr hg1 hg2 hg3 hg4 hg5 hg6 en em hu1 hu2 hmem hp h0 hmo hend hpos eOC eSL eq
  obtain ⟨W0, e0, hB, k0, k1, k2, k3⟩ := four_new w (.cells #[.int .i64 b, .slice a0 n c0, .slice a1 m c1] 24) (.cells #[.int .i64 z] 3) (.cells #[.int .i64 0, .slice none 0 0, .slice none 0 0] 24) (.cells #[.int .i64 0, .int .i64 0] 29)
  have HX := hide hB; have HP := hide k0; have HN := hide k1; have HQ := hide k2; have HG := hide k3; have HE := hide e0
  clear hB k0 k1 k2 k3 e0
  go_enter Try.func11, Try.ntmps11
  go_upto_region 1 with fail
  rw [unhide HE]
  clear HE
  obtain ⟨⟨p0, p1, p2⟩, ⟨pf0, pf1, pf2⟩, pl⟩ := block3 (unhide HP)
  go_upto_region 2 with (go_at_call 10; refine (unhide HC _ (unhide HX)).mono ?_; rintro e w1 ⟨he, hb1⟩; obtain rfl : e = .returned (.agg #[.int .i64 0, .int .i64 0]) := he; have HX_1 := hide (Below.next (unhide HX) hb1 (by first | exact Nat.le_refl _ | (have := unhide HBA; omega))); have Kp_1 := hide (keep_below (unhide HP) hb1); have Kn_1 := hide (keep_below (unhide HN) hb1); have Kq_1 := hide (keep_below (unhide HQ) hb1); have Kg_1 := hide (keep_below (unhide HG) hb1); clear HX HP HN HQ HG; clear hb1 p0 p1 p2 pf0 pf1 pf2 pl)
  have HX_2 := hide ((unhide HX_1).alloc (Nat.le_trans (show w.heap.size ≤ w.heap.size from Nat.le_refl _) (unhide HX_1).size) (.cells #[.int .i64 0, .int .i64 0] 29))
  have Kp_2 := hide (keep_alloc (unhide Kp_1) (.cells #[.int .i64 0, .int .i64 0] 29))
  have Kn_2 := hide (keep_alloc (unhide Kn_1) (.cells #[.int .i64 0, .int .i64 0] 29))
  have Kq_2 := hide (keep_alloc (unhide Kq_1) (.cells #[.int .i64 0, .int .i64 0] 29))
  have Kg_2 := hide (keep_alloc (unhide Kg_1) (.cells #[.int .i64 0, .int .i64 0] 29))
  have Kf_2 := hide (new_block w1 (.cells #[.int .i64 0, .int .i64 0] 29))
  have hlp_f : w.heap.size < w1.heap.size := size_of (unhide Kp_1)
  have hln_f : w.heap.size + 1 < w1.heap.size := size_of (unhide Kn_1)
  have hlq_f : w.heap.size + 1 + 1 < w1.heap.size := size_of (unhide Kq_1)
  have hlg_f : w.heap.size + 1 + 1 + 1 < w1.heap.size := size_of (unhide Kg_1)
  obtain ⟨T, eT⟩ : ∃ X, w1.heap.size = X := ⟨_, rfl⟩
  obtain ⟨W2, eW2⟩ : ∃ X, w1.alloc (.cells #[.int .i64 0, .int .i64 0] 29) = X := ⟨_, rfl⟩
  rw [eT, eW2] at Kf_2; rw [eW2] at HX_2 Kp_2 Kn_2 Kq_2 Kg_2; rw [eT] at hlp_f hln_f hlq_f hlg_f; rw [eT, eW2]
  clear eT eW2 HX_1 Kp_1 Kn_1 Kq_1 Kg_1
  obtain ⟨f0, f1, ff0, ff1, fl⟩ := block2 (unhide Kf_2)
  go_upto_region 4 with fail
  clear f0 f1 ff0 ff1 fl
  obtain ⟨n0, nf0, nl⟩ := block1 (unhide Kn_2)
  go_quiet ((go_at_call 21; exact Calls.quiet_of_same (unhide HUN _)))
  have hV0 : Below W2.heap.size W2 (W2.drewN nq) := below_drewN (Below.refl _ _) nq
  obtain ⟨V0, eV0⟩ : ∃ X, W2.drewN nq = X := ⟨_, rfl⟩
  rw [eV0] at hV0 ⊢
  (have HX_3 := hide (Below.next (unhide HX_2) hV0 (by first | exact Nat.le_refl _ | (have := unhide HBA; omega))); have Kp_3 := hide (keep_below (unhide Kp_2) hV0); have Kn_3 := hide (keep_below (unhide Kn_2) hV0); have Kq_3 := hide (keep_below (unhide Kq_2) hV0); have Kg_3 := hide (keep_below (unhide Kg_2) hV0); have Kf_3 := hide (keep_below (unhide Kf_2) hV0); clear HX_2 Kp_2 Kn_2 Kq_2 Kg_2 Kf_2)
  clear hV0 eV0
  clear n0 nf0 nl
  obtain ⟨⟨p0, p1, p2⟩, ⟨pf0, pf1, pf2⟩, pl⟩ := block3 (unhide Kp_3)
  have HCS := hide (unhide HX_3)
  have HCN := hide (unhide Kn_3)
  go_upto_region 7 with (go_at_call 25; refine (unhide HLE _ (unhide HCS) (unhide HCN)).mono ?_; rintro e w6 ⟨he, hb6⟩; obtain rfl : e = .returned (.tuple #[.agg #[.int .i64 S0, .int .i64 C0], .bool true]) := he; have HX_4 := hide (Below.next (unhide HX_3) hb6 (by first | exact Nat.le_refl _ | (have := unhide HBA; omega))); have Kp_4 := hide (keep_below (unhide Kp_3) hb6); have Kn_4 := hide (keep_below (unhide Kn_3) hb6); have Kq_4 := hide (keep_below (unhide Kq_3) hb6); have Kg_4 := hide (keep_below (unhide Kg_3) hb6); have Kf_4 := hide (keep_below (unhide Kf_3) hb6); clear HX_3 Kp_3 Kn_3 Kq_3 Kg_3 Kf_3; clear HCS HCN hb6 p0 p1 p2 pf0 pf1 pf2 pl)
  have HX_5 := hide ((unhide HX_4).alloc (Nat.le_trans (show w.heap.size ≤ w.heap.size from Nat.le_refl _) (unhide HX_4).size) (.cells #[.int .i64 S0, .int .i64 C0] 38))
  have Kp_5 := hide (keep_alloc (unhide Kp_4) (.cells #[.int .i64 S0, .int .i64 C0] 38))
  have Kn_5 := hide (keep_alloc (unhide Kn_4) (.cells #[.int .i64 S0, .int .i64 C0] 38))
  have Kq_5 := hide (keep_alloc (unhide Kq_4) (.cells #[.int .i64 S0, .int .i64 C0] 38))
  have Kg_5 := hide (keep_alloc (unhide Kg_4) (.cells #[.int .i64 S0, .int .i64 C0] 38))
  have Kf_5 := hide (keep_alloc (unhide Kf_4) (.cells #[.int .i64 S0, .int .i64 C0] 38))
  have Ko_5 := hide (new_block w6 (.cells #[.int .i64 S0, .int .i64 C0] 38))
  have hlp_o : w.heap.size < w6.heap.size := size_of (unhide Kp_4)
  have hln_o : w.heap.size + 1 < w6.heap.size := size_of (unhide Kn_4)
  have hlq_o : w.heap.size + 1 + 1 < w6.heap.size := size_of (unhide Kq_4)
  have hlg_o : w.heap.size + 1 + 1 + 1 < w6.heap.size := size_of (unhide Kg_4)
  have hlf_o : T < w6.heap.size := size_of (unhide Kf_4)
  obtain ⟨T2, eT2⟩ : ∃ X, w6.heap.size = X := ⟨_, rfl⟩
  obtain ⟨W3, eW3⟩ : ∃ X, w6.alloc (.cells #[.int .i64 S0, .int .i64 C0] 38) = X := ⟨_, rfl⟩
  rw [eT2, eW3] at Ko_5; rw [eW3] at HX_5 Kp_5 Kn_5 Kq_5 Kg_5 Kf_5; rw [eT2] at hlp_o hln_o hlq_o hlg_o hlf_o; rw [eT2, eW3]
  clear eT2 eW3 HX_4 Kp_4 Kn_4 Kq_4 Kg_4 Kf_4
  obtain ⟨n0, nf0, nl⟩ := block1 (unhide Kn_5)
  obtain ⟨z0, z1, zf0, zf1, zl⟩ := block2 (unhide Ko_5)
  go_upto_region 10 with (go_at_call 27; refine (unhide HHA _).mono ?_; rintro e w7 ⟨a7, c7, rfl, ho7, hb7⟩; have HO7 := hide (ho7.base (base' := w.heap.size) (unhide HX_5).size); have HX_6 := hide (Below.next (unhide HX_5) hb7 (by first | exact Nat.le_refl _ | (have := unhide HBA; omega))); have Kp_6 := hide (keep_below (unhide Kp_5) hb7); have Kn_6 := hide (keep_below (unhide Kn_5) hb7); have Kq_6 := hide (keep_below (unhide Kq_5) hb7); have Kg_6 := hide (keep_below (unhide Kg_5) hb7); have Kf_6 := hide (keep_below (unhide Kf_5) hb7); have Ko_6 := hide (keep_below (unhide Ko_5) hb7); clear HX_5 Kp_5 Kn_5 Kq_5 Kg_5 Kf_5 Ko_5; clear ho7 hb7 n0 nf0 nl z0 z1 zf0 zf1 zl)
  have HX_7 := hide ((unhide HX_6).alloc (Nat.le_trans (show w.heap.size ≤ w.heap.size from Nat.le_refl _) (unhide HX_6).size) (.cells #[.int .i64 S0, .int .i64 OC] 38))
  have Kp_7 := hide (keep_alloc (unhide Kp_6) (.cells #[.int .i64 S0, .int .i64 OC] 38))
  have Kn_7 := hide (keep_alloc (unhide Kn_6) (.cells #[.int .i64 S0, .int .i64 OC] 38))
  have Kq_7 := hide (keep_alloc (unhide Kq_6) (.cells #[.int .i64 S0, .int .i64 OC] 38))
  have Kg_7 := hide (keep_alloc (unhide Kg_6) (.cells #[.int .i64 S0, .int .i64 OC] 38))
  have Kf_7 := hide (keep_alloc (unhide Kf_6) (.cells #[.int .i64 S0, .int .i64 OC] 38))
  have Ko_7 := hide (keep_alloc (unhide Ko_6) (.cells #[.int .i64 S0, .int .i64 OC] 38))
  have Ke_7 := hide (new_block w7 (.cells #[.int .i64 S0, .int .i64 OC] 38))
  have hlp_e : w.heap.size < w7.heap.size := size_of (unhide Kp_6)
  have hln_e : w.heap.size + 1 < w7.heap.size := size_of (unhide Kn_6)
  have hlq_e : w.heap.size + 1 + 1 < w7.heap.size := size_of (unhide Kq_6)
  have hlg_e : w.heap.size + 1 + 1 + 1 < w7.heap.size := size_of (unhide Kg_6)
  have hlf_e : T < w7.heap.size := size_of (unhide Kf_6)
  have hlo_e : T2 < w7.heap.size := size_of (unhide Ko_6)
  obtain ⟨T3, eT3⟩ : ∃ X, w7.heap.size = X := ⟨_, rfl⟩
  obtain ⟨W5, eW5⟩ : ∃ X, w7.alloc (.cells #[.int .i64 S0, .int .i64 OC] 38) = X := ⟨_, rfl⟩
  rw [eT3, eW5] at Ke_7; rw [eW5] at HX_7 Kp_7 Kn_7 Kq_7 Kg_7 Kf_7 Ko_7; rw [eT3] at hlp_e hln_e hlq_e hlg_e hlf_e hlo_e; rw [eT3, eW5]
  clear eT3 eW5 HX_6 Kp_6 Kn_6 Kq_6 Kg_6 Kf_6 Ko_6
  obtain ⟨⟨p0, p1, p2⟩, ⟨pf0, pf1, pf2⟩, pl⟩ := block3 (unhide Kp_7)
  obtain ⟨⟨q0, q1, q2⟩, ⟨qf0, qf1, qf2⟩, ql⟩ := block3 (unhide Kq_7)
  obtain ⟨g0, g1, gf0, gf1, gl⟩ := block2 (unhide Kg_7)
  go_wp2_with fail
  have HX_8 := hide (putL_below (y0 := .int .i64 0) (y1 := .slice none 0 0) (y2 := .slice none 0 0) (unhide HX_7) (show w.heap.size ≤ w.heap.size + 1 + 1 by first | omega | (have := unhide HBA; omega)))
  have Kp_8 := hide ((putL_keep (y0 := .int .i64 0) (y1 := .slice none 0 0) (y2 := .slice none 0 0) (show w.heap.size ≠ w.heap.size + 1 + 1 by omega)).trans (unhide Kp_7))
  have Kn_8 := hide ((putL_keep (y0 := .int .i64 0) (y1 := .slice none 0 0) (y2 := .slice none 0 0) (show w.heap.size + 1 ≠ w.heap.size + 1 + 1 by omega)).trans (unhide Kn_7))
  have Kq_8 := hide (putL_new (y0 := .int .i64 0) (y1 := .slice none 0 0) (y2 := .slice none 0 0) (unhide Kq_7))
  have Kg_8 := hide ((putL_keep (y0 := .int .i64 0) (y1 := .slice none 0 0) (y2 := .slice none 0 0) (show w.heap.size + 1 + 1 + 1 ≠ w.heap.size + 1 + 1 by omega)).trans (unhide Kg_7))
  have Kf_8 := hide ((putL_keep (y0 := .int .i64 0) (y1 := .slice none 0 0) (y2 := .slice none 0 0) (show T ≠ w.heap.size + 1 + 1 by omega)).trans (unhide Kf_7))
  have Ko_8 := hide ((putL_keep (y0 := .int .i64 0) (y1 := .slice none 0 0) (y2 := .slice none 0 0) (show T2 ≠ w.heap.size + 1 + 1 by omega)).trans (unhide Ko_7))
  have Ke_8 := hide ((putL_keep (y0 := .int .i64 0) (y1 := .slice none 0 0) (y2 := .slice none 0 0) (show T3 ≠ w.heap.size + 1 + 1 by omega)).trans (unhide Ke_7))
  obtain ⟨V1, eV1⟩ : ∃ X, putL W5 (w.heap.size + 1 + 1) (.int .i64 0) (.slice none 0 0) (.slice none 0 0) = X := ⟨_, rfl⟩
  rw [eV1] at HX_8 Kp_8 Kn_8 Kq_8 Kg_8 Kf_8 Ko_8 Ke_8
  have eV12 : (((W5).setCell ⟨w.heap.size + 1 + 1, 0, none⟩ (.int .i64 0)).setCell ⟨w.heap.size + 1 + 1, 1, none⟩ (.slice none 0 0)).setCell ⟨w.heap.size + 1 + 1, 2, none⟩ (.slice none 0 0) = V1 := eV1
  rw [eV12]
  clear eV1 eV12 HX_7 Kp_7 Kn_7 Kq_7 Kg_7 Kf_7 Ko_7 Ke_7
  have HX_9 := hide (put2_below (y0 := .int .i64 9) (y1 := .int .i64 0) (unhide HX_8) (show w.heap.size ≤ w.heap.size + 1 + 1 + 1 by first | omega | (have := unhide HBA; omega)))
  have Kp_9 := hide ((put2_keep (y0 := .int .i64 9) (y1 := .int .i64 0) (show w.heap.size ≠ w.heap.size + 1 + 1 + 1 by omega)).trans (unhide Kp_8))
  have Kn_9 := hide ((put2_keep (y0 := .int .i64 9) (y1 := .int .i64 0) (show w.heap.size + 1 ≠ w.heap.size + 1 + 1 + 1 by omega)).trans (unhide Kn_8))
  have Kq_9 := hide ((put2_keep (y0 := .int .i64 9) (y1 := .int .i64 0) (show w.heap.size + 1 + 1 ≠ w.heap.size + 1 + 1 + 1 by omega)).trans (unhide Kq_8))
  have Kg_9 := hide (put2_new (y0 := .int .i64 9) (y1 := .int .i64 0) (unhide Kg_8))
  have Kf_9 := hide ((put2_keep (y0 := .int .i64 9) (y1 := .int .i64 0) (show T ≠ w.heap.size + 1 + 1 + 1 by omega)).trans (unhide Kf_8))
  have Ko_9 := hide ((put2_keep (y0 := .int .i64 9) (y1 := .int .i64 0) (show T2 ≠ w.heap.size + 1 + 1 + 1 by omega)).trans (unhide Ko_8))
  have Ke_9 := hide ((put2_keep (y0 := .int .i64 9) (y1 := .int .i64 0) (show T3 ≠ w.heap.size + 1 + 1 + 1 by omega)).trans (unhide Ke_8))
  obtain ⟨V2, eV2⟩ : ∃ X, put2 V1 (w.heap.size + 1 + 1 + 1) (.int .i64 9) (.int .i64 0) = X := ⟨_, rfl⟩
  rw [eV2] at HX_9 Kp_9 Kn_9 Kq_9 Kg_9 Kf_9 Ko_9 Ke_9
  have eV22 : ((V1).setCell ⟨w.heap.size + 1 + 1 + 1, 0, none⟩ (.int .i64 9)).setCell ⟨w.heap.size + 1 + 1 + 1, 1, none⟩ (.int .i64 0) = V2 := eV2
  rw [eV22]
  clear eV2 eV22 HX_8 Kp_8 Kn_8 Kq_8 Kg_8 Kf_8 Ko_8 Ke_8
  clear q0 q1 q2 qf0 qf1 qf2 ql g0 g1 gf0 gf1 gl
  obtain ⟨⟨q0, q1, q2⟩, ⟨qf0, qf1, qf2⟩, ql⟩ := block3 (unhide Kq_9)
  obtain ⟨g0, g1, gf0, gf1, gl⟩ := block2 (unhide Kg_9)
  exact bodyPost_ret (v := .tuple #[.agg #[.int .i64 0, .slice none 0 0, .slice none 0 0], .int .i64 0, .agg #[.int .i64 9, .int .i64 0]]) (by simp [results, Try.results11, go_sem, q0, q1, q2, g0, g1]) rfl ⟨rfl, unhide HX_9⟩

end Go.Proofs.Ytomhfnjnmhdpkaa
