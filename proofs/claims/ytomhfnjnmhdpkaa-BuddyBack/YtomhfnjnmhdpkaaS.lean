/-
  Variables of three cells that are stored; buddy.Give, New.
-/
import Derived.Test.YtomhfnjnmhdpkaaR
namespace Go.Proofs.Ytomhfnjnmhdpkaa
open Go.RowKit

theorem set_block3 {w : World} {R i : Nat} {x0 x1 x2 y : Value} {t : TypeId} (h : w.heap[R]? = some (.cells #[x0, x1, x2] t (0, 0))) : (w.setCell ⟨R, i, none⟩ y).heap[R]? = some (.cells (#[x0, x1, x2].setIfInBounds i y) t (0, 0)) := by
  simp [World.setCell, Array.getElem?_modify, h]
theorem set_block4 {w : World} {R i : Nat} {x0 x1 x2 x3 y : Value} {t : TypeId} (h : w.heap[R]? = some (.cells #[x0, x1, x2, x3] t (0, 0))) : (w.setCell ⟨R, i, none⟩ y).heap[R]? = some (.cells (#[x0, x1, x2, x3].setIfInBounds i y) t (0, 0)) := by
  simp [World.setCell, Array.getElem?_modify, h]
theorem set2b {w : World} {R i : Nat} {x0 x1 y : Value} {t : TypeId} (h : w.heap[R]? = some (.cells #[x0, x1] t (0, 0))) : (w.setCell ⟨R, i, none⟩ y).heap[R]? = some (.cells (#[x0, x1].setIfInBounds i y) t (0, 0)) := by
  simp [World.setCell, Array.getElem?_modify, h]
/-- A variable of three cells that is stored. -/
def putL (w : World) (R : Nat) (y0 y1 y2 : Value) : World := ((w.setCell ⟨R, 0, none⟩ y0).setCell ⟨R, 1, none⟩ y1).setCell ⟨R, 2, none⟩ y2
theorem putL_keep {w : World} {R k : Nat} {y0 y1 y2 : Value} (h : k ≠ R) : (putL w R y0 y1 y2).heap[k]? = w.heap[k]? := by
  unfold putL
  repeat rw [Below.heap_setCell _ _ _ _ (by simpa using h)]
theorem putL_keeps {w : World} {R k : Nat} {x : Obj} (h : w.heap[k]? = some x) (hk : k ≠ R) {y0 y1 y2 : Value} : (putL w R y0 y1 y2).heap[k]? = some x := (putL_keep hk).trans h
theorem putL_below {B R : Nat} {w w' : World} (h : Below B w w') (hR : B ≤ R) {y0 y1 y2 : Value} : Below B w (putL w' R y0 y1 y2) := ((h.setCell hR y0).setCell hR y1).setCell hR y2
theorem putL_new {w : World} {R : Nat} {x0 x1 x2 y0 y1 y2 : Value} {t : TypeId} (h : w.heap[R]? = some (.cells #[x0, x1, x2] t (0, 0))) : (putL w R y0 y1 y2).heap[R]? = some (.cells #[y0, y1, y2] t (0, 0)) := by
  have h1 := set_block3 (i := 0) (y := y0) h
  have h2 := set_block3 (i := 1) (y := y1) h1
  have h3 := set_block3 (i := 2) (y := y2) h2
  exact h3
theorem putL_own {α : Type} {K : Kind α} {base R : Nat} {w : World} {v : Value} {xs : List α} (h : Own K base w v xs) {x0 x1 x2 : Value} {t : TypeId} (hR : w.heap[R]? = some (.cells #[x0, x1, x2] t (0, 0))) (ht : t ≠ K.e) {y0 y1 y2 : Value} : Own K base (putL w R y0 y1 y2) v xs := h.keep fun k hk => putL_keep (Own.ne h hR ht k hk)
theorem put2_own {α : Type} {K : Kind α} {base R : Nat} {w : World} {v : Value} {xs : List α} (h : Own K base w v xs) {x0 x1 : Value} {t : TypeId} (hR : w.heap[R]? = some (.cells #[x0, x1] t (0, 0))) (ht : t ≠ K.e) {y0 y1 : Value} : Own K base (put2 w R y0 y1) v xs := h.keep fun k hk => put2_keep (Own.ne h hR ht k hk)
theorem put2_keeps {w : World} {R k : Nat} {x : Obj} (h : w.heap[k]? = some x) (hk : k ≠ R) {y0 y1 : Value} : (put2 w R y0 y1).heap[k]? = some x := (put2_keep hk).trans h
theorem IsL.keep {α : Type} {K : Kind α} (hK : K.Ok) {w w' : World} {v : Value} {xs : List α} (h : IsL K w v xs) (hk : ∀ k, v.ownBlock = some k → w'.heap[k]? = w.heap[k]?) : IsL K w' v xs := by
  by_cases h0 : 0 < xs.length
  · obtain ⟨b, off, c, rfl, hb, hli⟩ := h.at hK h0
    exact (hli.keep (hk b rfl)).isl hK rfl h.fits
  · have e : xs = [] := List.eq_nil_of_length_eq_zero (by omega)
    subst e
    obtain ⟨a, c, rfl⟩ := h.form
    cases a with
    | none =>
      obtain ⟨⟨_, ⟨h1, _⟩ | ⟨ad, cap, h1, _⟩⟩, h2⟩ := h
      · cases h1
        exact isl_nil w'
      · cases h1
    | some ad => exact IsL.none_left rfl

theorem flt_eq (w : World) (t c t' c' : Int) : (Op.equalIn 10000 29 (.agg #[.int .i64 t, .int .i64 c]) (.agg #[.int .i64 t', .int .i64 c'])).run Try.prog w = .ok (t == t' && c == c') w := by
  simp [go_sem]
  by_cases h : t = t' <;> by_cases h2 : c = c' <;> simp [h, h2]
/-- The empty space. -/
def noS : Value := .agg #[.int .i64 0, .slice none 0 0, .slice none 0 0]
/-- The value v reads as a space whose lists lie from the block base on. -/
def NewS (base : Nat) (w : World) (v : Value) (b : Int) (us fs : List Bl) : Prop := ∃ a c a' c', v = .agg #[.int .i64 b, .slice a us.length c, .slice a' fs.length c'] ∧ New KB base w (.slice a us.length c) us ∧ New KB base w (.slice a' fs.length c') fs
theorem NewS.s {base : Nat} {w : World} {v : Value} {b : Int} {us fs : List Bl} (h : NewS base w v b us fs) : IsS w v b us fs := by
  obtain ⟨a, c, a', c', rfl, h1, h2⟩ := h
  exact ⟨_, _, rfl, h1.1, h2.1⟩
theorem zero_s (w : World) : IsS w noS 0 [] [] := ⟨_, _, rfl, isl_nil w, isl_nil w⟩

set_option maxRecDepth 100000 in
set_option maxHeartbeats 4000000 in
theorem give_fault (w : World) (v : Value) (b : Int) (us fs : List Bl) (start : Int) (h : IsS w v b us fs) (hn : us.length ≤ 100000) (hm : fs.length ≤ 100000) (hb1 : Bnd us) (hb2 : Bnd fs) (hf : (spaceF b us fs).1 ≠ 0) :
    Calls Try.prog 17 #[v, .int .i64 start] w fun e w' => e = .returned (.tuple #[noS, faultV (spaceF b us fs)]) ∧ Below w.heap.size w w' := by
  have HC : Hid (∀ W, Below w.heap.size w W → Calls Try.prog 10 #[v] W fun e w' => e = .returned (faultV (spaceF b us fs)) ∧ Below W.heap.size W w') := fun W hW => check_any W v b us fs (h.below hW) hn hm hb1 hb2
  obtain ⟨⟨F0, F1⟩, eF⟩ : ∃ F, spaceF b us fs = F := ⟨_, rfl⟩
  rw [eF] at HC hf ⊢
  obtain ⟨a0, c0, a1, c1, rfl, -, -⟩ := h.form
  generalize us.length = n at *
  generalize fs.length = m at *
  have x0 : ¬ F0 = 0 := hf
  have hq : ∀ w, (Op.equalIn 10000 29 (.agg #[.int .i64 F0, .int .i64 F1]) (.agg #[.int .i64 0, .int .i64 0])).run Try.prog w = .ok false w := fun w => by
    rw [flt_eq]
    have : (F0 == 0) = false := by simpa using x0
    rw [this]; rfl
  clear h eF hf hb1 hb2
  obtain ⟨W0, e0, hB, k0, k1, k2⟩ := three_new w (.cells #[.int .i64 b, .slice a0 n c0, .slice a1 m c1] 24) (.cells #[.int .i64 0, .slice none 0 0, .slice none 0 0] 24) (.cells #[.int .i64 0, .int .i64 0] 29)
  have HX := hide hB; have HP := hide k0; have HQ := hide k1; have HG := hide k2; have HE := hide e0
  clear hB k0 k1 k2 e0
  go_enter Try.func17, Try.ntmps17
  go_upto_region 1 with fail
  rw [unhide HE]
  clear HE
  obtain ⟨⟨p0, p1, p2⟩, ⟨pf0, pf1, pf2⟩, pl⟩ := block3 (unhide HP)
  go_upto_region 2 with (go_at_call 10; refine (unhide HC _ (unhide HX)).mono ?_; rintro e w1 ⟨he, hb1⟩; obtain rfl : e = .returned (.agg #[.int .i64 F0, .int .i64 F1]) := he; have HX_1 := hide (Below.next (unhide HX) hb1 (by first | exact Nat.le_refl _ | (have := unhide HBA; omega))); have Kp_1 := hide (keep_below (unhide HP) hb1); have Kq_1 := hide (keep_below (unhide HQ) hb1); have Kg_1 := hide (keep_below (unhide HG) hb1); clear HX HP HQ HG; clear hb1 p0 p1 p2 pf0 pf1 pf2 pl)
  have HX_2 := hide ((unhide HX_1).alloc (Nat.le_trans (show w.heap.size ≤ w.heap.size from Nat.le_refl _) (unhide HX_1).size) (.cells #[.int .i64 F0, .int .i64 F1] 29))
  have Kp_2 := hide (keep_alloc (unhide Kp_1) (.cells #[.int .i64 F0, .int .i64 F1] 29))
  have Kq_2 := hide (keep_alloc (unhide Kq_1) (.cells #[.int .i64 F0, .int .i64 F1] 29))
  have Kg_2 := hide (keep_alloc (unhide Kg_1) (.cells #[.int .i64 F0, .int .i64 F1] 29))
  have Kf_2 := hide (new_block w1 (.cells #[.int .i64 F0, .int .i64 F1] 29))
  have hlp_f : w.heap.size < w1.heap.size := size_of (unhide Kp_1)
  have hlq_f : w.heap.size + 1 < w1.heap.size := size_of (unhide Kq_1)
  have hlg_f : w.heap.size + 1 + 1 < w1.heap.size := size_of (unhide Kg_1)
  obtain ⟨T, eT⟩ : ∃ X, w1.heap.size = X := ⟨_, rfl⟩
  obtain ⟨W2, eW2⟩ : ∃ X, w1.alloc (.cells #[.int .i64 F0, .int .i64 F1] 29) = X := ⟨_, rfl⟩
  rw [eT, eW2] at Kf_2; rw [eW2] at HX_2 Kp_2 Kq_2 Kg_2; rw [eT] at hlp_f hlq_f hlg_f; rw [eT, eW2]
  clear eT eW2 HX_1 Kp_1 Kq_1 Kg_1
  obtain ⟨f0, f1, ff0, ff1, fl⟩ := block2 (unhide Kf_2)
  go_upto_region 3 with fail
  clear f0 f1 ff0 ff1 fl
  obtain ⟨⟨q0, q1, q2⟩, ⟨qf0, qf1, qf2⟩, ql⟩ := block3 (unhide Kq_2)
  obtain ⟨g0, g1, gf0, gf1, gl⟩ := block2 (unhide Kg_2)
  obtain ⟨f0, f1, ff0, ff1, fl⟩ := block2 (unhide Kf_2)
  have u1_ : w.heap.size + 1 ≠ T := by omega
  have u2_ : w.heap.size + 1 + 1 ≠ T := by omega
  have u3_ : T ≠ w.heap.size + 1 := by omega
  have u4_ : T ≠ w.heap.size + 1 + 1 := by omega
  go_wp2_with fail
  go_region
  clear q0 q1 q2 qf0 qf1 qf2 ql g0 g1 gf0 gf1 gl f0 f1 ff0 ff1 fl
  have HX_3 := hide (putL_below (y0 := .int .i64 0) (y1 := .slice none 0 0) (y2 := .slice none 0 0) (unhide HX_2) (show w.heap.size ≤ w.heap.size + 1 by first | omega | (have := unhide HBA; omega)))
  have Kp_3 := hide ((putL_keep (y0 := .int .i64 0) (y1 := .slice none 0 0) (y2 := .slice none 0 0) (show w.heap.size ≠ w.heap.size + 1 by omega)).trans (unhide Kp_2))
  have Kq_3 := hide (putL_new (y0 := .int .i64 0) (y1 := .slice none 0 0) (y2 := .slice none 0 0) (unhide Kq_2))
  have Kg_3 := hide ((putL_keep (y0 := .int .i64 0) (y1 := .slice none 0 0) (y2 := .slice none 0 0) (show w.heap.size + 1 + 1 ≠ w.heap.size + 1 by omega)).trans (unhide Kg_2))
  have Kf_3 := hide ((putL_keep (y0 := .int .i64 0) (y1 := .slice none 0 0) (y2 := .slice none 0 0) (show T ≠ w.heap.size + 1 by omega)).trans (unhide Kf_2))
  obtain ⟨V1, eV1⟩ : ∃ X, putL W2 (w.heap.size + 1) (.int .i64 0) (.slice none 0 0) (.slice none 0 0) = X := ⟨_, rfl⟩
  rw [eV1] at HX_3 Kp_3 Kq_3 Kg_3 Kf_3
  have eV12 : (((W2).setCell ⟨w.heap.size + 1, 0, none⟩ (.int .i64 0)).setCell ⟨w.heap.size + 1, 1, none⟩ (.slice none 0 0)).setCell ⟨w.heap.size + 1, 2, none⟩ (.slice none 0 0) = V1 := eV1
  rw [eV12]
  clear eV1 eV12 HX_2 Kp_2 Kq_2 Kg_2 Kf_2
  have HX_4 := hide (put2_below (y0 := .int .i64 F0) (y1 := .int .i64 F1) (unhide HX_3) (show w.heap.size ≤ w.heap.size + 1 + 1 by first | omega | (have := unhide HBA; omega)))
  have Kp_4 := hide ((put2_keep (y0 := .int .i64 F0) (y1 := .int .i64 F1) (show w.heap.size ≠ w.heap.size + 1 + 1 by omega)).trans (unhide Kp_3))
  have Kq_4 := hide ((put2_keep (y0 := .int .i64 F0) (y1 := .int .i64 F1) (show w.heap.size + 1 ≠ w.heap.size + 1 + 1 by omega)).trans (unhide Kq_3))
  have Kg_4 := hide (put2_new (y0 := .int .i64 F0) (y1 := .int .i64 F1) (unhide Kg_3))
  have Kf_4 := hide ((put2_keep (y0 := .int .i64 F0) (y1 := .int .i64 F1) (show T ≠ w.heap.size + 1 + 1 by omega)).trans (unhide Kf_3))
  obtain ⟨V2, eV2⟩ : ∃ X, put2 V1 (w.heap.size + 1 + 1) (.int .i64 F0) (.int .i64 F1) = X := ⟨_, rfl⟩
  rw [eV2] at HX_4 Kp_4 Kq_4 Kg_4 Kf_4
  have eV22 : ((V1).setCell ⟨w.heap.size + 1 + 1, 0, none⟩ (.int .i64 F0)).setCell ⟨w.heap.size + 1 + 1, 1, none⟩ (.int .i64 F1) = V2 := eV2
  rw [eV22]
  clear eV2 eV22 HX_3 Kp_3 Kq_3 Kg_3 Kf_3
  have hV3 : Below V2.heap.size V2 V2.drew := (Below.refl _ _).drew
  obtain ⟨V3, eV3⟩ : ∃ X, V2.drew = X := ⟨_, rfl⟩
  rw [eV3] at hV3 ⊢
  (have HX_5 := hide (Below.next (unhide HX_4) hV3 (by first | exact Nat.le_refl _ | (have := unhide HBA; omega))); have Kp_5 := hide (keep_below (unhide Kp_4) hV3); have Kq_5 := hide (keep_below (unhide Kq_4) hV3); have Kg_5 := hide (keep_below (unhide Kg_4) hV3); have Kf_5 := hide (keep_below (unhide Kf_4) hV3); clear HX_4 Kp_4 Kq_4 Kg_4 Kf_4)
  clear hV3 eV3
  obtain ⟨⟨q0, q1, q2⟩, ⟨qf0, qf1, qf2⟩, ql⟩ := block3 (unhide Kq_5)
  obtain ⟨g0, g1, gf0, gf1, gl⟩ := block2 (unhide Kg_5)
  go_wp2_with fail
  exact bodyPost_ret (v := .tuple #[.agg #[.int .i64 0, .slice none 0 0, .slice none 0 0], .agg #[.int .i64 F0, .int .i64 F1]]) (by simp [results, Try.results17, go_sem, q0, q1, q2, g0, g1]) rfl ⟨rfl, unhide HX_5⟩

/-- What is known of a space of which nothing is wrong. -/
theorem spaceF_good {b : Int} {us fs : List Bl} (h : spaceF b us fs = (0, 0)) : (0 ≤ b ∧ b ≤ 30) ∧ us.length + fs.length ≤ 5000 ∧ ((∀ x ∈ us, fitB ((2 : Int) ^ b.toNat) x = true) ∧ Rise us) ∧ ((∀ x ∈ fs, fitB ((2 : Int) ^ b.toNat) x = true) ∧ Rise fs) ∧ partL ((2 : Int) ^ b.toNat) us fs = true ∧ matesL fs = false := by
  unfold spaceF at h
  split at h
  · cases h
  rename_i h1
  split at h
  · rename_i h2
    exact absurd (congrArg Prod.fst h) h2
  rename_i h2
  split at h
  · rename_i h3
    exact absurd (congrArg Prod.fst h) h3
  rename_i h3
  split at h
  · cases h
  rename_i h4
  split at h
  · cases h
  rename_i h5
  have z2 := firstW_zero us none (Decidable.not_not.1 h2)
  have z3 := firstW_zero fs none (Decidable.not_not.1 h3)
  exact ⟨by omega, by omega, ⟨z2.1, z2.2.1⟩, ⟨z3.1, z3.2.1⟩, by simpa using h4, by simpa using h5⟩

set_option maxRecDepth 100000 in
set_option maxHeartbeats 4000000 in
theorem give_none (w : World) (v : Value) (b : Int) (us fs : List Bl) (start : Int) (h : IsS w v b us fs) (hn : us.length ≤ 100000) (hm : fs.length ≤ 100000) (hb1 : Bnd us) (hb2 : Bnd fs) (hf : spaceF b us fs = (0, 0)) (hs : ¬ (placeN start us < us.length ∧ (aAt us (placeN start us)).1 = start)) :
    Calls Try.prog 17 #[v, .int .i64 start] w fun e w' => e = .returned (.tuple #[noS, faultV (6, 0)]) ∧ Below w.heap.size w w' := by
  have HC : Hid (∀ W, Below w.heap.size w W → Calls Try.prog 10 #[v] W fun e w' => e = .returned (faultV (0, 0)) ∧ Below W.heap.size W w') := fun W hW => by
    have := check_any W v b us fs (h.below hW) hn hm hb1 hb2
    rw [hf] at this; exact this
  obtain ⟨hg1, hg2, hg3, hg4, hg5, hg6⟩ := spaceF_good hf
  obtain ⟨a0, c0, a1, c1, rfl, hu, hfr⟩ := h.form
  have hple := placeN_le start us
  obtain ⟨p, ep⟩ : ∃ p, placeN start us = p := ⟨_, rfl⟩
  have HPL : Hid (∀ W, Below w.heap.size w W → Calls Try.prog 35 #[.slice a0 us.length c0, .int .i64 start] W fun e w' => e = .returned (.int .i64 (p : Int)) ∧ Below W.heap.size W w') := fun W hW => by
    have := placeOf_any W _ us start (hu.below hW) hn hg3.2
    rw [ep] at this; exact this
  have HU := hide (hu.opens kb rfl)
  rw [ep] at hs hple
  have HCL := hide (fun j (hj : j < us.length) (W : World) (b0 o0 : Nat) (hL : Lies KB W b0 o0 us) => hL.block hj (t := (aAt us j).1) (c := (aAt us j).2) rfl)
  obtain ⟨n, en⟩ : ∃ n, us.length = n := ⟨_, rfl⟩
  obtain ⟨m, em⟩ : ∃ m, fs.length = m := ⟨_, rfl⟩
  rw [en] at HC HPL HU HCL hs hn hple ⊢
  rw [em] at HC hm ⊢
  have hq : ∀ w, (Op.equalIn 10000 29 (.agg #[.int .i64 0, .int .i64 0]) (.agg #[.int .i64 0, .int .i64 0])).run Try.prog w = .ok true w := fun w => by rw [flt_eq]; rfl
  clear h hf hb1 hb2 hu hfr ep en em hg1 hg2 hg3 hg4 hg5 hg6
  obtain ⟨W0, e0, hB, k0, k1, k2⟩ := three_new w (.cells #[.int .i64 b, .slice a0 n c0, .slice a1 m c1] 24) (.cells #[.int .i64 0, .slice none 0 0, .slice none 0 0] 24) (.cells #[.int .i64 0, .int .i64 0] 29)
  have HX := hide hB; have HP := hide k0; have HQ := hide k1; have HG := hide k2; have HE := hide e0
  clear hB k0 k1 k2 e0
  go_enter Try.func17, Try.ntmps17
  go_upto_region 1 with fail
  rw [unhide HE]
  clear HE
  obtain ⟨⟨p0, p1, p2⟩, ⟨pf0, pf1, pf2⟩, pl⟩ := block3 (unhide HP)
  go_upto_region 2 with (go_at_call 10; refine (unhide HC _ (unhide HX)).mono ?_; rintro e w1 ⟨he, hb1⟩; obtain rfl : e = .returned (.agg #[.int .i64 0, .int .i64 0]) := he; have HX_1 := hide (Below.next (unhide HX) hb1 (by first | exact Nat.le_refl _ | (have := unhide HBA; omega))); have Kp_1 := hide (keep_below (unhide HP) hb1); have Kq_1 := hide (keep_below (unhide HQ) hb1); have Kg_1 := hide (keep_below (unhide HG) hb1); clear HX HP HQ HG; clear hb1 p0 p1 p2 pf0 pf1 pf2 pl)
  have HX_2 := hide ((unhide HX_1).alloc (Nat.le_trans (show w.heap.size ≤ w.heap.size from Nat.le_refl _) (unhide HX_1).size) (.cells #[.int .i64 0, .int .i64 0] 29))
  have Kp_2 := hide (keep_alloc (unhide Kp_1) (.cells #[.int .i64 0, .int .i64 0] 29))
  have Kq_2 := hide (keep_alloc (unhide Kq_1) (.cells #[.int .i64 0, .int .i64 0] 29))
  have Kg_2 := hide (keep_alloc (unhide Kg_1) (.cells #[.int .i64 0, .int .i64 0] 29))
  have Kf_2 := hide (new_block w1 (.cells #[.int .i64 0, .int .i64 0] 29))
  have hlp_f : w.heap.size < w1.heap.size := size_of (unhide Kp_1)
  have hlq_f : w.heap.size + 1 < w1.heap.size := size_of (unhide Kq_1)
  have hlg_f : w.heap.size + 1 + 1 < w1.heap.size := size_of (unhide Kg_1)
  obtain ⟨T, eT⟩ : ∃ X, w1.heap.size = X := ⟨_, rfl⟩
  obtain ⟨W2, eW2⟩ : ∃ X, w1.alloc (.cells #[.int .i64 0, .int .i64 0] 29) = X := ⟨_, rfl⟩
  rw [eT, eW2] at Kf_2; rw [eW2] at HX_2 Kp_2 Kq_2 Kg_2; rw [eT] at hlp_f hlq_f hlg_f; rw [eT, eW2]
  clear eT eW2 HX_1 Kp_1 Kq_1 Kg_1
  obtain ⟨f0, f1, ff0, ff1, fl⟩ := block2 (unhide Kf_2)
  obtain ⟨⟨p0, p1, p2⟩, ⟨pf0, pf1, pf2⟩, pl⟩ := block3 (unhide Kp_2)
  have HCS := hide (unhide HX_2)
  go_upto_region 5 with (go_at_call 35; refine (unhide HPL _ (unhide HCS)).mono ?_; rintro e w5 ⟨rfl, hb5⟩; have HX_3 := hide (Below.next (unhide HX_2) hb5 (by first | exact Nat.le_refl _ | (have := unhide HBA; omega))); have Kp_3 := hide (keep_below (unhide Kp_2) hb5); have Kq_3 := hide (keep_below (unhide Kq_2) hb5); have Kg_3 := hide (keep_below (unhide Kg_2) hb5); have Kf_3 := hide (keep_below (unhide Kf_2) hb5); clear HX_2 Kp_2 Kq_2 Kg_2 Kf_2; clear HCS hb5 p0 p1 p2 pf0 pf1 pf2 pl f0 f1 ff0 ff1 fl)
  obtain ⟨⟨p0, p1, p2⟩, ⟨pf0, pf1, pf2⟩, pl⟩ := block3 (unhide Kp_3)
  obtain ⟨⟨q0, q1, q2⟩, ⟨qf0, qf1, qf2⟩, ql⟩ := block3 (unhide Kq_3)
  obtain ⟨g0, g1, gf0, gf1, gl⟩ := block2 (unhide Kg_3)
  by_cases hlt : p < n
  · have hne : ¬ (aAt us p).1 = start := fun e => hs ⟨hlt, e⟩
    obtain ⟨b0, o0, rfl, hb0, l0⟩ := unhide HU (by omega)
    obtain ⟨k0, k1⟩ := unhide HCL p hlt _ b0 o0 (l0.below (unhide HX_3) hb0)
    obtain ⟨S0, eS0⟩ : ∃ X, (aAt us p).1 = X := ⟨_, rfl⟩
    rw [eS0] at hne k0
    have hpn : ((p : Int) == (n : Int)) = false := by simp; omega
    have hpn2 : ¬ (p : Int) = (n : Int) := by omega
    have hx2 : (S0 != start) = true := by simpa using hne
    have i0 : (0 : Int) ≤ (p : Int) := by omega
    have i1 : (p : Int) < (n : Int) := by omega
    clear l0 hb0 eS0 HU HCL hs
    go_wp2_with fail
    have HX_4 := hide (putL_below (y0 := .int .i64 0) (y1 := .slice none 0 0) (y2 := .slice none 0 0) (unhide HX_3) (show w.heap.size ≤ w.heap.size + 1 by first | omega | (have := unhide HBA; omega)))
    have Kp_4 := hide ((putL_keep (y0 := .int .i64 0) (y1 := .slice none 0 0) (y2 := .slice none 0 0) (show w.heap.size ≠ w.heap.size + 1 by omega)).trans (unhide Kp_3))
    have Kq_4 := hide (putL_new (y0 := .int .i64 0) (y1 := .slice none 0 0) (y2 := .slice none 0 0) (unhide Kq_3))
    have Kg_4 := hide ((putL_keep (y0 := .int .i64 0) (y1 := .slice none 0 0) (y2 := .slice none 0 0) (show w.heap.size + 1 + 1 ≠ w.heap.size + 1 by omega)).trans (unhide Kg_3))
    have Kf_4 := hide ((putL_keep (y0 := .int .i64 0) (y1 := .slice none 0 0) (y2 := .slice none 0 0) (show T ≠ w.heap.size + 1 by omega)).trans (unhide Kf_3))
    obtain ⟨V1, eV1⟩ : ∃ X, putL w5 (w.heap.size + 1) (.int .i64 0) (.slice none 0 0) (.slice none 0 0) = X := ⟨_, rfl⟩
    rw [eV1] at HX_4 Kp_4 Kq_4 Kg_4 Kf_4
    have eV12 : (((w5).setCell ⟨w.heap.size + 1, 0, none⟩ (.int .i64 0)).setCell ⟨w.heap.size + 1, 1, none⟩ (.slice none 0 0)).setCell ⟨w.heap.size + 1, 2, none⟩ (.slice none 0 0) = V1 := eV1
    rw [eV12]
    clear eV1 eV12 HX_3 Kp_3 Kq_3 Kg_3 Kf_3
    have HX_5 := hide (put2_below (y0 := .int .i64 6) (y1 := .int .i64 0) (unhide HX_4) (show w.heap.size ≤ w.heap.size + 1 + 1 by first | omega | (have := unhide HBA; omega)))
    have Kp_5 := hide ((put2_keep (y0 := .int .i64 6) (y1 := .int .i64 0) (show w.heap.size ≠ w.heap.size + 1 + 1 by omega)).trans (unhide Kp_4))
    have Kq_5 := hide ((put2_keep (y0 := .int .i64 6) (y1 := .int .i64 0) (show w.heap.size + 1 ≠ w.heap.size + 1 + 1 by omega)).trans (unhide Kq_4))
    have Kg_5 := hide (put2_new (y0 := .int .i64 6) (y1 := .int .i64 0) (unhide Kg_4))
    have Kf_5 := hide ((put2_keep (y0 := .int .i64 6) (y1 := .int .i64 0) (show T ≠ w.heap.size + 1 + 1 by omega)).trans (unhide Kf_4))
    obtain ⟨V2, eV2⟩ : ∃ X, put2 V1 (w.heap.size + 1 + 1) (.int .i64 6) (.int .i64 0) = X := ⟨_, rfl⟩
    rw [eV2] at HX_5 Kp_5 Kq_5 Kg_5 Kf_5
    have eV22 : ((V1).setCell ⟨w.heap.size + 1 + 1, 0, none⟩ (.int .i64 6)).setCell ⟨w.heap.size + 1 + 1, 1, none⟩ (.int .i64 0) = V2 := eV2
    rw [eV22]
    clear eV2 eV22 HX_4 Kp_4 Kq_4 Kg_4 Kf_4
    clear q0 q1 q2 qf0 qf1 qf2 ql g0 g1 gf0 gf1 gl
    obtain ⟨⟨q0, q1, q2⟩, ⟨qf0, qf1, qf2⟩, ql⟩ := block3 (unhide Kq_5)
    obtain ⟨g0, g1, gf0, gf1, gl⟩ := block2 (unhide Kg_5)
    exact bodyPost_ret (v := .tuple #[.agg #[.int .i64 0, .slice none 0 0, .slice none 0 0], .agg #[.int .i64 6, .int .i64 0]]) (by simp [results, Try.results17, go_sem, q0, q1, q2, g0, g1]) rfl ⟨rfl, unhide HX_5⟩
  · have hpn : p = n := by omega
    subst hpn
    have hpp : ((p : Int) == (p : Int)) = true := by simp
    go_wp2_with fail
    have HX_4 := hide (putL_below (y0 := .int .i64 0) (y1 := .slice none 0 0) (y2 := .slice none 0 0) (unhide HX_3) (show w.heap.size ≤ w.heap.size + 1 by first | omega | (have := unhide HBA; omega)))
    have Kp_4 := hide ((putL_keep (y0 := .int .i64 0) (y1 := .slice none 0 0) (y2 := .slice none 0 0) (show w.heap.size ≠ w.heap.size + 1 by omega)).trans (unhide Kp_3))
    have Kq_4 := hide (putL_new (y0 := .int .i64 0) (y1 := .slice none 0 0) (y2 := .slice none 0 0) (unhide Kq_3))
    have Kg_4 := hide ((putL_keep (y0 := .int .i64 0) (y1 := .slice none 0 0) (y2 := .slice none 0 0) (show w.heap.size + 1 + 1 ≠ w.heap.size + 1 by omega)).trans (unhide Kg_3))
    have Kf_4 := hide ((putL_keep (y0 := .int .i64 0) (y1 := .slice none 0 0) (y2 := .slice none 0 0) (show T ≠ w.heap.size + 1 by omega)).trans (unhide Kf_3))
    obtain ⟨V1, eV1⟩ : ∃ X, putL w5 (w.heap.size + 1) (.int .i64 0) (.slice none 0 0) (.slice none 0 0) = X := ⟨_, rfl⟩
    rw [eV1] at HX_4 Kp_4 Kq_4 Kg_4 Kf_4
    have eV12 : (((w5).setCell ⟨w.heap.size + 1, 0, none⟩ (.int .i64 0)).setCell ⟨w.heap.size + 1, 1, none⟩ (.slice none 0 0)).setCell ⟨w.heap.size + 1, 2, none⟩ (.slice none 0 0) = V1 := eV1
    rw [eV12]
    clear eV1 eV12 HX_3 Kp_3 Kq_3 Kg_3 Kf_3
    have HX_5 := hide (put2_below (y0 := .int .i64 6) (y1 := .int .i64 0) (unhide HX_4) (show w.heap.size ≤ w.heap.size + 1 + 1 by first | omega | (have := unhide HBA; omega)))
    have Kp_5 := hide ((put2_keep (y0 := .int .i64 6) (y1 := .int .i64 0) (show w.heap.size ≠ w.heap.size + 1 + 1 by omega)).trans (unhide Kp_4))
    have Kq_5 := hide ((put2_keep (y0 := .int .i64 6) (y1 := .int .i64 0) (show w.heap.size + 1 ≠ w.heap.size + 1 + 1 by omega)).trans (unhide Kq_4))
    have Kg_5 := hide (put2_new (y0 := .int .i64 6) (y1 := .int .i64 0) (unhide Kg_4))
    have Kf_5 := hide ((put2_keep (y0 := .int .i64 6) (y1 := .int .i64 0) (show T ≠ w.heap.size + 1 + 1 by omega)).trans (unhide Kf_4))
    obtain ⟨V2, eV2⟩ : ∃ X, put2 V1 (w.heap.size + 1 + 1) (.int .i64 6) (.int .i64 0) = X := ⟨_, rfl⟩
    rw [eV2] at HX_5 Kp_5 Kq_5 Kg_5 Kf_5
    have eV22 : ((V1).setCell ⟨w.heap.size + 1 + 1, 0, none⟩ (.int .i64 6)).setCell ⟨w.heap.size + 1 + 1, 1, none⟩ (.int .i64 0) = V2 := eV2
    rw [eV22]
    clear eV2 eV22 HX_4 Kp_4 Kq_4 Kg_4 Kf_4
    clear q0 q1 q2 qf0 qf1 qf2 ql g0 g1 gf0 gf1 gl
    obtain ⟨⟨q0, q1, q2⟩, ⟨qf0, qf1, qf2⟩, ql⟩ := block3 (unhide Kq_5)
    obtain ⟨g0, g1, gf0, gf1, gl⟩ := block2 (unhide Kg_5)
    exact bodyPost_ret (v := .tuple #[.agg #[.int .i64 0, .slice none 0 0, .slice none 0 0], .agg #[.int .i64 6, .int .i64 0]]) (by simp [results, Try.results17, go_sem, q0, q1, q2, g0, g1]) rfl ⟨rfl, unhide HX_5⟩

end Go.Proofs.Ytomhfnjnmhdpkaa
