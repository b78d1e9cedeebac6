/-
  buddy.New; buddy.Take where something is wrong.
-/
import Derived.Test.YtomhfnjnmhdpkaaT
import Derived.Test.YtomhfnjnmhdpkaaMb
import Derived.Test.YtomhfnjnmhdpkaaJ
namespace Go.Proofs.Ytomhfnjnmhdpkaa
open Go.RowKit

set_option maxRecDepth 100000 in
set_option maxHeartbeats 4000000 in
theorem new_bad (w : World) (b : Int) (h : b < 0 ∨ 30 < b) :
    Calls Try.prog 12 #[.int .i64 b] w fun e w' => e = .returned (.tuple #[noS, faultV (3, -1)]) ∧ Below w.heap.size w w' := by
  obtain ⟨W, e0, hB, k0, k1⟩ := two_new w (.cells #[.int .i64 0, .slice none 0 0, .slice none 0 0] 24) (.cells #[.int .i64 0, .int .i64 0] 29)
  have HX := hide hB; have HE := hide e0; have HQ := hide k0; have HG := hide k1; have HW := hide h
  clear hB e0 k0 k1 h
  go_enter Try.func12, Try.ntmps12
  go_upto_region 1 with fail
  rw [unhide HE]
  clear HE
  obtain ⟨⟨q0, q1, q2⟩, ⟨qf0, qf1, qf2⟩, ql⟩ := block3 (unhide HQ)
  obtain ⟨g0, g1, gf0, gf1, gl⟩ := block2 (unhide HG)
  rcases unhide HW with h1 | h1
  · go_wp2_with fail
    have HX_1 := hide (putL_below (y0 := .int .i64 0) (y1 := .slice none 0 0) (y2 := .slice none 0 0) (unhide HX) (show w.heap.size ≤ w.heap.size by first | omega | (have := unhide HBA; omega)))
    have Kq_1 := hide (putL_new (y0 := .int .i64 0) (y1 := .slice none 0 0) (y2 := .slice none 0 0) (unhide HQ))
    have Kg_1 := hide ((putL_keep (y0 := .int .i64 0) (y1 := .slice none 0 0) (y2 := .slice none 0 0) (show w.heap.size + 1 ≠ w.heap.size by omega)).trans (unhide HG))
    obtain ⟨V1, eV1⟩ : ∃ X, putL W (w.heap.size) (.int .i64 0) (.slice none 0 0) (.slice none 0 0) = X := ⟨_, rfl⟩
    rw [eV1] at HX_1 Kq_1 Kg_1
    have eV12 : (((W).setCell ⟨w.heap.size, 0, none⟩ (.int .i64 0)).setCell ⟨w.heap.size, 1, none⟩ (.slice none 0 0)).setCell ⟨w.heap.size, 2, none⟩ (.slice none 0 0) = V1 := eV1
    rw [eV12]
    clear eV1 eV12 HX HQ HG
    have HX_2 := hide (put2_below (y0 := .int .i64 3) (y1 := .int .i64 (-1)) (unhide HX_1) (show w.heap.size ≤ w.heap.size + 1 by first | omega | (have := unhide HBA; omega)))
    have Kq_2 := hide ((put2_keep (y0 := .int .i64 3) (y1 := .int .i64 (-1)) (show w.heap.size ≠ w.heap.size + 1 by omega)).trans (unhide Kq_1))
    have Kg_2 := hide (put2_new (y0 := .int .i64 3) (y1 := .int .i64 (-1)) (unhide Kg_1))
    obtain ⟨V2, eV2⟩ : ∃ X, put2 V1 (w.heap.size + 1) (.int .i64 3) (.int .i64 (-1)) = X := ⟨_, rfl⟩
    rw [eV2] at HX_2 Kq_2 Kg_2
    have eV22 : ((V1).setCell ⟨w.heap.size + 1, 0, none⟩ (.int .i64 3)).setCell ⟨w.heap.size + 1, 1, none⟩ (.int .i64 (-1)) = V2 := eV2
    rw [eV22]
    clear eV2 eV22 HX_1 Kq_1 Kg_1
    clear q0 q1 q2 qf0 qf1 qf2 ql g0 g1 gf0 gf1 gl
    obtain ⟨⟨q0, q1, q2⟩, ⟨qf0, qf1, qf2⟩, ql⟩ := block3 (unhide Kq_2)
    obtain ⟨g0, g1, gf0, gf1, gl⟩ := block2 (unhide Kg_2)
    exact bodyPost_ret (v := .tuple #[.agg #[.int .i64 0, .slice none 0 0, .slice none 0 0], .agg #[.int .i64 3, .int .i64 (-1)]]) (by simp [results, Try.results12, go_sem, q0, q1, q2, g0, g1]) rfl ⟨rfl, unhide HX_2⟩
  · have h0 : ¬ b < 0 := by omega
    go_wp2_with fail
    have HX_1 := hide (putL_below (y0 := .int .i64 0) (y1 := .slice none 0 0) (y2 := .slice none 0 0) (unhide HX) (show w.heap.size ≤ w.heap.size by first | omega | (have := unhide HBA; omega)))
    have Kq_1 := hide (putL_new (y0 := .int .i64 0) (y1 := .slice none 0 0) (y2 := .slice none 0 0) (unhide HQ))
    have Kg_1 := hide ((putL_keep (y0 := .int .i64 0) (y1 := .slice none 0 0) (y2 := .slice none 0 0) (show w.heap.size + 1 ≠ w.heap.size by omega)).trans (unhide HG))
    obtain ⟨V1, eV1⟩ : ∃ X, putL W (w.heap.size) (.int .i64 0) (.slice none 0 0) (.slice none 0 0) = X := ⟨_, rfl⟩
    rw [eV1] at HX_1 Kq_1 Kg_1
    have eV12 : (((W).setCell ⟨w.heap.size, 0, none⟩ (.int .i64 0)).setCell ⟨w.heap.size, 1, none⟩ (.slice none 0 0)).setCell ⟨w.heap.size, 2, none⟩ (.slice none 0 0) = V1 := eV1
    rw [eV12]
    clear eV1 eV12 HX HQ HG
    have HX_2 := hide (put2_below (y0 := .int .i64 3) (y1 := .int .i64 (-1)) (unhide HX_1) (show w.heap.size ≤ w.heap.size + 1 by first | omega | (have := unhide HBA; omega)))
    have Kq_2 := hide ((put2_keep (y0 := .int .i64 3) (y1 := .int .i64 (-1)) (show w.heap.size ≠ w.heap.size + 1 by omega)).trans (unhide Kq_1))
    have Kg_2 := hide (put2_new (y0 := .int .i64 3) (y1 := .int .i64 (-1)) (unhide Kg_1))
    obtain ⟨V2, eV2⟩ : ∃ X, put2 V1 (w.heap.size + 1) (.int .i64 3) (.int .i64 (-1)) = X := ⟨_, rfl⟩
    rw [eV2] at HX_2 Kq_2 Kg_2
    have eV22 : ((V1).setCell ⟨w.heap.size + 1, 0, none⟩ (.int .i64 3)).setCell ⟨w.heap.size + 1, 1, none⟩ (.int .i64 (-1)) = V2 := eV2
    rw [eV22]
    clear eV2 eV22 HX_1 Kq_1 Kg_1
    clear q0 q1 q2 qf0 qf1 qf2 ql g0 g1 gf0 gf1 gl
    obtain ⟨⟨q0, q1, q2⟩, ⟨qf0, qf1, qf2⟩, ql⟩ := block3 (unhide Kq_2)
    obtain ⟨g0, g1, gf0, gf1, gl⟩ := block2 (unhide Kg_2)
    exact bodyPost_ret (v := .tuple #[.agg #[.int .i64 0, .slice none 0 0, .slice none 0 0], .agg #[.int .i64 3, .int .i64 (-1)]]) (by simp [results, Try.results12, go_sem, q0, q1, q2, g0, g1]) rfl ⟨rfl, unhide HX_2⟩

set_option maxRecDepth 100000 in
set_option maxHeartbeats 4000000 in
theorem new_ok (w : World) (b : Int) (h0 : 0 ≤ b) (h1 : b ≤ 30) :
    Calls Try.prog 12 #[.int .i64 b] w fun e w' => ∃ sv, e = .returned (.tuple #[sv, faultV (0, 0)]) ∧ NewS w.heap.size w' sv b [] [(0, (2 : Int) ^ b.toNat)] ∧ Below w.heap.size w w' := by
  have HUN : Hid (∀ W, Calls Try.prog 21 #[.int .i64 b] W fun e w' => e = .returned (.int .i64 ((2 : Int) ^ b.toNat)) ∧ w' = W) := fun W => unitsOf_any W b h0 h1
  obtain ⟨U, eU⟩ : ∃ U, (2 : Int) ^ b.toNat = U := ⟨_, rfl⟩
  rw [eU] at HUN ⊢
  have h2 : ¬ b < 0 := by omega
  have h3 : ¬ 30 < b := by omega
  obtain ⟨W, e0, hB, k0, k1⟩ := two_new w (.cells #[.int .i64 0, .slice none 0 0, .slice none 0 0] 24) (.cells #[.int .i64 0, .int .i64 0] 29)
  have HX := hide hB; have HE := hide e0; have HQ := hide k0; have HG := hide k1
  clear hB e0 k0 k1 eU
  go_enter Try.func12, Try.ntmps12
  go_upto_region 1 with fail
  rw [unhide HE]
  clear HE
  obtain ⟨⟨q0, q1, q2⟩, ⟨qf0, qf1, qf2⟩, ql⟩ := block3 (unhide HQ)
  obtain ⟨g0, g1, gf0, gf1, gl⟩ := block2 (unhide HG)
  have HL := hide (isl_one kb W (0, U))
  have HWL := (unhide HX).size
  have HQ1 := hide (keep_alloc (unhide HQ) (.cells #[.int .i64 0, .int .i64 U] 38)); have HG1 := hide (keep_alloc (unhide HG) (.cells #[.int .i64 0, .int .i64 U] 38))
  have HX1 := hide ((unhide HX).alloc (unhide HX).size (.cells #[.int .i64 0, .int .i64 U] 38))
  have hql : w.heap.size + 1 < W.heap.size := size_of (unhide HG)
  go_wp2_with (go_at_call 21; refine (unhide HUN _).mono ?_; rintro e w1 ⟨rfl, hw1⟩; rw [hw1]; clear hw1 w1; obtain ⟨⟨r0, r1, r2⟩, ⟨rf0, rf1, rf2⟩, rl⟩ := block3 (unhide HQ1); obtain ⟨s0, s1, sf0, sf1, sl⟩ := block2 (unhide HG1))
  clear r0 r1 r2 rf0 rf1 rf2 rl s0 s1 sf0 sf1 sl q0 q1 q2 qf0 qf1 qf2 ql g0 g1 gf0 gf1 gl HL HQ1 HG1 HX1
  have hs1 : (putL W w.heap.size (.int .i64 b) (.slice none 0 0) (.slice (some ⟨W.heap.size, 0, none⟩) 1 1)).heap.size = W.heap.size := by simp [putL, World.setCell]
  have hs2 : ∀ V : World, (put2 V (w.heap.size + 1) (.int .i64 0) (.int .i64 0)).heap.size = V.heap.size := fun V => by simp [put2, World.setCell]
  have HX_N1 := hide (putL_below (y0 := .int .i64 b) (y1 := .slice none 0 0) (y2 := .slice (some ⟨W.heap.size, 0, none⟩) 1 1) (unhide HX) (show w.heap.size ≤ w.heap.size by first | omega | (have := unhide HBA; omega)))
  have Kq_N1 := hide (putL_new (y0 := .int .i64 b) (y1 := .slice none 0 0) (y2 := .slice (some ⟨W.heap.size, 0, none⟩) 1 1) (unhide HQ))
  have Kg_N1 := hide ((putL_keep (y0 := .int .i64 b) (y1 := .slice none 0 0) (y2 := .slice (some ⟨W.heap.size, 0, none⟩) 1 1) (show w.heap.size + 1 ≠ w.heap.size by omega)).trans (unhide HG))
  obtain ⟨V1, eV1⟩ : ∃ X, putL W (w.heap.size) (.int .i64 b) (.slice none 0 0) (.slice (some ⟨W.heap.size, 0, none⟩) 1 1) = X := ⟨_, rfl⟩
  rw [eV1] at hs1 HX_N1 Kq_N1 Kg_N1
  have eV12 : (((W).setCell ⟨w.heap.size, 0, none⟩ (.int .i64 b)).setCell ⟨w.heap.size, 1, none⟩ (.slice none 0 0)).setCell ⟨w.heap.size, 2, none⟩ (.slice (some ⟨W.heap.size, 0, none⟩) 1 1) = V1 := eV1
  rw [eV12]
  clear eV1 eV12 HX HQ HG
  have hs2 := hs2 V1
  have HX_N2 := hide (put2_below (y0 := .int .i64 0) (y1 := .int .i64 0) (unhide HX_N1) (show w.heap.size ≤ w.heap.size + 1 by first | omega | (have := unhide HBA; omega)))
  have Kq_N2 := hide ((put2_keep (y0 := .int .i64 0) (y1 := .int .i64 0) (show w.heap.size ≠ w.heap.size + 1 by omega)).trans (unhide Kq_N1))
  have Kg_N2 := hide (put2_new (y0 := .int .i64 0) (y1 := .int .i64 0) (unhide Kg_N1))
  obtain ⟨V2, eV2⟩ : ∃ X, put2 V1 (w.heap.size + 1) (.int .i64 0) (.int .i64 0) = X := ⟨_, rfl⟩
  rw [eV2] at hs2 HX_N2 Kq_N2 Kg_N2
  have eV22 : ((V1).setCell ⟨w.heap.size + 1, 0, none⟩ (.int .i64 0)).setCell ⟨w.heap.size + 1, 1, none⟩ (.int .i64 0) = V2 := eV2
  rw [eV22]
  clear eV2 eV22 HX_N1 Kq_N1 Kg_N1
  have hs3 : V2.heap.size = W.heap.size := hs2.trans hs1
  have HQ3 := hide (keep_alloc (unhide Kq_N2) (.cells #[.int .i64 0, .int .i64 U] 38)); have HG3 := hide (keep_alloc (unhide Kg_N2) (.cells #[.int .i64 0, .int .i64 U] 38))
  have HX3 := hide ((unhide HX_N2).alloc (unhide HX_N2).size (.cells #[.int .i64 0, .int .i64 U] 38))
  have HL3 : Hid (IsL KB (V2.alloc (.cells #[.int .i64 0, .int .i64 U] 38)) (.slice (some ⟨W.heap.size, 0, none⟩) 1 1) [(0, U)]) := by
    have h := isl_one kb V2 (0, U)
    rw [hs3] at h
    exact h
  obtain ⟨⟨q0, q1, q2⟩, ⟨qf0, qf1, qf2⟩, ql⟩ := block3 (unhide HQ3)
  obtain ⟨g0, g1, gf0, gf1, gl⟩ := block2 (unhide HG3)
  refine bodyPost_ret (v := .tuple #[.agg #[.int .i64 b, .slice none 0 0, .slice (some ⟨W.heap.size, 0, none⟩) 1 1], .agg #[.int .i64 0, .int .i64 0]]) (by simp [results, Try.results12, go_sem, q0, q1, q2, g0, g1]) rfl ⟨_, rfl, ⟨none, 0, some ⟨W.heap.size, 0, none⟩, 1, rfl, new_nil _ _, ⟨unhide HL3, fun k hk => by cases hk; exact HWL⟩⟩, unhide HX3⟩

theorem enters_take : ∀ args w, (callFunc 26 args).run Try.prog w = .ok (.enter 26 args) w := fun _ _ => by kernel_rfl

set_option maxRecDepth 100000 in
set_option maxHeartbeats 4000000 in
theorem take1_any (w : World) (g : Nat) (z t c : Int) (hg : w.heap[g]? = some (.cells #[.int .i64 z] 3 (0, 0))) :
    Calls Try.prog 26 #[.agg #[.int .i64 t, .int .i64 c], .pointer (some ⟨g, 0, none⟩)] w fun e w' => e = .returned (.bool (decide (z ≤ c))) ∧ Below w.heap.size w w' := by
  have HX := hide ((Below.refl w.heap.size w).alloc (Nat.le_refl _) (.cells #[.int .i64 t, .int .i64 c] 38))
  have HP := hide (new_block w (.cells #[.int .i64 t, .int .i64 c] 38))
  have HG := hide (keep_alloc hg (.cells #[.int .i64 t, .int .i64 c] 38))
  obtain ⟨W0, e0⟩ : ∃ W, w.alloc (.cells #[.int .i64 t, .int .i64 c] 38) = W := ⟨_, rfl⟩
  rw [e0] at HX HP HG
  have HE := hide e0
  clear e0 hg
  go_enter Try.func26, Try.ntmps26
  go_upto_region 1 with fail
  rw [unhide HE]
  clear HE
  obtain ⟨p0, p1, -, -, pl⟩ := block2 (unhide HP)
  obtain ⟨q0, -, ql⟩ := block1 (unhide HG)
  go_wp2_with fail
  go_ret
  exact ⟨rfl, unhide HX⟩

set_option maxRecDepth 100000 in
set_option maxHeartbeats 4000000 in
theorem take_fault (w : World) (v : Value) (b : Int) (us fs : List Bl) (z : Int) (h : IsS w v b us fs) (hn : us.length ≤ 100000) (hm : fs.length ≤ 100000) (hb1 : Bnd us) (hb2 : Bnd fs) (hf : (spaceF b us fs).1 ≠ 0) :
    Calls Try.prog 11 #[v, .int .i64 z] w fun e w' => e = .returned (.tuple #[noS, .int .i64 0, faultV (spaceF b us fs)]) ∧ Below w.heap.size w w' := by
  have HC : Hid (∀ W, Below w.heap.size w W → Calls Try.prog 10 #[v] W fun e w' => e = .returned (faultV (spaceF b us fs)) ∧ Below W.heap.size W w') := fun W hW => check_any W v b us fs (h.below hW) hn hm hb1 hb2
  obtain ⟨⟨F0, F1⟩, eF⟩ : ∃ F, spaceF b us fs = F := ⟨_, rfl⟩
  rw [eF] at HC hf ⊢
  obtain ⟨a0, c0, a1, c1, rfl, -, -⟩ := h.form
  generalize us.length = n at *
  generalize fs.length = m at *
  have x0 : ¬ F0 = 0 := hf
  have hq : ∀ w, (Op.equalIn 10000 29 (.agg #[.int .i64 F0, .int .i64 F1]) (.agg #[.int .i64 0, .int .i64 0])).run Try.prog w = .ok false w := fun w => by
    rw [flt_eq]
    have : (F0 == 0) = false := by simpa using x0
    rw [this]; rfl
  clear h eF hf hb1 hb2
  obtain ⟨W0, e0, hB, k0, k1, k2, k3⟩ := four_new w (.cells #[.int .i64 b, .slice a0 n c0, .slice a1 m c1] 24) (.cells #[.int .i64 z] 3) (.cells #[.int .i64 0, .slice none 0 0, .slice none 0 0] 24) (.cells #[.int .i64 0, .int .i64 0] 29)
  have HX := hide hB; have HP := hide k0; have HN := hide k1; have HQ := hide k2; have HG := hide k3; have HE := hide e0
  clear hB k0 k1 k2 k3 e0
  go_enter Try.func11, Try.ntmps11
  go_upto_region 1 with fail
  rw [unhide HE]
  clear HE
  obtain ⟨⟨p0, p1, p2⟩, ⟨pf0, pf1, pf2⟩, pl⟩ := block3 (unhide HP)
  go_upto_region 2 with (go_at_call 10; refine (unhide HC _ (unhide HX)).mono ?_; rintro e w1 ⟨he, hb1⟩; obtain rfl : e = .returned (.agg #[.int .i64 F0, .int .i64 F1]) := he; have HX_1 := hide (Below.next (unhide HX) hb1 (by first | exact Nat.le_refl _ | (have := unhide HBA; omega))); have Kp_1 := hide (keep_below (unhide HP) hb1); have Kn_1 := hide (keep_below (unhide HN) hb1); have Kq_1 := hide (keep_below (unhide HQ) hb1); have Kg_1 := hide (keep_below (unhide HG) hb1); clear HX HP HN HQ HG; clear hb1 p0 p1 p2 pf0 pf1 pf2 pl)
  have HX_2 := hide ((unhide HX_1).alloc (Nat.le_trans (show w.heap.size ≤ w.heap.size from Nat.le_refl _) (unhide HX_1).size) (.cells #[.int .i64 F0, .int .i64 F1] 29))
  have Kp_2 := hide (keep_alloc (unhide Kp_1) (.cells #[.int .i64 F0, .int .i64 F1] 29))
  have Kn_2 := hide (keep_alloc (unhide Kn_1) (.cells #[.int .i64 F0, .int .i64 F1] 29))
  have Kq_2 := hide (keep_alloc (unhide Kq_1) (.cells #[.int .i64 F0, .int .i64 F1] 29))
  have Kg_2 := hide (keep_alloc (unhide Kg_1) (.cells #[.int .i64 F0, .int .i64 F1] 29))
  have Kf_2 := hide (new_block w1 (.cells #[.int .i64 F0, .int .i64 F1] 29))
  have hlp_f : w.heap.size < w1.heap.size := size_of (unhide Kp_1)
  have hln_f : w.heap.size + 1 < w1.heap.size := size_of (unhide Kn_1)
  have hlq_f : w.heap.size + 1 + 1 < w1.heap.size := size_of (unhide Kq_1)
  have hlg_f : w.heap.size + 1 + 1 + 1 < w1.heap.size := size_of (unhide Kg_1)
  obtain ⟨T, eT⟩ : ∃ X, w1.heap.size = X := ⟨_, rfl⟩
  obtain ⟨W2, eW2⟩ : ∃ X, w1.alloc (.cells #[.int .i64 F0, .int .i64 F1] 29) = X := ⟨_, rfl⟩
  rw [eT, eW2] at Kf_2; rw [eW2] at HX_2 Kp_2 Kn_2 Kq_2 Kg_2; rw [eT] at hlp_f hln_f hlq_f hlg_f; rw [eT, eW2]
  clear eT eW2 HX_1 Kp_1 Kn_1 Kq_1 Kg_1
  obtain ⟨f0, f1, ff0, ff1, fl⟩ := block2 (unhide Kf_2)
  go_upto_region 3 with fail
  clear f0 f1 ff0 ff1 fl
  obtain ⟨⟨q0, q1, q2⟩, ⟨qf0, qf1, qf2⟩, ql⟩ := block3 (unhide Kq_2)
  obtain ⟨g0, g1, gf0, gf1, gl⟩ := block2 (unhide Kg_2)
  obtain ⟨f0, f1, ff0, ff1, fl⟩ := block2 (unhide Kf_2)
  have u1_ : w.heap.size + 1 + 1 ≠ T := by omega
  have u2_ : w.heap.size + 1 + 1 + 1 ≠ T := by omega
  have u3_ : T ≠ w.heap.size + 1 + 1 := by omega
  have u4_ : T ≠ w.heap.size + 1 + 1 + 1 := by omega
  go_wp2_with fail
  go_region
  clear q0 q1 q2 qf0 qf1 qf2 ql g0 g1 gf0 gf1 gl f0 f1 ff0 ff1 fl
  have HX_3 := hide (putL_below (y0 := .int .i64 0) (y1 := .slice none 0 0) (y2 := .slice none 0 0) (unhide HX_2) (show w.heap.size ≤ w.heap.size + 1 + 1 by first | omega | (have := unhide HBA; omega)))
  have Kp_3 := hide ((putL_keep (y0 := .int .i64 0) (y1 := .slice none 0 0) (y2 := .slice none 0 0) (show w.heap.size ≠ w.heap.size + 1 + 1 by omega)).trans (unhide Kp_2))
  have Kn_3 := hide ((putL_keep (y0 := .int .i64 0) (y1 := .slice none 0 0) (y2 := .slice none 0 0) (show w.heap.size + 1 ≠ w.heap.size + 1 + 1 by omega)).trans (unhide Kn_2))
  have Kq_3 := hide (putL_new (y0 := .int .i64 0) (y1 := .slice none 0 0) (y2 := .slice none 0 0) (unhide Kq_2))
  have Kg_3 := hide ((putL_keep (y0 := .int .i64 0) (y1 := .slice none 0 0) (y2 := .slice none 0 0) (show w.heap.size + 1 + 1 + 1 ≠ w.heap.size + 1 + 1 by omega)).trans (unhide Kg_2))
  have Kf_3 := hide ((putL_keep (y0 := .int .i64 0) (y1 := .slice none 0 0) (y2 := .slice none 0 0) (show T ≠ w.heap.size + 1 + 1 by omega)).trans (unhide Kf_2))
  obtain ⟨V1, eV1⟩ : ∃ X, putL W2 (w.heap.size + 1 + 1) (.int .i64 0) (.slice none 0 0) (.slice none 0 0) = X := ⟨_, rfl⟩
  rw [eV1] at HX_3 Kp_3 Kn_3 Kq_3 Kg_3 Kf_3
  have eV12 : (((W2).setCell ⟨w.heap.size + 1 + 1, 0, none⟩ (.int .i64 0)).setCell ⟨w.heap.size + 1 + 1, 1, none⟩ (.slice none 0 0)).setCell ⟨w.heap.size + 1 + 1, 2, none⟩ (.slice none 0 0) = V1 := eV1
  rw [eV12]
  clear eV1 eV12 HX_2 Kp_2 Kn_2 Kq_2 Kg_2 Kf_2
  have HX_4 := hide (put2_below (y0 := .int .i64 F0) (y1 := .int .i64 F1) (unhide HX_3) (show w.heap.size ≤ w.heap.size + 1 + 1 + 1 by first | omega | (have := unhide HBA; omega)))
  have Kp_4 := hide ((put2_keep (y0 := .int .i64 F0) (y1 := .int .i64 F1) (show w.heap.size ≠ w.heap.size + 1 + 1 + 1 by omega)).trans (unhide Kp_3))
  have Kn_4 := hide ((put2_keep (y0 := .int .i64 F0) (y1 := .int .i64 F1) (show w.heap.size + 1 ≠ w.heap.size + 1 + 1 + 1 by omega)).trans (unhide Kn_3))
  have Kq_4 := hide ((put2_keep (y0 := .int .i64 F0) (y1 := .int .i64 F1) (show w.heap.size + 1 + 1 ≠ w.heap.size + 1 + 1 + 1 by omega)).trans (unhide Kq_3))
  have Kg_4 := hide (put2_new (y0 := .int .i64 F0) (y1 := .int .i64 F1) (unhide Kg_3))
  have Kf_4 := hide ((put2_keep (y0 := .int .i64 F0) (y1 := .int .i64 F1) (show T ≠ w.heap.size + 1 + 1 + 1 by omega)).trans (unhide Kf_3))
  obtain ⟨V2, eV2⟩ : ∃ X, put2 V1 (w.heap.size + 1 + 1 + 1) (.int .i64 F0) (.int .i64 F1) = X := ⟨_, rfl⟩
  rw [eV2] at HX_4 Kp_4 Kn_4 Kq_4 Kg_4 Kf_4
  have eV22 : ((V1).setCell ⟨w.heap.size + 1 + 1 + 1, 0, none⟩ (.int .i64 F0)).setCell ⟨w.heap.size + 1 + 1 + 1, 1, none⟩ (.int .i64 F1) = V2 := eV2
  rw [eV22]
  clear eV2 eV22 HX_3 Kp_3 Kn_3 Kq_3 Kg_3 Kf_3
  have hV3 : Below V2.heap.size V2 V2.drew := (Below.refl _ _).drew
  obtain ⟨V3, eV3⟩ : ∃ X, V2.drew = X := ⟨_, rfl⟩
  rw [eV3] at hV3 ⊢
  (have HX_5 := hide (Below.next (unhide HX_4) hV3 (by first | exact Nat.le_refl _ | (have := unhide HBA; omega))); have Kp_5 := hide (keep_below (unhide Kp_4) hV3); have Kn_5 := hide (keep_below (unhide Kn_4) hV3); have Kq_5 := hide (keep_below (unhide Kq_4) hV3); have Kg_5 := hide (keep_below (unhide Kg_4) hV3); have Kf_5 := hide (keep_below (unhide Kf_4) hV3); clear HX_4 Kp_4 Kn_4 Kq_4 Kg_4 Kf_4)
  clear hV3 eV3
  obtain ⟨⟨q0, q1, q2⟩, ⟨qf0, qf1, qf2⟩, ql⟩ := block3 (unhide Kq_5)
  obtain ⟨g0, g1, gf0, gf1, gl⟩ := block2 (unhide Kg_5)
  go_wp2_with fail
  exact bodyPost_ret (v := .tuple #[.agg #[.int .i64 0, .slice none 0 0, .slice none 0 0], .int .i64 0, .agg #[.int .i64 F0, .int .i64 F1]]) (by simp [results, Try.results11, go_sem, q0, q1, q2, g0, g1]) rfl ⟨rfl, unhide HX_5⟩

set_option maxRecDepth 100000 in
set_option maxHeartbeats 4000000 in
theorem take_range (w : World) (v : Value) (b : Int) (us fs : List Bl) (z : Int) (h : IsS w v b us fs) (hn : us.length ≤ 100000) (hm : fs.length ≤ 100000) (hb1 : Bnd us) (hb2 : Bnd fs) (hf : spaceF b us fs = (0, 0)) (hz : z < 1 ∨ 1073741824 < z) :
    Calls Try.prog 11 #[v, .int .i64 z] w fun e w' => e = .returned (.tuple #[noS, .int .i64 0, faultV (3, -1)]) ∧ Below w.heap.size w w' := by
  have HC : Hid (∀ W, Below w.heap.size w W → Calls Try.prog 10 #[v] W fun e w' => e = .returned (faultV (0, 0)) ∧ Below W.heap.size W w') := fun W hW => by
    have := check_any W v b us fs (h.below hW) hn hm hb1 hb2
    rw [hf] at this; exact this
  obtain ⟨hg1, hg2, hg3, hg4, hg5, hg6⟩ := spaceF_good hf
  obtain ⟨a0, c0, a1, c1, rfl, -, -⟩ := h.form
  have HUN : Hid (∀ W, Calls Try.prog 21 #[.int .i64 30] W fun e w' => e = .returned (.int .i64 1073741824) ∧ w' = W) := fun W => unitsOf_any W 30 (by decide) (by decide)
  generalize us.length = n at *
  generalize fs.length = m at *
  have hq : ∀ w, (Op.equalIn 10000 29 (.agg #[.int .i64 0, .int .i64 0]) (.agg #[.int .i64 0, .int .i64 0])).run Try.prog w = .ok true w := fun w => by rw [flt_eq]; rfl
  have HZ := hide hz
  clear h hf hb1 hb2 hz hg1 hg2 hg3 hg4 hg5 hg6
  obtain ⟨W0, e0, hB, k0, k1, k2, k3⟩ := four_new w (.cells #[.int .i64 b, .slice a0 n c0, .slice a1 m c1] 24) (.cells #[.int .i64 z] 3) (.cells #[.int .i64 0, .slice none 0 0, .slice none 0 0] 24) (.cells #[.int .i64 0, .int .i64 0] 29)
  have HX := hide hB; have HP := hide k0; have HN := hide k1; have HQ := hide k2; have HG := hide k3; have HE := hide e0
  clear hB k0 k1 k2 k3 e0
  go_enter Try.func11, Try.ntmps11
  go_upto_region 1 with fail
  rw [unhide HE]
  clear HE
  obtain ⟨⟨p0, p1, p2⟩, ⟨pf0, pf1, pf2⟩, pl⟩ := block3 (unhide HP)
  go_upto_region 2 with (go_at_call 10; refine (unhide HC _ (unhide HX)).mono ?_; rintro e w1 ⟨he, hb1⟩; obtain rfl : e = .returned (.agg #[.int .i64 0, .int .i64 0]) := he; have HX_1 := hide (Below.next (unhide HX) hb1 (by first | exact Nat.le_refl _ | (have := unhide HBA; omega))); have Kp_1 := hide (keep_below (unhide HP) hb1); have Kn_1 := hide (keep_below (unhide HN) hb1); have Kq_1 := hide (keep_below (unhide HQ) hb1); have Kg_1 := hide (keep_below (unhide HG) hb1); clear HX HP HN HQ HG; clear hb1 p0 p1 p2 pf0 pf1 pf2 pl)
  have HX_2 := hide ((unhide HX_1).alloc (Nat.le_trans (show w.heap.size ≤ w.heap.size from Nat.le_refl _) (unhide HX_1).size) (.cells #[.int .i64 0, .int .i64 0] 29))
  have Kp_2 := hide (keep_alloc (unhide Kp_1) (.cells #[.int .i64 0, .int .i64 0] 29))
  have Kn_2 := hide (keep_alloc (unhide Kn_1) (.cells #[.int .i64 0, .int .i64 0] 29))
  have Kq_2 := hide (keep_alloc (unhide Kq_1) (.cells #[.int .i64 0, .int .i64 0] 29))
  have Kg_2 := hide (keep_alloc (unhide Kg_1) (.cells #[.int .i64 0, .int .i64 0] 29))
  have Kf_2 := hide (new_block w1 (.cells #[.int .i64 0, .int .i64 0] 29))
  have hlp_f : w.heap.size < w1.heap.size := size_of (unhide Kp_1)
  have hln_f : w.heap.size + 1 < w1.heap.size := size_of (unhide Kn_1)
  have hlq_f : w.heap.size + 1 + 1 < w1.heap.size := size_of (unhide Kq_1)
  have hlg_f : w.heap.size + 1 + 1 + 1 < w1.heap.size := size_of (unhide Kg_1)
  obtain ⟨T, eT⟩ : ∃ X, w1.heap.size = X := ⟨_, rfl⟩
  obtain ⟨W2, eW2⟩ : ∃ X, w1.alloc (.cells #[.int .i64 0, .int .i64 0] 29) = X := ⟨_, rfl⟩
  rw [eT, eW2] at Kf_2; rw [eW2] at HX_2 Kp_2 Kn_2 Kq_2 Kg_2; rw [eT] at hlp_f hln_f hlq_f hlg_f; rw [eT, eW2]
  clear eT eW2 HX_1 Kp_1 Kn_1 Kq_1 Kg_1
  obtain ⟨f0, f1, ff0, ff1, fl⟩ := block2 (unhide Kf_2)
  go_upto_region 4 with fail
  clear f0 f1 ff0 ff1 fl
  obtain ⟨n0, nf0, nl⟩ := block1 (unhide Kn_2)
  obtain ⟨⟨q0, q1, q2⟩, ⟨qf0, qf1, qf2⟩, ql⟩ := block3 (unhide Kq_2)
  obtain ⟨g0, g1, gf0, gf1, gl⟩ := block2 (unhide Kg_2)
  rcases unhide HZ with h1 | h1
  · go_quiet (fail)
    have hV0 : Below W2.heap.size W2 (W2.drewN nq) := below_drewN (Below.refl _ _) nq
    obtain ⟨V0, eV0⟩ : ∃ X, W2.drewN nq = X := ⟨_, rfl⟩
    rw [eV0] at hV0 ⊢
    (have HX_3 := hide (Below.next (unhide HX_2) hV0 (by first | exact Nat.le_refl _ | (have := unhide HBA; omega))); have Kp_3 := hide (keep_below (unhide Kp_2) hV0); have Kn_3 := hide (keep_below (unhide Kn_2) hV0); have Kq_3 := hide (keep_below (unhide Kq_2) hV0); have Kg_3 := hide (keep_below (unhide Kg_2) hV0); have Kf_3 := hide (keep_below (unhide Kf_2) hV0); clear HX_2 Kp_2 Kn_2 Kq_2 Kg_2 Kf_2)
    clear hV0 eV0
    clear n0 nf0 nl q0 q1 q2 qf0 qf1 qf2 ql g0 g1 gf0 gf1 gl
    obtain ⟨⟨q0, q1, q2⟩, ⟨qf0, qf1, qf2⟩, ql⟩ := block3 (unhide Kq_3)
    obtain ⟨g0, g1, gf0, gf1, gl⟩ := block2 (unhide Kg_3)
    go_wp2_with fail
    have HX_4 := hide (putL_below (y0 := .int .i64 0) (y1 := .slice none 0 0) (y2 := .slice none 0 0) (unhide HX_3) (show w.heap.size ≤ w.heap.size + 1 + 1 by first | omega | (have := unhide HBA; omega)))
    have Kp_4 := hide ((putL_keep (y0 := .int .i64 0) (y1 := .slice none 0 0) (y2 := .slice none 0 0) (show w.heap.size ≠ w.heap.size + 1 + 1 by omega)).trans (unhide Kp_3))
    have Kn_4 := hide ((putL_keep (y0 := .int .i64 0) (y1 := .slice none 0 0) (y2 := .slice none 0 0) (show w.heap.size + 1 ≠ w.heap.size + 1 + 1 by omega)).trans (unhide Kn_3))
    have Kq_4 := hide (putL_new (y0 := .int .i64 0) (y1 := .slice none 0 0) (y2 := .slice none 0 0) (unhide Kq_3))
    have Kg_4 := hide ((putL_keep (y0 := .int .i64 0) (y1 := .slice none 0 0) (y2 := .slice none 0 0) (show w.heap.size + 1 + 1 + 1 ≠ w.heap.size + 1 + 1 by omega)).trans (unhide Kg_3))
    have Kf_4 := hide ((putL_keep (y0 := .int .i64 0) (y1 := .slice none 0 0) (y2 := .slice none 0 0) (show T ≠ w.heap.size + 1 + 1 by omega)).trans (unhide Kf_3))
    obtain ⟨V1, eV1⟩ : ∃ X, putL V0 (w.heap.size + 1 + 1) (.int .i64 0) (.slice none 0 0) (.slice none 0 0) = X := ⟨_, rfl⟩
    rw [eV1] at HX_4 Kp_4 Kn_4 Kq_4 Kg_4 Kf_4
    have eV12 : (((V0).setCell ⟨w.heap.size + 1 + 1, 0, none⟩ (.int .i64 0)).setCell ⟨w.heap.size + 1 + 1, 1, none⟩ (.slice none 0 0)).setCell ⟨w.heap.size + 1 + 1, 2, none⟩ (.slice none 0 0) = V1 := eV1
    rw [eV12]
    clear eV1 eV12 HX_3 Kp_3 Kn_3 Kq_3 Kg_3 Kf_3
    have HX_5 := hide (put2_below (y0 := .int .i64 3) (y1 := .int .i64 (-1)) (unhide HX_4) (show w.heap.size ≤ w.heap.size + 1 + 1 + 1 by first | omega | (have := unhide HBA; omega)))
    have Kp_5 := hide ((put2_keep (y0 := .int .i64 3) (y1 := .int .i64 (-1)) (show w.heap.size ≠ w.heap.size + 1 + 1 + 1 by omega)).trans (unhide Kp_4))
    have Kn_5 := hide ((put2_keep (y0 := .int .i64 3) (y1 := .int .i64 (-1)) (show w.heap.size + 1 ≠ w.heap.size + 1 + 1 + 1 by omega)).trans (unhide Kn_4))
    have Kq_5 := hide ((put2_keep (y0 := .int .i64 3) (y1 := .int .i64 (-1)) (show w.heap.size + 1 + 1 ≠ w.heap.size + 1 + 1 + 1 by omega)).trans (unhide Kq_4))
    have Kg_5 := hide (put2_new (y0 := .int .i64 3) (y1 := .int .i64 (-1)) (unhide Kg_4))
    have Kf_5 := hide ((put2_keep (y0 := .int .i64 3) (y1 := .int .i64 (-1)) (show T ≠ w.heap.size + 1 + 1 + 1 by omega)).trans (unhide Kf_4))
    obtain ⟨V2, eV2⟩ : ∃ X, put2 V1 (w.heap.size + 1 + 1 + 1) (.int .i64 3) (.int .i64 (-1)) = X := ⟨_, rfl⟩
    rw [eV2] at HX_5 Kp_5 Kn_5 Kq_5 Kg_5 Kf_5
    have eV22 : ((V1).setCell ⟨w.heap.size + 1 + 1 + 1, 0, none⟩ (.int .i64 3)).setCell ⟨w.heap.size + 1 + 1 + 1, 1, none⟩ (.int .i64 (-1)) = V2 := eV2
    rw [eV22]
    clear eV2 eV22 HX_4 Kp_4 Kn_4 Kq_4 Kg_4 Kf_4
    clear q0 q1 q2 qf0 qf1 qf2 ql g0 g1 gf0 gf1 gl
    obtain ⟨⟨q0, q1, q2⟩, ⟨qf0, qf1, qf2⟩, ql⟩ := block3 (unhide Kq_5)
    obtain ⟨g0, g1, gf0, gf1, gl⟩ := block2 (unhide Kg_5)
    exact bodyPost_ret (v := .tuple #[.agg #[.int .i64 0, .slice none 0 0, .slice none 0 0], .int .i64 0, .agg #[.int .i64 3, .int .i64 (-1)]]) (by simp [results, Try.results11, go_sem, q0, q1, q2, g0, g1]) rfl ⟨rfl, unhide HX_5⟩
  · have h0 : ¬ z < 1 := by omega
    go_quiet ((go_at_call 21; exact Calls.quiet_of_same (unhide HUN _)))
    have hV0 : Below W2.heap.size W2 (W2.drewN nq) := below_drewN (Below.refl _ _) nq
    obtain ⟨V0, eV0⟩ : ∃ X, W2.drewN nq = X := ⟨_, rfl⟩
    rw [eV0] at hV0 ⊢
    (have HX_3 := hide (Below.next (unhide HX_2) hV0 (by first | exact Nat.le_refl _ | (have := unhide HBA; omega))); have Kp_3 := hide (keep_below (unhide Kp_2) hV0); have Kn_3 := hide (keep_below (unhide Kn_2) hV0); have Kq_3 := hide (keep_below (unhide Kq_2) hV0); have Kg_3 := hide (keep_below (unhide Kg_2) hV0); have Kf_3 := hide (keep_below (unhide Kf_2) hV0); clear HX_2 Kp_2 Kn_2 Kq_2 Kg_2 Kf_2)
    clear hV0 eV0
    clear n0 nf0 nl q0 q1 q2 qf0 qf1 qf2 ql g0 g1 gf0 gf1 gl
    obtain ⟨⟨q0, q1, q2⟩, ⟨qf0, qf1, qf2⟩, ql⟩ := block3 (unhide Kq_3)
    obtain ⟨g0, g1, gf0, gf1, gl⟩ := block2 (unhide Kg_3)
    go_wp2_with fail
    have HX_4 := hide (putL_below (y0 := .int .i64 0) (y1 := .slice none 0 0) (y2 := .slice none 0 0) (unhide HX_3) (show w.heap.size ≤ w.heap.size + 1 + 1 by first | omega | (have := unhide HBA; omega)))
    have Kp_4 := hide ((putL_keep (y0 := .int .i64 0) (y1 := .slice none 0 0) (y2 := .slice none 0 0) (show w.heap.size ≠ w.heap.size + 1 + 1 by omega)).trans (unhide Kp_3))
    have Kn_4 := hide ((putL_keep (y0 := .int .i64 0) (y1 := .slice none 0 0) (y2 := .slice none 0 0) (show w.heap.size + 1 ≠ w.heap.size + 1 + 1 by omega)).trans (unhide Kn_3))
    have Kq_4 := hide (putL_new (y0 := .int .i64 0) (y1 := .slice none 0 0) (y2 := .slice none 0 0) (unhide Kq_3))
    have Kg_4 := hide ((putL_keep (y0 := .int .i64 0) (y1 := .slice none 0 0) (y2 := .slice none 0 0) (show w.heap.size + 1 + 1 + 1 ≠ w.heap.size + 1 + 1 by omega)).trans (unhide Kg_3))
    have Kf_4 := hide ((putL_keep (y0 := .int .i64 0) (y1 := .slice none 0 0) (y2 := .slice none 0 0) (show T ≠ w.heap.size + 1 + 1 by omega)).trans (unhide Kf_3))
    obtain ⟨V1, eV1⟩ : ∃ X, putL V0 (w.heap.size + 1 + 1) (.int .i64 0) (.slice none 0 0) (.slice none 0 0) = X := ⟨_, rfl⟩
    rw [eV1] at HX_4 Kp_4 Kn_4 Kq_4 Kg_4 Kf_4
    have eV12 : (((V0).setCell ⟨w.heap.size + 1 + 1, 0, none⟩ (.int .i64 0)).setCell ⟨w.heap.size + 1 + 1, 1, none⟩ (.slice none 0 0)).setCell ⟨w.heap.size + 1 + 1, 2, none⟩ (.slice none 0 0) = V1 := eV1
    rw [eV12]
    clear eV1 eV12 HX_3 Kp_3 Kn_3 Kq_3 Kg_3 Kf_3
    have HX_5 := hide (put2_below (y0 := .int .i64 3) (y1 := .int .i64 (-1)) (unhide HX_4) (show w.heap.size ≤ w.heap.size + 1 + 1 + 1 by first | omega | (have := unhide HBA; omega)))
    have Kp_5 := hide ((put2_keep (y0 := .int .i64 3) (y1 := .int .i64 (-1)) (show w.heap.size ≠ w.heap.size + 1 + 1 + 1 by omega)).trans (unhide Kp_4))
    have Kn_5 := hide ((put2_keep (y0 := .int .i64 3) (y1 := .int .i64 (-1)) (show w.heap.size + 1 ≠ w.heap.size + 1 + 1 + 1 by omega)).trans (unhide Kn_4))
    have Kq_5 := hide ((put2_keep (y0 := .int .i64 3) (y1 := .int .i64 (-1)) (show w.heap.size + 1 + 1 ≠ w.heap.size + 1 + 1 + 1 by omega)).trans (unhide Kq_4))
    have Kg_5 := hide (put2_new (y0 := .int .i64 3) (y1 := .int .i64 (-1)) (unhide Kg_4))
    have Kf_5 := hide ((put2_keep (y0 := .int .i64 3) (y1 := .int .i64 (-1)) (show T ≠ w.heap.size + 1 + 1 + 1 by omega)).trans (unhide Kf_4))
    obtain ⟨V2, eV2⟩ : ∃ X, put2 V1 (w.heap.size + 1 + 1 + 1) (.int .i64 3) (.int .i64 (-1)) = X := ⟨_, rfl⟩
    rw [eV2] at HX_5 Kp_5 Kn_5 Kq_5 Kg_5 Kf_5
    have eV22 : ((V1).setCell ⟨w.heap.size + 1 + 1 + 1, 0, none⟩ (.int .i64 3)).setCell ⟨w.heap.size + 1 + 1 + 1, 1, none⟩ (.int .i64 (-1)) = V2 := eV2
    rw [eV22]
    clear eV2 eV22 HX_4 Kp_4 Kn_4 Kq_4 Kg_4 Kf_4
    clear q0 q1 q2 qf0 qf1 qf2 ql g0 g1 gf0 gf1 gl
    obtain ⟨⟨q0, q1, q2⟩, ⟨qf0, qf1, qf2⟩, ql⟩ := block3 (unhide Kq_5)
    obtain ⟨g0, g1, gf0, gf1, gl⟩ := block2 (unhide Kg_5)
    exact bodyPost_ret (v := .tuple #[.agg #[.int .i64 0, .slice none 0 0, .slice none 0 0], .int .i64 0, .agg #[.int .i64 3, .int .i64 (-1)]]) (by simp [results, Try.results11, go_sem, q0, q1, q2, g0, g1]) rfl ⟨rfl, unhide HX_5⟩
end Go.Proofs.Ytomhfnjnmhdpkaa
