/-
  sync.Release.
-/
import Derived.Test.YtpogcfdmkeebmaaK
namespace Go.Proofs.Ytpogcfdmkeebmaa
open Go.RowKit

theorem wantP_good {pre l : List Po} {i : Int} (h : firstC wantP pre l i = (0, 0)) : (∀ x ∈ l, 1 ≤ x.1 ∧ x.2.1 = false ∧ 1 ≤ x.2.2 ∧ x.2.2 ≤ 1000000000 ∧ x.1 ∉ tasks pre) ∧ (tasks l).Nodup := by
  induction l generalizing pre i with
  | nil => exact ⟨fun x hx => (by cases hx), List.nodup_nil⟩
  | cons x l ih =>
    have hw : wantP pre x = 0 := by
      by_cases hd : wantP pre x = 0
      · exact hd
      · rw [firstC_stop rfl hd] at h
        injection h
    rw [firstC_go hw] at h
    obtain ⟨h1, h2⟩ := ih h
    have hw2 := hw
    unfold wantP at hw2
    have a1 : ¬ (x.1 < 1 ∨ x.2.2 < 1 ∨ 1000000000 < x.2.2) := fun ha => by rw [if_pos ha] at hw2; cases hw2
    rw [if_neg a1] at hw2
    have a2 : ¬ (tasks pre).contains x.1 = true := fun ha => by rw [if_pos ha] at hw2; cases hw2
    rw [if_neg a2] at hw2
    have a3 : ¬ x.2.1 = true := fun ha => by rw [if_pos ha] at hw2; cases hw2
    have et : tasks (pre ++ [x]) = tasks pre ++ [x.1] := by rw [tasks_append]; rfl
    refine ⟨fun y hy => ?_, ?_⟩
    · rcases List.mem_cons.1 hy with rfl | hy
      · exact ⟨by omega, by simpa using a3, by omega, by omega, by simpa using a2⟩
      · obtain ⟨g1, g2, g3, g4, g5⟩ := h1 y hy
        exact ⟨g1, g2, g3, g4, fun hm => g5 (by rw [et]; exact List.mem_append.2 (Or.inl hm))⟩
    · refine List.nodup_cons.2 ⟨fun hm => ?_, h2⟩
      obtain ⟨y, hy, e⟩ := List.mem_map.1 hm
      exact (h1 y hy).2.2.2.2 (by rw [et]; exact List.mem_append.2 (Or.inr (by rw [e]; exact List.mem_singleton.2 rfl)))
theorem relF_good {f : Int} {l : List Po} {x : Int} (h : (relF f l x).1 = 0) : (semaF f l).1 = 0 ∧ relF f l x = (0, 0) ∧ 0 ≤ x ∧ x ≤ 1000000000 ∧ f + x ≤ 1000000000 := by
  unfold relF at h ⊢
  split at h
  · rename_i q; exact absurd h q
  · rename_i q0
    split at h
    · cases h
    · split at h
      · cases h
      · rename_i q1 q2
        rw [if_neg q0, if_neg q1, if_neg q2]
        exact ⟨by omega, rfl, by omega, by omega, by omega⟩

set_option maxRecDepth 100000 in
set_option maxHeartbeats 2000000 in
theorem release_fault (w : World) (v : Value) (f : Int) (line : List Po) (x : Int) (h : IsG KP w v f line) (hn : line.length ≤ maxLen) (hf : (relF f line x).1 ≠ 0) :
    Calls Try.prog 25 #[v, .int .i64 x] w fun e w' => e = .returned (.tuple #[.agg #[.int .i64 0, .slice none 0 0], .slice none 0 0, faultV (relF f line x)]) ∧ Below w.heap.size w w' := by
  have HC : Hid (∀ W, Below w.heap.size w W → Calls Try.prog 47 #[v, .int .i64 x] W fun e w' => e = .returned (faultV (relF f line x)) ∧ Below W.heap.size W w') := fun W hW => checkRelease_any W v f line x (h.below hW) hn
  obtain ⟨⟨F0, F1⟩, eF⟩ : ∃ F, relF f line x = F := ⟨_, rfl⟩
  rw [eF] at HC hf ⊢
  obtain ⟨a0, c0, rfl, hL⟩ := h.form
  generalize line.length = n at *
  have x0 : (F0 != 0) = true := by simpa using hf
  clear h hL eF hf hn
  obtain ⟨W0, e0, hB, k0, k1, k2⟩ := three_new w (.cells #[.int .i64 f, .slice a0 n c0] 51) (.cells #[.int .i64 0, .slice none 0 0] 51) (.cells #[.int .i64 0, .int .i64 0] 29)
  have HX := hide hB; have HP := hide k0; have HQ := hide k1; have HG := hide k2; have HE := hide e0
  clear hB k0 k1 k2 e0
  go_enter Try.func25, Try.ntmps25
  go_upto_region 1 with fail
  rw [unhide HE]
  clear HE
  obtain ⟨p0, p1, pf0, pf1, pl⟩ := block2 (unhide HP)
  go_upto_region 2 with (go_at_call 47; refine (unhide HC _ (unhide HX)).mono ?_; rintro e w1 ⟨he, hb1⟩; obtain rfl : e = .returned (.agg #[.int .i64 F0, .int .i64 F1]) := he; have HX_1 := hide (Below.next (unhide HX) hb1 (by first | exact Nat.le_refl _ | (have := unhide HBA; omega))); have Kp_1 := hide (keep_below (unhide HP) hb1); have Kq_1 := hide (keep_below (unhide HQ) hb1); have Kg_1 := hide (keep_below (unhide HG) hb1); clear HX HP HQ HG; clear hb1 p0 p1 pf0 pf1 pl)
  have HX_2 := hide ((unhide HX_1).alloc (Nat.le_trans (show w.heap.size ≤ w.heap.size from Nat.le_refl _) (unhide HX_1).size) (.cells #[.int .i64 F0, .int .i64 F1] 29))
  have Kp_2 := hide (keep_alloc (unhide Kp_1) (.cells #[.int .i64 F0, .int .i64 F1] 29))
  have Kq_2 := hide (keep_alloc (unhide Kq_1) (.cells #[.int .i64 F0, .int .i64 F1] 29))
  have Kg_2 := hide (keep_alloc (unhide Kg_1) (.cells #[.int .i64 F0, .int .i64 F1] 29))
  have Kf_2 := hide (new_block w1 (.cells #[.int .i64 F0, .int .i64 F1] 29))
  have hlp_f : w.heap.size < w1.heap.size := size_of (unhide Kp_1)
  have hlq_f : w.heap.size + 1 < w1.heap.size := size_of (unhide Kq_1)
  have hlg_f : w.heap.size + 1 + 1 < w1.heap.size := size_of (unhide Kg_1)
  obtain ⟨T, eT⟩ : ∃ X, w1.heap.size = X := ⟨_, rfl⟩
  obtain ⟨W2, eW2⟩ : ∃ X, w1.alloc (.cells #[.int .i64 F0, .int .i64 F1] 29) = X := ⟨_, rfl⟩
  rw [eT, eW2] at Kf_2; rw [eW2] at HX_2 Kp_2 Kq_2 Kg_2; rw [eT] at hlp_f hlq_f hlg_f; rw [eT, eW2]
  clear eT eW2 HX_1 Kp_1 Kq_1 Kg_1
  have hqt : w.heap.size + 1 + 1 < T := by omega
  obtain ⟨q0, q1, qf0, qf1, ql⟩ := block2 (unhide Kq_2)
  obtain ⟨g0, g1, gf0, gf1, gl⟩ := block2 (unhide Kg_2)
  obtain ⟨f0, f1, ff0, ff1, fl⟩ := block2 (unhide Kf_2)
  have u1 : w.heap.size + 1 ≠ T := by omega
  have u2 : w.heap.size + 1 + 1 ≠ T := by omega
  have u3 : T ≠ w.heap.size + 1 := by omega
  have u4 : T ≠ w.heap.size + 1 + 1 := by omega
  go_wp2_with fail
  go_region
  clear q0 q1 qf0 qf1 ql g0 g1 gf0 gf1 gl f0 f1 ff0 ff1 fl
  have HX_3 := hide (put2_below (y0 := .int .i64 0) (y1 := .slice none 0 0) (unhide HX_2) (show w.heap.size ≤ w.heap.size + 1 by first | omega | (have := unhide HBA; omega)))
  have Kp_3 := hide ((put2_keep (y0 := .int .i64 0) (y1 := .slice none 0 0) (show w.heap.size ≠ w.heap.size + 1 by omega)).trans (unhide Kp_2))
  have Kq_3 := hide (put2_new (y0 := .int .i64 0) (y1 := .slice none 0 0) (unhide Kq_2))
  have Kg_3 := hide ((put2_keep (y0 := .int .i64 0) (y1 := .slice none 0 0) (show w.heap.size + 1 + 1 ≠ w.heap.size + 1 by omega)).trans (unhide Kg_2))
  have Kf_3 := hide ((put2_keep (y0 := .int .i64 0) (y1 := .slice none 0 0) (show T ≠ w.heap.size + 1 by omega)).trans (unhide Kf_2))
  obtain ⟨V1, eV1⟩ : ∃ X, put2 W2 (w.heap.size + 1) (.int .i64 0) (.slice none 0 0) = X := ⟨_, rfl⟩
  rw [eV1] at HX_3 Kp_3 Kq_3 Kg_3 Kf_3
  have eV12 : ((W2).setCell ⟨w.heap.size + 1, 0, none⟩ (.int .i64 0)).setCell ⟨w.heap.size + 1, 1, none⟩ (.slice none 0 0) = V1 := eV1
  rw [eV12]
  clear eV1 eV12 HX_2 Kp_2 Kq_2 Kg_2 Kf_2
  have HX_4 := hide (put2_below (y0 := .int .i64 F0) (y1 := .int .i64 F1) (unhide HX_3) (show w.heap.size ≤ w.heap.size + 1 + 1 by first | omega | (have := unhide HBA; omega)))
  have Kp_4 := hide ((put2_keep (y0 := .int .i64 F0) (y1 := .int .i64 F1) (show w.heap.size ≠ w.heap.size + 1 + 1 by omega)).trans (unhide Kp_3))
  have Kq_4 := hide ((put2_keep (y0 := .int .i64 F0) (y1 := .int .i64 F1) (show w.heap.size + 1 ≠ w.heap.size + 1 + 1 by omega)).trans (unhide Kq_3))
  have Kg_4 := hide (put2_new (y0 := .int .i64 F0) (y1 := .int .i64 F1) (unhide Kg_3))
  have Kf_4 := hide ((put2_keep (y0 := .int .i64 F0) (y1 := .int .i64 F1) (show T ≠ w.heap.size + 1 + 1 by omega)).trans (unhide Kf_3))
  obtain ⟨V2, eV2⟩ : ∃ X, put2 V1 (w.heap.size + 1 + 1) (.int .i64 F0) (.int .i64 F1) = X := ⟨_, rfl⟩
  rw [eV2] at HX_4 Kp_4 Kq_4 Kg_4 Kf_4
  have eV22 : ((V1).setCell ⟨w.heap.size + 1 + 1, 0, none⟩ (.int .i64 F0)).setCell ⟨w.heap.size + 1 + 1, 1, none⟩ (.int .i64 F1) = V2 := eV2
  rw [eV22]
  clear eV2 eV22 HX_3 Kp_3 Kq_3 Kg_3 Kf_3
  have hV3 : Below V2.heap.size V2 V2.drew := (Below.refl _ _).drew
  obtain ⟨V3, eV3⟩ : ∃ X, V2.drew = X := ⟨_, rfl⟩
  rw [eV3] at hV3 ⊢
  (have HX_5 := hide (Below.next (unhide HX_4) hV3 (by first | exact Nat.le_refl _ | (have := unhide HBA; omega))); have Kp_5 := hide (keep_below (unhide Kp_4) hV3); have Kq_5 := hide (keep_below (unhide Kq_4) hV3); have Kg_5 := hide (keep_below (unhide Kg_4) hV3); have Kf_5 := hide (keep_below (unhide Kf_4) hV3); clear HX_4 Kp_4 Kq_4 Kg_4 Kf_4)
  clear hV3 eV3
  obtain ⟨q0, q1, qf0, qf1, ql⟩ := block2 (unhide Kq_5)
  obtain ⟨g0, g1, gf0, gf1, gl⟩ := block2 (unhide Kg_5)
  go_wp2_with fail
  exact bodyPost_ret (v := .tuple #[.agg #[.int .i64 0, .slice none 0 0], .slice none 0 0, .agg #[.int .i64 F0, .int .i64 F1]]) (by simp [results, Try.results25, go_sem, q0, q1, g0, g1]) rfl ⟨rfl, unhide HX_5⟩

set_option maxRecDepth 100000 in
set_option maxHeartbeats 4000000 in
theorem release_ok (w : World) (v : Value) (f : Int) (line : List Po) (x : Int) (h : IsG KP w v f line) (hf : (relF f line x).1 = 0) :
    Calls Try.prog 25 #[v, .int .i64 x] w fun e w' => ∃ v1 v2, e = .returned (.tuple #[v1, v2, .agg #[.int .i64 0, .int .i64 0]]) ∧ NewG KP w.heap.size w' v1 (giveR (f + x) line).1.1 (giveR (f + x) line).1.2 ∧ New KI w.heap.size w' v2 (giveR (f + x) line).2 ∧ Below w.heap.size w w' := by
  obtain ⟨hg, hz, hx0, hx1, hfx⟩ := relF_good hf
  obtain ⟨-, hl, hf0, hf1, -, hw⟩ := semaF_good hg
  obtain ⟨hw1, -⟩ := wantP_good hw
  have HC : Hid (∀ W, Below w.heap.size w W → Calls Try.prog 47 #[v, .int .i64 x] W fun e w' => e = .returned (faultV (0, 0)) ∧ Below W.heap.size W w') := fun W hW => by
    have := checkRelease_any W v f line x (h.below hW) (by unfold maxLen; omega)
    rw [hz] at this
    exact this
  have HFR : Hid (∀ W, Below w.heap.size w W → Calls Try.prog 42 #[v] W fun e w' => ∃ a c, e = .returned (.agg #[.int .i64 f, .slice a line.length c]) ∧ Own KP W.heap.size w' (.slice a line.length c) line ∧ Below W.heap.size W w') := fun W hW => (freshSema_any W v f line (h.below hW) (by omega)).mono fun e w' ⟨v', h1, h2, h3⟩ => by
    obtain ⟨a, c, rfl, h4⟩ := h2.form
    exact ⟨a, c, h1, h4, h3⟩
  obtain ⟨Q, eQ⟩ : ∃ Q, giveR (f + x) line = Q := ⟨_, rfl⟩
  have HGV : Hid (∀ W a c, IsL KP W (.slice a line.length c) line → Calls Try.prog 43 #[.agg #[.int .i64 (f + x), .slice a line.length c]] W fun e w' => ∃ a1 c1 a2 c2, e = .returned (.tuple #[.agg #[.int .i64 Q.1.1, .slice a1 Q.1.2.length c1], .slice a2 Q.2.length c2]) ∧ At KP (Value.slice a line.length c).ownBlock w' (.slice a1 Q.1.2.length c1) Q.1.2 ∧ Own KI W.heap.size w' (.slice a2 Q.2.length c2) Q.2 ∧ Below W.heap.size W w') := fun W a c hW => (given_any W _ _ (f + x) line ⟨_, rfl, at_own hW⟩ (by omega) (by omega) (fun y hy => by have := (hw1 y hy).2.2.1; omega) (by omega)).mono fun e w' ⟨v1, v2, h1, h2, h3, h4⟩ => by
    rw [eQ] at h2 h3
    obtain ⟨a1, c1, rfl, h5⟩ := h2.form
    obtain ⟨a2, c2, rfl⟩ := h3.form
    exact ⟨a1, c1, a2, c2, h1, h5, h3, h4⟩
  rw [eQ]
  obtain ⟨⟨f2, line2⟩, ws⟩ := Q
  simp only at HGV ⊢
  obtain ⟨a0, c0, rfl, hL⟩ := h.form
  obtain ⟨n, en⟩ : ∃ n, line.length = n := ⟨_, rfl⟩
  obtain ⟨n2, en2⟩ : ∃ n, line2.length = n := ⟨_, rfl⟩
  obtain ⟨n3, en3⟩ : ∃ n, ws.length = n := ⟨_, rfl⟩
  rw [en] at HFR HGV HC ⊢
  rw [en2, en3] at HGV
  have HEN := hide en; have HEN2 := hide en2; have HEN3 := hide en3
  have hwf : IntKind.i64.wrap (f + x) = f + x := wrapi (by omega) (by omega)
  clear h hL eQ hf hg hz hw hw1 en en2 en3 hl
  obtain ⟨W0, e0, hB, k0, k1, k2⟩ := three_new w (.cells #[.int .i64 f, .slice a0 n c0] 51) (.cells #[.int .i64 0, .slice none 0 0] 51) (.cells #[.int .i64 0, .int .i64 0] 29)
  have HX := hide hB; have HP := hide k0; have HQ := hide k1; have HG := hide k2; have HE := hide e0
  clear hB k0 k1 k2 e0
  go_enter Try.func25, Try.ntmps25
  go_upto_region 1 with fail
  rw [unhide HE]
  clear HE
  obtain ⟨p0, p1, pf0, pf1, pl⟩ := block2 (unhide HP)
  go_upto_region 2 with (go_at_call 47; refine (unhide HC _ (unhide HX)).mono ?_; rintro e w1 ⟨he, hb1⟩; obtain rfl : e = .returned (.agg #[.int .i64 0, .int .i64 0]) := he; have HX_1 := hide (Below.next (unhide HX) hb1 (by first | exact Nat.le_refl _ | (have := unhide HBA; omega))); have Kp_1 := hide (keep_below (unhide HP) hb1); have Kq_1 := hide (keep_below (unhide HQ) hb1); have Kg_1 := hide (keep_below (unhide HG) hb1); clear HX HP HQ HG; clear hb1 p0 p1 pf0 pf1 pl)
  have HX_2 := hide ((unhide HX_1).alloc (Nat.le_trans (show w.heap.size ≤ w.heap.size from Nat.le_refl _) (unhide HX_1).size) (.cells #[.int .i64 0, .int .i64 0] 29))
  have Kp_2 := hide (keep_alloc (unhide Kp_1) (.cells #[.int .i64 0, .int .i64 0] 29))
  have Kq_2 := hide (keep_alloc (unhide Kq_1) (.cells #[.int .i64 0, .int .i64 0] 29))
  have Kg_2 := hide (keep_alloc (unhide Kg_1) (.cells #[.int .i64 0, .int .i64 0] 29))
  have Kf_2 := hide (new_block w1 (.cells #[.int .i64 0, .int .i64 0] 29))
  have hlp_f : w.heap.size < w1.heap.size := size_of (unhide Kp_1)
  have hlq_f : w.heap.size + 1 < w1.heap.size := size_of (unhide Kq_1)
  have hlg_f : w.heap.size + 1 + 1 < w1.heap.size := size_of (unhide Kg_1)
  obtain ⟨T, eT⟩ : ∃ X, w1.heap.size = X := ⟨_, rfl⟩
  obtain ⟨W2, eW2⟩ : ∃ X, w1.alloc (.cells #[.int .i64 0, .int .i64 0] 29) = X := ⟨_, rfl⟩
  rw [eT, eW2] at Kf_2; rw [eW2] at HX_2 Kp_2 Kq_2 Kg_2; rw [eT] at hlp_f hlq_f hlg_f; rw [eT, eW2]
  clear eT eW2 HX_1 Kp_1 Kq_1 Kg_1
  have hqt : w.heap.size + 1 + 1 < T := by omega
  obtain ⟨p0, p1, pf0, pf1, pl⟩ := block2 (unhide Kp_2)
  obtain ⟨f0, f1, ff0, ff1, fl⟩ := block2 (unhide Kf_2)
  obtain ⟨B3, eB3⟩ : ∃ X, W2.heap.size = X := ⟨_, rfl⟩
  have HB3 : Hid (w.heap.size ≤ B3) := by have := (unhide HX_2).size; rw [eB3] at this; exact this
  have HBT : Hid (T < B3) := by have := size_of (unhide Kf_2); rw [eB3] at this; exact this
  have HF3 := unhide HFR W2 (unhide HX_2)
  rw [eB3] at HF3
  have HFR3 := hide HF3
  clear HF3
  go_upto_region 5 with (go_at_call 42; refine (unhide HFR3).mono ?_; rintro e w3 ⟨b1, d1, rfl, ho3, hb3⟩; have HO3 := hide ho3; rw [← eB3] at hb3; have hb3s : B3 ≤ w3.heap.size := (by rw [← eB3]; exact hb3.size); have HX_3 := hide (Below.next (unhide HX_2) hb3 (by first | exact Nat.le_refl _ | (have := unhide HBA; omega))); have Kp_3 := hide (keep_below (unhide Kp_2) hb3); have Kq_3 := hide (keep_below (unhide Kq_2) hb3); have Kg_3 := hide (keep_below (unhide Kg_2) hb3); have Kf_3 := hide (keep_below (unhide Kf_2) hb3); clear HX_2 Kp_2 Kq_2 Kg_2 Kf_2; clear hb3 ho3 HFR3 p0 p1 pf0 pf1 pl f0 f1 ff0 ff1 fl)
  clear eB3
  have HX_4 := hide ((unhide HX_3).alloc (Nat.le_trans (show w.heap.size ≤ w.heap.size from Nat.le_refl _) (unhide HX_3).size) (.cells #[.int .i64 f, .slice b1 n d1] 51))
  have Kp_4 := hide (keep_alloc (unhide Kp_3) (.cells #[.int .i64 f, .slice b1 n d1] 51))
  have Kq_4 := hide (keep_alloc (unhide Kq_3) (.cells #[.int .i64 f, .slice b1 n d1] 51))
  have Kg_4 := hide (keep_alloc (unhide Kg_3) (.cells #[.int .i64 f, .slice b1 n d1] 51))
  have Kf_4 := hide (keep_alloc (unhide Kf_3) (.cells #[.int .i64 f, .slice b1 n d1] 51))
  have Ol_4 := hide ((unhide HO3).below ((Below.refl _ _).alloc (Nat.le_refl _) (.cells #[.int .i64 f, .slice b1 n d1] 51)))
  have Kt_4 := hide (new_block w3 (.cells #[.int .i64 f, .slice b1 n d1] 51))
  have hlp_t : w.heap.size < w3.heap.size := size_of (unhide Kp_3)
  have hlq_t : w.heap.size + 1 < w3.heap.size := size_of (unhide Kq_3)
  have hlg_t : w.heap.size + 1 + 1 < w3.heap.size := size_of (unhide Kg_3)
  have hlf_t : T < w3.heap.size := size_of (unhide Kf_3)
  obtain ⟨T2, eT2⟩ : ∃ X, w3.heap.size = X := ⟨_, rfl⟩
  obtain ⟨W4, eW4⟩ : ∃ X, w3.alloc (.cells #[.int .i64 f, .slice b1 n d1] 51) = X := ⟨_, rfl⟩
  rw [eT2, eW4] at Kt_4; rw [eW4] at HX_4 Kp_4 Kq_4 Kg_4 Kf_4 Ol_4; rw [eT2] at hlp_t hlq_t hlg_t hlf_t hb3s; rw [eT2, eW4]
  clear eT2 eW4 HX_3 Kp_3 Kq_3 Kg_3 Kf_3 HO3
  obtain ⟨t0, t1, tf0, tf1, tl⟩ := block2 (unhide Kt_4)
  go_upto_region 6 with fail
  clear t0 t1 tf0 tf1 tl
  try rw [hwf]
  have HX_5 := hide (below_set (i := 0) (unhide HX_4) (show w.heap.size ≤ T2 by first | omega | (have := unhide HBA; omega)) (.int .i64 (f + x)))
  have Kp_5 := hide (keep_set (g := T2) (o := 0) (v := .int .i64 (f + x)) (unhide Kp_4) (by omega))
  have Kq_5 := hide (keep_set (g := T2) (o := 0) (v := .int .i64 (f + x)) (unhide Kq_4) (by omega))
  have Kg_5 := hide (keep_set (g := T2) (o := 0) (v := .int .i64 (f + x)) (unhide Kg_4) (by omega))
  have Kf_5 := hide (keep_set (g := T2) (o := 0) (v := .int .i64 (f + x)) (unhide Kf_4) (by omega))
  have Kt_5 := hide (set2b (i := 0) (y := .int .i64 (f + x)) (unhide Kt_4))
  have Ol_5 := hide ((unhide Ol_4).keep (fun k hk => Below.heap_setCell W4 ⟨T2, 0, none⟩ (.int .i64 (f + x)) k (by have := Own.ne (unhide Ol_4) (unhide Kt_4) (by decide) k hk; simpa using this)))
  obtain ⟨W5, eW5⟩ : ∃ X, W4.setCell ⟨T2, 0, none⟩ (.int .i64 (f + x)) = X := ⟨_, rfl⟩
  rw [eW5] at HX_5 Kp_5 Kq_5 Kg_5 Kf_5 Kt_5 Ol_5 ⊢
  clear eW5 HX_4 Kp_4 Kq_4 Kg_4 Kf_4 Kt_4 Ol_4
  simp only [List.setIfInBounds_toArray, List.set_cons_zero] at Kt_5
  have HNT : Hid (∀ k, (Value.slice b1 n d1).ownBlock = some k → k ≠ T2) := fun k hk => Own.ne (unhide Ol_5) (unhide Kt_5) (by decide) k hk
  have HNQ : Hid (∀ k, (Value.slice b1 n d1).ownBlock = some k → k ≠ w.heap.size + 1) := fun k hk => Own.ne (unhide Ol_5) (unhide Kq_5) (by decide) k hk
  have HNG : Hid (∀ k, (Value.slice b1 n d1).ownBlock = some k → k ≠ w.heap.size + 1 + 1) := fun k hk => Own.ne (unhide Ol_5) (unhide Kg_5) (by decide) k hk
  have HNB : Hid (∀ k, (Value.slice b1 n d1).ownBlock = some k → w.heap.size ≤ k) := fun k hk => Nat.le_trans (unhide HB3) ((unhide Ol_5).lt k hk).1
  have HA6 := hide (unhide HGV W5 _ _ (unhide Ol_5).isl)
  clear Ol_5 HGV
  obtain ⟨ob, eob⟩ : ∃ o, (Value.slice b1 n d1).ownBlock = o := ⟨_, rfl⟩
  rw [eob] at HNT HNQ HNG HNB HA6
  clear eob
  obtain ⟨B5, eB5⟩ : ∃ X, W5.heap.size = X := ⟨_, rfl⟩
  have HB5 : Hid (w.heap.size ≤ B5) := by have := (unhide HX_5).size; rw [eB5] at this; exact this
  have HBT5 : Hid (T2 < B5) := by have := size_of (unhide Kt_5); rw [eB5] at this; exact this
  obtain ⟨t0, t1, tf0, tf1, tl⟩ := block2 (unhide Kt_5)
  go_upto_region 7 with (go_at_call 43; refine (unhide HA6).mono ?_; rintro e w7 ⟨b3, d3, b4, d4, rfl, ha7, ho7, hb7⟩; have HA7 := hide ha7; have HO7 := ho7; rw [eB5] at HO7; have HO8 := hide HO7; have HX_6 := hide (Below.next (unhide HX_5) hb7 (by first | exact Nat.le_refl _ | (have := unhide HBA; omega))); have Kp_6 := hide (keep_below (unhide Kp_5) hb7); have Kq_6 := hide (keep_below (unhide Kq_5) hb7); have Kg_6 := hide (keep_below (unhide Kg_5) hb7); have Kf_6 := hide (keep_below (unhide Kf_5) hb7); have Kt_6 := hide (keep_below (unhide Kt_5) hb7); clear HX_5 Kp_5 Kq_5 Kg_5 Kf_5 Kt_5; clear HO7 ha7 ho7 hb7 HA6 t0 t1 tf0 tf1 tl; obtain ⟨t0, t1, tf0, tf1, tl⟩ := block2 (unhide Kt_6))
  clear t0 t1 tf0 tf1 tl eB5
  have HX_7 := hide (put2_below (y0 := .int .i64 f2) (y1 := .slice b3 n2 d3) (unhide HX_6) (show w.heap.size ≤ T2 by first | omega | (have := unhide HBA; omega)))
  have Kp_7 := hide ((put2_keep (y0 := .int .i64 f2) (y1 := .slice b3 n2 d3) (show w.heap.size ≠ T2 by omega)).trans (unhide Kp_6))
  have Kq_7 := hide ((put2_keep (y0 := .int .i64 f2) (y1 := .slice b3 n2 d3) (show w.heap.size + 1 ≠ T2 by omega)).trans (unhide Kq_6))
  have Kg_7 := hide ((put2_keep (y0 := .int .i64 f2) (y1 := .slice b3 n2 d3) (show w.heap.size + 1 + 1 ≠ T2 by omega)).trans (unhide Kg_6))
  have Kf_7 := hide ((put2_keep (y0 := .int .i64 f2) (y1 := .slice b3 n2 d3) (show T ≠ T2 by omega)).trans (unhide Kf_6))
  have Kt_7 := hide (put2_new (y0 := .int .i64 f2) (y1 := .slice b3 n2 d3) (unhide Kt_6))
  have Ow_7 := hide ((unhide HO8).keep (fun k hk => put2_keep (y0 := .int .i64 f2) (y1 := .slice b3 n2 d3) (Own.ne (unhide HO8) (unhide Kt_6) (by decide) k hk)))
  have FA_7 := hide ((unhide HA7).keep kp (fun k hk => put2_keep (y0 := .int .i64 f2) (y1 := .slice b3 n2 d3) (unhide HNT k hk)))
  obtain ⟨W8, eW8⟩ : ∃ X, put2 w7 (T2) (.int .i64 f2) (.slice b3 n2 d3) = X := ⟨_, rfl⟩
  rw [eW8] at HX_7 Kp_7 Kq_7 Kg_7 Kf_7 Kt_7 Ow_7 FA_7
  have eW82 : ((w7).setCell ⟨T2, 0, none⟩ (.int .i64 f2)).setCell ⟨T2, 1, none⟩ (.slice b3 n2 d3) = W8 := eW8
  rw [eW82]
  clear eW8 eW82 HX_6 Kp_6 Kq_6 Kg_6 Kf_6 Kt_6 HO8 HA7
  obtain ⟨t0, t1, tf0, tf1, tl⟩ := block2 (unhide Kt_7)
  obtain ⟨q0, q1, qf0, qf1, ql⟩ := block2 (unhide Kq_7)
  obtain ⟨g0, g1, gf0, gf1, gl⟩ := block2 (unhide Kg_7)
  go_wp2_with fail
  clear t0 t1 tf0 tf1 tl q0 q1 qf0 qf1 ql g0 g1 gf0 gf1 gl
  have HX_8 := hide (put2_below (y0 := .int .i64 f2) (y1 := .slice b3 n2 d3) (unhide HX_7) (show w.heap.size ≤ w.heap.size + 1 by first | omega | (have := unhide HBA; omega)))
  have Kp_8 := hide ((put2_keep (y0 := .int .i64 f2) (y1 := .slice b3 n2 d3) (show w.heap.size ≠ w.heap.size + 1 by omega)).trans (unhide Kp_7))
  have Kq_8 := hide (put2_new (y0 := .int .i64 f2) (y1 := .slice b3 n2 d3) (unhide Kq_7))
  have Kg_8 := hide ((put2_keep (y0 := .int .i64 f2) (y1 := .slice b3 n2 d3) (show w.heap.size + 1 + 1 ≠ w.heap.size + 1 by omega)).trans (unhide Kg_7))
  have Kf_8 := hide ((put2_keep (y0 := .int .i64 f2) (y1 := .slice b3 n2 d3) (show T ≠ w.heap.size + 1 by omega)).trans (unhide Kf_7))
  have Kt_8 := hide ((put2_keep (y0 := .int .i64 f2) (y1 := .slice b3 n2 d3) (show T2 ≠ w.heap.size + 1 by omega)).trans (unhide Kt_7))
  have Ow_8 := hide ((unhide Ow_7).keep (fun k hk => put2_keep (y0 := .int .i64 f2) (y1 := .slice b3 n2 d3) (Own.ne (unhide Ow_7) (unhide Kq_7) (by decide) k hk)))
  have FA_8 := hide ((unhide FA_7).keep kp (fun k hk => put2_keep (y0 := .int .i64 f2) (y1 := .slice b3 n2 d3) (unhide HNQ k hk)))
  obtain ⟨V1, eV1⟩ : ∃ X, put2 W8 (w.heap.size + 1) (.int .i64 f2) (.slice b3 n2 d3) = X := ⟨_, rfl⟩
  rw [eV1] at HX_8 Kp_8 Kq_8 Kg_8 Kf_8 Kt_8 Ow_8 FA_8
  have eV12 : ((W8).setCell ⟨w.heap.size + 1, 0, none⟩ (.int .i64 f2)).setCell ⟨w.heap.size + 1, 1, none⟩ (.slice b3 n2 d3) = V1 := eV1
  rw [eV12]
  clear eV1 eV12 HX_7 Kp_7 Kq_7 Kg_7 Kf_7 Kt_7 Ow_7 FA_7
  have HX_9 := hide (put2_below (y0 := .int .i64 0) (y1 := .int .i64 0) (unhide HX_8) (show w.heap.size ≤ w.heap.size + 1 + 1 by first | omega | (have := unhide HBA; omega)))
  have Kp_9 := hide ((put2_keep (y0 := .int .i64 0) (y1 := .int .i64 0) (show w.heap.size ≠ w.heap.size + 1 + 1 by omega)).trans (unhide Kp_8))
  have Kq_9 := hide ((put2_keep (y0 := .int .i64 0) (y1 := .int .i64 0) (show w.heap.size + 1 ≠ w.heap.size + 1 + 1 by omega)).trans (unhide Kq_8))
  have Kg_9 := hide (put2_new (y0 := .int .i64 0) (y1 := .int .i64 0) (unhide Kg_8))
  have Kf_9 := hide ((put2_keep (y0 := .int .i64 0) (y1 := .int .i64 0) (show T ≠ w.heap.size + 1 + 1 by omega)).trans (unhide Kf_8))
  have Kt_9 := hide ((put2_keep (y0 := .int .i64 0) (y1 := .int .i64 0) (show T2 ≠ w.heap.size + 1 + 1 by omega)).trans (unhide Kt_8))
  have Ow_9 := hide ((unhide Ow_8).keep (fun k hk => put2_keep (y0 := .int .i64 0) (y1 := .int .i64 0) (Own.ne (unhide Ow_8) (unhide Kg_8) (by decide) k hk)))
  have FA_9 := hide ((unhide FA_8).keep kp (fun k hk => put2_keep (y0 := .int .i64 0) (y1 := .int .i64 0) (unhide HNG k hk)))
  obtain ⟨V2, eV2⟩ : ∃ X, put2 V1 (w.heap.size + 1 + 1) (.int .i64 0) (.int .i64 0) = X := ⟨_, rfl⟩
  rw [eV2] at HX_9 Kp_9 Kq_9 Kg_9 Kf_9 Kt_9 Ow_9 FA_9
  have eV22 : ((V1).setCell ⟨w.heap.size + 1 + 1, 0, none⟩ (.int .i64 0)).setCell ⟨w.heap.size + 1 + 1, 1, none⟩ (.int .i64 0) = V2 := eV2
  rw [eV22]
  clear eV2 eV22 HX_8 Kp_8 Kq_8 Kg_8 Kf_8 Kt_8 Ow_8 FA_8
  obtain ⟨q0, q1, qf0, qf1, ql⟩ := block2 (unhide Kq_9)
  obtain ⟨g0, g1, gf0, gf1, gl⟩ := block2 (unhide Kg_9)
  exact bodyPost_ret (v := .tuple #[.agg #[.int .i64 f2, .slice b3 n2 d3], .slice b4 n3 d4, .agg #[.int .i64 0, .int .i64 0]]) (by simp [results, Try.results25, go_sem, q0, q1, g0, g1]) rfl ⟨.agg #[.int .i64 f2, .slice b3 n2 d3], .slice b4 n3 d4, rfl, ⟨_, rfl, (unhide FA_9).new (unhide HNB)⟩, ((unhide Ow_9).base (unhide HB5)).new, unhide HX_9⟩
end Go.Proofs.Ytpogcfdmkeebmaa
