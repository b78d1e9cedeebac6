/-
  sync.Acquire.
-/
import Derived.Test.YtpogcfdmkeebmaaQ
import Derived.Test.YtpogcfdmkeebmaaDb
namespace Go.Proofs.Ytpogcfdmkeebmaa
open Go.RowKit

theorem deleteOf_any (w : World) (base : Nat) (v : Value) (xs : List Po) (h : Own KP base w v xs) (hn : xs.length ≤ maxLen) (g : Nat) (x : Int) (hg : w.heap[g]? = some (.cells #[.int .i64 x] 3 (0, 0))) :
    Calls Try.prog 45 #[v, .func (.func 56) #[] #[.pointer (some ⟨g, 0, none⟩)]] w fun e w' => ∃ a m c, e = .returned (.slice a m c) ∧ m = (leftL (isOfP x) xs).length ∧ Own KP base w' (.slice a m c) (leftL (isOfP x) xs) ∧ (Value.slice a m c).ownBlock = v.ownBlock ∧ w.grownBy w' v.ownBlock :=
  deleteFunc_any w base v xs h hn 56 enters_isOf _ (isOfP x) (fun W y hW => isof1_any W g x y.1 y.2.1 y.2.2 (keep_grown hg hW (fun j hj => Own.ne h hg (by decide) j hj)))
theorem left_snoc {l : List Po} {x u : Int} (h : l.any (isOfP x) = false) : leftL (isOfP x) (l ++ [(x, false, u)]) = l := by
  have e : leftL (isOfP x) (l ++ [(x, false, u)]) = leftL (isOfP x) l ++ leftL (isOfP x) [(x, false, u)] := List.filter_append ..
  rw [e, left_none h]
  simp [leftL, isOfP]
/-- A semaphore behind an Acquire that nothing is wrong with; whether the task got what it wants. -/
def acqR (f : Int) (l : List Po) (x u : Int) (try_ : Bool) : (Int × List Po) × Bool := if lets f (l ++ [(x, false, u)]) = true then ((f - u, []), true) else if try_ = true then ((f, l), false) else ((f, l ++ [(x, false, u)]), false)
theorem lets_snoc {f : Int} {l : List Po} {p : Po} (h : lets f l = false) (hl : lets f (l ++ [p]) = true) : l = [] := by
  cases l with
  | nil => rfl
  | cons x l =>
    have : lets f (x :: l ++ [p]) = lets f (x :: l) := rfl
    rw [this, h] at hl
    cases hl

set_option maxRecDepth 100000 in
set_option maxHeartbeats 2000000 in
theorem acquire_fault (w : World) (v : Value) (f : Int) (line : List Po) (x u : Int) (try_ : Bool) (h : IsG KP w v f line) (hn : line.length ≤ maxLen) (hf : (acqF f line x u).1 ≠ 0) :
    Calls Try.prog 24 #[v, .int .i64 x, .int .i64 u, .bool try_] w fun e w' => e = .returned (.tuple #[.agg #[.int .i64 0, .slice none 0 0], .bool false, faultV (acqF f line x u)]) ∧ Below w.heap.size w w' := by
  have HC : Hid (∀ W, Below w.heap.size w W → Calls Try.prog 41 #[v, .int .i64 x, .int .i64 u] W fun e w' => e = .returned (faultV (acqF f line x u)) ∧ Below W.heap.size W w') := fun W hW => checkAcquire_any W v f line x u (h.below hW) hn
  obtain ⟨⟨F0, F1⟩, eF⟩ : ∃ F, acqF f line x u = F := ⟨_, rfl⟩
  rw [eF] at HC hf ⊢
  obtain ⟨a0, c0, rfl, hL⟩ := h.form
  generalize line.length = n at *
  have x0 : (F0 != 0) = true := by simpa using hf
  clear h hL eF hf hn
  obtain ⟨W0, e0, hB, k0, k1, k2⟩ := three_new w (.cells #[.int .i64 f, .slice a0 n c0] 51) (.cells #[.int .i64 0, .slice none 0 0] 51) (.cells #[.int .i64 0, .int .i64 0] 29)
  have HX := hide hB; have HP := hide k0; have HQ := hide k1; have HG := hide k2; have HE := hide e0
  clear hB k0 k1 k2 e0
  go_enter Try.func24, Try.ntmps24
  go_upto_region 1 with fail
  rw [unhide HE]
  clear HE
  obtain ⟨p0, p1, pf0, pf1, pl⟩ := block2 (unhide HP)
  go_upto_region 2 with (go_at_call 41; refine (unhide HC _ (unhide HX)).mono ?_; rintro e w1 ⟨he, hb1⟩; obtain rfl : e = .returned (.agg #[.int .i64 F0, .int .i64 F1]) := he; have HX_1 := hide (Below.next (unhide HX) hb1 (by first | exact Nat.le_refl _ | (have := unhide HBA; omega))); have Kp_1 := hide (keep_below (unhide HP) hb1); have Kq_1 := hide (keep_below (unhide HQ) hb1); have Kg_1 := hide (keep_below (unhide HG) hb1); clear HX HP HQ HG; clear hb1 p0 p1 pf0 pf1 pl)
  have HX_2 := hide ((unhide HX_1).alloc (Nat.le_trans (show w.heap.size ≤ w.heap.size from Nat.le_refl _) (unhide HX_1).size) (.cells #[.int .i64 F0, .int .i64 F1] 29))
  have Kp_2 := hide (keep_alloc (unhide Kp_1) (.cells #[.int .i64 F0, .int .i64 F1] 29))
  have Kq_2 := hide (keep_alloc (unhide Kq_1) (.cells #[.int .i64 F0, .int .i64 F1] 29))
  have Kg_2 := hide (keep_alloc (unhide Kg_1) (.cells #[.int .i64 F0, .int .i64 F1] 29))
  have Kf_2 := hide (new_block w1 (.cells #[.int .i64 F0, .int .i64 F1] 29))
  have hlp_f : w.heap.size < w1.heap.size := size_of (unhide Kp_1)
  have hlq_f : w.heap.size + 1 < w1.heap.size := size_of (unhide Kq_1)
  have hlg_f : w.heap.size + 1 + 1 < w1.heap.size := size_of (unhide Kg_1)
  obtain ⟨T, eT⟩ : ∃ X, w1.heap.size = X := ⟨_, rfl⟩
  obtain ⟨W2, eW2⟩ : ∃ X, w1.alloc (.cells #[.int .i64 F0, .int .i64 F1] 29) = X := ⟨_, rfl⟩
  rw [eT, eW2] at Kf_2; rw [eW2] at HX_2 Kp_2 Kq_2 Kg_2; rw [eT] at hlp_f hlq_f hlg_f; rw [eT, eW2]
  clear eT eW2 HX_1 Kp_1 Kq_1 Kg_1
  have hqt : w.heap.size + 1 + 1 < T := by omega
  obtain ⟨q0, q1, qf0, qf1, ql⟩ := block2 (unhide Kq_2)
  obtain ⟨g0, g1, gf0, gf1, gl⟩ := block2 (unhide Kg_2)
  obtain ⟨f0, f1, ff0, ff1, fl⟩ := block2 (unhide Kf_2)
  have u1_ : w.heap.size + 1 ≠ T := by omega
  have u2_ : w.heap.size + 1 + 1 ≠ T := by omega
  have u3_ : T ≠ w.heap.size + 1 := by omega
  have u4_ : T ≠ w.heap.size + 1 + 1 := by omega
  go_wp2_with fail
  go_region
  clear q0 q1 qf0 qf1 ql g0 g1 gf0 gf1 gl f0 f1 ff0 ff1 fl
  have HX_3 := hide (put2_below (y0 := .int .i64 0) (y1 := .slice none 0 0) (unhide HX_2) (show w.heap.size ≤ w.heap.size + 1 by first | omega | (have := unhide HBA; omega)))
  have Kp_3 := hide ((put2_keep (y0 := .int .i64 0) (y1 := .slice none 0 0) (show w.heap.size ≠ w.heap.size + 1 by omega)).trans (unhide Kp_2))
  have Kq_3 := hide (put2_new (y0 := .int .i64 0) (y1 := .slice none 0 0) (unhide Kq_2))
  have Kg_3 := hide ((put2_keep (y0 := .int .i64 0) (y1 := .slice none 0 0) (show w.heap.size + 1 + 1 ≠ w.heap.size + 1 by omega)).trans (unhide Kg_2))
  have Kf_3 := hide ((put2_keep (y0 := .int .i64 0) (y1 := .slice none 0 0) (show T ≠ w.heap.size + 1 by omega)).trans (unhide Kf_2))
  obtain ⟨V1, eV1⟩ : ∃ X, put2 W2 (w.heap.size + 1) (.int .i64 0) (.slice none 0 0) = X := ⟨_, rfl⟩
  rw [eV1] at HX_3 Kp_3 Kq_3 Kg_3 Kf_3
  have eV12 : ((W2).setCell ⟨w.heap.size + 1, 0, none⟩ (.int .i64 0)).setCell ⟨w.heap.size + 1, 1, none⟩ (.slice none 0 0) = V1 := eV1
  rw [eV12]
  clear eV1 eV12 HX_2 Kp_2 Kq_2 Kg_2 Kf_2
  have HX_4 := hide (put2_below (y0 := .int .i64 F0) (y1 := .int .i64 F1) (unhide HX_3) (show w.heap.size ≤ w.heap.size + 1 + 1 by first | omega | (have := unhide HBA; omega)))
  have Kp_4 := hide ((put2_keep (y0 := .int .i64 F0) (y1 := .int .i64 F1) (show w.heap.size ≠ w.heap.size + 1 + 1 by omega)).trans (unhide Kp_3))
  have Kq_4 := hide ((put2_keep (y0 := .int .i64 F0) (y1 := .int .i64 F1) (show w.heap.size + 1 ≠ w.heap.size + 1 + 1 by omega)).trans (unhide Kq_3))
  have Kg_4 := hide (put2_new (y0 := .int .i64 F0) (y1 := .int .i64 F1) (unhide Kg_3))
  have Kf_4 := hide ((put2_keep (y0 := .int .i64 F0) (y1 := .int .i64 F1) (show T ≠ w.heap.size + 1 + 1 by omega)).trans (unhide Kf_3))
  obtain ⟨V2, eV2⟩ : ∃ X, put2 V1 (w.heap.size + 1 + 1) (.int .i64 F0) (.int .i64 F1) = X := ⟨_, rfl⟩
  rw [eV2] at HX_4 Kp_4 Kq_4 Kg_4 Kf_4
  have eV22 : ((V1).setCell ⟨w.heap.size + 1 + 1, 0, none⟩ (.int .i64 F0)).setCell ⟨w.heap.size + 1 + 1, 1, none⟩ (.int .i64 F1) = V2 := eV2
  rw [eV22]
  clear eV2 eV22 HX_3 Kp_3 Kq_3 Kg_3 Kf_3
  have hV3 : Below V2.heap.size V2 V2.drew := (Below.refl _ _).drew
  obtain ⟨V3, eV3⟩ : ∃ X, V2.drew = X := ⟨_, rfl⟩
  rw [eV3] at hV3 ⊢
  (have HX_5 := hide (Below.next (unhide HX_4) hV3 (by first | exact Nat.le_refl _ | (have := unhide HBA; omega))); have Kp_5 := hide (keep_below (unhide Kp_4) hV3); have Kq_5 := hide (keep_below (unhide Kq_4) hV3); have Kg_5 := hide (keep_below (unhide Kg_4) hV3); have Kf_5 := hide (keep_below (unhide Kf_4) hV3); clear HX_4 Kp_4 Kq_4 Kg_4 Kf_4)
  clear hV3 eV3
  obtain ⟨q0, q1, qf0, qf1, ql⟩ := block2 (unhide Kq_5)
  obtain ⟨g0, g1, gf0, gf1, gl⟩ := block2 (unhide Kg_5)
  go_wp2_with fail
  exact bodyPost_ret (v := .tuple #[.agg #[.int .i64 0, .slice none 0 0], .bool false, .agg #[.int .i64 F0, .int .i64 F1]]) (by simp [results, Try.results24, go_sem, q0, q1, g0, g1]) rfl ⟨rfl, unhide HX_5⟩

set_option maxRecDepth 100000 in
set_option maxHeartbeats 4000000 in
theorem acquire_got (w : World) (v : Value) (f : Int) (line : List Po) (x u : Int) (try_ : Bool) (h : IsG KP w v f line) (hf : (acqF f line x u).1 = 0) (hlet : lets f (line ++ [(x, false, u)]) = true) :
    Calls Try.prog 24 #[v, .int .i64 x, .int .i64 u, .bool try_] w fun e w' => ∃ v1, e = .returned (.tuple #[v1, .bool true, .agg #[.int .i64 0, .int .i64 0]]) ∧ NewG KP w.heap.size w' v1 (f - u) [] ∧ Below w.heap.size w w' := by
  obtain ⟨hg, hz, hx1, hu1, hu2, hany, hl5⟩ := acqF_good hf
  obtain ⟨-, hl, hf0, hf1, hno, -⟩ := semaF_good hg
  have HC : Hid (∀ W, Below w.heap.size w W → Calls Try.prog 41 #[v, .int .i64 x, .int .i64 u] W fun e w' => e = .returned (faultV (0, 0)) ∧ Below W.heap.size W w') := fun W hW => by
    have := checkAcquire_any W v f line x u (h.below hW) (by unfold maxLen; omega)
    rw [hz] at this
    exact this
  have HFR : Hid (∀ W, Below w.heap.size w W → Calls Try.prog 42 #[v] W fun e w' => ∃ a c, e = .returned (.agg #[.int .i64 f, .slice a line.length c]) ∧ Own KP W.heap.size w' (.slice a line.length c) line ∧ Below W.heap.size W w') := fun W hW => (freshSema_any W v f line (h.below hW) (by omega)).mono fun e w' ⟨v', h1, h2, h3⟩ => by
    obtain ⟨a, c, rfl, h4⟩ := h2.form
    exact ⟨a, c, h1, h4, h3⟩
  have hQ : giveR f (line ++ [(x, false, u)]) = ((f - u, []), [x]) := by
    have e0 := lets_snoc hno hlet
    subst e0
    have hlet2 : lets f [(x, false, u)] = true := hlet
    show giveR f [(x, false, u)] = _
    rw [giveR_go hlet2]
    rfl
  have hu0 : ∀ y ∈ line ++ [(x, false, u)], 0 ≤ y.2.2 := by
    have e0 := lets_snoc hno hlet
    subst e0
    intro y hy
    have hy2 : y = (x, false, u) := by simpa using hy
    subst hy2
    show 0 ≤ u
    omega
  have HGV : Hid (∀ W a c, IsL KP W (.slice a (line.length + 1) c) (line ++ [(x, false, u)]) → Calls Try.prog 43 #[.agg #[.int .i64 f, .slice a (line.length + 1) c]] W fun e w' => ∃ a1 c1 a2 c2, e = .returned (.tuple #[.agg #[.int .i64 (f - u), .slice a1 0 c1], .slice a2 1 c2]) ∧ At KP (Value.slice a (line.length + 1) c).ownBlock w' (.slice a1 0 c1) [] ∧ Own KI W.heap.size w' (.slice a2 1 c2) [x] ∧ Below W.heap.size W w') := fun W a c hW => (given_any W _ _ f (line ++ [(x, false, u)]) ⟨_, rfl, at_own hW⟩ (by omega) (by omega) hu0 (by simp; omega)).mono fun e w' ⟨v1, v2, h1, h2, h3, h4⟩ => by
    rw [hQ] at h2 h3
    obtain ⟨a1, c1, rfl, h5⟩ := h2.form
    obtain ⟨a2, c2, rfl⟩ := h3.form
    exact ⟨a1, c1, a2, c2, h1, h5, h3, h4⟩
  have HWT : Hid (∀ W a c, IsL KI W (.slice a 1 c) [x] → Calls Try.prog 44 #[.slice a 1 c, .int .i64 x] W fun e w' => e = .returned (.bool true) ∧ w' = W) := fun W a c hW => by
    have := waits_any W _ [x] x hW (by simp [maxLen])
    simpa using this
  obtain ⟨a0, c0, rfl, hL⟩ := h.form
  obtain ⟨n, en⟩ : ∃ n, line.length = n := ⟨_, rfl⟩
  rw [en] at HFR HC HGV hl hl5 ⊢
  have HEN := hide en
  clear h hL hf hg hz hany hno hlet hQ hu0 en
  obtain ⟨W0, e0, hB, k0, k1, k2⟩ := three_new w (.cells #[.int .i64 f, .slice a0 n c0] 51) (.cells #[.int .i64 0, .slice none 0 0] 51) (.cells #[.int .i64 0, .int .i64 0] 29)
  have HX := hide hB; have HP := hide k0; have HQ := hide k1; have HG := hide k2; have HE := hide e0
  clear hB k0 k1 k2 e0
  go_enter Try.func24, Try.ntmps24
  go_upto_region 1 with fail
  rw [unhide HE]
  clear HE
  obtain ⟨p0, p1, pf0, pf1, pl⟩ := block2 (unhide HP)
  go_upto_region 2 with (go_at_call 41; refine (unhide HC _ (unhide HX)).mono ?_; rintro e w1 ⟨he, hb1⟩; obtain rfl : e = .returned (.agg #[.int .i64 0, .int .i64 0]) := he; have HX_1 := hide (Below.next (unhide HX) hb1 (by first | exact Nat.le_refl _ | (have := unhide HBA; omega))); have Kp_1 := hide (keep_below (unhide HP) hb1); have Kq_1 := hide (keep_below (unhide HQ) hb1); have Kg_1 := hide (keep_below (unhide HG) hb1); clear HX HP HQ HG; clear hb1 p0 p1 pf0 pf1 pl)
  have HX_2 := hide ((unhide HX_1).alloc (Nat.le_trans (show w.heap.size ≤ w.heap.size from Nat.le_refl _) (unhide HX_1).size) (.cells #[.int .i64 0, .int .i64 0] 29))
  have Kp_2 := hide (keep_alloc (unhide Kp_1) (.cells #[.int .i64 0, .int .i64 0] 29))
  have Kq_2 := hide (keep_alloc (unhide Kq_1) (.cells #[.int .i64 0, .int .i64 0] 29))
  have Kg_2 := hide (keep_alloc (unhide Kg_1) (.cells #[.int .i64 0, .int .i64 0] 29))
  have Kf_2 := hide (new_block w1 (.cells #[.int .i64 0, .int .i64 0] 29))
  have hlp_f : w.heap.size < w1.heap.size := size_of (unhide Kp_1)
  have hlq_f : w.heap.size + 1 < w1.heap.size := size_of (unhide Kq_1)
  have hlg_f : w.heap.size + 1 + 1 < w1.heap.size := size_of (unhide Kg_1)
  obtain ⟨T, eT⟩ : ∃ X, w1.heap.size = X := ⟨_, rfl⟩
  obtain ⟨W2, eW2⟩ : ∃ X, w1.alloc (.cells #[.int .i64 0, .int .i64 0] 29) = X := ⟨_, rfl⟩
  rw [eT, eW2] at Kf_2; rw [eW2] at HX_2 Kp_2 Kq_2 Kg_2; rw [eT] at hlp_f hlq_f hlg_f; rw [eT, eW2]
  clear eT eW2 HX_1 Kp_1 Kq_1 Kg_1
  have hqt : w.heap.size + 1 + 1 < T := by omega
  obtain ⟨p0, p1, pf0, pf1, pl⟩ := block2 (unhide Kp_2)
  obtain ⟨f0, f1, ff0, ff1, fl⟩ := block2 (unhide Kf_2)
  obtain ⟨B3, eB3⟩ : ∃ X, W2.heap.size = X := ⟨_, rfl⟩
  have HB3 : Hid (w.heap.size ≤ B3) := by have := (unhide HX_2).size; rw [eB3] at this; exact this
  have HBT : Hid (T < B3) := by have := size_of (unhide Kf_2); rw [eB3] at this; exact this
  have HF3 := unhide HFR W2 (unhide HX_2)
  rw [eB3] at HF3
  have HFR3 := hide HF3
  clear HF3
  go_upto_region 5 with (go_at_call 42; refine (unhide HFR3).mono ?_; rintro e w3 ⟨b1, d1, rfl, ho3, hb3⟩; have HO3 := hide ho3; rw [← eB3] at hb3; have hb3s : B3 ≤ w3.heap.size := (by rw [← eB3]; exact hb3.size); have HX_3 := hide (Below.next (unhide HX_2) hb3 (by first | exact Nat.le_refl _ | (have := unhide HBA; omega))); have Kp_3 := hide (keep_below (unhide Kp_2) hb3); have Kq_3 := hide (keep_below (unhide Kq_2) hb3); have Kg_3 := hide (keep_below (unhide Kg_2) hb3); have Kf_3 := hide (keep_below (unhide Kf_2) hb3); clear HX_2 Kp_2 Kq_2 Kg_2 Kf_2; clear hb3 ho3 HFR3 p0 p1 pf0 pf1 pl f0 f1 ff0 ff1 fl)
  clear eB3
  have HX_4 := hide ((unhide HX_3).alloc (Nat.le_trans (show w.heap.size ≤ w.heap.size from Nat.le_refl _) (unhide HX_3).size) (.cells #[.int .i64 f, .slice b1 n d1] 51))
  have Kp_4 := hide (keep_alloc (unhide Kp_3) (.cells #[.int .i64 f, .slice b1 n d1] 51))
  have Kq_4 := hide (keep_alloc (unhide Kq_3) (.cells #[.int .i64 f, .slice b1 n d1] 51))
  have Kg_4 := hide (keep_alloc (unhide Kg_3) (.cells #[.int .i64 f, .slice b1 n d1] 51))
  have Kf_4 := hide (keep_alloc (unhide Kf_3) (.cells #[.int .i64 f, .slice b1 n d1] 51))
  have Ol_4 := hide ((unhide HO3).below ((Below.refl _ _).alloc (Nat.le_refl _) (.cells #[.int .i64 f, .slice b1 n d1] 51)))
  have Kt_4 := hide (new_block w3 (.cells #[.int .i64 f, .slice b1 n d1] 51))
  have hlp_t : w.heap.size < w3.heap.size := size_of (unhide Kp_3)
  have hlq_t : w.heap.size + 1 < w3.heap.size := size_of (unhide Kq_3)
  have hlg_t : w.heap.size + 1 + 1 < w3.heap.size := size_of (unhide Kg_3)
  have hlf_t : T < w3.heap.size := size_of (unhide Kf_3)
  obtain ⟨T2, eT2⟩ : ∃ X, w3.heap.size = X := ⟨_, rfl⟩
  obtain ⟨W4, eW4⟩ : ∃ X, w3.alloc (.cells #[.int .i64 f, .slice b1 n d1] 51) = X := ⟨_, rfl⟩
  rw [eT2, eW4] at Kt_4; rw [eW4] at HX_4 Kp_4 Kq_4 Kg_4 Kf_4 Ol_4; rw [eT2] at hlp_t hlq_t hlg_t hlf_t hb3s; rw [eT2, eW4]
  clear eT2 eW4 HX_3 Kp_3 Kq_3 Kg_3 Kf_3 HO3
  obtain ⟨t0, t1, tf0, tf1, tl⟩ := block2 (unhide Kt_4)
  have HI1 := hide (isl_one kp W4 (x, false, u))
  have HO5 := hide ((unhide Ol_4).below ((Below.refl _ _).alloc (Nat.le_refl _) (.cells #[.int .i64 x, .bool false, .int .i64 u] 63)))
  have HBZ := hide hb3s
  clear hb3s
  go_upto_region 6 with (at_builtin; refine wpList_append kp rfl (.tmp 27) (.tmp 31) rfl B3 _ line rfl (unhide HO5) _ [(x, false, u)] rfl (unhide HI1) (n + 1) (by simp [unhide HEN]) (by simp [KP]; omega) (by have h5 := unhide HBZ; have h3 := size_of (unhide Kt_4); rw [World.size_alloc]; omega) ?_; intro b2 d2 w5 ho5 hg5; have HO6 := hide ho5; have HX_5 := hide (((unhide HX_4).alloc (unhide HX_4).size (.cells #[.int .i64 x, .bool false, .int .i64 u] 63)).grown hg5 ((unhide HX_4).alloc (unhide HX_4).size (.cells #[.int .i64 x, .bool false, .int .i64 u] 63)).size (fun k hk => by have := ((unhide Ol_4).lt k hk).1; have := unhide HB3; omega)); have Kp_5 := hide (keep_grown (keep_alloc (unhide Kp_4) (.cells #[.int .i64 x, .bool false, .int .i64 u] 63)) hg5 (fun j hj => Own.ne ((unhide Ol_4).below ((Below.refl _ _).alloc (Nat.le_refl _) (.cells #[.int .i64 x, .bool false, .int .i64 u] 63))) (keep_alloc (unhide Kp_4) (.cells #[.int .i64 x, .bool false, .int .i64 u] 63)) (by decide) j hj)); have Kq_5 := hide (keep_grown (keep_alloc (unhide Kq_4) (.cells #[.int .i64 x, .bool false, .int .i64 u] 63)) hg5 (fun j hj => Own.ne ((unhide Ol_4).below ((Below.refl _ _).alloc (Nat.le_refl _) (.cells #[.int .i64 x, .bool false, .int .i64 u] 63))) (keep_alloc (unhide Kq_4) (.cells #[.int .i64 x, .bool false, .int .i64 u] 63)) (by decide) j hj)); have Kg_5 := hide (keep_grown (keep_alloc (unhide Kg_4) (.cells #[.int .i64 x, .bool false, .int .i64 u] 63)) hg5 (fun j hj => Own.ne ((unhide Ol_4).below ((Below.refl _ _).alloc (Nat.le_refl _) (.cells #[.int .i64 x, .bool false, .int .i64 u] 63))) (keep_alloc (unhide Kg_4) (.cells #[.int .i64 x, .bool false, .int .i64 u] 63)) (by decide) j hj)); have Kf_5 := hide (keep_grown (keep_alloc (unhide Kf_4) (.cells #[.int .i64 x, .bool false, .int .i64 u] 63)) hg5 (fun j hj => Own.ne ((unhide Ol_4).below ((Below.refl _ _).alloc (Nat.le_refl _) (.cells #[.int .i64 x, .bool false, .int .i64 u] 63))) (keep_alloc (unhide Kf_4) (.cells #[.int .i64 x, .bool false, .int .i64 u] 63)) (by decide) j hj)); have Kt_5 := hide (keep_grown (keep_alloc (unhide Kt_4) (.cells #[.int .i64 x, .bool false, .int .i64 u] 63)) hg5 (fun j hj => Own.ne ((unhide Ol_4).below ((Below.refl _ _).alloc (Nat.le_refl _) (.cells #[.int .i64 x, .bool false, .int .i64 u] 63))) (keep_alloc (unhide Kt_4) (.cells #[.int .i64 x, .bool false, .int .i64 u] 63)) (by decide) j hj)); clear HX_4 Kp_4 Kq_4 Kg_4 Kf_4 Kt_4; clear ho5 hg5 t0 t1 tf0 tf1 tl; obtain ⟨t0, t1, tf0, tf1, tl⟩ := block2 (unhide Kt_5))
  clear t0 t1 tf0 tf1 tl HI1 HO5 Ol_4
  have HX_6 := hide (below_set (i := 1) (unhide HX_5) (show w.heap.size ≤ T2 by first | omega | (have := unhide HBA; omega)) (.slice b2 (n + 1) d2))
  have Kp_6 := hide (keep_set (g := T2) (o := 1) (v := .slice b2 (n + 1) d2) (unhide Kp_5) (by omega))
  have Kq_6 := hide (keep_set (g := T2) (o := 1) (v := .slice b2 (n + 1) d2) (unhide Kq_5) (by omega))
  have Kg_6 := hide (keep_set (g := T2) (o := 1) (v := .slice b2 (n + 1) d2) (unhide Kg_5) (by omega))
  have Kf_6 := hide (keep_set (g := T2) (o := 1) (v := .slice b2 (n + 1) d2) (unhide Kf_5) (by omega))
  have Kt_6 := hide (set2b (i := 1) (y := .slice b2 (n + 1) d2) (unhide Kt_5))
  have Ol_6 := hide ((unhide HO6).keep (fun k hk => Below.heap_setCell w5 ⟨T2, 1, none⟩ (.slice b2 (n + 1) d2) k (by have := Own.ne (unhide HO6) (unhide Kt_5) (by decide) k hk; simpa using this)))
  obtain ⟨W6, eW6⟩ : ∃ X, w5.setCell ⟨T2, 1, none⟩ (.slice b2 (n + 1) d2) = X := ⟨_, rfl⟩
  rw [eW6] at HX_6 Kp_6 Kq_6 Kg_6 Kf_6 Kt_6 Ol_6 ⊢
  clear eW6 HX_5 Kp_5 Kq_5 Kg_5 Kf_5 Kt_5 HO6
  simp only [List.setIfInBounds_toArray, List.set_cons_zero, List.set_cons_succ] at Kt_6
  have HNT : Hid (∀ k, (Value.slice b2 (n + 1) d2).ownBlock = some k → k ≠ T2) := fun k hk => Own.ne (unhide Ol_6) (unhide Kt_6) (by decide) k hk
  have HNQ : Hid (∀ k, (Value.slice b2 (n + 1) d2).ownBlock = some k → k ≠ w.heap.size + 1) := fun k hk => Own.ne (unhide Ol_6) (unhide Kq_6) (by decide) k hk
  have HNG : Hid (∀ k, (Value.slice b2 (n + 1) d2).ownBlock = some k → k ≠ w.heap.size + 1 + 1) := fun k hk => Own.ne (unhide Ol_6) (unhide Kg_6) (by decide) k hk
  have HNB : Hid (∀ k, (Value.slice b2 (n + 1) d2).ownBlock = some k → w.heap.size ≤ k) := fun k hk => Nat.le_trans (unhide HB3) ((unhide Ol_6).lt k hk).1
  have HA6 := hide (unhide HGV W6 _ _ (unhide Ol_6).isl)
  clear Ol_6 HGV
  obtain ⟨ob, eob⟩ : ∃ o, (Value.slice b2 (n + 1) d2).ownBlock = o := ⟨_, rfl⟩
  rw [eob] at HNT HNQ HNG HNB HA6
  clear eob
  obtain ⟨t0, t1, tf0, tf1, tl⟩ := block2 (unhide Kt_6)
  go_upto_region 7 with (go_at_call 43; refine (unhide HA6).mono ?_; rintro e w7 ⟨b3, d3, b4, d4, rfl, ha7, hi7, hb7⟩; have HA7 := hide ha7; have HI7 := hide hi7; have HX_7 := hide (Below.next (unhide HX_6) hb7 (by first | exact Nat.le_refl _ | (have := unhide HBA; omega))); have Kp_7 := hide (keep_below (unhide Kp_6) hb7); have Kq_7 := hide (keep_below (unhide Kq_6) hb7); have Kg_7 := hide (keep_below (unhide Kg_6) hb7); have Kf_7 := hide (keep_below (unhide Kf_6) hb7); have Kt_7 := hide (keep_below (unhide Kt_6) hb7); clear HX_6 Kp_6 Kq_6 Kg_6 Kf_6 Kt_6; clear ha7 hi7 hb7 HA6 t0 t1 tf0 tf1 tl; obtain ⟨t0, t1, tf0, tf1, tl⟩ := block2 (unhide Kt_7))
  clear t0 t1 tf0 tf1 tl
  have HX_8 := hide (put2_below (y0 := .int .i64 (f - u)) (y1 := .slice b3 0 d3) (unhide HX_7) (show w.heap.size ≤ T2 by first | omega | (have := unhide HBA; omega)))
  have Kp_8 := hide ((put2_keep (y0 := .int .i64 (f - u)) (y1 := .slice b3 0 d3) (show w.heap.size ≠ T2 by omega)).trans (unhide Kp_7))
  have Kq_8 := hide ((put2_keep (y0 := .int .i64 (f - u)) (y1 := .slice b3 0 d3) (show w.heap.size + 1 ≠ T2 by omega)).trans (unhide Kq_7))
  have Kg_8 := hide ((put2_keep (y0 := .int .i64 (f - u)) (y1 := .slice b3 0 d3) (show w.heap.size + 1 + 1 ≠ T2 by omega)).trans (unhide Kg_7))
  have Kf_8 := hide ((put2_keep (y0 := .int .i64 (f - u)) (y1 := .slice b3 0 d3) (show T ≠ T2 by omega)).trans (unhide Kf_7))
  have Kt_8 := hide (put2_new (y0 := .int .i64 (f - u)) (y1 := .slice b3 0 d3) (unhide Kt_7))
  have Ow_8 := hide ((unhide HI7).keep (fun k hk => put2_keep (y0 := .int .i64 (f - u)) (y1 := .slice b3 0 d3) (Own.ne (unhide HI7) (unhide Kt_7) (by decide) k hk)))
  have FA_8 := hide ((unhide HA7).keep kp (fun k hk => put2_keep (y0 := .int .i64 (f - u)) (y1 := .slice b3 0 d3) (unhide HNT k hk)))
  obtain ⟨W8, eW8⟩ : ∃ X, put2 w7 (T2) (.int .i64 (f - u)) (.slice b3 0 d3) = X := ⟨_, rfl⟩
  rw [eW8] at HX_8 Kp_8 Kq_8 Kg_8 Kf_8 Kt_8 Ow_8 FA_8
  have eW82 : ((w7).setCell ⟨T2, 0, none⟩ (.int .i64 (f - u))).setCell ⟨T2, 1, none⟩ (.slice b3 0 d3) = W8 := eW8
  rw [eW82]
  clear eW8 eW82 HX_7 Kp_7 Kq_7 Kg_7 Kf_7 Kt_7 HI7 HA7
  have HWT8 := hide (unhide HWT W8 _ _ (unhide Ow_8).isl)
  clear HWT
  go_upto_region 8 with (go_at_call 44; refine (unhide HWT8).mono ?_; rintro e W8 ⟨rfl, rfl⟩)
  cases try_
  all_goals
    obtain ⟨t0, t1, tf0, tf1, tl⟩ := block2 (unhide Kt_8)
    obtain ⟨q0, q1, qf0, qf1, ql⟩ := block2 (unhide Kq_8)
    obtain ⟨g0, g1, gf0, gf1, gl⟩ := block2 (unhide Kg_8)
    go_wp2_with fail
    clear t0 t1 tf0 tf1 tl q0 q1 qf0 qf1 ql g0 g1 gf0 gf1 gl
    have HX_9 := hide (put2_below (y0 := .int .i64 (f - u)) (y1 := .slice b3 0 d3) (unhide HX_8) (show w.heap.size ≤ w.heap.size + 1 by first | omega | (have := unhide HBA; omega)))
    have Kp_9 := hide ((put2_keep (y0 := .int .i64 (f - u)) (y1 := .slice b3 0 d3) (show w.heap.size ≠ w.heap.size + 1 by omega)).trans (unhide Kp_8))
    have Kq_9 := hide (put2_new (y0 := .int .i64 (f - u)) (y1 := .slice b3 0 d3) (unhide Kq_8))
    have Kg_9 := hide ((put2_keep (y0 := .int .i64 (f - u)) (y1 := .slice b3 0 d3) (show w.heap.size + 1 + 1 ≠ w.heap.size + 1 by omega)).trans (unhide Kg_8))
    have Kf_9 := hide ((put2_keep (y0 := .int .i64 (f - u)) (y1 := .slice b3 0 d3) (show T ≠ w.heap.size + 1 by omega)).trans (unhide Kf_8))
    have Kt_9 := hide ((put2_keep (y0 := .int .i64 (f - u)) (y1 := .slice b3 0 d3) (show T2 ≠ w.heap.size + 1 by omega)).trans (unhide Kt_8))
    have Ow_9 := hide ((unhide Ow_8).keep (fun k hk => put2_keep (y0 := .int .i64 (f - u)) (y1 := .slice b3 0 d3) (Own.ne (unhide Ow_8) (unhide Kq_8) (by decide) k hk)))
    have FA_9 := hide ((unhide FA_8).keep kp (fun k hk => put2_keep (y0 := .int .i64 (f - u)) (y1 := .slice b3 0 d3) (unhide HNQ k hk)))
    obtain ⟨V1, eV1⟩ : ∃ X, put2 W8 (w.heap.size + 1) (.int .i64 (f - u)) (.slice b3 0 d3) = X := ⟨_, rfl⟩
    rw [eV1] at HX_9 Kp_9 Kq_9 Kg_9 Kf_9 Kt_9 Ow_9 FA_9
    have eV12 : ((W8).setCell ⟨w.heap.size + 1, 0, none⟩ (.int .i64 (f - u))).setCell ⟨w.heap.size + 1, 1, none⟩ (.slice b3 0 d3) = V1 := eV1
    rw [eV12]
    clear eV1 eV12 HX_8 Kp_8 Kq_8 Kg_8 Kf_8 Kt_8 Ow_8 FA_8
    have HX_10 := hide (put2_below (y0 := .int .i64 0) (y1 := .int .i64 0) (unhide HX_9) (show w.heap.size ≤ w.heap.size + 1 + 1 by first | omega | (have := unhide HBA; omega)))
    have Kp_10 := hide ((put2_keep (y0 := .int .i64 0) (y1 := .int .i64 0) (show w.heap.size ≠ w.heap.size + 1 + 1 by omega)).trans (unhide Kp_9))
    have Kq_10 := hide ((put2_keep (y0 := .int .i64 0) (y1 := .int .i64 0) (show w.heap.size + 1 ≠ w.heap.size + 1 + 1 by omega)).trans (unhide Kq_9))
    have Kg_10 := hide (put2_new (y0 := .int .i64 0) (y1 := .int .i64 0) (unhide Kg_9))
    have Kf_10 := hide ((put2_keep (y0 := .int .i64 0) (y1 := .int .i64 0) (show T ≠ w.heap.size + 1 + 1 by omega)).trans (unhide Kf_9))
    have Kt_10 := hide ((put2_keep (y0 := .int .i64 0) (y1 := .int .i64 0) (show T2 ≠ w.heap.size + 1 + 1 by omega)).trans (unhide Kt_9))
    have Ow_10 := hide ((unhide Ow_9).keep (fun k hk => put2_keep (y0 := .int .i64 0) (y1 := .int .i64 0) (Own.ne (unhide Ow_9) (unhide Kg_9) (by decide) k hk)))
    have FA_10 := hide ((unhide FA_9).keep kp (fun k hk => put2_keep (y0 := .int .i64 0) (y1 := .int .i64 0) (unhide HNG k hk)))
    obtain ⟨V2, eV2⟩ : ∃ X, put2 V1 (w.heap.size + 1 + 1) (.int .i64 0) (.int .i64 0) = X := ⟨_, rfl⟩
    rw [eV2] at HX_10 Kp_10 Kq_10 Kg_10 Kf_10 Kt_10 Ow_10 FA_10
    have eV22 : ((V1).setCell ⟨w.heap.size + 1 + 1, 0, none⟩ (.int .i64 0)).setCell ⟨w.heap.size + 1 + 1, 1, none⟩ (.int .i64 0) = V2 := eV2
    rw [eV22]
    clear eV2 eV22 HX_9 Kp_9 Kq_9 Kg_9 Kf_9 Kt_9 Ow_9 FA_9
    obtain ⟨q0, q1, qf0, qf1, ql⟩ := block2 (unhide Kq_10)
    obtain ⟨g0, g1, gf0, gf1, gl⟩ := block2 (unhide Kg_10)
    exact bodyPost_ret (v := .tuple #[.agg #[.int .i64 (f - u), .slice b3 0 d3], .bool true, .agg #[.int .i64 0, .int .i64 0]]) (by simp [results, Try.results24, go_sem, q0, q1, g0, g1]) rfl ⟨.agg #[.int .i64 (f - u), .slice b3 0 d3], rfl, ⟨_, rfl, (unhide FA_10).new (unhide HNB)⟩, unhide HX_10⟩

set_option maxRecDepth 100000 in
set_option maxHeartbeats 4000000 in
theorem acquire_waits (w : World) (v : Value) (f : Int) (line : List Po) (x u : Int) (h : IsG KP w v f line) (hf : (acqF f line x u).1 = 0) (hlet : lets f (line ++ [(x, false, u)]) = false) :
    Calls Try.prog 24 #[v, .int .i64 x, .int .i64 u, .bool false] w fun e w' => ∃ v1, e = .returned (.tuple #[v1, .bool false, .agg #[.int .i64 0, .int .i64 0]]) ∧ NewG KP w.heap.size w' v1 f (line ++ [(x, false, u)]) ∧ Below w.heap.size w w' := by
  obtain ⟨hg, hz, hx1, hu1, hu2, hany, hl5⟩ := acqF_good hf
  obtain ⟨-, hl, hf0, hf1, hno, -⟩ := semaF_good hg
  have HC : Hid (∀ W, Below w.heap.size w W → Calls Try.prog 41 #[v, .int .i64 x, .int .i64 u] W fun e w' => e = .returned (faultV (0, 0)) ∧ Below W.heap.size W w') := fun W hW => by
    have := checkAcquire_any W v f line x u (h.below hW) (by unfold maxLen; omega)
    rw [hz] at this
    exact this
  have HFR : Hid (∀ W, Below w.heap.size w W → Calls Try.prog 42 #[v] W fun e w' => ∃ a c, e = .returned (.agg #[.int .i64 f, .slice a line.length c]) ∧ Own KP W.heap.size w' (.slice a line.length c) line ∧ Below W.heap.size W w') := fun W hW => (freshSema_any W v f line (h.below hW) (by omega)).mono fun e w' ⟨v', h1, h2, h3⟩ => by
    obtain ⟨a, c, rfl, h4⟩ := h2.form
    exact ⟨a, c, h1, h4, h3⟩
  have HGV : Hid (∀ W a c, IsL KP W (.slice a (line.length + 1) c) (line ++ [(x, false, u)]) → Calls Try.prog 43 #[.agg #[.int .i64 f, .slice a (line.length + 1) c]] W fun e w' => e = .returned (.tuple #[.agg #[.int .i64 f, .slice a (line.length + 1) c], .slice none 0 0]) ∧ Below W.heap.size W w') := fun W a c hW => given_stay W _ f (line ++ [(x, false, u)]) ⟨_, rfl, hW⟩ hlet
  have HWT : Hid (∀ W, Calls Try.prog 44 #[.slice none 0 0, .int .i64 x] W fun e w' => e = .returned (.bool false) ∧ w' = W) := fun W => waits_any W _ [] x (isl_nil W) (by decide)
  obtain ⟨a0, c0, rfl, hL⟩ := h.form
  obtain ⟨n, en⟩ : ∃ n, line.length = n := ⟨_, rfl⟩
  rw [en] at HFR HC HGV hl hl5 ⊢
  have HEN := hide en
  clear h hL hf hg hz hany hno hlet en
  obtain ⟨W0, e0, hB, k0, k1, k2⟩ := three_new w (.cells #[.int .i64 f, .slice a0 n c0] 51) (.cells #[.int .i64 0, .slice none 0 0] 51) (.cells #[.int .i64 0, .int .i64 0] 29)
  have HX := hide hB; have HP := hide k0; have HQ := hide k1; have HG := hide k2; have HE := hide e0
  clear hB k0 k1 k2 e0
  go_enter Try.func24, Try.ntmps24
  go_upto_region 1 with fail
  rw [unhide HE]
  clear HE
  obtain ⟨p0, p1, pf0, pf1, pl⟩ := block2 (unhide HP)
  go_upto_region 2 with (go_at_call 41; refine (unhide HC _ (unhide HX)).mono ?_; rintro e w1 ⟨he, hb1⟩; obtain rfl : e = .returned (.agg #[.int .i64 0, .int .i64 0]) := he; have HX_1 := hide (Below.next (unhide HX) hb1 (by first | exact Nat.le_refl _ | (have := unhide HBA; omega))); have Kp_1 := hide (keep_below (unhide HP) hb1); have Kq_1 := hide (keep_below (unhide HQ) hb1); have Kg_1 := hide (keep_below (unhide HG) hb1); clear HX HP HQ HG; clear hb1 p0 p1 pf0 pf1 pl)
  have HX_2 := hide ((unhide HX_1).alloc (Nat.le_trans (show w.heap.size ≤ w.heap.size from Nat.le_refl _) (unhide HX_1).size) (.cells #[.int .i64 0, .int .i64 0] 29))
  have Kp_2 := hide (keep_alloc (unhide Kp_1) (.cells #[.int .i64 0, .int .i64 0] 29))
  have Kq_2 := hide (keep_alloc (unhide Kq_1) (.cells #[.int .i64 0, .int .i64 0] 29))
  have Kg_2 := hide (keep_alloc (unhide Kg_1) (.cells #[.int .i64 0, .int .i64 0] 29))
  have Kf_2 := hide (new_block w1 (.cells #[.int .i64 0, .int .i64 0] 29))
  have hlp_f : w.heap.size < w1.heap.size := size_of (unhide Kp_1)
  have hlq_f : w.heap.size + 1 < w1.heap.size := size_of (unhide Kq_1)
  have hlg_f : w.heap.size + 1 + 1 < w1.heap.size := size_of (unhide Kg_1)
  obtain ⟨T, eT⟩ : ∃ X, w1.heap.size = X := ⟨_, rfl⟩
  obtain ⟨W2, eW2⟩ : ∃ X, w1.alloc (.cells #[.int .i64 0, .int .i64 0] 29) = X := ⟨_, rfl⟩
  rw [eT, eW2] at Kf_2; rw [eW2] at HX_2 Kp_2 Kq_2 Kg_2; rw [eT] at hlp_f hlq_f hlg_f; rw [eT, eW2]
  clear eT eW2 HX_1 Kp_1 Kq_1 Kg_1
  have hqt : w.heap.size + 1 + 1 < T := by omega
  obtain ⟨p0, p1, pf0, pf1, pl⟩ := block2 (unhide Kp_2)
  obtain ⟨f0, f1, ff0, ff1, fl⟩ := block2 (unhide Kf_2)
  obtain ⟨B3, eB3⟩ : ∃ X, W2.heap.size = X := ⟨_, rfl⟩
  have HB3 : Hid (w.heap.size ≤ B3) := by have := (unhide HX_2).size; rw [eB3] at this; exact this
  have HBT : Hid (T < B3) := by have := size_of (unhide Kf_2); rw [eB3] at this; exact this
  have HF3 := unhide HFR W2 (unhide HX_2)
  rw [eB3] at HF3
  have HFR3 := hide HF3
  clear HF3
  go_upto_region 5 with (go_at_call 42; refine (unhide HFR3).mono ?_; rintro e w3 ⟨b1, d1, rfl, ho3, hb3⟩; have HO3 := hide ho3; rw [← eB3] at hb3; have hb3s : B3 ≤ w3.heap.size := (by rw [← eB3]; exact hb3.size); have HX_3 := hide (Below.next (unhide HX_2) hb3 (by first | exact Nat.le_refl _ | (have := unhide HBA; omega))); have Kp_3 := hide (keep_below (unhide Kp_2) hb3); have Kq_3 := hide (keep_below (unhide Kq_2) hb3); have Kg_3 := hide (keep_below (unhide Kg_2) hb3); have Kf_3 := hide (keep_below (unhide Kf_2) hb3); clear HX_2 Kp_2 Kq_2 Kg_2 Kf_2; clear hb3 ho3 HFR3 p0 p1 pf0 pf1 pl f0 f1 ff0 ff1 fl)
  clear eB3
  have HX_4 := hide ((unhide HX_3).alloc (Nat.le_trans (show w.heap.size ≤ w.heap.size from Nat.le_refl _) (unhide HX_3).size) (.cells #[.int .i64 f, .slice b1 n d1] 51))
  have Kp_4 := hide (keep_alloc (unhide Kp_3) (.cells #[.int .i64 f, .slice b1 n d1] 51))
  have Kq_4 := hide (keep_alloc (unhide Kq_3) (.cells #[.int .i64 f, .slice b1 n d1] 51))
  have Kg_4 := hide (keep_alloc (unhide Kg_3) (.cells #[.int .i64 f, .slice b1 n d1] 51))
  have Kf_4 := hide (keep_alloc (unhide Kf_3) (.cells #[.int .i64 f, .slice b1 n d1] 51))
  have Ol_4 := hide ((unhide HO3).below ((Below.refl _ _).alloc (Nat.le_refl _) (.cells #[.int .i64 f, .slice b1 n d1] 51)))
  have Kt_4 := hide (new_block w3 (.cells #[.int .i64 f, .slice b1 n d1] 51))
  have hlp_t : w.heap.size < w3.heap.size := size_of (unhide Kp_3)
  have hlq_t : w.heap.size + 1 < w3.heap.size := size_of (unhide Kq_3)
  have hlg_t : w.heap.size + 1 + 1 < w3.heap.size := size_of (unhide Kg_3)
  have hlf_t : T < w3.heap.size := size_of (unhide Kf_3)
  obtain ⟨T2, eT2⟩ : ∃ X, w3.heap.size = X := ⟨_, rfl⟩
  obtain ⟨W4, eW4⟩ : ∃ X, w3.alloc (.cells #[.int .i64 f, .slice b1 n d1] 51) = X := ⟨_, rfl⟩
  rw [eT2, eW4] at Kt_4; rw [eW4] at HX_4 Kp_4 Kq_4 Kg_4 Kf_4 Ol_4; rw [eT2] at hlp_t hlq_t hlg_t hlf_t hb3s; rw [eT2, eW4]
  clear eT2 eW4 HX_3 Kp_3 Kq_3 Kg_3 Kf_3 HO3
  obtain ⟨t0, t1, tf0, tf1, tl⟩ := block2 (unhide Kt_4)
  have HI1 := hide (isl_one kp W4 (x, false, u))
  have HO5 := hide ((unhide Ol_4).below ((Below.refl _ _).alloc (Nat.le_refl _) (.cells #[.int .i64 x, .bool false, .int .i64 u] 63)))
  have HBZ := hide hb3s
  clear hb3s
  go_upto_region 6 with (at_builtin; refine wpList_append kp rfl (.tmp 27) (.tmp 31) rfl B3 _ line rfl (unhide HO5) _ [(x, false, u)] rfl (unhide HI1) (n + 1) (by simp [unhide HEN]) (by simp [KP]; omega) (by have h5 := unhide HBZ; have h3 := size_of (unhide Kt_4); rw [World.size_alloc]; omega) ?_; intro b2 d2 w5 ho5 hg5; have HO6 := hide ho5; have HX_5 := hide (((unhide HX_4).alloc (unhide HX_4).size (.cells #[.int .i64 x, .bool false, .int .i64 u] 63)).grown hg5 ((unhide HX_4).alloc (unhide HX_4).size (.cells #[.int .i64 x, .bool false, .int .i64 u] 63)).size (fun k hk => by have := ((unhide Ol_4).lt k hk).1; have := unhide HB3; omega)); have Kp_5 := hide (keep_grown (keep_alloc (unhide Kp_4) (.cells #[.int .i64 x, .bool false, .int .i64 u] 63)) hg5 (fun j hj => Own.ne ((unhide Ol_4).below ((Below.refl _ _).alloc (Nat.le_refl _) (.cells #[.int .i64 x, .bool false, .int .i64 u] 63))) (keep_alloc (unhide Kp_4) (.cells #[.int .i64 x, .bool false, .int .i64 u] 63)) (by decide) j hj)); have Kq_5 := hide (keep_grown (keep_alloc (unhide Kq_4) (.cells #[.int .i64 x, .bool false, .int .i64 u] 63)) hg5 (fun j hj => Own.ne ((unhide Ol_4).below ((Below.refl _ _).alloc (Nat.le_refl _) (.cells #[.int .i64 x, .bool false, .int .i64 u] 63))) (keep_alloc (unhide Kq_4) (.cells #[.int .i64 x, .bool false, .int .i64 u] 63)) (by decide) j hj)); have Kg_5 := hide (keep_grown (keep_alloc (unhide Kg_4) (.cells #[.int .i64 x, .bool false, .int .i64 u] 63)) hg5 (fun j hj => Own.ne ((unhide Ol_4).below ((Below.refl _ _).alloc (Nat.le_refl _) (.cells #[.int .i64 x, .bool false, .int .i64 u] 63))) (keep_alloc (unhide Kg_4) (.cells #[.int .i64 x, .bool false, .int .i64 u] 63)) (by decide) j hj)); have Kf_5 := hide (keep_grown (keep_alloc (unhide Kf_4) (.cells #[.int .i64 x, .bool false, .int .i64 u] 63)) hg5 (fun j hj => Own.ne ((unhide Ol_4).below ((Below.refl _ _).alloc (Nat.le_refl _) (.cells #[.int .i64 x, .bool false, .int .i64 u] 63))) (keep_alloc (unhide Kf_4) (.cells #[.int .i64 x, .bool false, .int .i64 u] 63)) (by decide) j hj)); have Kt_5 := hide (keep_grown (keep_alloc (unhide Kt_4) (.cells #[.int .i64 x, .bool false, .int .i64 u] 63)) hg5 (fun j hj => Own.ne ((unhide Ol_4).below ((Below.refl _ _).alloc (Nat.le_refl _) (.cells #[.int .i64 x, .bool false, .int .i64 u] 63))) (keep_alloc (unhide Kt_4) (.cells #[.int .i64 x, .bool false, .int .i64 u] 63)) (by decide) j hj)); clear HX_4 Kp_4 Kq_4 Kg_4 Kf_4 Kt_4; clear ho5 hg5 t0 t1 tf0 tf1 tl; obtain ⟨t0, t1, tf0, tf1, tl⟩ := block2 (unhide Kt_5))
  clear t0 t1 tf0 tf1 tl HI1 HO5 Ol_4
  have HX_6 := hide (below_set (i := 1) (unhide HX_5) (show w.heap.size ≤ T2 by first | omega | (have := unhide HBA; omega)) (.slice b2 (n + 1) d2))
  have Kp_6 := hide (keep_set (g := T2) (o := 1) (v := .slice b2 (n + 1) d2) (unhide Kp_5) (by omega))
  have Kq_6 := hide (keep_set (g := T2) (o := 1) (v := .slice b2 (n + 1) d2) (unhide Kq_5) (by omega))
  have Kg_6 := hide (keep_set (g := T2) (o := 1) (v := .slice b2 (n + 1) d2) (unhide Kg_5) (by omega))
  have Kf_6 := hide (keep_set (g := T2) (o := 1) (v := .slice b2 (n + 1) d2) (unhide Kf_5) (by omega))
  have Kt_6 := hide (set2b (i := 1) (y := .slice b2 (n + 1) d2) (unhide Kt_5))
  have Ol_6 := hide ((unhide HO6).keep (fun k hk => Below.heap_setCell w5 ⟨T2, 1, none⟩ (.slice b2 (n + 1) d2) k (by have := Own.ne (unhide HO6) (unhide Kt_5) (by decide) k hk; simpa using this)))
  obtain ⟨W6, eW6⟩ : ∃ X, w5.setCell ⟨T2, 1, none⟩ (.slice b2 (n + 1) d2) = X := ⟨_, rfl⟩
  rw [eW6] at HX_6 Kp_6 Kq_6 Kg_6 Kf_6 Kt_6 Ol_6 ⊢
  clear eW6 HX_5 Kp_5 Kq_5 Kg_5 Kf_5 Kt_5 HO6
  simp only [List.setIfInBounds_toArray, List.set_cons_zero, List.set_cons_succ] at Kt_6
  have HA6 := hide (unhide HGV W6 _ _ (unhide Ol_6).isl)
  clear HGV
  obtain ⟨t0, t1, tf0, tf1, tl⟩ := block2 (unhide Kt_6)
  go_upto_region 7 with (go_at_call 43; refine (unhide HA6).mono ?_; rintro e w7 ⟨rfl, hb7⟩; have HX_7 := hide (Below.next (unhide HX_6) hb7 (by first | exact Nat.le_refl _ | (have := unhide HBA; omega))); have Kp_7 := hide (keep_below (unhide Kp_6) hb7); have Kq_7 := hide (keep_below (unhide Kq_6) hb7); have Kg_7 := hide (keep_below (unhide Kg_6) hb7); have Kf_7 := hide (keep_below (unhide Kf_6) hb7); have Kt_7 := hide (keep_below (unhide Kt_6) hb7); have Ol_7 := hide ((unhide Ol_6).below hb7); clear HX_6 Kp_6 Kq_6 Kg_6 Kf_6 Kt_6 Ol_6; clear hb7 HA6 t0 t1 tf0 tf1 tl; obtain ⟨t0, t1, tf0, tf1, tl⟩ := block2 (unhide Kt_7))
  clear t0 t1 tf0 tf1 tl
  have HX_8 := hide (put2_below (y0 := .int .i64 f) (y1 := .slice b2 (n + 1) d2) (unhide HX_7) (show w.heap.size ≤ T2 by first | omega | (have := unhide HBA; omega)))
  have Kp_8 := hide ((put2_keep (y0 := .int .i64 f) (y1 := .slice b2 (n + 1) d2) (show w.heap.size ≠ T2 by omega)).trans (unhide Kp_7))
  have Kq_8 := hide ((put2_keep (y0 := .int .i64 f) (y1 := .slice b2 (n + 1) d2) (show w.heap.size + 1 ≠ T2 by omega)).trans (unhide Kq_7))
  have Kg_8 := hide ((put2_keep (y0 := .int .i64 f) (y1 := .slice b2 (n + 1) d2) (show w.heap.size + 1 + 1 ≠ T2 by omega)).trans (unhide Kg_7))
  have Kf_8 := hide ((put2_keep (y0 := .int .i64 f) (y1 := .slice b2 (n + 1) d2) (show T ≠ T2 by omega)).trans (unhide Kf_7))
  have Kt_8 := hide (put2_new (y0 := .int .i64 f) (y1 := .slice b2 (n + 1) d2) (unhide Kt_7))
  have Ol_8 := hide ((unhide Ol_7).keep (fun k hk => put2_keep (y0 := .int .i64 f) (y1 := .slice b2 (n + 1) d2) (Own.ne (unhide Ol_7) (unhide Kt_7) (by decide) k hk)))
  obtain ⟨W8, eW8⟩ : ∃ X, put2 w7 (T2) (.int .i64 f) (.slice b2 (n + 1) d2) = X := ⟨_, rfl⟩
  rw [eW8] at HX_8 Kp_8 Kq_8 Kg_8 Kf_8 Kt_8 Ol_8
  have eW82 : ((w7).setCell ⟨T2, 0, none⟩ (.int .i64 f)).setCell ⟨T2, 1, none⟩ (.slice b2 (n + 1) d2) = W8 := eW8
  rw [eW82]
  clear eW8 eW82 HX_7 Kp_7 Kq_7 Kg_7 Kf_7 Kt_7 Ol_7
  go_upto_region 8 with (go_at_call 44; refine (unhide HWT _).mono ?_; rintro e W8 ⟨rfl, rfl⟩)
  obtain ⟨t0, t1, tf0, tf1, tl⟩ := block2 (unhide Kt_8)
  obtain ⟨q0, q1, qf0, qf1, ql⟩ := block2 (unhide Kq_8)
  obtain ⟨g0, g1, gf0, gf1, gl⟩ := block2 (unhide Kg_8)
  go_wp2_with fail
  clear t0 t1 tf0 tf1 tl q0 q1 qf0 qf1 ql g0 g1 gf0 gf1 gl
  have HX_9 := hide (put2_below (y0 := .int .i64 f) (y1 := .slice b2 (n + 1) d2) (unhide HX_8) (show w.heap.size ≤ w.heap.size + 1 by first | omega | (have := unhide HBA; omega)))
  have Kp_9 := hide ((put2_keep (y0 := .int .i64 f) (y1 := .slice b2 (n + 1) d2) (show w.heap.size ≠ w.heap.size + 1 by omega)).trans (unhide Kp_8))
  have Kq_9 := hide (put2_new (y0 := .int .i64 f) (y1 := .slice b2 (n + 1) d2) (unhide Kq_8))
  have Kg_9 := hide ((put2_keep (y0 := .int .i64 f) (y1 := .slice b2 (n + 1) d2) (show w.heap.size + 1 + 1 ≠ w.heap.size + 1 by omega)).trans (unhide Kg_8))
  have Kf_9 := hide ((put2_keep (y0 := .int .i64 f) (y1 := .slice b2 (n + 1) d2) (show T ≠ w.heap.size + 1 by omega)).trans (unhide Kf_8))
  have Kt_9 := hide ((put2_keep (y0 := .int .i64 f) (y1 := .slice b2 (n + 1) d2) (show T2 ≠ w.heap.size + 1 by omega)).trans (unhide Kt_8))
  have Ol_9 := hide ((unhide Ol_8).keep (fun k hk => put2_keep (y0 := .int .i64 f) (y1 := .slice b2 (n + 1) d2) (Own.ne (unhide Ol_8) (unhide Kq_8) (by decide) k hk)))
  obtain ⟨V1, eV1⟩ : ∃ X, put2 W8 (w.heap.size + 1) (.int .i64 f) (.slice b2 (n + 1) d2) = X := ⟨_, rfl⟩
  rw [eV1] at HX_9 Kp_9 Kq_9 Kg_9 Kf_9 Kt_9 Ol_9
  have eV12 : ((W8).setCell ⟨w.heap.size + 1, 0, none⟩ (.int .i64 f)).setCell ⟨w.heap.size + 1, 1, none⟩ (.slice b2 (n + 1) d2) = V1 := eV1
  rw [eV12]
  clear eV1 eV12 HX_8 Kp_8 Kq_8 Kg_8 Kf_8 Kt_8 Ol_8
  have HX_10 := hide (put2_below (y0 := .int .i64 0) (y1 := .int .i64 0) (unhide HX_9) (show w.heap.size ≤ w.heap.size + 1 + 1 by first | omega | (have := unhide HBA; omega)))
  have Kp_10 := hide ((put2_keep (y0 := .int .i64 0) (y1 := .int .i64 0) (show w.heap.size ≠ w.heap.size + 1 + 1 by omega)).trans (unhide Kp_9))
  have Kq_10 := hide ((put2_keep (y0 := .int .i64 0) (y1 := .int .i64 0) (show w.heap.size + 1 ≠ w.heap.size + 1 + 1 by omega)).trans (unhide Kq_9))
  have Kg_10 := hide (put2_new (y0 := .int .i64 0) (y1 := .int .i64 0) (unhide Kg_9))
  have Kf_10 := hide ((put2_keep (y0 := .int .i64 0) (y1 := .int .i64 0) (show T ≠ w.heap.size + 1 + 1 by omega)).trans (unhide Kf_9))
  have Kt_10 := hide ((put2_keep (y0 := .int .i64 0) (y1 := .int .i64 0) (show T2 ≠ w.heap.size + 1 + 1 by omega)).trans (unhide Kt_9))
  have Ol_10 := hide ((unhide Ol_9).keep (fun k hk => put2_keep (y0 := .int .i64 0) (y1 := .int .i64 0) (Own.ne (unhide Ol_9) (unhide Kg_9) (by decide) k hk)))
  obtain ⟨V2, eV2⟩ : ∃ X, put2 V1 (w.heap.size + 1 + 1) (.int .i64 0) (.int .i64 0) = X := ⟨_, rfl⟩
  rw [eV2] at HX_10 Kp_10 Kq_10 Kg_10 Kf_10 Kt_10 Ol_10
  have eV22 : ((V1).setCell ⟨w.heap.size + 1 + 1, 0, none⟩ (.int .i64 0)).setCell ⟨w.heap.size + 1 + 1, 1, none⟩ (.int .i64 0) = V2 := eV2
  rw [eV22]
  clear eV2 eV22 HX_9 Kp_9 Kq_9 Kg_9 Kf_9 Kt_9 Ol_9
  obtain ⟨q0, q1, qf0, qf1, ql⟩ := block2 (unhide Kq_10)
  obtain ⟨g0, g1, gf0, gf1, gl⟩ := block2 (unhide Kg_10)
  exact bodyPost_ret (v := .tuple #[.agg #[.int .i64 f, .slice b2 (n + 1) d2], .bool false, .agg #[.int .i64 0, .int .i64 0]]) (by simp [results, Try.results24, go_sem, q0, q1, g0, g1]) rfl ⟨.agg #[.int .i64 f, .slice b2 (n + 1) d2], rfl, ⟨_, rfl, ((unhide Ol_10).base (unhide HB3)).new⟩, unhide HX_10⟩

set_option maxRecDepth 100000 in
set_option maxHeartbeats 4000000 in
theorem acquire_tries (w : World) (v : Value) (f : Int) (line : List Po) (x u : Int) (h : IsG KP w v f line) (hf : (acqF f line x u).1 = 0) (hlet : lets f (line ++ [(x, false, u)]) = false) :
    Calls Try.prog 24 #[v, .int .i64 x, .int .i64 u, .bool true] w fun e w' => ∃ v1, e = .returned (.tuple #[v1, .bool false, .agg #[.int .i64 0, .int .i64 0]]) ∧ NewG KP w.heap.size w' v1 f line ∧ Below w.heap.size w w' := by
  obtain ⟨hg, hz, hx1, hu1, hu2, hany, hl5⟩ := acqF_good hf
  obtain ⟨-, hl, hf0, hf1, hno, -⟩ := semaF_good hg
  have HC : Hid (∀ W, Below w.heap.size w W → Calls Try.prog 41 #[v, .int .i64 x, .int .i64 u] W fun e w' => e = .returned (faultV (0, 0)) ∧ Below W.heap.size W w') := fun W hW => by
    have := checkAcquire_any W v f line x u (h.below hW) (by unfold maxLen; omega)
    rw [hz] at this
    exact this
  have HFR : Hid (∀ W, Below w.heap.size w W → Calls Try.prog 42 #[v] W fun e w' => ∃ a c, e = .returned (.agg #[.int .i64 f, .slice a line.length c]) ∧ Own KP W.heap.size w' (.slice a line.length c) line ∧ Below W.heap.size W w') := fun W hW => (freshSema_any W v f line (h.below hW) (by omega)).mono fun e w' ⟨v', h1, h2, h3⟩ => by
    obtain ⟨a, c, rfl, h4⟩ := h2.form
    exact ⟨a, c, h1, h4, h3⟩
  have HDL : Hid (∀ W base v' g, Own KP base W v' (line ++ [(x, false, u)]) → W.heap[g]? = some (.cells #[.int .i64 x] 3 (0, 0)) → Calls Try.prog 45 #[v', .func (.func 56) #[] #[.pointer (some ⟨g, 0, none⟩)]] W fun e w' => ∃ a c, e = .returned (.slice a line.length c) ∧ Own KP base w' (.slice a line.length c) line ∧ W.grownBy w' v'.ownBlock) := fun W base v' g ho hg => (deleteOf_any W base v' (line ++ [(x, false, u)]) ho (by unfold maxLen; simp; omega) g x hg).mono fun e w' ⟨a, m, c, h1, h2, h3, h4, h5⟩ => by
    rw [left_snoc hany] at h2 h3
    subst h2
    exact ⟨a, c, h1, h3, h5⟩
  have HGV : Hid (∀ W a c, IsL KP W (.slice a (line.length + 1) c) (line ++ [(x, false, u)]) → Calls Try.prog 43 #[.agg #[.int .i64 f, .slice a (line.length + 1) c]] W fun e w' => e = .returned (.tuple #[.agg #[.int .i64 f, .slice a (line.length + 1) c], .slice none 0 0]) ∧ Below W.heap.size W w') := fun W a c hW => given_stay W _ f (line ++ [(x, false, u)]) ⟨_, rfl, hW⟩ hlet
  have HWT : Hid (∀ W, Calls Try.prog 44 #[.slice none 0 0, .int .i64 x] W fun e w' => e = .returned (.bool false) ∧ w' = W) := fun W => waits_any W _ [] x (isl_nil W) (by decide)
  obtain ⟨a0, c0, rfl, hL⟩ := h.form
  obtain ⟨n, en⟩ : ∃ n, line.length = n := ⟨_, rfl⟩
  rw [en] at HFR HC HGV HDL hl hl5 ⊢
  have HEN := hide en
  clear h hL hf hg hz hany hno hlet en
  obtain ⟨W0, e0, hB, k0, k1, k2⟩ := three_new w (.cells #[.int .i64 f, .slice a0 n c0] 51) (.cells #[.int .i64 0, .slice none 0 0] 51) (.cells #[.int .i64 0, .int .i64 0] 29)
  have HX := hide hB; have HP := hide k0; have HQ := hide k1; have HG := hide k2; have HE := hide e0
  clear hB k0 k1 k2 e0
  go_enter Try.func24, Try.ntmps24
  go_upto_region 1 with fail
  rw [unhide HE]
  clear HE
  obtain ⟨p0, p1, pf0, pf1, pl⟩ := block2 (unhide HP)
  go_upto_region 2 with (go_at_call 41; refine (unhide HC _ (unhide HX)).mono ?_; rintro e w1 ⟨he, hb1⟩; obtain rfl : e = .returned (.agg #[.int .i64 0, .int .i64 0]) := he; have HX_1 := hide (Below.next (unhide HX) hb1 (by first | exact Nat.le_refl _ | (have := unhide HBA; omega))); have Kp_1 := hide (keep_below (unhide HP) hb1); have Kq_1 := hide (keep_below (unhide HQ) hb1); have Kg_1 := hide (keep_below (unhide HG) hb1); clear HX HP HQ HG; clear hb1 p0 p1 pf0 pf1 pl)
  have HX_2 := hide ((unhide HX_1).alloc (Nat.le_trans (show w.heap.size ≤ w.heap.size from Nat.le_refl _) (unhide HX_1).size) (.cells #[.int .i64 0, .int .i64 0] 29))
  have Kp_2 := hide (keep_alloc (unhide Kp_1) (.cells #[.int .i64 0, .int .i64 0] 29))
  have Kq_2 := hide (keep_alloc (unhide Kq_1) (.cells #[.int .i64 0, .int .i64 0] 29))
  have Kg_2 := hide (keep_alloc (unhide Kg_1) (.cells #[.int .i64 0, .int .i64 0] 29))
  have Kf_2 := hide (new_block w1 (.cells #[.int .i64 0, .int .i64 0] 29))
  have hlp_f : w.heap.size < w1.heap.size := size_of (unhide Kp_1)
  have hlq_f : w.heap.size + 1 < w1.heap.size := size_of (unhide Kq_1)
  have hlg_f : w.heap.size + 1 + 1 < w1.heap.size := size_of (unhide Kg_1)
  obtain ⟨T, eT⟩ : ∃ X, w1.heap.size = X := ⟨_, rfl⟩
  obtain ⟨W2, eW2⟩ : ∃ X, w1.alloc (.cells #[.int .i64 0, .int .i64 0] 29) = X := ⟨_, rfl⟩
  rw [eT, eW2] at Kf_2; rw [eW2] at HX_2 Kp_2 Kq_2 Kg_2; rw [eT] at hlp_f hlq_f hlg_f; rw [eT, eW2]
  clear eT eW2 HX_1 Kp_1 Kq_1 Kg_1
  have hqt : w.heap.size + 1 + 1 < T := by omega
  obtain ⟨p0, p1, pf0, pf1, pl⟩ := block2 (unhide Kp_2)
  obtain ⟨f0, f1, ff0, ff1, fl⟩ := block2 (unhide Kf_2)
  obtain ⟨B3, eB3⟩ : ∃ X, W2.heap.size = X := ⟨_, rfl⟩
  have HB3 : Hid (w.heap.size ≤ B3) := by have := (unhide HX_2).size; rw [eB3] at this; exact this
  have HBT : Hid (T < B3) := by have := size_of (unhide Kf_2); rw [eB3] at this; exact this
  have HF3 := unhide HFR W2 (unhide HX_2)
  rw [eB3] at HF3
  have HFR3 := hide HF3
  clear HF3
  go_upto_region 5 with (go_at_call 42; refine (unhide HFR3).mono ?_; rintro e w3 ⟨b1, d1, rfl, ho3, hb3⟩; have HO3 := hide ho3; rw [← eB3] at hb3; have hb3s : B3 ≤ w3.heap.size := (by rw [← eB3]; exact hb3.size); have HX_3 := hide (Below.next (unhide HX_2) hb3 (by first | exact Nat.le_refl _ | (have := unhide HBA; omega))); have Kp_3 := hide (keep_below (unhide Kp_2) hb3); have Kq_3 := hide (keep_below (unhide Kq_2) hb3); have Kg_3 := hide (keep_below (unhide Kg_2) hb3); have Kf_3 := hide (keep_below (unhide Kf_2) hb3); clear HX_2 Kp_2 Kq_2 Kg_2 Kf_2; clear hb3 ho3 HFR3 p0 p1 pf0 pf1 pl f0 f1 ff0 ff1 fl)
  clear eB3
  have HX_4 := hide ((unhide HX_3).alloc (Nat.le_trans (show w.heap.size ≤ w.heap.size from Nat.le_refl _) (unhide HX_3).size) (.cells #[.int .i64 f, .slice b1 n d1] 51))
  have Kp_4 := hide (keep_alloc (unhide Kp_3) (.cells #[.int .i64 f, .slice b1 n d1] 51))
  have Kq_4 := hide (keep_alloc (unhide Kq_3) (.cells #[.int .i64 f, .slice b1 n d1] 51))
  have Kg_4 := hide (keep_alloc (unhide Kg_3) (.cells #[.int .i64 f, .slice b1 n d1] 51))
  have Kf_4 := hide (keep_alloc (unhide Kf_3) (.cells #[.int .i64 f, .slice b1 n d1] 51))
  have Ol_4 := hide ((unhide HO3).below ((Below.refl _ _).alloc (Nat.le_refl _) (.cells #[.int .i64 f, .slice b1 n d1] 51)))
  have Kt_4 := hide (new_block w3 (.cells #[.int .i64 f, .slice b1 n d1] 51))
  have hlp_t : w.heap.size < w3.heap.size := size_of (unhide Kp_3)
  have hlq_t : w.heap.size + 1 < w3.heap.size := size_of (unhide Kq_3)
  have hlg_t : w.heap.size + 1 + 1 < w3.heap.size := size_of (unhide Kg_3)
  have hlf_t : T < w3.heap.size := size_of (unhide Kf_3)
  obtain ⟨T2, eT2⟩ : ∃ X, w3.heap.size = X := ⟨_, rfl⟩
  obtain ⟨W4, eW4⟩ : ∃ X, w3.alloc (.cells #[.int .i64 f, .slice b1 n d1] 51) = X := ⟨_, rfl⟩
  rw [eT2, eW4] at Kt_4; rw [eW4] at HX_4 Kp_4 Kq_4 Kg_4 Kf_4 Ol_4; rw [eT2] at hlp_t hlq_t hlg_t hlf_t hb3s; rw [eT2, eW4]
  clear eT2 eW4 HX_3 Kp_3 Kq_3 Kg_3 Kf_3 HO3
  obtain ⟨t0, t1, tf0, tf1, tl⟩ := block2 (unhide Kt_4)
  have HI1 := hide (isl_one kp W4 (x, false, u))
  have HO5 := hide ((unhide Ol_4).below ((Below.refl _ _).alloc (Nat.le_refl _) (.cells #[.int .i64 x, .bool false, .int .i64 u] 63)))
  have HBZ := hide hb3s
  clear hb3s
  go_upto_region 6 with (at_builtin; refine wpList_append kp rfl (.tmp 27) (.tmp 31) rfl B3 _ line rfl (unhide HO5) _ [(x, false, u)] rfl (unhide HI1) (n + 1) (by simp [unhide HEN]) (by simp [KP]; omega) (by have h5 := unhide HBZ; have h3 := size_of (unhide Kt_4); rw [World.size_alloc]; omega) ?_; intro b2 d2 w5 ho5 hg5; have HO6 := hide ho5; have HX_5 := hide (((unhide HX_4).alloc (unhide HX_4).size (.cells #[.int .i64 x, .bool false, .int .i64 u] 63)).grown hg5 ((unhide HX_4).alloc (unhide HX_4).size (.cells #[.int .i64 x, .bool false, .int .i64 u] 63)).size (fun k hk => by have := ((unhide Ol_4).lt k hk).1; have := unhide HB3; omega)); have Kp_5 := hide (keep_grown (keep_alloc (unhide Kp_4) (.cells #[.int .i64 x, .bool false, .int .i64 u] 63)) hg5 (fun j hj => Own.ne ((unhide Ol_4).below ((Below.refl _ _).alloc (Nat.le_refl _) (.cells #[.int .i64 x, .bool false, .int .i64 u] 63))) (keep_alloc (unhide Kp_4) (.cells #[.int .i64 x, .bool false, .int .i64 u] 63)) (by decide) j hj)); have Kq_5 := hide (keep_grown (keep_alloc (unhide Kq_4) (.cells #[.int .i64 x, .bool false, .int .i64 u] 63)) hg5 (fun j hj => Own.ne ((unhide Ol_4).below ((Below.refl _ _).alloc (Nat.le_refl _) (.cells #[.int .i64 x, .bool false, .int .i64 u] 63))) (keep_alloc (unhide Kq_4) (.cells #[.int .i64 x, .bool false, .int .i64 u] 63)) (by decide) j hj)); have Kg_5 := hide (keep_grown (keep_alloc (unhide Kg_4) (.cells #[.int .i64 x, .bool false, .int .i64 u] 63)) hg5 (fun j hj => Own.ne ((unhide Ol_4).below ((Below.refl _ _).alloc (Nat.le_refl _) (.cells #[.int .i64 x, .bool false, .int .i64 u] 63))) (keep_alloc (unhide Kg_4) (.cells #[.int .i64 x, .bool false, .int .i64 u] 63)) (by decide) j hj)); have Kf_5 := hide (keep_grown (keep_alloc (unhide Kf_4) (.cells #[.int .i64 x, .bool false, .int .i64 u] 63)) hg5 (fun j hj => Own.ne ((unhide Ol_4).below ((Below.refl _ _).alloc (Nat.le_refl _) (.cells #[.int .i64 x, .bool false, .int .i64 u] 63))) (keep_alloc (unhide Kf_4) (.cells #[.int .i64 x, .bool false, .int .i64 u] 63)) (by decide) j hj)); have Kt_5 := hide (keep_grown (keep_alloc (unhide Kt_4) (.cells #[.int .i64 x, .bool false, .int .i64 u] 63)) hg5 (fun j hj => Own.ne ((unhide Ol_4).below ((Below.refl _ _).alloc (Nat.le_refl _) (.cells #[.int .i64 x, .bool false, .int .i64 u] 63))) (keep_alloc (unhide Kt_4) (.cells #[.int .i64 x, .bool false, .int .i64 u] 63)) (by decide) j hj)); clear HX_4 Kp_4 Kq_4 Kg_4 Kf_4 Kt_4; clear ho5 hg5 t0 t1 tf0 tf1 tl; obtain ⟨t0, t1, tf0, tf1, tl⟩ := block2 (unhide Kt_5))
  clear t0 t1 tf0 tf1 tl HI1 HO5 Ol_4
  have HX_6 := hide (below_set (i := 1) (unhide HX_5) (show w.heap.size ≤ T2 by first | omega | (have := unhide HBA; omega)) (.slice b2 (n + 1) d2))
  have Kp_6 := hide (keep_set (g := T2) (o := 1) (v := .slice b2 (n + 1) d2) (unhide Kp_5) (by omega))
  have Kq_6 := hide (keep_set (g := T2) (o := 1) (v := .slice b2 (n + 1) d2) (unhide Kq_5) (by omega))
  have Kg_6 := hide (keep_set (g := T2) (o := 1) (v := .slice b2 (n + 1) d2) (unhide Kg_5) (by omega))
  have Kf_6 := hide (keep_set (g := T2) (o := 1) (v := .slice b2 (n + 1) d2) (unhide Kf_5) (by omega))
  have Kt_6 := hide (set2b (i := 1) (y := .slice b2 (n + 1) d2) (unhide Kt_5))
  have Ol_6 := hide ((unhide HO6).keep (fun k hk => Below.heap_setCell w5 ⟨T2, 1, none⟩ (.slice b2 (n + 1) d2) k (by have := Own.ne (unhide HO6) (unhide Kt_5) (by decide) k hk; simpa using this)))
  obtain ⟨W6, eW6⟩ : ∃ X, w5.setCell ⟨T2, 1, none⟩ (.slice b2 (n + 1) d2) = X := ⟨_, rfl⟩
  rw [eW6] at HX_6 Kp_6 Kq_6 Kg_6 Kf_6 Kt_6 Ol_6 ⊢
  clear eW6 HX_5 Kp_5 Kq_5 Kg_5 Kf_5 Kt_5 HO6
  simp only [List.setIfInBounds_toArray, List.set_cons_zero, List.set_cons_succ] at Kt_6
  have HA6 := hide (unhide HGV W6 _ _ (unhide Ol_6).isl)
  clear HGV
  obtain ⟨t0, t1, tf0, tf1, tl⟩ := block2 (unhide Kt_6)
  go_upto_region 7 with (go_at_call 43; refine (unhide HA6).mono ?_; rintro e w7 ⟨rfl, hb7⟩; have HX_7 := hide (Below.next (unhide HX_6) hb7 (by first | exact Nat.le_refl _ | (have := unhide HBA; omega))); have Kp_7 := hide (keep_below (unhide Kp_6) hb7); have Kq_7 := hide (keep_below (unhide Kq_6) hb7); have Kg_7 := hide (keep_below (unhide Kg_6) hb7); have Kf_7 := hide (keep_below (unhide Kf_6) hb7); have Kt_7 := hide (keep_below (unhide Kt_6) hb7); have Ol_7 := hide ((unhide Ol_6).below hb7); clear HX_6 Kp_6 Kq_6 Kg_6 Kf_6 Kt_6 Ol_6; clear hb7 HA6 t0 t1 tf0 tf1 tl; obtain ⟨t0, t1, tf0, tf1, tl⟩ := block2 (unhide Kt_7))
  clear t0 t1 tf0 tf1 tl
  have HX_8 := hide (put2_below (y0 := .int .i64 f) (y1 := .slice b2 (n + 1) d2) (unhide HX_7) (show w.heap.size ≤ T2 by first | omega | (have := unhide HBA; omega)))
  have Kp_8 := hide ((put2_keep (y0 := .int .i64 f) (y1 := .slice b2 (n + 1) d2) (show w.heap.size ≠ T2 by omega)).trans (unhide Kp_7))
  have Kq_8 := hide ((put2_keep (y0 := .int .i64 f) (y1 := .slice b2 (n + 1) d2) (show w.heap.size + 1 ≠ T2 by omega)).trans (unhide Kq_7))
  have Kg_8 := hide ((put2_keep (y0 := .int .i64 f) (y1 := .slice b2 (n + 1) d2) (show w.heap.size + 1 + 1 ≠ T2 by omega)).trans (unhide Kg_7))
  have Kf_8 := hide ((put2_keep (y0 := .int .i64 f) (y1 := .slice b2 (n + 1) d2) (show T ≠ T2 by omega)).trans (unhide Kf_7))
  have Kt_8 := hide (put2_new (y0 := .int .i64 f) (y1 := .slice b2 (n + 1) d2) (unhide Kt_7))
  have Ol_8 := hide ((unhide Ol_7).keep (fun k hk => put2_keep (y0 := .int .i64 f) (y1 := .slice b2 (n + 1) d2) (Own.ne (unhide Ol_7) (unhide Kt_7) (by decide) k hk)))
  obtain ⟨W8, eW8⟩ : ∃ X, put2 w7 (T2) (.int .i64 f) (.slice b2 (n + 1) d2) = X := ⟨_, rfl⟩
  rw [eW8] at HX_8 Kp_8 Kq_8 Kg_8 Kf_8 Kt_8 Ol_8
  have eW82 : ((w7).setCell ⟨T2, 0, none⟩ (.int .i64 f)).setCell ⟨T2, 1, none⟩ (.slice b2 (n + 1) d2) = W8 := eW8
  rw [eW82]
  clear eW8 eW82 HX_7 Kp_7 Kq_7 Kg_7 Kf_7 Kt_7 Ol_7
  go_upto_region 8 with (go_at_call 44; refine (unhide HWT _).mono ?_; rintro e W8 ⟨rfl, rfl⟩)
  obtain ⟨t0, t1, tf0, tf1, tl⟩ := block2 (unhide Kt_8)
  go_wp2_with fail
  go_region_law (first | (go_simp; go_at_call 46; refine (isOf_any _ x).mono ?_; rintro e w10 ⟨rfl, hk6, hb6⟩; have hx6 : Below W8.heap.size W8 w10 := Below.next (by first | exact (Below.refl _ _).drew | exact Below.refl _ _) hb6 (Nat.le_refl _); have HK6 := hide hk6; have HX_9 := hide (Below.next (unhide HX_8) hx6 (by first | exact Nat.le_refl _ | (have := unhide HBA; omega))); have Kp_9 := hide (keep_below (unhide Kp_8) hx6); have Kq_9 := hide (keep_below (unhide Kq_8) hx6); have Kg_9 := hide (keep_below (unhide Kg_8) hx6); have Kf_9 := hide (keep_below (unhide Kf_8) hx6); have Kt_9 := hide (keep_below (unhide Kt_8) hx6); have Ol_9 := hide ((unhide Ol_8).below hx6); clear HX_8 Kp_8 Kq_8 Kg_8 Kf_8 Kt_8 Ol_8; clear hk6 hb6 hx6; obtain ⟨t0', t1', tf0', tf1', tl'⟩ := block2 (unhide Kt_9)) | (go_simp; go_at_call 45; refine (unhide HDL _ B3 _ _ (unhide Ol_9) (unhide HK6)).mono ?_; rintro e w11 ⟨b7, d7, rfl, ho7, hg7⟩; have HO7 := hide ho7; have HX_zz := hide ((unhide HX_9).grown hg7 (unhide HX_9).size (fun k hk => by have h1 := ((unhide Ol_9).lt k hk).1; have h2 := unhide HB3; omega)); have Kp_zz := hide (keep_grown (unhide Kp_9) hg7 (fun j hj => Own.ne (unhide Ol_9) (unhide Kp_9) (by decide) j hj)); have Kq_zz := hide (keep_grown (unhide Kq_9) hg7 (fun j hj => Own.ne (unhide Ol_9) (unhide Kq_9) (by decide) j hj)); have Kg_zz := hide (keep_grown (unhide Kg_9) hg7 (fun j hj => Own.ne (unhide Ol_9) (unhide Kg_9) (by decide) j hj)); have Kf_zz := hide (keep_grown (unhide Kf_9) hg7 (fun j hj => Own.ne (unhide Ol_9) (unhide Kf_9) (by decide) j hj)); have Kt_zz := hide (keep_grown (unhide Kt_9) hg7 (fun j hj => Own.ne (unhide Ol_9) (unhide Kt_9) (by decide) j hj)); clear ho7 hg7 HK6 Ol_9 HX_9 Kp_9 Kq_9 Kg_9 Kf_9 Kt_9 t0' t1' tf0' tf1' tl'; obtain ⟨t0', t1', tf0', tf1', tl'⟩ := block2 (unhide Kt_zz)))
  all_goals
    clear t0' t1' tf0' tf1' tl'
    clear t0 t1 tf0 tf1 tl
    have HX_10 := hide (below_set (i := 1) (unhide HX_zz) (show w.heap.size ≤ T2 by first | omega | (have := unhide HBA; omega)) (.slice b7 n d7))
    have Kp_10 := hide (keep_set (g := T2) (o := 1) (v := .slice b7 n d7) (unhide Kp_zz) (by omega))
    have Kq_10 := hide (keep_set (g := T2) (o := 1) (v := .slice b7 n d7) (unhide Kq_zz) (by omega))
    have Kg_10 := hide (keep_set (g := T2) (o := 1) (v := .slice b7 n d7) (unhide Kg_zz) (by omega))
    have Kf_10 := hide (keep_set (g := T2) (o := 1) (v := .slice b7 n d7) (unhide Kf_zz) (by omega))
    have Kt_10 := hide (set2b (i := 1) (y := .slice b7 n d7) (unhide Kt_zz))
    have Ol_10 := hide ((unhide HO7).keep (fun k hk => Below.heap_setCell w11 ⟨T2, 1, none⟩ (.slice b7 n d7) k (by have := Own.ne (unhide HO7) (unhide Kt_zz) (by decide) k hk; simpa using this)))
    obtain ⟨W12, eW12⟩ : ∃ X, w11.setCell ⟨T2, 1, none⟩ (.slice b7 n d7) = X := ⟨_, rfl⟩
    rw [eW12] at HX_10 Kp_10 Kq_10 Kg_10 Kf_10 Kt_10 Ol_10 ⊢
    clear eW12 HX_zz Kp_zz Kq_zz Kg_zz Kf_zz Kt_zz HO7
    simp only [List.setIfInBounds_toArray, List.set_cons_zero, List.set_cons_succ] at Kt_10
    obtain ⟨t0, t1, tf0, tf1, tl⟩ := block2 (unhide Kt_10)
    obtain ⟨q0, q1, qf0, qf1, ql⟩ := block2 (unhide Kq_10)
    obtain ⟨g0, g1, gf0, gf1, gl⟩ := block2 (unhide Kg_10)
    go_wp2_with fail
    clear t0 t1 tf0 tf1 tl q0 q1 qf0 qf1 ql g0 g1 gf0 gf1 gl
    have HX_11 := hide (put2_below (y0 := .int .i64 f) (y1 := .slice b7 n d7) (unhide HX_10) (show w.heap.size ≤ w.heap.size + 1 by first | omega | (have := unhide HBA; omega)))
    have Kp_11 := hide ((put2_keep (y0 := .int .i64 f) (y1 := .slice b7 n d7) (show w.heap.size ≠ w.heap.size + 1 by omega)).trans (unhide Kp_10))
    have Kq_11 := hide (put2_new (y0 := .int .i64 f) (y1 := .slice b7 n d7) (unhide Kq_10))
    have Kg_11 := hide ((put2_keep (y0 := .int .i64 f) (y1 := .slice b7 n d7) (show w.heap.size + 1 + 1 ≠ w.heap.size + 1 by omega)).trans (unhide Kg_10))
    have Kf_11 := hide ((put2_keep (y0 := .int .i64 f) (y1 := .slice b7 n d7) (show T ≠ w.heap.size + 1 by omega)).trans (unhide Kf_10))
    have Kt_11 := hide ((put2_keep (y0 := .int .i64 f) (y1 := .slice b7 n d7) (show T2 ≠ w.heap.size + 1 by omega)).trans (unhide Kt_10))
    have Ol_11 := hide ((unhide Ol_10).keep (fun k hk => put2_keep (y0 := .int .i64 f) (y1 := .slice b7 n d7) (Own.ne (unhide Ol_10) (unhide Kq_10) (by decide) k hk)))
    obtain ⟨V1, eV1⟩ : ∃ X, put2 W12 (w.heap.size + 1) (.int .i64 f) (.slice b7 n d7) = X := ⟨_, rfl⟩
    rw [eV1] at HX_11 Kp_11 Kq_11 Kg_11 Kf_11 Kt_11 Ol_11
    have eV12 : ((W12).setCell ⟨w.heap.size + 1, 0, none⟩ (.int .i64 f)).setCell ⟨w.heap.size + 1, 1, none⟩ (.slice b7 n d7) = V1 := eV1
    rw [eV12]
    clear eV1 eV12 HX_10 Kp_10 Kq_10 Kg_10 Kf_10 Kt_10 Ol_10
    have HX_12 := hide (put2_below (y0 := .int .i64 0) (y1 := .int .i64 0) (unhide HX_11) (show w.heap.size ≤ w.heap.size + 1 + 1 by first | omega | (have := unhide HBA; omega)))
    have Kp_12 := hide ((put2_keep (y0 := .int .i64 0) (y1 := .int .i64 0) (show w.heap.size ≠ w.heap.size + 1 + 1 by omega)).trans (unhide Kp_11))
    have Kq_12 := hide ((put2_keep (y0 := .int .i64 0) (y1 := .int .i64 0) (show w.heap.size + 1 ≠ w.heap.size + 1 + 1 by omega)).trans (unhide Kq_11))
    have Kg_12 := hide (put2_new (y0 := .int .i64 0) (y1 := .int .i64 0) (unhide Kg_11))
    have Kf_12 := hide ((put2_keep (y0 := .int .i64 0) (y1 := .int .i64 0) (show T ≠ w.heap.size + 1 + 1 by omega)).trans (unhide Kf_11))
    have Kt_12 := hide ((put2_keep (y0 := .int .i64 0) (y1 := .int .i64 0) (show T2 ≠ w.heap.size + 1 + 1 by omega)).trans (unhide Kt_11))
    have Ol_12 := hide ((unhide Ol_11).keep (fun k hk => put2_keep (y0 := .int .i64 0) (y1 := .int .i64 0) (Own.ne (unhide Ol_11) (unhide Kg_11) (by decide) k hk)))
    obtain ⟨V2, eV2⟩ : ∃ X, put2 V1 (w.heap.size + 1 + 1) (.int .i64 0) (.int .i64 0) = X := ⟨_, rfl⟩
    rw [eV2] at HX_12 Kp_12 Kq_12 Kg_12 Kf_12 Kt_12 Ol_12
    have eV22 : ((V1).setCell ⟨w.heap.size + 1 + 1, 0, none⟩ (.int .i64 0)).setCell ⟨w.heap.size + 1 + 1, 1, none⟩ (.int .i64 0) = V2 := eV2
    rw [eV22]
    clear eV2 eV22 HX_11 Kp_11 Kq_11 Kg_11 Kf_11 Kt_11 Ol_11
    obtain ⟨q0, q1, qf0, qf1, ql⟩ := block2 (unhide Kq_12)
    obtain ⟨g0, g1, gf0, gf1, gl⟩ := block2 (unhide Kg_12)
    exact bodyPost_ret (v := .tuple #[.agg #[.int .i64 f, .slice b7 n d7], .bool false, .agg #[.int .i64 0, .int .i64 0]]) (by simp [results, Try.results24, go_sem, q0, q1, g0, g1]) rfl ⟨.agg #[.int .i64 f, .slice b7 n d7], rfl, ⟨_, rfl, ((unhide Ol_12).base (unhide HB3)).new⟩, unhide HX_12⟩
end Go.Proofs.Ytpogcfdmkeebmaa
