/-
  sync.freshSema, sync.checkSema, sync.checkRelease.
-/
import Derived.Test.YtpogcfdmkeebmaaI
import Derived.Test.YtpogcfdmkeebmaaJ
namespace Go.Proofs.Ytpogcfdmkeebmaa
open Go.RowKit

set_option maxRecDepth 100000 in
set_option maxHeartbeats 2000000 in
theorem freshSema_any (w : World) (v : Value) (f : Int) (line : List Po) (h : IsG KP w v f line) (hn : line.length ≤ 100000) :
    Calls Try.prog 42 #[v] w fun e w' => ∃ v', e = .returned v' ∧ OwnG KP w.heap.size w' v' f line ∧ Below w.heap.size w w' := by
  obtain ⟨a0, c0, rfl, hL⟩ := h.form
  clear h
  have HL := hide hL
  obtain ⟨n, en⟩ : ∃ n, line.length = n := ⟨_, rfl⟩
  rw [en] at HL hn ⊢
  have HN := hide en
  clear hL en
  obtain ⟨W0, e0, hB, k0, k1⟩ := two_new w (.cells #[.int .i64 f, .slice a0 n c0] 51) (.cells #[.int .i64 0, .slice none 0 0] 51)
  have HX := hide hB; have HP := hide k0; have HQ := hide k1; have HE := hide e0
  clear hB k0 k1 e0
  go_enter Try.func42, Try.ntmps42
  go_upto_region 1 with fail
  rw [unhide HE]
  clear HE
  have HEE := hide (own_empty (K := KP) W0)
  obtain ⟨p0, p1, f0, f1, pl⟩ := block2 (keep_alloc (unhide HP) (.cells #[] 63))
  have HS0 := hide (size_of (unhide HQ))
  go_upto_region 2 with (at_builtin; refine wpList_append kp rfl (.tmp 3) (.tmp 5) rfl W0.heap.size _ [] rfl (unhide HEE) _ line rfl (IsL.below (unhide HL) ((unhide HX).alloc (unhide HX).size _)) n (by simp [unhide HN]) (by simp [KP]; omega) (by simp) ?_; intro b1 d1 w1 ho1 hg1; have HO1 := hide (own_nil_append ho1); have HX1 := hide (((Below.refl W0.heap.size W0).alloc (Nat.le_refl _) _).grown hg1 (by simp) (fun k hk => by cases hk; exact Nat.le_refl _)); clear ho1 hg1 p0 p1 pl f0 f1; obtain ⟨p0, p1, f0, f1, pl⟩ := block2 (keep_below (unhide HP) (unhide HX1)))
  clear p0 p1 pl f0 f1
  have HP1 := hide (keep_below (unhide HP) (unhide HX1)); have HQ1 := hide (keep_below (unhide HQ) (unhide HX1)); have HX2 := hide (Below.next (unhide HX) (unhide HX1) (Nat.le_refl _))
  clear HP HQ HX HX1 HEE
  have HX_1 := hide (below_set (i := 1) (unhide HX2) (show w.heap.size ≤ w.heap.size by first | omega | (have := unhide HBA; omega)) (.slice b1 n d1))
  have Kp_1 := hide (set2b (i := 1) (y := .slice b1 n d1) (unhide HP1))
  have Kq_1 := hide (keep_set (g := w.heap.size) (o := 1) (v := .slice b1 n d1) (unhide HQ1) (by omega))
  have Ol_1 := hide ((unhide HO1).keep (fun k hk => Below.heap_setCell w1 ⟨w.heap.size, 1, none⟩ (.slice b1 n d1) k (by have := Own.ne (unhide HO1) (unhide HP1) (by decide) k hk; simpa using this)))
  obtain ⟨W2, eW2⟩ : ∃ X, w1.setCell ⟨w.heap.size, 1, none⟩ (.slice b1 n d1) = X := ⟨_, rfl⟩
  rw [eW2] at HX_1 Kp_1 Kq_1 Ol_1 ⊢
  clear eW2 HX2 HP1 HQ1 HO1
  simp only [List.setIfInBounds_toArray, List.set_cons_zero, List.set_cons_succ] at Kp_1
  obtain ⟨p0, p1, pf0, pf1, pl⟩ := block2 (unhide Kp_1)
  obtain ⟨q0, q1, qf0, qf1, ql⟩ := block2 (unhide Kq_1)
  go_wp2_with fail
  clear p0 p1 pf0 pf1 pl q0 q1 qf0 qf1 ql
  have HX_2 := hide (put2_below (y0 := .int .i64 f) (y1 := .slice b1 n d1) (unhide HX_1) (show w.heap.size ≤ w.heap.size + 1 by first | omega | (have := unhide HBA; omega)))
  have Kp_2 := hide ((put2_keep (y0 := .int .i64 f) (y1 := .slice b1 n d1) (show w.heap.size ≠ w.heap.size + 1 by omega)).trans (unhide Kp_1))
  have Kq_2 := hide (put2_new (y0 := .int .i64 f) (y1 := .slice b1 n d1) (unhide Kq_1))
  have Ol_2 := hide ((unhide Ol_1).keep (fun k hk => put2_keep (y0 := .int .i64 f) (y1 := .slice b1 n d1) (Own.ne (unhide Ol_1) (unhide Kq_1) (by decide) k hk)))
  obtain ⟨W3, eW3⟩ : ∃ X, put2 W2 (w.heap.size + 1) (.int .i64 f) (.slice b1 n d1) = X := ⟨_, rfl⟩
  rw [eW3] at HX_2 Kp_2 Kq_2 Ol_2
  have eW32 : ((W2).setCell ⟨w.heap.size + 1, 0, none⟩ (.int .i64 f)).setCell ⟨w.heap.size + 1, 1, none⟩ (.slice b1 n d1) = W3 := eW3
  rw [eW32]
  clear eW3 eW32 HX_1 Kp_1 Kq_1 Ol_1
  obtain ⟨q0, q1, qf0, qf1, ql⟩ := block2 (unhide Kq_2)
  exact bodyPost_ret (v := .agg #[.int .i64 f, .slice b1 n d1]) (by simp [results, Try.results42, go_sem, q0, q1]) rfl ⟨_, rfl, ⟨_, rfl, (unhide Ol_2).base (by have := unhide HS0; omega)⟩, unhide HX_2⟩

/-- What is wrong with a semaphore. -/
def semaF (f : Int) (l : List Po) : Int × Int := if 5000 < l.length then (2, 0) else if f < 0 ∨ 1000000000 < f then (3, 0) else if lets f l = true then (5, 0) else firstC wantP [] l 0
theorem semaF_good {f : Int} {l : List Po} (h : (semaF f l).1 = 0) : semaF f l = (0, 0) ∧ l.length ≤ 5000 ∧ 0 ≤ f ∧ f ≤ 1000000000 ∧ lets f l = false ∧ firstC wantP [] l 0 = (0, 0) := by
  unfold semaF at h ⊢
  split at h
  · cases h
  · split at h
    · cases h
    · split at h
      · cases h
      · rename_i q1 q2 q3
        rw [if_neg q1, if_neg q2, if_neg q3]
        have := firstC_zero h
        exact ⟨this, by omega, by omega, by omega, by simpa using q3, this⟩

set_option maxRecDepth 100000 in
set_option maxHeartbeats 2000000 in
theorem checkSema_any (w : World) (v : Value) (f : Int) (line : List Po) (h : IsG KP w v f line) (hn : line.length ≤ maxLen) :
    Calls Try.prog 51 #[v] w fun e w' => e = .returned (faultV (semaF f line)) ∧ Below w.heap.size w w' := by
  have HG : Hid (∀ W, Below w.heap.size w W → Calls Try.prog 53 #[v] W fun e w' => e = .returned (.bool (lets f line)) ∧ Below W.heap.size W w') := fun W hW => gives_any W v f line (h.below hW)
  obtain ⟨a0, c0, rfl, hL⟩ := h.form
  have HCW : Hid (line.length ≤ 5000 → ∀ W, Below w.heap.size w W → Calls Try.prog 61 #[.slice a0 line.length c0] W fun e w' => e = .returned (faultV (firstC wantP [] line 0)) ∧ Below W.heap.size W w') := fun hl W hW => checkWants_any W _ line (hL.below hW) (by omega)
  obtain ⟨R, eR⟩ : ∃ R, semaF f line = R := ⟨_, rfl⟩
  rw [eR]
  unfold semaF at eR
  obtain ⟨q, hq⟩ : ∃ q, lets f line = q := ⟨_, rfl⟩
  obtain ⟨⟨F0, F1⟩, eF⟩ : ∃ F, firstC wantP [] line 0 = F := ⟨_, rfl⟩
  rw [hq] at HG eR; rw [eF] at HCW eR
  unfold maxLen at hn
  generalize line.length = n at *
  have HR := hide eR
  clear h hL hq eR eF line
  obtain ⟨W0, e0, hB, k0, k1⟩ := two_new w (.cells #[.int .i64 f, .slice a0 n c0] 51) (.cells #[.int .i64 0, .int .i64 0] 29)
  have HX := hide hB; have HP := hide k0; have HQ := hide k1; have HE := hide e0
  clear hB k0 k1 e0
  go_enter Try.func51, Try.ntmps51
  go_upto_region 1 with fail
  rw [unhide HE]
  clear HE
  obtain ⟨p0, p1, pf0, pf1, pl⟩ := block2 (unhide HP)
  obtain ⟨q0, q1, qf0, qf1, ql⟩ := block2 (unhide HQ)
  by_cases h1 : 5000 < n
  · have hr := unhide HR
    rw [if_pos h1] at hr
    subst hr
    have j1 : (5000 : Int) < (n : Int) := by omega
    clear HR
    go_wp2_with fail
    exact bodyPost_ret (v := .agg #[.int .i64 2, .int .i64 0]) (by simp [results, Try.results51, go_sem, q0, q1]) rfl ⟨rfl, below_set2 (unhide HX) (Nat.le_succ _) _ _⟩
  have j1 : ¬ (5000 : Int) < (n : Int) := by omega
  by_cases h2 : f < 0
  · have hr := unhide HR
    rw [if_neg h1, if_pos (Or.inl h2)] at hr
    subst hr
    clear HR
    go_wp2_with fail
    exact bodyPost_ret (v := .agg #[.int .i64 3, .int .i64 0]) (by simp [results, Try.results51, go_sem, q0, q1]) rfl ⟨rfl, below_set2 (unhide HX) (Nat.le_succ _) _ _⟩
  by_cases h3 : 1000000000 < f
  · have hr := unhide HR
    rw [if_neg h1, if_pos (Or.inr h3)] at hr
    subst hr
    clear HR
    go_wp2_with fail
    exact bodyPost_ret (v := .agg #[.int .i64 3, .int .i64 0]) (by simp [results, Try.results51, go_sem, q0, q1]) rfl ⟨rfl, below_set2 (unhide HX) (Nat.le_succ _) _ _⟩
  have hr := unhide HR
  rw [if_neg h1, if_neg (fun h => h.elim h2 h3)] at hr
  have HR2 := hide hr
  have HCW5 := hide (unhide HCW (by omega))
  clear HR hr HCW
  cases q with
  | true =>
    have hr := unhide HR2
    rw [if_pos rfl] at hr
    subst hr
    clear HR2
    go_wp2_with (go_at_call 53; refine (unhide HG _ (unhide HX)).mono ?_; rintro e w1 ⟨rfl, hb1⟩; have HX1 := hide (Below.next (unhide HX) hb1 (Nat.le_refl _)); have HP1 := hide (keep_below (unhide HP) hb1); have HQ1 := hide (keep_below (unhide HQ) hb1); clear hb1 p0 p1 pf0 pf1 pl q0 q1 qf0 qf1 ql; obtain ⟨p0, p1, pf0, pf1, pl⟩ := block2 (unhide HP1); obtain ⟨q0, q1, qf0, qf1, ql⟩ := block2 (unhide HQ1))
    exact bodyPost_ret (v := .agg #[.int .i64 5, .int .i64 0]) (by simp [results, Try.results51, go_sem, q0, q1]) rfl ⟨rfl, below_set2 (unhide HX1) (Nat.le_succ _) _ _⟩
  | false =>
    have hr := unhide HR2
    rw [if_neg (by simp)] at hr
    subst hr
    clear HR2
    go_wp2_with (first | (go_at_call 53; refine (unhide HG _ (unhide HX)).mono ?_; rintro e w1 ⟨rfl, hb1⟩; have HX1 := hide (Below.next (unhide HX) hb1 (Nat.le_refl _)); have HP1 := hide (keep_below (unhide HP) hb1); have HQ1 := hide (keep_below (unhide HQ) hb1); clear hb1 p0 p1 pf0 pf1 pl q0 q1 qf0 qf1 ql; obtain ⟨p0, p1, pf0, pf1, pl⟩ := block2 (unhide HP1); obtain ⟨q0, q1, qf0, qf1, ql⟩ := block2 (unhide HQ1)) | (go_at_call 61; refine (unhide HCW5 _ (unhide HX1)).mono ?_; rintro e w2 ⟨he, hb2⟩; obtain rfl : e = .returned (.agg #[.int .i64 F0, .int .i64 F1]) := he; have HX2 := hide (Below.next (unhide HX1) hb2 (Nat.le_refl _)); have HQ2 := hide (keep_below (unhide HQ1) hb2); clear hb2 p0 p1 pf0 pf1 pl q0 q1 qf0 qf1 ql; obtain ⟨q0, q1, qf0, qf1, ql⟩ := block2 (unhide HQ2)))
    exact bodyPost_ret (v := .agg #[.int .i64 F0, .int .i64 F1]) (by simp [results, Try.results51, go_sem, q0, q1]) rfl ⟨rfl, below_set2 (unhide HX2) (Nat.le_succ _) _ _⟩

/-- What is wrong with a Release. -/
def relF (f : Int) (l : List Po) (x : Int) : Int × Int := if (semaF f l).1 ≠ 0 then semaF f l else if x < 0 ∨ 1000000000 < x then (3, -1) else if 1000000000 < f + x then (9, 0) else (0, 0)

set_option maxRecDepth 100000 in
set_option maxHeartbeats 2000000 in
theorem checkRelease_any (w : World) (v : Value) (f : Int) (line : List Po) (x : Int) (h : IsG KP w v f line) (hn : line.length ≤ maxLen) :
    Calls Try.prog 47 #[v, .int .i64 x] w fun e w' => e = .returned (faultV (relF f line x)) ∧ Below w.heap.size w w' := by
  have HC : Hid (∀ W, Below w.heap.size w W → Calls Try.prog 51 #[v] W fun e w' => e = .returned (faultV (semaF f line)) ∧ Below W.heap.size W w') := fun W hW => checkSema_any W v f line (h.below hW) hn
  obtain ⟨R, eR⟩ : ∃ R, relF f line x = R := ⟨_, rfl⟩
  rw [eR]
  unfold relF at eR
  have HGD : Hid ((semaF f line).1 = 0 → 0 ≤ f ∧ f ≤ 1000000000) := fun hz => ⟨(semaF_good hz).2.2.1, (semaF_good hz).2.2.2.1⟩
  obtain ⟨⟨F0, F1⟩, eF⟩ : ∃ F, semaF f line = F := ⟨_, rfl⟩
  rw [eF] at HC eR HGD
  obtain ⟨a0, c0, rfl, hL⟩ := h.form
  unfold maxLen at hn
  generalize line.length = n at *
  simp only at eR HGD
  have HR := hide eR
  clear h hL eR eF
  obtain ⟨W0, e0, hB, k0, k1⟩ := two_new w (.cells #[.int .i64 f, .slice a0 n c0] 51) (.cells #[.int .i64 0, .int .i64 0] 29)
  have HX := hide hB; have HP := hide k0; have HQ := hide k1; have HE := hide e0
  clear hB k0 k1 e0
  go_enter Try.func47, Try.ntmps47
  go_upto_region 1 with fail
  rw [unhide HE]
  clear HE
  obtain ⟨p0, p1, pf0, pf1, pl⟩ := block2 (unhide HP)
  go_upto_region 2 with (go_at_call 51; refine (unhide HC _ (unhide HX)).mono ?_; rintro e w1 ⟨he, hb1⟩; obtain rfl : e = .returned (.agg #[.int .i64 F0, .int .i64 F1]) := he; have HX_1 := hide (Below.next (unhide HX) hb1 (by first | exact Nat.le_refl _ | (have := unhide HBA; omega))); have Kp_1 := hide (keep_below (unhide HP) hb1); have Kq_1 := hide (keep_below (unhide HQ) hb1); clear HX HP HQ; clear hb1 p0 p1 pf0 pf1 pl)
  have HX_2 := hide ((unhide HX_1).alloc (Nat.le_trans (show w.heap.size ≤ w.heap.size from Nat.le_refl _) (unhide HX_1).size) (.cells #[.int .i64 F0, .int .i64 F1] 29))
  have Kp_2 := hide (keep_alloc (unhide Kp_1) (.cells #[.int .i64 F0, .int .i64 F1] 29))
  have Kq_2 := hide (keep_alloc (unhide Kq_1) (.cells #[.int .i64 F0, .int .i64 F1] 29))
  have Kf_2 := hide (new_block w1 (.cells #[.int .i64 F0, .int .i64 F1] 29))
  have hlp_f : w.heap.size < w1.heap.size := size_of (unhide Kp_1)
  have hlq_f : w.heap.size + 1 < w1.heap.size := size_of (unhide Kq_1)
  obtain ⟨T, eT⟩ : ∃ X, w1.heap.size = X := ⟨_, rfl⟩
  obtain ⟨W2, eW2⟩ : ∃ X, w1.alloc (.cells #[.int .i64 F0, .int .i64 F1] 29) = X := ⟨_, rfl⟩
  rw [eT, eW2] at Kf_2; rw [eW2] at HX_2 Kp_2 Kq_2; rw [eT] at hlp_f hlq_f; rw [eT, eW2]
  clear eT eW2 HX_1 Kp_1 Kq_1
  have hqt : w.heap.size + 1 < T := by omega
  obtain ⟨p0, p1, pf0, pf1, pl⟩ := block2 (unhide Kp_2)
  obtain ⟨q0, q1, qf0, qf1, ql⟩ := block2 (unhide Kq_2)
  obtain ⟨f0, f1, ff0, ff1, fl⟩ := block2 (unhide Kf_2)
  by_cases hF : F0 = 0
  · have hr := unhide HR
    rw [if_neg (by simpa using hF)] at hr
    have HR2 := hide hr
    subst hF
    obtain ⟨hf0, hf1⟩ := unhide HGD rfl
    clear HR hr HGD
    by_cases h1 : x < 0
    · have hr := unhide HR2
      rw [if_pos (Or.inl h1)] at hr
      subst hr
      clear HR2
      go_wp2_with fail
      exact bodyPost_ret (v := .agg #[.int .i64 3, .int .i64 (-1)]) (by simp [results, Try.results47, go_sem, q0, q1]) rfl ⟨rfl, below_set2 (unhide HX_2) (Nat.le_succ _) _ _⟩
    by_cases h2 : 1000000000 < x
    · have hr := unhide HR2
      rw [if_pos (Or.inr h2)] at hr
      subst hr
      clear HR2
      go_wp2_with fail
      exact bodyPost_ret (v := .agg #[.int .i64 3, .int .i64 (-1)]) (by simp [results, Try.results47, go_sem, q0, q1]) rfl ⟨rfl, below_set2 (unhide HX_2) (Nat.le_succ _) _ _⟩
    have hr := unhide HR2
    rw [if_neg (fun h => h.elim h1 h2)] at hr
    have HR3 := hide hr
    have hwf : IntKind.i64.wrap (f + x) = f + x := wrapi (by omega) (by omega)
    clear HR2 hr
    by_cases h3 : 1000000000 < f + x
    · have hr := unhide HR3
      rw [if_pos h3] at hr
      subst hr
      clear HR3
      go_wp2_with fail
      exact bodyPost_ret (v := .agg #[.int .i64 9, .int .i64 0]) (by simp [results, Try.results47, go_sem, q0, q1]) rfl ⟨rfl, below_set2 (unhide HX_2) (Nat.le_succ _) _ _⟩
    · have hr := unhide HR3
      rw [if_neg h3] at hr
      subst hr
      clear HR3
      go_wp2_with fail
      exact bodyPost_ret (v := .agg #[.int .i64 0, .int .i64 0]) (by simp [results, Try.results47, go_sem, q0, q1]) rfl ⟨rfl, below_set2 (unhide HX_2) (Nat.le_succ _) _ _⟩
  · have hr := unhide HR
    rw [if_pos hF] at hr
    subst hr
    have x0 : (F0 != 0) = true := by simpa using hF
    clear HR hF
    go_wp2_with fail
    exact bodyPost_ret (v := .agg #[.int .i64 F0, .int .i64 F1]) (by simp [results, Try.results47, go_sem, q0, q1]) rfl ⟨rfl, below_set2 (unhide HX_2) (Nat.le_succ _) _ _⟩
end Go.Proofs.Ytpogcfdmkeebmaa
