/-
  sync.checkAcquire; sync.given where nobody is given anything.
-/
import Derived.Test.YtpogcfdmkeebmaaL
import Derived.Test.YtpogcfdmkeebmaaM
namespace Go.Proofs.Ytpogcfdmkeebmaa
open Go.RowKit

/-- Is it this task? -/
def isOfP (x : Int) (p : Po) : Bool := p.1 == x
theorem containsOf_any (w : World) (v : Value) (xs : List Po) (h : IsL KP w v xs) (hn : xs.length ≤ maxLen) (g : Nat) (x : Int) (hg : w.heap[g]? = some (.cells #[.int .i64 x] 3 (0, 0))) :
    Calls Try.prog 52 #[v, .func (.func 56) #[] #[.pointer (some ⟨g, 0, none⟩)]] w fun e w' => e = .returned (.bool (xs.any (isOfP x))) ∧ Below w.heap.size w w' :=
  containsFunc_any w v xs h hn 56 enters_isOf _ (isOfP x) (fun W y hW => isof1_any W g x y.1 y.2.1 y.2.2 (keep_below hg hW))
theorem any_isOf (l : List Po) (x : Int) : (l.any (isOfP x) = true) ↔ x ∈ tasks l := by
  unfold tasks isOfP
  simp only [List.any_eq_true, beq_iff_eq, List.mem_map]
/-- What is wrong with an Acquire. -/
def acqF (f : Int) (l : List Po) (x u : Int) : Int × Int := if (semaF f l).1 ≠ 0 then semaF f l else if x < 1 ∨ u < 1 ∨ 1000000000 < u then (3, -1) else if l.any (isOfP x) = true then (10, -1) else if l.length = 5000 then (9, 0) else (0, 0)
theorem acqF_good {f : Int} {l : List Po} {x u : Int} (h : (acqF f l x u).1 = 0) : (semaF f l).1 = 0 ∧ acqF f l x u = (0, 0) ∧ 1 ≤ x ∧ 1 ≤ u ∧ u ≤ 1000000000 ∧ l.any (isOfP x) = false ∧ l.length ≠ 5000 := by
  unfold acqF at h ⊢
  split at h
  · rename_i q; exact absurd h q
  · rename_i q0
    split at h
    · cases h
    · split at h
      · cases h
      · split at h
        · cases h
        · rename_i q1 q2 q3
          rw [if_neg q0, if_neg q1, if_neg q2, if_neg q3]
          exact ⟨by omega, rfl, by omega, by omega, by omega, by simpa using q2, q3⟩

set_option maxRecDepth 100000 in
set_option maxHeartbeats 2000000 in
theorem checkAcquire_any (w : World) (v : Value) (f : Int) (line : List Po) (x u : Int) (h : IsG KP w v f line) (hn : line.length ≤ maxLen) :
    Calls Try.prog 41 #[v, .int .i64 x, .int .i64 u] w fun e w' => e = .returned (faultV (acqF f line x u)) ∧ Below w.heap.size w w' := by
  have HC : Hid (∀ W, Below w.heap.size w W → Calls Try.prog 51 #[v] W fun e w' => e = .returned (faultV (semaF f line)) ∧ Below W.heap.size W w') := fun W hW => checkSema_any W v f line (h.below hW) hn
  obtain ⟨a0, c0, rfl, hL⟩ := h.form
  have HCS : Hid (∀ W g, Below w.heap.size w W → W.heap[g]? = some (.cells #[.int .i64 x] 3 (0, 0)) → Calls Try.prog 52 #[.slice a0 line.length c0, .func (.func 56) #[] #[.pointer (some ⟨g, 0, none⟩)]] W fun e w' => e = .returned (.bool (line.any (isOfP x))) ∧ Below W.heap.size W w') := fun W g hW hg => containsOf_any W _ line (hL.below hW) hn g x hg
  obtain ⟨R, eR⟩ : ∃ R, acqF f line x u = R := ⟨_, rfl⟩
  rw [eR]
  unfold acqF at eR
  obtain ⟨⟨F0, F1⟩, eF⟩ : ∃ F, semaF f line = F := ⟨_, rfl⟩
  obtain ⟨q, hq⟩ : ∃ q, line.any (isOfP x) = q := ⟨_, rfl⟩
  rw [eF] at HC eR
  rw [hq] at HCS eR
  unfold maxLen at hn
  generalize line.length = n at *
  simp only at eR
  have HR := hide eR
  clear h hL eR eF hq
  obtain ⟨W0, e0, hB, k0, k1⟩ := two_new w (.cells #[.int .i64 f, .slice a0 n c0] 51) (.cells #[.int .i64 0, .int .i64 0] 29)
  have HX := hide hB; have HP := hide k0; have HQ := hide k1; have HE := hide e0
  clear hB k0 k1 e0
  go_enter Try.func41, Try.ntmps41
  go_upto_region 1 with fail
  rw [unhide HE]
  clear HE
  obtain ⟨p0, p1, pf0, pf1, pl⟩ := block2 (unhide HP)
  go_upto_region 2 with (go_at_call 51; refine (unhide HC _ (unhide HX)).mono ?_; rintro e w1 ⟨he, hb1⟩; obtain rfl : e = .returned (.agg #[.int .i64 F0, .int .i64 F1]) := he; have HX_1 := hide (Below.next (unhide HX) hb1 (by first | exact Nat.le_refl _ | (have := unhide HBA; omega))); have Kp_1 := hide (keep_below (unhide HP) hb1); have Kq_1 := hide (keep_below (unhide HQ) hb1); clear HX HP HQ; clear hb1 p0 p1 pf0 pf1 pl)
  have HX_2 := hide ((unhide HX_1).alloc (Nat.le_trans (show w.heap.size ≤ w.heap.size from Nat.le_refl _) (unhide HX_1).size) (.cells #[.int .i64 F0, .int .i64 F1] 29))
  have Kp_2 := hide (keep_alloc (unhide Kp_1) (.cells #[.int .i64 F0, .int .i64 F1] 29))
  have Kq_2 := hide (keep_alloc (unhide Kq_1) (.cells #[.int .i64 F0, .int .i64 F1] 29))
  have Kf_2 := hide (new_block w1 (.cells #[.int .i64 F0, .int .i64 F1] 29))
  have hlp_f : w.heap.size < w1.heap.size := size_of (unhide Kp_1)
  have hlq_f : w.heap.size + 1 < w1.heap.size := size_of (unhide Kq_1)
  obtain ⟨T, eT⟩ : ∃ X, w1.heap.size = X := ⟨_, rfl⟩
  obtain ⟨W2, eW2⟩ : ∃ X, w1.alloc (.cells #[.int .i64 F0, .int .i64 F1] 29) = X := ⟨_, rfl⟩
  rw [eT, eW2] at Kf_2; rw [eW2] at HX_2 Kp_2 Kq_2; rw [eT] at hlp_f hlq_f; rw [eT, eW2]
  clear eT eW2 HX_1 Kp_1 Kq_1
  have hqt : w.heap.size + 1 < T := by omega
  obtain ⟨p0, p1, pf0, pf1, pl⟩ := block2 (unhide Kp_2)
  obtain ⟨q0, q1, qf0, qf1, ql⟩ := block2 (unhide Kq_2)
  obtain ⟨f0, f1, ff0, ff1, fl⟩ := block2 (unhide Kf_2)
  by_cases hF : F0 ≠ 0
  · have hr := unhide HR
    rw [if_pos hF] at hr
    subst hr
    have x0 : (F0 != 0) = true := by simpa using hF
    clear HR hF
    go_wp2_with fail
    exact bodyPost_ret (v := .agg #[.int .i64 F0, .int .i64 F1]) (by simp [results, Try.results41, go_sem, q0, q1]) rfl ⟨rfl, below_set2 (unhide HX_2) (Nat.le_succ _) _ _⟩
  have hr := unhide HR
  rw [if_neg hF] at hr
  have HR2 := hide hr
  have hF0 : F0 = 0 := by omega
  subst hF0
  clear HR hr hF
  by_cases h1 : x < 1
  · have hr := unhide HR2
    rw [if_pos (Or.inl h1)] at hr
    subst hr
    clear HR2
    go_wp2_with fail
    exact bodyPost_ret (v := .agg #[.int .i64 3, .int .i64 (-1)]) (by simp [results, Try.results41, go_sem, q0, q1]) rfl ⟨rfl, below_set2 (unhide HX_2) (Nat.le_succ _) _ _⟩
  by_cases h2 : u < 1
  · have hr := unhide HR2
    rw [if_pos (Or.inr (Or.inl h2))] at hr
    subst hr
    clear HR2
    go_wp2_with fail
    exact bodyPost_ret (v := .agg #[.int .i64 3, .int .i64 (-1)]) (by simp [results, Try.results41, go_sem, q0, q1]) rfl ⟨rfl, below_set2 (unhide HX_2) (Nat.le_succ _) _ _⟩
  by_cases h3 : 1000000000 < u
  · have hr := unhide HR2
    rw [if_pos (Or.inr (Or.inr h3))] at hr
    subst hr
    clear HR2
    go_wp2_with fail
    exact bodyPost_ret (v := .agg #[.int .i64 3, .int .i64 (-1)]) (by simp [results, Try.results41, go_sem, q0, q1]) rfl ⟨rfl, below_set2 (unhide HX_2) (Nat.le_succ _) _ _⟩
  have hr := unhide HR2
  rw [if_neg (fun h => h.elim h1 (fun h => h.elim h2 h3))] at hr
  have HR3 := hide hr
  clear HR2 hr
  go_upto_region 6 with fail
  clear p0 p1 pf0 pf1 pl q0 q1 qf0 qf1 ql f0 f1 ff0 ff1 fl
  have HSS : Hid (∀ W, Below W2.heap.size W2 W → W.cell? ⟨w.heap.size, 1, none⟩ = some (.slice a0 n c0) ∧ Below W2.heap.size W2 W) := fun W hW => by
    obtain ⟨-, k1, -, -, -⟩ := block2 (keep_below (unhide Kp_2) hW)
    exact ⟨k1, hW⟩
  obtain ⟨k1, -⟩ := unhide HSS _ (Below.refl _ _)
  go_wp2_with fail
  go_region_held3 (fun W => W.cell? ⟨w.heap.size, 1, none⟩ = some (.slice a0 n c0) ∧ Below W2.heap.size W2 W)
    (first | with_reducible exact unhide HSS _ (Below.refl _ _).drew | with_reducible exact unhide HSS _ (unhide HY))
    (first
     | (go_at_call 46; refine (isOf_any _ _).mono ?_; rintro e w3 ⟨rfl, hg3, hb3⟩; have HY : Hid (Below W2.heap.size W2 w3) := Below.next (by go_split_ands; assumption) hb3 (Nat.le_refl _); have HGG := hide hg3; clear hg3 hb3)
     | (go_at_call 52; refine (unhide HCS _ _ (Below.next (unhide HX_2) (unhide HY) (Nat.le_refl _)) (unhide HGG)).mono ?_; rintro e w4 ⟨rfl, hb4⟩; have HY2 := hide (Below.next (unhide HY) hb4 (Nat.le_refl _)); clear HY; have HY := HY2; clear HY2 hb4))
  have HX9 := hide (Below.next (unhide HX_2) (unhide HY) (Nat.le_refl _))
  have HP9 := hide (keep_below (unhide Kp_2) (unhide HY)); have HQ9 := hide (keep_below (unhide Kq_2) (unhide HY))
  clear k1
  obtain ⟨p0, p1, pf0, pf1, pl⟩ := block2 (unhide HP9)
  obtain ⟨q0, q1, qf0, qf1, ql⟩ := block2 (unhide HQ9)
  cases q with
  | true =>
    have hr := unhide HR3
    rw [if_pos rfl] at hr
    subst hr
    clear HR3
    go_wp2_with fail
    exact bodyPost_ret (v := .agg #[.int .i64 10, .int .i64 (-1)]) (by simp [results, Try.results41, go_sem, q0, q1]) rfl ⟨rfl, below_set2 (unhide HX9) (Nat.le_succ _) _ _⟩
  | false =>
    have hr := unhide HR3
    rw [if_neg (by simp)] at hr
    have HR4 := hide hr
    clear HR3 hr
    by_cases hn5 : n = 5000
    · have hr := unhide HR4
      rw [if_pos hn5] at hr
      subst hr
      subst hn5
      clear HR4
      go_wp2_with fail
      exact bodyPost_ret (v := .agg #[.int .i64 9, .int .i64 0]) (by simp [results, Try.results41, go_sem, q0, q1]) rfl ⟨rfl, below_set2 (unhide HX9) (Nat.le_succ _) _ _⟩
    · have hr := unhide HR4
      rw [if_neg hn5] at hr
      subst hr
      have xn : ((n : Int) == 5000) = false := by simp; omega
      clear HR4 hn5
      go_wp2_with fail
      exact bodyPost_ret (v := .agg #[.int .i64 0, .int .i64 0]) (by simp [results, Try.results41, go_sem, q0, q1]) rfl ⟨rfl, below_set2 (unhide HX9) (Nat.le_succ _) _ _⟩

set_option maxRecDepth 100000 in
set_option maxHeartbeats 2000000 in
theorem given_stay (w : World) (v : Value) (f : Int) (line : List Po) (h : IsG KP w v f line) (hlet : lets f line = false) :
    Calls Try.prog 43 #[v] w fun e w' => e = .returned (.tuple #[v, .slice none 0 0]) ∧ Below w.heap.size w w' := by
  have HA : Hid (∀ W, Below w.heap.size w W → Calls Try.prog 53 #[v] W fun e w' => e = .returned (.bool false) ∧ Below W.heap.size W w') := fun W hW => by
    rw [← hlet]
    exact gives_any W v f line (h.below hW)
  obtain ⟨a0, c0, rfl, hL⟩ := h.form
  generalize line.length = n at *
  clear h hL hlet
  obtain ⟨W0, e0, hB, k0, k1⟩ := two_new w (.cells #[.int .i64 f, .slice a0 n c0] 51) (.cells #[.int .i64 0, .slice none 0 0] 51)
  have HX := hide hB; have HP := hide k0; have HQ := hide k1; have HE := hide e0
  clear hB k0 k1 e0
  go_enter Try.func43, Try.ntmps43
  go_upto_region 1 with fail
  rw [unhide HE]
  clear HE
  go_wp2_with fail
  go_loopw [4] (fun x W => x = .slice none 0 0 ∧ W = W0) (fun _ _ => 0)
  case atStart => exact ⟨rfl, rfl⟩
  case round =>
    obtain ⟨rfl, rfl⟩ := hrel
    obtain ⟨p0, p1, pf0, pf1, pl⟩ := block2 (unhide HP)
    go_wp2_with (go_at_call 53; refine (unhide HA _ (unhide HX)).mono ?_; rintro e w1 ⟨rfl, hb1⟩; have HX_1 := hide (Below.next (unhide HX) hb1 (by first | exact Nat.le_refl _ | (have := unhide HBA; omega))); have Kp_1 := hide (keep_below (unhide HP) hb1); have Kq_1 := hide (keep_below (unhide HQ) hb1); clear HX HP HQ; clear p0 p1 pf0 pf1 pl hb1; obtain ⟨p0, p1, pf0, pf1, pl⟩ := block2 (unhide Kp_1); obtain ⟨q0, q1, qf0, qf1, ql⟩ := block2 (unhide Kq_1))
    clear p0 p1 pf0 pf1 pl q0 q1 qf0 qf1 ql
    have HX_2 := hide (put2_below (y0 := .int .i64 f) (y1 := .slice a0 n c0) (unhide HX_1) (show w.heap.size ≤ w.heap.size + 1 by first | omega | (have := unhide HBA; omega)))
    have Kp_2 := hide ((put2_keep (y0 := .int .i64 f) (y1 := .slice a0 n c0) (show w.heap.size ≠ w.heap.size + 1 by omega)).trans (unhide Kp_1))
    have Kq_2 := hide (put2_new (y0 := .int .i64 f) (y1 := .slice a0 n c0) (unhide Kq_1))
    obtain ⟨V1, eV1⟩ : ∃ X, put2 w1 (w.heap.size + 1) (.int .i64 f) (.slice a0 n c0) = X := ⟨_, rfl⟩
    rw [eV1] at HX_2 Kp_2 Kq_2
    have eV12 : ((w1).setCell ⟨w.heap.size + 1, 0, none⟩ (.int .i64 f)).setCell ⟨w.heap.size + 1, 1, none⟩ (.slice a0 n c0) = V1 := eV1
    rw [eV12]
    clear eV1 eV12 HX_1 Kp_1 Kq_1
    obtain ⟨q0, q1, qf0, qf1, ql⟩ := block2 (unhide Kq_2)
    exact bodyPost_ret (v := .tuple #[.agg #[.int .i64 f, .slice a0 n c0], .slice none 0 0]) (by simp [results, Try.results43, go_sem, q0, q1]) rfl ⟨rfl, unhide HX_2⟩
end Go.Proofs.Ytpogcfdmkeebmaa
