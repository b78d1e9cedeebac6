/-
  clock.Soon.
-/
import Derived.Test.YtidpmcanfedbdaaVb
namespace Go.Proofs.Ytidpmcanfedbdaa
open Go.RowKit

/-- What Soon answers: ticks, and the fault. -/
def soonR (now next : Int) (xs : List Al) : Int × (Int × Int) := if (clockF now next xs).1 ≠ 0 then (0, clockF now next xs) else match xs with
  | [] => (0, (6, 0))
  | x :: _ => (x.2.1 - now, (0, 0))

set_option maxRecDepth 100000 in
set_option maxHeartbeats 2000000 in
theorem soon_any (w : World) (v : Value) (now next : Int) (xs : List Al) (h : IsC w v now next xs) (hn : xs.length ≤ maxLen) (r S0 S1 : Int) (hR : soonR now next xs = (r, (S0, S1))) :
    Calls Try.prog 14 #[v] w fun e w' => e = .returned (.tuple #[.int .i64 r, .agg #[.int .i64 S0, .int .i64 S1]]) ∧ Below w.heap.size w w' := by
  have HC : Hid (∀ W, Below w.heap.size w W → Calls Try.prog 11 #[v] W fun e w' => e = .returned (faultV (clockF now next xs)) ∧ Below W.heap.size W w') := fun W hW => check_any W v now next xs (h.below hW) hn
  unfold soonR at hR
  have HGD : Hid ((clockF now next xs).1 = 0 → clockF now next xs = (0, 0) ∧ Good now next xs) := fun hz => clockF_good hz
  obtain ⟨⟨F0, F1⟩, eF⟩ : ∃ F, clockF now next xs = F := ⟨_, rfl⟩
  rw [eF] at HC hR HGD
  obtain ⟨a0, c0, rfl, hL⟩ := h.form
  have H0 := hide (hL.opens ka rfl)
  obtain ⟨n, en⟩ : ∃ n, xs.length = n := ⟨_, rfl⟩
  rw [en] at HC H0 ⊢
  have HN := hide en; have HR := hide hR
  clear h hL eF hR en hn
  obtain ⟨W0, e0, hB, k0, k1⟩ := two_new w (.cells #[.int .i64 now, .int .i64 next, .slice a0 n c0] 24) (.cells #[.int .i64 0, .int .i64 0] 29)
  have HX := hide hB; have HP := hide k0; have HG := hide k1; have HE := hide e0
  clear hB k0 k1 e0
  go_enter Try.func14, Try.ntmps14
  go_upto_region 1 with fail
  rw [unhide HE]
  clear HE
  obtain ⟨⟨p0, p1, p2⟩, ⟨pf0, pf1, pf2⟩, pl⟩ := block3 (unhide HP)
  go_upto_region 2 with (go_at_call 11; refine (unhide HC _ (unhide HX)).mono ?_; rintro e w1 ⟨he, hb1⟩; obtain rfl : e = .returned (.agg #[.int .i64 F0, .int .i64 F1]) := he; have HX_1 := hide (Below.next (unhide HX) hb1 (by first | exact Nat.le_refl _ | (have := unhide HBA; omega))); have Kp_1 := hide (keep_below (unhide HP) hb1); have Kg_1 := hide (keep_below (unhide HG) hb1); clear HX HP HG; clear hb1 p0 p1 p2 pf0 pf1 pf2 pl)
  have HX_2 := hide ((unhide HX_1).alloc (Nat.le_trans (show w.heap.size ≤ w.heap.size from Nat.le_refl _) (unhide HX_1).size) (.cells #[.int .i64 F0, .int .i64 F1] 29))
  have Kp_2 := hide (keep_alloc (unhide Kp_1) (.cells #[.int .i64 F0, .int .i64 F1] 29))
  have Kg_2 := hide (keep_alloc (unhide Kg_1) (.cells #[.int .i64 F0, .int .i64 F1] 29))
  have Kf_2 := hide (new_block w1 (.cells #[.int .i64 F0, .int .i64 F1] 29))
  have hlp_f : w.heap.size < w1.heap.size := size_of (unhide Kp_1)
  have hlg_f : w.heap.size + 1 < w1.heap.size := size_of (unhide Kg_1)
  obtain ⟨T, eT⟩ : ∃ X, w1.heap.size = X := ⟨_, rfl⟩
  obtain ⟨W2, eW2⟩ : ∃ X, w1.alloc (.cells #[.int .i64 F0, .int .i64 F1] 29) = X := ⟨_, rfl⟩
  rw [eT, eW2] at Kf_2; rw [eW2] at HX_2 Kp_2 Kg_2; rw [eT] at hlp_f hlg_f; rw [eT, eW2]
  clear eT eW2 HX_1 Kp_1 Kg_1
  have hqt : w.heap.size + 1 < T := by omega
  by_cases hF : F0 ≠ 0
  · have hr := unhide HR
    rw [if_pos hF] at hr
    have x0 : (F0 != 0) = true := by simpa using hF
    cases hr
    clear HR HGD hF
    obtain ⟨f0, f1, ff0, ff1, fl⟩ := block2 (unhide Kf_2)
    obtain ⟨g0, g1, gf0, gf1, gl⟩ := block2 (unhide Kg_2)
    obtain ⟨⟨p0, p1, p2⟩, ⟨pf0, pf1, pf2⟩, pl⟩ := block3 (unhide Kp_2)
    go_upto_region 3 with fail
    go_wp2_with fail
    have u1_ : w.heap.size + 1 ≠ T := by omega
    have u2_ : T ≠ w.heap.size + 1 := by omega
    go_region
    all_goals
      go_wp2_with fail
      exact bodyPost_ret (v := .tuple #[.int .i64 0, .agg #[.int .i64 S0, .int .i64 S1]]) (by simp [results, Try.results14, go_sem, g0, g1]) rfl ⟨rfl, put2_below ((unhide HX_2).drew) (by omega)⟩
  obtain rfl : F0 = 0 := Decidable.not_not.1 hF
  obtain ⟨hf1, gd⟩ := unhide HGD rfl
  obtain rfl : F1 = 0 := congrArg Prod.snd hf1
  have hr := unhide HR
  rw [if_neg (by simp)] at hr
  have HR2 := hide hr; have HG2 := hide gd
  clear HR HGD hF hr hf1 gd
  obtain ⟨f0, f1, ff0, ff1, fl⟩ := block2 (unhide Kf_2)
  obtain ⟨g0, g1, gf0, gf1, gl⟩ := block2 (unhide Kg_2)
  obtain ⟨⟨p0, p1, p2⟩, ⟨pf0, pf1, pf2⟩, pl⟩ := block3 (unhide Kp_2)
  cases xs with
  | nil =>
    obtain rfl : n = 0 := (unhide HN).symm
    have hr := unhide HR2
    cases hr
    go_wp2_with fail
    exact bodyPost_ret (v := .tuple #[.int .i64 0, .agg #[.int .i64 6, .int .i64 0]]) (by simp [results, Try.results14, go_sem, g0, g1]) rfl ⟨rfl, put2_below (unhide HX_2) (by omega)⟩
  | cons x l =>
    obtain ⟨t, d, u, y⟩ := x
    have hn0 : 0 < n := by rw [← unhide HN]; simp
    have hr := unhide HR2
    cases hr
    have hxr := (oor_iff now next (t, d, u, y)).1 ((unhide HG2).rng _ (by simp))
    simp only at hxr
    have hg0 := (unhide HG2).n0; have hg1 := (unhide HG2).n1
    have hw1 : IntKind.i64.wrap (d - now) = d - now := wrapi (by omega) (by omega)
    have i0 : (0 : Int) < (n : Int) := by omega
    have x5 : ((n : Int) == 0) = false := by rw [beq_eq_false_iff_ne]; omega
    obtain ⟨b0, o0, rfl, hb0, l0⟩ := unhide H0 hn0
    obtain ⟨k0, k1, k2, k3⟩ := (l0.below (unhide HX_2) hb0).alarm (j := 0) (by simp) (t := t) (c := d) (u := u) (y := y) rfl
    simp only [Nat.zero_mul, Nat.add_zero] at k0 k1 k2 k3
    have HB0 := hide hb0
    have HSS : Hid (∀ W : World, W.heap[w.heap.size]? = W2.heap[w.heap.size]? → W.heap[b0]? = W2.heap[b0]? → W.cell? ⟨w.heap.size, 0, none⟩ = some (.int .i64 now) ∧ W.cell? ⟨w.heap.size, 2, none⟩ = some (.slice (some ⟨b0, o0, none⟩) n c0) ∧ W.cell? ⟨b0, o0 + 1, none⟩ = some (.int .i64 d)) := fun W h1 h2 => ⟨(World.cell?_of_block (w := W2) (a := ⟨w.heap.size, 0, none⟩) h1).trans p0, (World.cell?_of_block (w := W2) (a := ⟨w.heap.size, 2, none⟩) h1).trans p2, (World.cell?_of_block (w := W2) (a := ⟨b0, o0 + 1, none⟩) h2).trans k1⟩
    clear l0 H0 hb0
    have hbg : b0 < w.heap.size := unhide HB0
    go_upto_region 6 with fail
    go_wp2_with fail
    go_region_held3 (fun W => W.cell? ⟨w.heap.size, 0, none⟩ = some (.int .i64 now) ∧ W.cell? ⟨w.heap.size, 2, none⟩ = some (.slice (some ⟨b0, o0, none⟩) n c0) ∧ W.cell? ⟨b0, o0 + 1, none⟩ = some (.int .i64 d))
      (first | exact unhide HSS _ rfl rfl | (refine unhide HSS _ ?_ ?_ <;> (unfold World.drew; (try simp only []); repeat (rw [Below.heap_setCell _ _ _ _ (by simp <;> omega)]))))
      (fail)
    all_goals
      go_wp2_with fail
      exact bodyPost_ret (v := .tuple #[.int .i64 (d - now), .agg #[.int .i64 0, .int .i64 0]]) (by simp [results, Try.results14, go_sem, g0, g1]) rfl ⟨rfl, put2_below ((unhide HX_2).drew) (by omega)⟩
end Go.Proofs.Ytidpmcanfedbdaa
