/-
  taskmilllaw.clockBegun, taskmilllaw.long.
-/
import Derived.Test.YtidpmcanfedbdaaT
namespace Go.Proofs.Ytidpmcanfedbdaa
open Go.RowKit

theorem good_none : Good 0 0 [] := ⟨by simp, by omega, by omega, by omega, by omega, fun a h => by simp at h, List.Pairwise.nil, List.Pairwise.nil, List.Pairwise.nil⟩
theorem good_one : Good 0 1 [(1, 2, 3, 0)] := by
  have := good_none.ins (id := 1) (W := 2) (P := 3) (fun b hb => by simp at hb) (by omega) (by omega) (by omega) (by omega) (by omega) (by omega) (by simp)
  exact this
theorem begun_set : (setF 0 0 [] 1 2 3).1 = 0 := by
  rw [setF_fine good_none (by omega) (by omega) (by omega) (by simp [noL, leftL]) (by omega)]
theorem begun_pass : (passF 0 1 [(1, 2, 3, 0)] 9).1 = 0 := by
  rw [passF_fine good_one (by omega) (by omega)]
theorem begun_run : runL (0 + 9) 5000 1 [(1, 2, 3, 0)] [] = some (4, [(1, 11, 3, 3)], [(2, 1), (5, 1), (8, 1)]) := by
  rw [show (5000 : Nat) = 4997 + 1 + 1 + 1 from rfl, runL_go (by decide) (by decide)]
  rw [show (offL 1 (1, 2, 3, 0) []).1 = 2 from rfl, show (offL 1 (1, 2, 3, 0) []).2 = [(1, 5, 3, 1)] from rfl, runL_go (by decide) (by decide)]
  rw [show (offL 2 (1, 5, 3, 1) []).1 = 3 from rfl, show (offL 2 (1, 5, 3, 1) []).2 = [(1, 8, 3, 2)] from rfl, runL_go (by decide) (by decide)]
  rw [show (offL 3 (1, 8, 3, 2) []).1 = 4 from rfl, show (offL 3 (1, 8, 3, 2) []).2 = [(1, 11, 3, 3)] from rfl, runL_stop (by decide)]
  rfl

set_option maxRecDepth 100000 in
theorem long_any (w : World) (n : Nat) (hn : n ≤ maxLen) : Calls Try.prog 9 #[.int .i64 (n : Int)] w fun e w' => e = .returned (.bool (decide ((700 < n ∧ n < 4999) ∨ 6000 < n))) ∧ w' = w := by
  unfold maxLen at hn
  by_cases h1 : 700 < n
  · have j1 : (700 : Int) < (n : Int) := by omega
    by_cases h2 : n < 4999
    · have j2 : (n : Int) < 4999 := by omega
      rw [decide_eq_true (Or.inl ⟨h1, h2⟩)]
      go_enter Try.func9, Try.ntmps9
      go_wp2
      go_ret
      exact ⟨rfl, rfl⟩
    · have j2 : ¬ (n : Int) < 4999 := by omega
      by_cases h3 : 6000 < n
      · have j3 : (6000 : Int) < (n : Int) := by omega
        rw [decide_eq_true (Or.inr h3)]
        go_enter Try.func9, Try.ntmps9
        go_wp2
        go_ret
        exact ⟨rfl, rfl⟩
      · have j3 : ¬ (6000 : Int) < (n : Int) := by omega
        rw [decide_eq_false (by omega)]
        go_enter Try.func9, Try.ntmps9
        go_wp2
        go_ret
        exact ⟨rfl, rfl⟩
  · have j1 : ¬ (700 : Int) < (n : Int) := by omega
    have j3 : ¬ (6000 : Int) < (n : Int) := by omega
    rw [decide_eq_false (by omega)]
    go_enter Try.func9, Try.ntmps9
    go_wp2
    go_ret
    exact ⟨rfl, rfl⟩

set_option maxRecDepth 100000 in
set_option maxHeartbeats 2000000 in
theorem begun_any (w : World) : Calls Try.prog 8 #[] w fun e w' => e = .returned (.bool true) ∧ Below w.heap.size w w' := by
  have HS : Hid (Calls Try.prog 12 #[.agg #[.int .i64 0, .int .i64 0, .slice none 0 0], .int .i64 1, .int .i64 2, .int .i64 3] w fun e w' => ∃ a c, e = .returned (.tuple #[.agg #[.int .i64 0, .int .i64 1, .slice a 1 c], .bool false, .agg #[.int .i64 0, .int .i64 0]]) ∧ Own KA w.heap.size w' (.slice a 1 c) [(1, 2, 3, 0)] ∧ Below w.heap.size w w') := set_ok w _ 0 0 [] 1 2 3 (zero_c w) (by simp) begun_set
  have HP : Hid (∀ W a c, IsL KA W (.slice a 1 c) [(1, 2, 3, 0)] → Calls Try.prog 20 #[.agg #[.int .i64 0, .int .i64 1, .slice a 1 c], .int .i64 9] W fun e w' => ∃ v' a' c', e = .returned (.tuple #[.agg #[.int .i64 9, .int .i64 4, v'], .slice a' 3 c', .agg #[.int .i64 0, .int .i64 0]]) ∧ New KA W.heap.size w' v' [(1, 11, 3, 3)] ∧ Own KO W.heap.size w' (.slice a' 3 c') [(2, 1), (5, 1), (8, 1)] ∧ Below W.heap.size W w') := fun W a c h => by
    refine (pass_run W _ 0 1 [(1, 2, 3, 0)] 9 ⟨_, rfl, h⟩ (by simp [maxLen]) begun_pass).mono fun e w' ⟨h1, h2, h3⟩ => ?_
    obtain ⟨v', a', c', h4, h5, h6⟩ := h1 _ _ _ begun_run
    exact ⟨v', a', c', h4, h5, h6, h3⟩
  go_enter Try.func8, Try.ntmps8
  go_upto_region 2 with (go_at_call 12; refine (unhide HS).mono ?_; rintro e w1 ⟨a1, c1, rfl, ho1, hb1⟩; have HO1 := hide ho1.isl; have HX1 := hide hb1; clear ho1 hb1)
  obtain ⟨W1, e1, hB1, k0, k1⟩ := two_new w1 (.cells #[.int .i64 0, .int .i64 1, .slice a1 1 c1] 24) (.cells #[.int .i64 0, .int .i64 0] 29)
  rw [e1]
  have HX2 := hide (Below.next (unhide HX1) hB1 (Nat.le_refl _)); have HO2 := hide ((unhide HO1).below hB1); have HC := hide k0; have HF := hide k1
  clear e1 hB1 k0 k1 HX1 HO1 HS
  obtain ⟨C, eC⟩ : ∃ C, w1.heap.size = C := ⟨_, rfl⟩
  rw [eC] at HC HF ⊢
  clear eC
  obtain ⟨⟨c0, c2, c3⟩, -, cl⟩ := block3 (unhide HC)
  go_upto_region 3 with (go_at_call 20; refine (unhide HP _ a1 c1 (unhide HO2)).mono ?_; rintro e w2 ⟨v2, a2, d2, rfl, hn2, ho2, hb2⟩; obtain ⟨av, cv, ev⟩ : ∃ a c, v2 = .slice a 1 c := hn2.1.form; subst ev; have HO3 := hide ho2.isl; have HX3 := hide (Below.next (unhide HX2) hb2 (Nat.le_refl _)); have HF3 := hide (keep_below (unhide HF) hb2); clear hn2 ho2 hb2 c0 c2 c3 cl)
  obtain ⟨W3, e3, hB3, k0, k1⟩ := two_new w2 (.cells #[.int .i64 9, .int .i64 4, .slice av 1 cv] 24) (.cells #[.int .i64 0, .int .i64 0] 29)
  rw [e3]
  have HX4 := hide (Below.next (unhide HX3) hB3 (Nat.le_refl _)); have HO4 := hide ((unhide HO3).below hB3); have HF4 := hide (keep_below (unhide HF3) hB3); have HG4 := hide k1
  clear e3 hB3 k0 k1 HX3 HO3 HF3
  obtain ⟨G, eG⟩ : ∃ G, w2.heap.size = G := ⟨_, rfl⟩
  rw [eG] at HG4 ⊢
  clear eG
  obtain ⟨f0, f1, -, -, fl⟩ := block2 (unhide HF4)
  obtain ⟨g0, g1, -, -, gl⟩ := block2 (unhide HG4)
  have HI : Hid (IsL KO (W3.alloc (.cells #[.int .i64 2, .int .i64 1, .int .i64 5, .int .i64 1, .int .i64 8, .int .i64 1] 52)) (.slice (some ⟨W3.heap.size, 0, none⟩) 3 3) [(2, 1), (5, 1), (8, 1)]) := by
    refine Lies.isl ko (fun j i u hj hu => ?_) rfl (Nat.le_refl _)
    have hh := new_block W3 (.cells #[.int .i64 2, .int .i64 1, .int .i64 5, .int .i64 1, .int .i64 8, .int .i64 1] 52)
    simp only [World.cell?, hh]
    have hi : i < 2 := (List.getElem?_eq_some_iff.1 hu).1
    have hj3 : j = 0 ∨ j = 1 ∨ j = 2 := by simp at hj; omega
    have hi2 : i = 0 ∨ i = 1 := by omega
    rcases hj3 with rfl | rfl | rfl <;> rcases hi2 with rfl | rfl <;> exact hu
  have HS3 := hide (sameOff_same _ _ _ [(2, 1), (5, 1), (8, 1)] ((unhide HO4).below ((Below.refl W3.heap.size W3).alloc (Nat.le_refl _) (.cells #[.int .i64 2, .int .i64 1, .int .i64 5, .int .i64 1, .int .i64 8, .int .i64 1] 52))) (unhide HI) (by simp))
  go_wp2_with (go_at_call 22; refine (unhide HS3).mono ?_; rintro e w5 ⟨rfl, hb5⟩; have HX5 := hide (Below.next (Below.next (unhide HX4) ((Below.refl _ _).alloc (Nat.le_refl _) _) (Nat.le_refl _)) hb5 (Nat.le_refl _)); clear hb5)
  go_ret
  exact ⟨rfl, unhide HX5⟩

end Go.Proofs.Ytidpmcanfedbdaa
