/-
  The walk of taskmilllaw.ClockPasses.
-/
import Derived.Test.YtidpmcanfedbdaaVb
namespace Go.Proofs.Ytidpmcanfedbdaa
open Go.RowKit

theorem passR_fault {now next : Int} {xs : List Al} {ticks F0 F1 n1 x1 : Int} {zs : List Al} {td : List (Int × Int)} (h : passR now next xs ticks = ((F0, F1), (n1, x1, zs), td)) (hf : (passF now next xs ticks).1 ≠ 0) : passF now next xs ticks = (F0, F1) ∧ n1 = 0 ∧ x1 = 0 ∧ zs = [] ∧ td = [] := by
  unfold passR at h
  rw [if_pos hf] at h
  obtain ⟨hF, hC⟩ := Prod.mk.inj h
  cases hC
  exact ⟨hF, rfl, rfl, rfl, rfl⟩
/-- What Pass answers, by ways. -/
theorem passR_ways {now next : Int} {xs : List Al} {ticks F0 F1 n1 x1 C0 C1 : Int} {zs : List Al} {td : List (Int × Int)} (h : passR now next xs ticks = ((F0, F1), (n1, x1, zs), td)) (hc : clockF now next xs = (C0, C1)) :
    (C0 ≠ 0 → F0 = C0 ∧ F1 = C1 ∧ n1 = 0 ∧ x1 = 0 ∧ zs = [] ∧ td = []) ∧
    (C0 = 0 → C1 = 0 ∧ Good now next xs ∧ ((ticks < 0 ∨ 1000000000 < ticks) → F0 = 3 ∧ F1 = -1 ∧ n1 = 0 ∧ x1 = 0 ∧ zs = [] ∧ td = []) ∧
      (¬ (ticks < 0 ∨ 1000000000 < ticks) → ((¬ Small (now + ticks) ∨ runL (now + ticks) 5000 next xs [] = none) ∧ F0 = 9 ∧ F1 = 0 ∧ n1 = 0 ∧ x1 = 0 ∧ zs = [] ∧ td = []) ∨ (Small (now + ticks) ∧ runL (now + ticks) 5000 next xs [] = some (x1, zs, td) ∧ F0 = 0 ∧ F1 = 0 ∧ n1 = now + ticks))) := by
  refine ⟨fun h0 => ?_, fun h0 => ?_⟩
  · have hp : passF now next xs ticks = (C0, C1) := by unfold passF; rw [hc, if_pos h0]
    obtain ⟨h1, h2⟩ := passR_fault h (by rw [hp]; exact h0)
    rw [hp] at h1
    cases h1
    exact ⟨rfl, rfl, h2⟩
  · obtain ⟨hg1, hg2⟩ := clockF_good (now := now) (next := next) (xs := xs) (by rw [hc]; exact h0)
    rw [hc] at hg1
    refine ⟨congrArg Prod.snd hg1, hg2, fun ht => ?_, fun ht => ?_⟩
    · have hp : passF now next xs ticks = (3, -1) := by unfold passF; rw [hc, if_neg (by simpa using h0), if_pos (by omega)]
      obtain ⟨h1, h2⟩ := passR_fault h (by rw [hp]; decide)
      rw [hp] at h1
      cases h1
      exact ⟨rfl, rfl, h2⟩
    · by_cases hE : 1000000000 < now + ticks
      · have hp : passF now next xs ticks = (9, 0) := by unfold passF; rw [hc, if_neg (by simpa using h0), if_neg (by omega), if_pos hE]
        obtain ⟨h1, h2⟩ := passR_fault h (by rw [hp]; decide)
        rw [hp] at h1
        cases h1
        exact Or.inl ⟨Or.inl (by unfold Small; omega), rfl, rfl, h2⟩
      · have hp : passF now next xs ticks = (0, 0) := by unfold passF; rw [hc, if_neg (by simpa using h0), if_neg (by omega), if_neg hE]
        unfold passR at h
        rw [hp, if_neg (by simp)] at h
        cases hr : runL (now + ticks) 5000 next xs [] with
        | none => rw [hr] at h; cases h; exact Or.inl ⟨Or.inr rfl, rfl, rfl, rfl, rfl, rfl, rfl⟩
        | some r =>
          obtain ⟨r1, r2, r3⟩ := r
          rw [hr] at h
          cases h
          exact Or.inr ⟨by unfold Small; omega, rfl, rfl, rfl, rfl⟩

set_option maxRecDepth 100000 in
set_option maxHeartbeats 2000000 in
theorem passes_walk (w : World) (v : Value) (now next : Int) (xs : List Al) (ticks : Int) (h : IsC w v now next xs) (hm : xs.length * 32 ≤ 140737488355328) :
    Calls Try.prog 4 #[v, .int .i64 ticks] w fun e w' => e = .returned (.bool true) ∧ Below w.heap.size w w' := by
  have hn : xs.length ≤ maxLen := by unfold maxLen; omega
  have HIC := hide h
  obtain ⟨a0, c0, rfl, hL⟩ := h.form
  obtain ⟨⟨⟨F0, F1⟩, ⟨n1, x1, zs⟩, td⟩, e1⟩ : ∃ r, passR now next xs ticks = r := ⟨_, rfl⟩
  obtain ⟨⟨C0, C1⟩, e2⟩ : ∃ r, clockF now next xs = r := ⟨_, rfl⟩
  obtain ⟨hw0, hw1⟩ := passR_ways e1 e2
  have HW0 := hide hw0; have HW1 := hide hw1
  have HCF : Hid (∀ W, Below w.heap.size w W → Calls Try.prog 15 #[.agg #[.int .i64 now, .int .i64 next, .slice a0 xs.length c0]] W fun e w' => e = .returned (.agg #[.int .i64 C0, .int .i64 C1]) ∧ Below W.heap.size W w') := fun W hW => by
    have := clockFault_any W _ now next xs ((unhide HIC).below hW) hn
    rw [e2] at this
    exact this
  have HOW : Hid (∀ W, Below w.heap.size w W → Calls Try.prog 10 #[.agg #[.int .i64 now, .int .i64 next, .slice a0 xs.length c0]] W fun e w' => ∃ a c, e = .returned (.agg #[.int .i64 now, .int .i64 next, .slice a xs.length c]) ∧ IsL KA w' (.slice a xs.length c) xs ∧ Below W.heap.size W w') := fun W hW => ownClock_any W _ now next xs ((unhide HIC).below hW) hm
  have HPS : Hid (∀ W a c, IsL KA W (.slice a xs.length c) xs → Calls Try.prog 20 #[.agg #[.int .i64 now, .int .i64 next, .slice a xs.length c], .int .i64 ticks] W fun e w' => ∃ av cv a c, e = .returned (.tuple #[.agg #[.int .i64 n1, .int .i64 x1, .slice av zs.length cv], .slice a td.length c, .agg #[.int .i64 F0, .int .i64 F1]]) ∧ IsL KA w' (.slice av zs.length cv) zs ∧ IsL KO w' (.slice a td.length c) td ∧ Below W.heap.size W w') := fun W a c hl => pass_any W _ now next xs ticks ⟨_, rfl, hl⟩ hn F0 F1 n1 x1 zs td e1
  have HPD : Hid (∀ W, Below w.heap.size w W → Good now next xs → 0 ≤ ticks → ticks ≤ 1000000000 → Calls Try.prog 21 #[.agg #[.int .i64 now, .int .i64 next, .slice a0 xs.length c0], .int .i64 ticks] W fun e w' => (∀ nx zs td, Small (now + ticks) → runL (now + ticks) 5000 next xs [] = some (nx, zs, td) → ∃ av cv a c, e = .returned (.tuple #[.agg #[.int .i64 (now + ticks), .int .i64 nx, .slice av zs.length cv], .slice a td.length c, .bool true]) ∧ Lo w.heap.size w' (.slice av zs.length cv) zs ∧ Own KO W.heap.size w' (.slice a td.length c) td) ∧ (¬ Small (now + ticks) ∨ runL (now + ticks) 5000 next xs [] = none → ∃ n1 n2 av m cv, e = .returned (.tuple #[.agg #[.int .i64 n1, .int .i64 n2, .slice av m cv], .slice none 0 0, .bool false])) ∧ Below W.heap.size W w') := fun W hW g h1 h2 => passed_any W w.heap.size a0 c0 now next xs ticks (hL.lo.below hW) hW.size g h1 h2
  obtain ⟨n, en⟩ : ∃ n, xs.length = n := ⟨_, rfl⟩
  rw [en] at HCF HOW HPS HPD hm hn ⊢
  obtain ⟨m, em⟩ : ∃ m, zs.length = m := ⟨_, rfl⟩
  obtain ⟨k, ek⟩ : ∃ k, td.length = k := ⟨_, rfl⟩
  rw [em, ek] at HPS
  have HEM := hide em; have HEK := hide ek
  clear h hL en em ek e1 e2 hw0 hw1 HIC
  obtain ⟨W0, e0, hB, k0⟩ : ∃ W, w.alloc (.cells #[.int .i64 now, .int .i64 next, .slice a0 n c0] 24) = W ∧ Below w.heap.size w W ∧ W.heap[w.heap.size]? = some (.cells #[.int .i64 now, .int .i64 next, .slice a0 n c0] 24) := ⟨_, rfl, (Below.refl _ _).alloc (Nat.le_refl _) _, new_block _ _⟩
  have HX := hide hB; have HP := hide k0; have HE := hide e0
  clear hB k0 e0
  go_enter Try.func4, Try.ntmps4
  go_upto_region 1 with fail
  rw [unhide HE]
  clear HE
  go_upto_region 3 with (go_at_call 8; refine (begun_any _).mono ?_; rintro e w1 ⟨rfl, hb1⟩; have HX_1 := hide (Below.next (unhide HX) hb1 (by first | exact Nat.le_refl _ | (have := unhide HBA; omega))); have Kp_1 := hide (keep_below (unhide HP) hb1); clear HX HP; clear hb1)
  obtain ⟨⟨p0, p1, p2⟩, ⟨pf0, pf1, pf2⟩, pl⟩ := block3 (unhide Kp_1)
  by_cases j1 : (700 : Int) < (n : Int)
  · go_wp2_with fail
    go_ret
    exact ⟨rfl, unhide HX_1⟩
  go_upto_region 6 with (first | (go_at_call 10; refine (unhide HOW _ (unhide HX_1)).mono ?_; rintro e w2 ⟨a2, c2, rfl, hl2, hb2⟩; have HL2 := hide hl2; have HX_2 := hide (Below.next (unhide HX_1) hb2 (by first | exact Nat.le_refl _ | (have := unhide HBA; omega))); have Kp_2 := hide (keep_below (unhide Kp_1) hb2); clear HX_1 Kp_1; clear hb2 hl2 p0 p1 p2 pf0 pf1 pf2 pl) | (go_at_call 20; refine (unhide HPS _ a2 c2 (unhide HL2)).mono ?_; rintro e w3 ⟨av, cv, at1, ct, rfl, hl3, ht3, hb3⟩; have HL3 := hide hl3; have HT3 := hide ht3; have HC3 : Hid (Below w3.heap.size w3 w3) := Below.refl _ _; have HX_3 := hide (Below.next (unhide HX_2) hb3 (by first | exact Nat.le_refl _ | (have := unhide HBA; omega))); have Kp_3 := hide (keep_below (unhide Kp_2) hb3); clear HX_2 Kp_2; clear hb3 hl3 ht3))
  obtain ⟨W2, eW2, hBW2, k0_4, k1_4⟩ := two_new w3 (.cells #[.int .i64 n1, .int .i64 x1, .slice av m cv] 24) (.cells #[.int .i64 F0, .int .i64 F1] 29)
  rw [eW2]
  clear eW2
  have hlp_a : w.heap.size < w3.heap.size := size_of (unhide Kp_3)
  (have HX_4 := hide (Below.next (unhide HX_3) hBW2 (by first | exact Nat.le_refl _ | (have := unhide HBA; omega))); have Kp_4 := hide (keep_below (unhide Kp_3) hBW2); have Cc_4 := hide (Below.next (unhide HC3) hBW2 (Nat.le_refl _)); clear HX_3 Kp_3 HC3)
  obtain ⟨X1, eX1⟩ : ∃ X, w3.heap.size = X := ⟨_, rfl⟩
  rw [eX1] at k0_4 k1_4 hlp_a ⊢
  have Ka_4 := hide k0_4
  have Kf_4 := hide k1_4
  have hw3X : w3.heap.size ≤ X1 := Nat.le_of_eq eX1
  clear eX1 hBW2 k0_4 k1_4
  obtain ⟨⟨p0, p1, p2⟩, ⟨pf0, pf1, pf2⟩, pl⟩ := block3 (unhide Kp_4)
  go_upto_region 7 with (go_at_call 15; refine (unhide HCF _ (unhide HX_4)).mono ?_; rintro e w4 ⟨rfl, hb4⟩; have HX_5 := hide (Below.next (unhide HX_4) hb4 (by first | exact Nat.le_refl _ | (have := unhide HBA; omega))); have Kp_5 := hide (keep_below (unhide Kp_4) hb4); have Ka_5 := hide (keep_below (unhide Ka_4) hb4); have Kf_5 := hide (keep_below (unhide Kf_4) hb4); have Cc_5 := hide (Below.next (unhide Cc_4) hb4 (Nat.le_refl _)); clear HX_4 Kp_4 Ka_4 Kf_4 Cc_4; clear hb4 p0 p1 p2 pf0 pf1 pf2 pl)
  have HX_6 := hide ((unhide HX_5).alloc (Nat.le_trans (show w.heap.size ≤ w.heap.size from Nat.le_refl _) (unhide HX_5).size) (.cells #[.int .i64 C0, .int .i64 C1] 29))
  have Kp_6 := hide (keep_alloc (unhide Kp_5) (.cells #[.int .i64 C0, .int .i64 C1] 29))
  have Ka_6 := hide (keep_alloc (unhide Ka_5) (.cells #[.int .i64 C0, .int .i64 C1] 29))
  have Kf_6 := hide (keep_alloc (unhide Kf_5) (.cells #[.int .i64 C0, .int .i64 C1] 29))
  have Cc_6 := hide ((unhide Cc_5).alloc (unhide Cc_5).size (.cells #[.int .i64 C0, .int .i64 C1] 29))
  have Kv_6 := hide (new_block w4 (.cells #[.int .i64 C0, .int .i64 C1] 29))
  have hlp_v : w.heap.size < w4.heap.size := size_of (unhide Kp_5)
  have hla_v : X1 < w4.heap.size := size_of (unhide Ka_5)
  have hlf_v : X1 + 1 < w4.heap.size := size_of (unhide Kf_5)
  obtain ⟨T, eT⟩ : ∃ X, w4.heap.size = X := ⟨_, rfl⟩
  obtain ⟨W4, eW4⟩ : ∃ X, w4.alloc (.cells #[.int .i64 C0, .int .i64 C1] 29) = X := ⟨_, rfl⟩
  rw [eT, eW4] at Kv_6; rw [eW4] at HX_6 Kp_6 Ka_6 Kf_6 Cc_6; rw [eT] at hlp_v hla_v hlf_v; rw [eT, eW4]
  clear eT eW4 HX_5 Kp_5 Ka_5 Kf_5 Cc_5
  by_cases hC : C0 ≠ 0
  · obtain ⟨rfl, rfl, rfl, rfl, rfl, rfl⟩ := unhide HW0 hC
    obtain rfl : m = 0 := (unhide HEM).symm
    obtain rfl : k = 0 := (unhide HEK).symm
    have x0 : (F0 == 0) = false := by simpa using hC
    have x3 : (F0 != 0) = true := by simpa using hC
    have x1 : (F0 == F0) = true := by simp
    have x2 : (F1 == F1) = true := by simp
    clear HW0 HW1 hC HCF HPS HPD
    obtain ⟨f0, f1, ff0, ff1, fl⟩ := block2 (unhide Kf_6)
    obtain ⟨v0, v1, vf0, vf1, vl⟩ := block2 (unhide Kv_6)
    go_upto_region 10 with fail
    clear f0 f1 ff0 ff1 fl v0 v1 vf0 vf1 vl
    have HX_7 := hide ((unhide HX_6).alloc (Nat.le_trans (show w.heap.size ≤ w.heap.size from Nat.le_refl _) (unhide HX_6).size) (.cells #[.int .i64 0, .int .i64 0, .slice none 0 0] 24))
    have Kp_7 := hide (keep_alloc (unhide Kp_6) (.cells #[.int .i64 0, .int .i64 0, .slice none 0 0] 24))
    have Ka_7 := hide (keep_alloc (unhide Ka_6) (.cells #[.int .i64 0, .int .i64 0, .slice none 0 0] 24))
    have Kf_7 := hide (keep_alloc (unhide Kf_6) (.cells #[.int .i64 0, .int .i64 0, .slice none 0 0] 24))
    have Kv_7 := hide (keep_alloc (unhide Kv_6) (.cells #[.int .i64 0, .int .i64 0, .slice none 0 0] 24))
    have Cc_7 := hide ((unhide Cc_6).alloc (unhide Cc_6).size (.cells #[.int .i64 0, .int .i64 0, .slice none 0 0] 24))
    have Kt_7 := hide (new_block W4 (.cells #[.int .i64 0, .int .i64 0, .slice none 0 0] 24))
    have hlp_t : w.heap.size < W4.heap.size := size_of (unhide Kp_6)
    have hla_t : X1 < W4.heap.size := size_of (unhide Ka_6)
    have hlf_t : X1 + 1 < W4.heap.size := size_of (unhide Kf_6)
    have hlv_t : T < W4.heap.size := size_of (unhide Kv_6)
    obtain ⟨T3, eT3⟩ : ∃ X, W4.heap.size = X := ⟨_, rfl⟩
    obtain ⟨W5, eW5⟩ : ∃ X, W4.alloc (.cells #[.int .i64 0, .int .i64 0, .slice none 0 0] 24) = X := ⟨_, rfl⟩
    rw [eT3, eW5] at Kt_7; rw [eW5] at HX_7 Kp_7 Ka_7 Kf_7 Kv_7 Cc_7; rw [eT3] at hlp_t hla_t hlf_t hlv_t; rw [eT3, eW5]
    clear eT3 eW5 HX_6 Kp_6 Ka_6 Kf_6 Kv_6 Cc_6
    obtain ⟨f0, f1, ff0, ff1, fl⟩ := block2 (unhide Kf_7)
    obtain ⟨v0, v1, vf0, vf1, vl⟩ := block2 (unhide Kv_7)
    obtain ⟨⟨a0, a1, a2⟩, ⟨af0, af1, af2⟩, al⟩ := block3 (unhide Ka_7)
    have HSC := hide (sameClock_same W5 (.agg #[.int .i64 0, .int .i64 0, .slice av 0 cv]) (.agg #[.int .i64 0, .int .i64 0, .slice none 0 0]) 0 0 [] ⟨_, rfl, (unhide HL3).below (unhide Cc_7)⟩ (zero_c _) (by simp))
    go_wp2_with (go_at_call 16; refine (unhide HSC).mono ?_; rintro e w8 ⟨rfl, hb8⟩; have HX8 := hide (Below.next (unhide HX_7) hb8 (Nat.le_refl _)); clear hb8)
    go_ret
    exact ⟨rfl, unhide HX8⟩
  obtain rfl : C0 = 0 := Decidable.not_not.1 hC
  obtain ⟨rfl, gd, hwb, hwc⟩ := unhide HW1 rfl
  have HGD := hide gd; have HWB := hide hwb; have HWC := hide hwc
  clear HW0 HW1 hC gd hwb hwc
  by_cases j2 : ticks < 0
  · obtain ⟨rfl, rfl, rfl, rfl, rfl, rfl⟩ := unhide HWB (Or.inl j2)
    obtain rfl : m = 0 := (unhide HEM).symm
    obtain rfl : k = 0 := (unhide HEK).symm
    clear HWB HWC
    obtain ⟨v0, v1, vf0, vf1, vl⟩ := block2 (unhide Kv_6)
    go_upto_region 9 with (go_at_call 17; refine (f_any _ _ _).mono ?_; rintro e w5 ⟨rfl, hb5⟩; have HX_7 := hide (Below.next (unhide HX_6) hb5 (by first | exact Nat.le_refl _ | (have := unhide HBA; omega))); have Kp_7 := hide (keep_below (unhide Kp_6) hb5); have Ka_7 := hide (keep_below (unhide Ka_6) hb5); have Kf_7 := hide (keep_below (unhide Kf_6) hb5); have Kv_7 := hide (keep_below (unhide Kv_6) hb5); have Cc_7 := hide (Below.next (unhide Cc_6) hb5 (Nat.le_refl _)); clear HX_6 Kp_6 Ka_6 Kf_6 Kv_6 Cc_6; clear hb5 v0 v1 vf0 vf1 vl; obtain ⟨v0, v1, vf0, vf1, vl⟩ := block2 (unhide Kv_7))
    clear v0 v1 vf0 vf1 vl
    have HX_8 := hide (put2_below (y0 := .int .i64 3) (y1 := .int .i64 (-1)) (unhide HX_7) (show w.heap.size ≤ T by first | omega | (have := unhide HBA; omega)))
    have Kp_8 := hide ((put2_keep (y0 := .int .i64 3) (y1 := .int .i64 (-1)) (show w.heap.size ≠ T by omega)).trans (unhide Kp_7))
    have Ka_8 := hide ((put2_keep (y0 := .int .i64 3) (y1 := .int .i64 (-1)) (show X1 ≠ T by omega)).trans (unhide Ka_7))
    have Kf_8 := hide ((put2_keep (y0 := .int .i64 3) (y1 := .int .i64 (-1)) (show X1 + 1 ≠ T by omega)).trans (unhide Kf_7))
    have Kv_8 := hide (put2_new (y0 := .int .i64 3) (y1 := .int .i64 (-1)) (unhide Kv_7))
    have Cc_8 := hide (put2_below (y0 := .int .i64 3) (y1 := .int .i64 (-1)) (unhide Cc_7) (show _ ≤ T by omega))
    obtain ⟨V5, eV5⟩ : ∃ X, put2 w5 (T) (.int .i64 3) (.int .i64 (-1)) = X := ⟨_, rfl⟩
    rw [eV5] at HX_8 Kp_8 Ka_8 Kf_8 Kv_8 Cc_8
    have eV52 : ((w5).setCell ⟨T, 0, none⟩ (.int .i64 3)).setCell ⟨T, 1, none⟩ (.int .i64 (-1)) = V5 := eV5
    rw [eV52]
    clear eV5 eV52 HX_7 Kp_7 Ka_7 Kf_7 Kv_7 Cc_7
    obtain ⟨f0, f1, ff0, ff1, fl⟩ := block2 (unhide Kf_8)
    obtain ⟨v0, v1, vf0, vf1, vl⟩ := block2 (unhide Kv_8)
    go_upto_region 10 with fail
    clear f0 f1 ff0 ff1 fl v0 v1 vf0 vf1 vl
    have HX_9 := hide ((unhide HX_8).alloc (Nat.le_trans (show w.heap.size ≤ w.heap.size from Nat.le_refl _) (unhide HX_8).size) (.cells #[.int .i64 0, .int .i64 0, .slice none 0 0] 24))
    have Kp_9 := hide (keep_alloc (unhide Kp_8) (.cells #[.int .i64 0, .int .i64 0, .slice none 0 0] 24))
    have Ka_9 := hide (keep_alloc (unhide Ka_8) (.cells #[.int .i64 0, .int .i64 0, .slice none 0 0] 24))
    have Kf_9 := hide (keep_alloc (unhide Kf_8) (.cells #[.int .i64 0, .int .i64 0, .slice none 0 0] 24))
    have Kv_9 := hide (keep_alloc (unhide Kv_8) (.cells #[.int .i64 0, .int .i64 0, .slice none 0 0] 24))
    have Cc_9 := hide ((unhide Cc_8).alloc (unhide Cc_8).size (.cells #[.int .i64 0, .int .i64 0, .slice none 0 0] 24))
    have Kt_9 := hide (new_block V5 (.cells #[.int .i64 0, .int .i64 0, .slice none 0 0] 24))
    have hlp_t : w.heap.size < V5.heap.size := size_of (unhide Kp_8)
    have hla_t : X1 < V5.heap.size := size_of (unhide Ka_8)
    have hlf_t : X1 + 1 < V5.heap.size := size_of (unhide Kf_8)
    have hlv_t : T < V5.heap.size := size_of (unhide Kv_8)
    obtain ⟨T3, eT3⟩ : ∃ X, V5.heap.size = X := ⟨_, rfl⟩
    obtain ⟨W5, eW5⟩ : ∃ X, V5.alloc (.cells #[.int .i64 0, .int .i64 0, .slice none 0 0] 24) = X := ⟨_, rfl⟩
    rw [eT3, eW5] at Kt_9; rw [eW5] at HX_9 Kp_9 Ka_9 Kf_9 Kv_9 Cc_9; rw [eT3] at hlp_t hla_t hlf_t hlv_t; rw [eT3, eW5]
    clear eT3 eW5 HX_8 Kp_8 Ka_8 Kf_8 Kv_8 Cc_8
    obtain ⟨f0, f1, ff0, ff1, fl⟩ := block2 (unhide Kf_9)
    obtain ⟨v0, v1, vf0, vf1, vl⟩ := block2 (unhide Kv_9)
    obtain ⟨⟨a0, a1, a2⟩, ⟨af0, af1, af2⟩, al⟩ := block3 (unhide Ka_9)
    have HSC := hide (sameClock_same W5 (.agg #[.int .i64 0, .int .i64 0, .slice av 0 cv]) (.agg #[.int .i64 0, .int .i64 0, .slice none 0 0]) 0 0 [] ⟨_, rfl, (unhide HL3).below (unhide Cc_9)⟩ (zero_c _) (by simp))
    go_wp2_with (go_at_call 16; refine (unhide HSC).mono ?_; rintro e w8 ⟨rfl, hb8⟩; have HX8 := hide (Below.next (unhide HX_9) hb8 (Nat.le_refl _)); clear hb8)
    go_ret
    exact ⟨rfl, unhide HX8⟩
  by_cases j3 : 1000000000 < ticks
  · obtain ⟨rfl, rfl, rfl, rfl, rfl, rfl⟩ := unhide HWB (Or.inr j3)
    obtain rfl : m = 0 := (unhide HEM).symm
    obtain rfl : k = 0 := (unhide HEK).symm
    clear HWB HWC
    obtain ⟨v0, v1, vf0, vf1, vl⟩ := block2 (unhide Kv_6)
    go_upto_region 9 with (go_at_call 17; refine (f_any _ _ _).mono ?_; rintro e w5 ⟨rfl, hb5⟩; have HX_7 := hide (Below.next (unhide HX_6) hb5 (by first | exact Nat.le_refl _ | (have := unhide HBA; omega))); have Kp_7 := hide (keep_below (unhide Kp_6) hb5); have Ka_7 := hide (keep_below (unhide Ka_6) hb5); have Kf_7 := hide (keep_below (unhide Kf_6) hb5); have Kv_7 := hide (keep_below (unhide Kv_6) hb5); have Cc_7 := hide (Below.next (unhide Cc_6) hb5 (Nat.le_refl _)); clear HX_6 Kp_6 Ka_6 Kf_6 Kv_6 Cc_6; clear hb5 v0 v1 vf0 vf1 vl; obtain ⟨v0, v1, vf0, vf1, vl⟩ := block2 (unhide Kv_7))
    clear v0 v1 vf0 vf1 vl
    have HX_8 := hide (put2_below (y0 := .int .i64 3) (y1 := .int .i64 (-1)) (unhide HX_7) (show w.heap.size ≤ T by first | omega | (have := unhide HBA; omega)))
    have Kp_8 := hide ((put2_keep (y0 := .int .i64 3) (y1 := .int .i64 (-1)) (show w.heap.size ≠ T by omega)).trans (unhide Kp_7))
    have Ka_8 := hide ((put2_keep (y0 := .int .i64 3) (y1 := .int .i64 (-1)) (show X1 ≠ T by omega)).trans (unhide Ka_7))
    have Kf_8 := hide ((put2_keep (y0 := .int .i64 3) (y1 := .int .i64 (-1)) (show X1 + 1 ≠ T by omega)).trans (unhide Kf_7))
    have Kv_8 := hide (put2_new (y0 := .int .i64 3) (y1 := .int .i64 (-1)) (unhide Kv_7))
    have Cc_8 := hide (put2_below (y0 := .int .i64 3) (y1 := .int .i64 (-1)) (unhide Cc_7) (show _ ≤ T by omega))
    obtain ⟨V5, eV5⟩ : ∃ X, put2 w5 (T) (.int .i64 3) (.int .i64 (-1)) = X := ⟨_, rfl⟩
    rw [eV5] at HX_8 Kp_8 Ka_8 Kf_8 Kv_8 Cc_8
    have eV52 : ((w5).setCell ⟨T, 0, none⟩ (.int .i64 3)).setCell ⟨T, 1, none⟩ (.int .i64 (-1)) = V5 := eV5
    rw [eV52]
    clear eV5 eV52 HX_7 Kp_7 Ka_7 Kf_7 Kv_7 Cc_7
    obtain ⟨f0, f1, ff0, ff1, fl⟩ := block2 (unhide Kf_8)
    obtain ⟨v0, v1, vf0, vf1, vl⟩ := block2 (unhide Kv_8)
    go_upto_region 10 with fail
    clear f0 f1 ff0 ff1 fl v0 v1 vf0 vf1 vl
    have HX_9 := hide ((unhide HX_8).alloc (Nat.le_trans (show w.heap.size ≤ w.heap.size from Nat.le_refl _) (unhide HX_8).size) (.cells #[.int .i64 0, .int .i64 0, .slice none 0 0] 24))
    have Kp_9 := hide (keep_alloc (unhide Kp_8) (.cells #[.int .i64 0, .int .i64 0, .slice none 0 0] 24))
    have Ka_9 := hide (keep_alloc (unhide Ka_8) (.cells #[.int .i64 0, .int .i64 0, .slice none 0 0] 24))
    have Kf_9 := hide (keep_alloc (unhide Kf_8) (.cells #[.int .i64 0, .int .i64 0, .slice none 0 0] 24))
    have Kv_9 := hide (keep_alloc (unhide Kv_8) (.cells #[.int .i64 0, .int .i64 0, .slice none 0 0] 24))
    have Cc_9 := hide ((unhide Cc_8).alloc (unhide Cc_8).size (.cells #[.int .i64 0, .int .i64 0, .slice none 0 0] 24))
    have Kt_9 := hide (new_block V5 (.cells #[.int .i64 0, .int .i64 0, .slice none 0 0] 24))
    have hlp_t : w.heap.size < V5.heap.size := size_of (unhide Kp_8)
    have hla_t : X1 < V5.heap.size := size_of (unhide Ka_8)
    have hlf_t : X1 + 1 < V5.heap.size := size_of (unhide Kf_8)
    have hlv_t : T < V5.heap.size := size_of (unhide Kv_8)
    obtain ⟨T3, eT3⟩ : ∃ X, V5.heap.size = X := ⟨_, rfl⟩
    obtain ⟨W5, eW5⟩ : ∃ X, V5.alloc (.cells #[.int .i64 0, .int .i64 0, .slice none 0 0] 24) = X := ⟨_, rfl⟩
    rw [eT3, eW5] at Kt_9; rw [eW5] at HX_9 Kp_9 Ka_9 Kf_9 Kv_9 Cc_9; rw [eT3] at hlp_t hla_t hlf_t hlv_t; rw [eT3, eW5]
    clear eT3 eW5 HX_8 Kp_8 Ka_8 Kf_8 Kv_8 Cc_8
    obtain ⟨f0, f1, ff0, ff1, fl⟩ := block2 (unhide Kf_9)
    obtain ⟨v0, v1, vf0, vf1, vl⟩ := block2 (unhide Kv_9)
    obtain ⟨⟨a0, a1, a2⟩, ⟨af0, af1, af2⟩, al⟩ := block3 (unhide Ka_9)
    have HSC := hide (sameClock_same W5 (.agg #[.int .i64 0, .int .i64 0, .slice av 0 cv]) (.agg #[.int .i64 0, .int .i64 0, .slice none 0 0]) 0 0 [] ⟨_, rfl, (unhide HL3).below (unhide Cc_9)⟩ (zero_c _) (by simp))
    go_wp2_with (go_at_call 16; refine (unhide HSC).mono ?_; rintro e w8 ⟨rfl, hb8⟩; have HX8 := hide (Below.next (unhide HX_9) hb8 (Nat.le_refl _)); clear hb8)
    go_ret
    exact ⟨rfl, unhide HX8⟩
  have hwc := unhide HWC (fun h => h.elim j2 j3)
  have HPD2 := hide (fun W hW => unhide HPD W hW (unhide HGD) (by omega) (by omega))
  clear HWB HWC HPD HPS HCF HOW
  obtain ⟨v0, v1, vf0, vf1, vl⟩ := block2 (unhide Kv_6)
  go_upto_region 10 with fail
  clear v0 v1 vf0 vf1 vl
  have HX_7 := hide ((unhide HX_6).alloc (Nat.le_trans (show w.heap.size ≤ w.heap.size from Nat.le_refl _) (unhide HX_6).size) (.cells #[.int .i64 0, .int .i64 0, .slice none 0 0] 24))
  have Kp_7 := hide (keep_alloc (unhide Kp_6) (.cells #[.int .i64 0, .int .i64 0, .slice none 0 0] 24))
  have Ka_7 := hide (keep_alloc (unhide Ka_6) (.cells #[.int .i64 0, .int .i64 0, .slice none 0 0] 24))
  have Kf_7 := hide (keep_alloc (unhide Kf_6) (.cells #[.int .i64 0, .int .i64 0, .slice none 0 0] 24))
  have Kv_7 := hide (keep_alloc (unhide Kv_6) (.cells #[.int .i64 0, .int .i64 0, .slice none 0 0] 24))
  have Cc_7 := hide ((unhide Cc_6).alloc (unhide Cc_6).size (.cells #[.int .i64 0, .int .i64 0, .slice none 0 0] 24))
  have Kt_7 := hide (new_block W4 (.cells #[.int .i64 0, .int .i64 0, .slice none 0 0] 24))
  have hlp_t : w.heap.size < W4.heap.size := size_of (unhide Kp_6)
  have hla_t : X1 < W4.heap.size := size_of (unhide Ka_6)
  have hlf_t : X1 + 1 < W4.heap.size := size_of (unhide Kf_6)
  have hlv_t : T < W4.heap.size := size_of (unhide Kv_6)
  obtain ⟨T3, eT3⟩ : ∃ X, W4.heap.size = X := ⟨_, rfl⟩
  obtain ⟨W5, eW5⟩ : ∃ X, W4.alloc (.cells #[.int .i64 0, .int .i64 0, .slice none 0 0] 24) = X := ⟨_, rfl⟩
  rw [eT3, eW5] at Kt_7; rw [eW5] at HX_7 Kp_7 Ka_7 Kf_7 Kv_7 Cc_7; rw [eT3] at hlp_t hla_t hlf_t hlv_t; rw [eT3, eW5]
  clear eT3 eW5 HX_6 Kp_6 Ka_6 Kf_6 Kv_6 Cc_6
  obtain ⟨v0, v1, vf0, vf1, vl⟩ := block2 (unhide Kv_7)
  obtain ⟨⟨p0, p1, p2⟩, ⟨pf0, pf1, pf2⟩, pl⟩ := block3 (unhide Kp_7)
  rcases hwc with ⟨hmu, rfl, rfl, rfl, rfl, rfl, rfl⟩ | ⟨hsm, hrun, rfl, rfl, rfl⟩
  · obtain rfl : m = 0 := (unhide HEM).symm
    obtain rfl : k = 0 := (unhide HEK).symm
    have HMU := hide hmu
    clear hmu
    go_upto_region 12 with (go_at_call 21; refine (unhide HPD2 _ (unhide HX_7)).mono ?_; rintro e w6 ⟨-, hq6, hb6⟩; obtain ⟨y1, y2, yv, ym, yc, rfl⟩ := hq6 (unhide HMU); have HX_8 := hide (Below.next (unhide HX_7) hb6 (by first | exact Nat.le_refl _ | (have := unhide HBA; omega))); have Kp_8 := hide (keep_below (unhide Kp_7) hb6); have Ka_8 := hide (keep_below (unhide Ka_7) hb6); have Kf_8 := hide (keep_below (unhide Kf_7) hb6); have Kv_8 := hide (keep_below (unhide Kv_7) hb6); have Kt_8 := hide (keep_below (unhide Kt_7) hb6); have Cc_8 := hide (Below.next (unhide Cc_7) hb6 (Nat.le_refl _)); clear HX_7 Kp_7 Ka_7 Kf_7 Kv_7 Kt_7 Cc_7; clear hb6 hq6 v0 v1 vf0 vf1 vl p0 p1 p2 pf0 pf1 pf2 pl)
    have HX_9 := hide ((unhide HX_8).alloc (Nat.le_trans (show w.heap.size ≤ w.heap.size from Nat.le_refl _) (unhide HX_8).size) (.cells #[.int .i64 y1, .int .i64 y2, .slice yv ym yc] 24))
    have Kp_9 := hide (keep_alloc (unhide Kp_8) (.cells #[.int .i64 y1, .int .i64 y2, .slice yv ym yc] 24))
    have Ka_9 := hide (keep_alloc (unhide Ka_8) (.cells #[.int .i64 y1, .int .i64 y2, .slice yv ym yc] 24))
    have Kf_9 := hide (keep_alloc (unhide Kf_8) (.cells #[.int .i64 y1, .int .i64 y2, .slice yv ym yc] 24))
    have Kv_9 := hide (keep_alloc (unhide Kv_8) (.cells #[.int .i64 y1, .int .i64 y2, .slice yv ym yc] 24))
    have Kt_9 := hide (keep_alloc (unhide Kt_8) (.cells #[.int .i64 y1, .int .i64 y2, .slice yv ym yc] 24))
    have Cc_9 := hide ((unhide Cc_8).alloc (unhide Cc_8).size (.cells #[.int .i64 y1, .int .i64 y2, .slice yv ym yc] 24))
    have Ky_9 := hide (new_block w6 (.cells #[.int .i64 y1, .int .i64 y2, .slice yv ym yc] 24))
    have hlp_y : w.heap.size < w6.heap.size := size_of (unhide Kp_8)
    have hla_y : X1 < w6.heap.size := size_of (unhide Ka_8)
    have hlf_y : X1 + 1 < w6.heap.size := size_of (unhide Kf_8)
    have hlv_y : T < w6.heap.size := size_of (unhide Kv_8)
    have hlt_y : T3 < w6.heap.size := size_of (unhide Kt_8)
    obtain ⟨T4, eT4⟩ : ∃ X, w6.heap.size = X := ⟨_, rfl⟩
    obtain ⟨W6, eW6⟩ : ∃ X, w6.alloc (.cells #[.int .i64 y1, .int .i64 y2, .slice yv ym yc] 24) = X := ⟨_, rfl⟩
    rw [eT4, eW6] at Ky_9; rw [eW6] at HX_9 Kp_9 Ka_9 Kf_9 Kv_9 Kt_9 Cc_9; rw [eT4] at hlp_y hla_y hlf_y hlv_y hlt_y; rw [eT4, eW6]
    clear eT4 eW6 HX_8 Kp_8 Ka_8 Kf_8 Kv_8 Kt_8 Cc_8
    obtain ⟨v0, v1, vf0, vf1, vl⟩ := block2 (unhide Kv_9)
    go_upto_region 14 with (go_at_call 17; refine (f_any _ _ _).mono ?_; rintro e w7 ⟨rfl, hb7⟩; have HX_10 := hide (Below.next (unhide HX_9) hb7 (by first | exact Nat.le_refl _ | (have := unhide HBA; omega))); have Kp_10 := hide (keep_below (unhide Kp_9) hb7); have Ka_10 := hide (keep_below (unhide Ka_9) hb7); have Kf_10 := hide (keep_below (unhide Kf_9) hb7); have Kv_10 := hide (keep_below (unhide Kv_9) hb7); have Kt_10 := hide (keep_below (unhide Kt_9) hb7); have Ky_10 := hide (keep_below (unhide Ky_9) hb7); have Cc_10 := hide (Below.next (unhide Cc_9) hb7 (Nat.le_refl _)); clear HX_9 Kp_9 Ka_9 Kf_9 Kv_9 Kt_9 Ky_9 Cc_9; clear hb7 v0 v1 vf0 vf1 vl; obtain ⟨v0, v1, vf0, vf1, vl⟩ := block2 (unhide Kv_10))
    clear v0 v1 vf0 vf1 vl
    have HX_11 := hide (put2_below (y0 := .int .i64 9) (y1 := .int .i64 0) (unhide HX_10) (show w.heap.size ≤ T by first | omega | (have := unhide HBA; omega)))
    have Kp_11 := hide ((put2_keep (y0 := .int .i64 9) (y1 := .int .i64 0) (show w.heap.size ≠ T by omega)).trans (unhide Kp_10))
    have Ka_11 := hide ((put2_keep (y0 := .int .i64 9) (y1 := .int .i64 0) (show X1 ≠ T by omega)).trans (unhide Ka_10))
    have Kf_11 := hide ((put2_keep (y0 := .int .i64 9) (y1 := .int .i64 0) (show X1 + 1 ≠ T by omega)).trans (unhide Kf_10))
    have Kv_11 := hide (put2_new (y0 := .int .i64 9) (y1 := .int .i64 0) (unhide Kv_10))
    have Kt_11 := hide ((put2_keep (y0 := .int .i64 9) (y1 := .int .i64 0) (show T3 ≠ T by omega)).trans (unhide Kt_10))
    have Ky_11 := hide ((put2_keep (y0 := .int .i64 9) (y1 := .int .i64 0) (show T4 ≠ T by omega)).trans (unhide Ky_10))
    have Cc_11 := hide (put2_below (y0 := .int .i64 9) (y1 := .int .i64 0) (unhide Cc_10) (show _ ≤ T by omega))
    obtain ⟨V7, eV7⟩ : ∃ X, put2 w7 (T) (.int .i64 9) (.int .i64 0) = X := ⟨_, rfl⟩
    rw [eV7] at HX_11 Kp_11 Ka_11 Kf_11 Kv_11 Kt_11 Ky_11 Cc_11
    have eV72 : ((w7).setCell ⟨T, 0, none⟩ (.int .i64 9)).setCell ⟨T, 1, none⟩ (.int .i64 0) = V7 := eV7
    rw [eV72]
    clear eV7 eV72 HX_10 Kp_10 Ka_10 Kf_10 Kv_10 Kt_10 Ky_10 Cc_10
    obtain ⟨⟨y0, y1, y2⟩, ⟨yf0, yf1, yf2⟩, yl⟩ := block3 (unhide Ky_11)
    obtain ⟨⟨t0, t1, t2⟩, ⟨tf0, tf1, tf2⟩, tl⟩ := block3 (unhide Kt_11)
    go_upto_region 15 with fail
    clear y0 y1 y2 yf0 yf1 yf2 yl t0 t1 t2 tf0 tf1 tf2 tl
    have HX_12 := hide (putL_below (y0 := .int .i64 y1) (y1 := .int .i64 y2) (y2 := .slice yv ym yc) (unhide HX_11) (show w.heap.size ≤ T3 by first | omega | (have := unhide HBA; omega)))
    have Kp_12 := hide ((putL_keep (y0 := .int .i64 y1) (y1 := .int .i64 y2) (y2 := .slice yv ym yc) (show w.heap.size ≠ T3 by omega)).trans (unhide Kp_11))
    have Ka_12 := hide ((putL_keep (y0 := .int .i64 y1) (y1 := .int .i64 y2) (y2 := .slice yv ym yc) (show X1 ≠ T3 by omega)).trans (unhide Ka_11))
    have Kf_12 := hide ((putL_keep (y0 := .int .i64 y1) (y1 := .int .i64 y2) (y2 := .slice yv ym yc) (show X1 + 1 ≠ T3 by omega)).trans (unhide Kf_11))
    have Kv_12 := hide ((putL_keep (y0 := .int .i64 y1) (y1 := .int .i64 y2) (y2 := .slice yv ym yc) (show T ≠ T3 by omega)).trans (unhide Kv_11))
    have Kt_12 := hide (putL_new (y0 := .int .i64 y1) (y1 := .int .i64 y2) (y2 := .slice yv ym yc) (unhide Kt_11))
    have Ky_12 := hide ((putL_keep (y0 := .int .i64 y1) (y1 := .int .i64 y2) (y2 := .slice yv ym yc) (show T4 ≠ T3 by omega)).trans (unhide Ky_11))
    have Cc_12 := hide (putL_below (y0 := .int .i64 y1) (y1 := .int .i64 y2) (y2 := .slice yv ym yc) (unhide Cc_11) (show _ ≤ T3 by omega))
    obtain ⟨V8, eV8⟩ : ∃ X, putL V7 (T3) (.int .i64 y1) (.int .i64 y2) (.slice yv ym yc) = X := ⟨_, rfl⟩
    rw [eV8] at HX_12 Kp_12 Ka_12 Kf_12 Kv_12 Kt_12 Ky_12 Cc_12
    have eV82 : (((V7).setCell ⟨T3, 0, none⟩ (.int .i64 y1)).setCell ⟨T3, 1, none⟩ (.int .i64 y2)).setCell ⟨T3, 2, none⟩ (.slice yv ym yc) = V8 := eV8
    rw [eV82]
    clear eV8 eV82 HX_11 Kp_11 Ka_11 Kf_11 Kv_11 Kt_11 Ky_11 Cc_11
    obtain ⟨f0, f1, ff0, ff1, fl⟩ := block2 (unhide Kf_12)
    obtain ⟨v0, v1, vf0, vf1, vl⟩ := block2 (unhide Kv_12)
    obtain ⟨⟨a0, a1, a2⟩, ⟨af0, af1, af2⟩, al⟩ := block3 (unhide Ka_12)
    have HSC := hide (sameClock_same V8 (.agg #[.int .i64 0, .int .i64 0, .slice av 0 cv]) (.agg #[.int .i64 0, .int .i64 0, .slice none 0 0]) 0 0 [] ⟨_, rfl, (unhide HL3).below (unhide Cc_12)⟩ (zero_c _) (by simp))
    go_wp2_with (go_at_call 16; refine (unhide HSC).mono ?_; rintro e w8 ⟨rfl, hb8⟩; have HX8 := hide (Below.next (unhide HX_12) hb8 (Nat.le_refl _)); clear hb8)
    go_ret
    exact ⟨rfl, unhide HX8⟩
  · have HSM := hide hsm; have HRU := hide hrun
    have hgd := run_good (show now + ticks ≤ 1000000000 from hsm) (by omega) 5000 next xs [] (unhide HGD) _ _ _ hrun
    have hm5 : m ≤ 5000 := by rw [← unhide HEM]; exact hgd.1.len
    have hk5 : k ≤ 5000 := by rw [← unhide HEK]; simpa using hgd.2
    obtain ⟨E, eE⟩ : ∃ E, now + ticks = E := ⟨_, rfl⟩
    rw [eE] at HSM HRU HPD2 Ka_7 ⊢
    have HPE : Hid (∀ W, Below w.heap.size w W → Calls Try.prog 21 #[.agg #[.int .i64 now, .int .i64 next, .slice a0 n c0], .int .i64 ticks] W fun e w' => ∃ yv yc yt yd, e = .returned (.tuple #[.agg #[.int .i64 E, .int .i64 x1, .slice yv m yc], .slice yt k yd, .bool true]) ∧ Lo w.heap.size w' (.slice yv m yc) zs ∧ Own KO W.heap.size w' (.slice yt k yd) td ∧ Below W.heap.size W w') := fun W hW => (unhide HPD2 W hW).mono fun e w' ⟨h1, _, h3⟩ => by
      obtain ⟨yv, yc, yt, yd, h4, h5, h6⟩ := h1 _ _ _ (unhide HSM) (unhide HRU)
      rw [unhide HEM] at h4 h5
      rw [unhide HEK] at h4 h6
      exact ⟨yv, yc, yt, yd, h4, h5, h6, h3⟩
    clear hsm hrun hgd eE HPD2
    go_upto_region 12 with (go_at_call 21; refine (unhide HPE _ (unhide HX_7)).mono ?_; rintro e w6 ⟨yv, yc, yt, yd, rfl, hl6, ht6, hb6⟩; have HL6 := hide hl6; have HT6 := hide (ht6.base (unhide HX_7).size); have HX_8 := hide (Below.next (unhide HX_7) hb6 (by first | exact Nat.le_refl _ | (have := unhide HBA; omega))); have Kp_8 := hide (keep_below (unhide Kp_7) hb6); have Ka_8 := hide (keep_below (unhide Ka_7) hb6); have Kf_8 := hide (keep_below (unhide Kf_7) hb6); have Kv_8 := hide (keep_below (unhide Kv_7) hb6); have Kt_8 := hide (keep_below (unhide Kt_7) hb6); have Cc_8 := hide (Below.next (unhide Cc_7) hb6 (Nat.le_refl _)); clear HX_7 Kp_7 Ka_7 Kf_7 Kv_7 Kt_7 Cc_7; clear hb6 hl6 ht6 v0 v1 vf0 vf1 vl p0 p1 p2 pf0 pf1 pf2 pl)
    have HX_9 := hide ((unhide HX_8).alloc (Nat.le_trans (show w.heap.size ≤ w.heap.size from Nat.le_refl _) (unhide HX_8).size) (.cells #[.int .i64 E, .int .i64 x1, .slice yv m yc] 24))
    have Kp_9 := hide (keep_alloc (unhide Kp_8) (.cells #[.int .i64 E, .int .i64 x1, .slice yv m yc] 24))
    have Ka_9 := hide (keep_alloc (unhide Ka_8) (.cells #[.int .i64 E, .int .i64 x1, .slice yv m yc] 24))
    have Kf_9 := hide (keep_alloc (unhide Kf_8) (.cells #[.int .i64 E, .int .i64 x1, .slice yv m yc] 24))
    have Kv_9 := hide (keep_alloc (unhide Kv_8) (.cells #[.int .i64 E, .int .i64 x1, .slice yv m yc] 24))
    have Kt_9 := hide (keep_alloc (unhide Kt_8) (.cells #[.int .i64 E, .int .i64 x1, .slice yv m yc] 24))
    have Oz_9 := hide ((unhide HT6).below ((Below.refl _ _).alloc (Nat.le_refl _) (.cells #[.int .i64 E, .int .i64 x1, .slice yv m yc] 24)))
    have Cc_9 := hide ((unhide Cc_8).alloc (unhide Cc_8).size (.cells #[.int .i64 E, .int .i64 x1, .slice yv m yc] 24))
    have Ky_9 := hide (new_block w6 (.cells #[.int .i64 E, .int .i64 x1, .slice yv m yc] 24))
    have hlp_y : w.heap.size < w6.heap.size := size_of (unhide Kp_8)
    have hla_y : X1 < w6.heap.size := size_of (unhide Ka_8)
    have hlf_y : X1 + 1 < w6.heap.size := size_of (unhide Kf_8)
    have hlv_y : T < w6.heap.size := size_of (unhide Kv_8)
    have hlt_y : T3 < w6.heap.size := size_of (unhide Kt_8)
    obtain ⟨T4, eT4⟩ : ∃ X, w6.heap.size = X := ⟨_, rfl⟩
    have HLy := hide ((unhide HL6).below ((Below.refl _ _).alloc (Nat.le_refl _) (.cells #[.int .i64 E, .int .i64 x1, .slice yv m yc] 24)))
    obtain ⟨W6, eW6⟩ : ∃ X, w6.alloc (.cells #[.int .i64 E, .int .i64 x1, .slice yv m yc] 24) = X := ⟨_, rfl⟩
    rw [eT4, eW6] at Ky_9; rw [eW6] at HLy HX_9 Kp_9 Ka_9 Kf_9 Kv_9 Kt_9 Oz_9 Cc_9; rw [eT4] at hlp_y hla_y hlf_y hlv_y hlt_y; rw [eT4, eW6]
    clear eT4 eW6 HX_8 Kp_8 Ka_8 Kf_8 Kv_8 Kt_8 HT6 Cc_8
    obtain ⟨⟨y0, y1, y2⟩, ⟨yf0, yf1, yf2⟩, yl⟩ := block3 (unhide Ky_9)
    obtain ⟨⟨t0, t1, t2⟩, ⟨tf0, tf1, tf2⟩, tl⟩ := block3 (unhide Kt_9)
    go_upto_region 15 with fail
    clear y0 y1 y2 yf0 yf1 yf2 yl t0 t1 t2 tf0 tf1 tf2 tl
    have HLz := hide ((unhide HLy).keep (w' := putL W6 (T3) (.int .i64 E) (.int .i64 x1) (.slice yv m yc)) (fun h0 j hj => putL_keep (Lo.ne (unhide HLy) (unhide Kt_9) (by decide) (show w.heap.size ≤ T3 by omega) h0 j hj)))
    have HX_10 := hide (putL_below (y0 := .int .i64 E) (y1 := .int .i64 x1) (y2 := .slice yv m yc) (unhide HX_9) (show w.heap.size ≤ T3 by first | omega | (have := unhide HBA; omega)))
    have Kp_10 := hide ((putL_keep (y0 := .int .i64 E) (y1 := .int .i64 x1) (y2 := .slice yv m yc) (show w.heap.size ≠ T3 by omega)).trans (unhide Kp_9))
    have Ka_10 := hide ((putL_keep (y0 := .int .i64 E) (y1 := .int .i64 x1) (y2 := .slice yv m yc) (show X1 ≠ T3 by omega)).trans (unhide Ka_9))
    have Kf_10 := hide ((putL_keep (y0 := .int .i64 E) (y1 := .int .i64 x1) (y2 := .slice yv m yc) (show X1 + 1 ≠ T3 by omega)).trans (unhide Kf_9))
    have Kv_10 := hide ((putL_keep (y0 := .int .i64 E) (y1 := .int .i64 x1) (y2 := .slice yv m yc) (show T ≠ T3 by omega)).trans (unhide Kv_9))
    have Kt_10 := hide (putL_new (y0 := .int .i64 E) (y1 := .int .i64 x1) (y2 := .slice yv m yc) (unhide Kt_9))
    have Ky_10 := hide ((putL_keep (y0 := .int .i64 E) (y1 := .int .i64 x1) (y2 := .slice yv m yc) (show T4 ≠ T3 by omega)).trans (unhide Ky_9))
    have Oz_10 := hide ((unhide Oz_9).keep (fun k hk => putL_keep (y0 := .int .i64 E) (y1 := .int .i64 x1) (y2 := .slice yv m yc) (Own.ne (unhide Oz_9) (unhide Kt_9) (by decide) k hk)))
    have Cc_10 := hide (putL_below (y0 := .int .i64 E) (y1 := .int .i64 x1) (y2 := .slice yv m yc) (unhide Cc_9) (show _ ≤ T3 by omega))
    obtain ⟨V8, eV8⟩ : ∃ X, putL W6 (T3) (.int .i64 E) (.int .i64 x1) (.slice yv m yc) = X := ⟨_, rfl⟩
    rw [eV8] at HX_10 Kp_10 Ka_10 Kf_10 Kv_10 Kt_10 Ky_10 Oz_10 Cc_10 HLz
    have eV82 : (((W6).setCell ⟨T3, 0, none⟩ (.int .i64 E)).setCell ⟨T3, 1, none⟩ (.int .i64 x1)).setCell ⟨T3, 2, none⟩ (.slice yv m yc) = V8 := eV8
    rw [eV82]
    clear eV8 eV82 HX_9 Kp_9 Ka_9 Kf_9 Kv_9 Kt_9 Ky_9 Oz_9 Cc_9
    obtain ⟨f0, f1, ff0, ff1, fl⟩ := block2 (unhide Kf_10)
    obtain ⟨v0, v1, vf0, vf1, vl⟩ := block2 (unhide Kv_10)
    obtain ⟨⟨a0, a1, a2⟩, ⟨af0, af1, af2⟩, al⟩ := block3 (unhide Ka_10)
    obtain ⟨⟨t0, t1, t2⟩, ⟨tf0, tf1, tf2⟩, tl⟩ := block3 (unhide Kt_10)
    have HSC := hide (sameClock_same V8 (.agg #[.int .i64 E, .int .i64 x1, .slice av m cv]) (.agg #[.int .i64 E, .int .i64 x1, .slice yv m yc]) E x1 zs ⟨_, rfl, (unhide HL3).below (unhide Cc_10)⟩ ⟨_, rfl, (unhide HLz).1⟩ (by rw [unhide HEM]; omega))
    go_wp2_with (first | (go_at_call 16; refine (unhide HSC).mono ?_; rintro e w8 ⟨rfl, hb8⟩; have HX_11 := hide (Below.next (unhide HX_10) hb8 (by first | exact Nat.le_refl _ | (have := unhide HBA; omega))); have Kp_11 := hide (keep_below (unhide Kp_10) hb8); have Ka_11 := hide (keep_below (unhide Ka_10) hb8); have Kf_11 := hide (keep_below (unhide Kf_10) hb8); have Kv_11 := hide (keep_below (unhide Kv_10) hb8); have Kt_11 := hide (keep_below (unhide Kt_10) hb8); have Ky_11 := hide (keep_below (unhide Ky_10) hb8); have Oz_11 := hide ((unhide Oz_10).below hb8); have Cc_11 := hide (Below.next (unhide Cc_10) hb8 (Nat.le_refl _)); clear HX_10 Kp_10 Ka_10 Kf_10 Kv_10 Kt_10 Ky_10 Oz_10 Cc_10; clear hb8 f0 f1 ff0 ff1 fl v0 v1 vf0 vf1 vl a0 a1 a2 af0 af1 af2 al t0 t1 t2 tf0 tf1 tf2 tl) | (go_at_call 22; refine (sameOff_same w8 (.slice at1 k ct) (.slice yt k yd) td ((unhide HT3).below (unhide Cc_11)) (unhide Oz_11).isl (by rw [unhide HEK]; omega)).mono ?_; rintro e w9 ⟨rfl, hb9⟩; have HX9 := hide (Below.next (unhide HX_11) hb9 (Nat.le_refl _)); clear hb9))
    go_ret
    exact ⟨rfl, unhide HX9⟩
end Go.Proofs.Ytidpmcanfedbdaa
