/-
  law.sweepBegun.
-/
import Derived.Test.YtmkehjncnaokoaaZa
namespace Go.Proofs.Ytmkehjncnaokoaa
open Go.RowKit

theorem begun_rc {x : Nat} (h : Rc [[-1], []] [0] x) : x = 0 := by
  induction h with
  | root h => simp at h; omega
  | step _ h _ => simp_all
theorem begun_lost {xs : List Nat} (h : LostIs [[-1], []] [0] xs) : xs = [1] := by
  have hr0 : Rc [[-1], []] [0] 0 := .root (by simp)
  obtain ⟨wh, rfl, hw⟩ := h
  have h0 : wh 0 = false := (hw 0 (by decide)).2 hr0
  have h1 : wh 1 = true := by
    cases e : wh 1 with
    | true => rfl
    | false => have := begun_rc ((hw 1 (by decide)).1 e); omega
  show (List.range 2).filter wh = [1]
  simp [List.range, List.range.loop, h0, h1]
theorem begun_isll {w : World} {b1 b2 b3 : Nat} (h1 : w.heap[b1]? = some (.cells #[.int .i64 (-1)] 3 (0, 0))) (h3 : w.heap[b3]? = some (.cells #[.slice (some ⟨b1, 0, none⟩) 1 1, .slice (some ⟨b2, 0, none⟩) 0 0] 23 (0, 0))) : IsLL w (.slice (some ⟨b3, 0, none⟩) 2 2) [(some ⟨b1, 0, none⟩, 1, 1), (some ⟨b2, 0, none⟩, 0, 0)] [[-1], []] := by
  refine ⟨Lies.isl kl (fun j i u hj hu => ?_) rfl (Nat.le_refl _), rfl, fun i hi => ?_⟩
  · have hi0 : i = 0 := by have := (List.getElem?_eq_some_iff.1 hu).1; simpa [KL] using this
    subst hi0
    have hj2 : j = 0 ∨ j = 1 := by simp at hj; omega
    rcases hj2 with rfl | rfl
    · cases hu; exact (block2 h3).1
    · cases hu; exact (block2 h3).2.1
  · have hj2 : i = 0 ∨ i = 1 := by simp at hi; omega
    rcases hj2 with rfl | rfl
    · refine Lies.isl ki (fun j i u hj hu => ?_) rfl (Nat.le_refl _)
      have hi0 : i = 0 := by have := (List.getElem?_eq_some_iff.1 hu).1; simpa [KI] using this
      have hj0 : j = 0 := by simp at hj; omega
      subst hi0; subst hj0
      cases hu
      simp [World.cell?, h1]
    · exact Lies.isl ki (fun j i u hj _ => absurd hj (Nat.not_lt_zero _)) rfl (Nat.le_refl _)
theorem begun_roots {w : World} {b4 : Nat} {z : Int} (h4 : w.heap[b4]? = some (.cells #[.int .i64 z] 3 (0, 0))) : IsL KI w (.slice (some ⟨b4, 0, none⟩) 1 1) [z] := by
  refine Lies.isl ki (fun j i u hj hu => ?_) rfl (Nat.le_refl _)
  have hi0 : i = 0 := by have := (List.getElem?_eq_some_iff.1 hu).1; simpa [KI] using this
  have hj0 : j = 0 := by simp at hj; omega
  subst hi0; subst hj0
  cases hu
  simp [World.cell?, h4]

set_option maxRecDepth 100000 in
set_option maxHeartbeats 4000000 in
theorem begun_any (w : World) : Calls Try.prog 8 #[] w fun e w' => e = .returned (.bool true) ∧ Below w.heap.size w w' := by
  go_enter Try.func8, Try.ntmps8
  go_upto_region 2 with fail
  obtain ⟨W4, e4, hx4, h1, h2, h3, h4⟩ := four_new w (.cells #[.int .i64 (-1)] 3) (.cells #[] 3) (.cells #[.slice (some ⟨w.heap.size, 0, none⟩) 1 1, .slice (some ⟨w.heap.size + 1, 0, none⟩) 0 0] 23) (.cells #[.int .i64 0] 3)
  have hs4 : W4.heap.size = w.heap.size + 1 + 1 + 1 + 1 := by rw [← e4]; simp only [World.size_alloc]
  have hx5 := hx4.alloc hx4.size (.cells #[.slice (some ⟨w.heap.size + 1 + 1, 0, none⟩) 2 2, .slice (some ⟨w.heap.size + 1 + 1 + 1, 0, none⟩) 1 1] 25)
  have hh5 := new_block W4 (.cells #[.slice (some ⟨w.heap.size + 1 + 1, 0, none⟩) 2 2, .slice (some ⟨w.heap.size + 1 + 1 + 1, 0, none⟩) 1 1] 25)
  have hb45 : Below W4.heap.size W4 (W4.alloc (.cells #[.slice (some ⟨w.heap.size + 1 + 1, 0, none⟩) 2 2, .slice (some ⟨w.heap.size + 1 + 1 + 1, 0, none⟩) 1 1] 25)) := (Below.refl _ _).alloc (Nat.le_refl _) _
  rw [hs4] at hh5
  rw [e4]
  obtain ⟨W5, e5⟩ : ∃ X, W4.alloc (.cells #[.slice (some ⟨w.heap.size + 1 + 1, 0, none⟩) 2 2, .slice (some ⟨w.heap.size + 1 + 1 + 1, 0, none⟩) 1 1] 25) = X := ⟨_, rfl⟩
  rw [e5] at hx5 hh5 hb45
  rw [e5]
  have hO := (begun_isll (b2 := w.heap.size + 1) h1 h3).below hb45
  have hR := (begun_roots h4).below hb45
  have HX5 := hide hx5; have HH5 := hide hh5; have HO := hide hO; have HR := hide hR
  clear e4 e5 hx4 h1 h2 h3 h4 hs4 hx5 hh5 hb45 hO hR
  have HLO := hide (lost_good W5 _ _ _ _ _ _ _ _ _ (unhide HO) (unhide HR) (by decide))
  obtain ⟨b0, b1, bf0, bf1, bl⟩ := block2 (unhide HH5)
  go_upto_region 3 with (go_at_call 12; (with_reducible refine Calls.mono (unhide HLO) ?_); rintro e w6 ⟨xs, a6, c6, rfl, hl6, ho6, hb6⟩; obtain rfl := begun_lost hl6; have HO6 := hide ho6.isl; have HB6 := hide hb6; clear ho6 hb6 hl6)
  have HX7 := hide ((Below.next (unhide HX5) (unhide HB6) (Nat.le_refl _)).alloc (Nat.le_trans (unhide HX5).size (unhide HB6).size) (.cells #[.int .i64 0, .int .i64 0] 30))
  have HB7 := hide ((unhide HB6).alloc (unhide HB6).size (.cells #[.int .i64 0, .int .i64 0] 30))
  have HF7 := hide (new_block w6 (.cells #[.int .i64 0, .int .i64 0] 30))
  have HO7 := hide ((unhide HO6).below ((Below.refl w6.heap.size w6).alloc (Nat.le_refl _) (.cells #[.int .i64 0, .int .i64 0] 30)))
  obtain ⟨F, eF⟩ : ∃ X, w6.heap.size = X := ⟨_, rfl⟩
  obtain ⟨W7, e7⟩ : ∃ X, w6.alloc (.cells #[.int .i64 0, .int .i64 0] 30) = X := ⟨_, rfl⟩
  rw [e7] at HX7 HB7 HO7; rw [eF, e7] at HF7; rw [eF, e7]
  clear eF e7 HO6 HB6 HLO b0 b1 bf0 bf1 bl
  have HH7 := hide (keep_below (unhide HH5) (unhide HB7))
  have HB8 := hide ((unhide HB7).alloc (unhide HB7).size (.cells #[.int .i64 5, .int .i64 0, .int .i64 0, .int .i64 0] 47))
  have HCY := hide (cycle_one (W7.alloc (.cells #[.int .i64 5, .int .i64 0, .int .i64 0, .int .i64 0] 47)) _ _ _ _ _ _ _ _ _ ((unhide HO).below (unhide HB8)) ((unhide HR).below (unhide HB8)) (by decide) W7.heap.size (new_block _ _) (shadeL ⟨fun _ => true, []⟩ [0]).wh 0 [] rfl)
  obtain ⟨b0, b1, bf0, bf1, bl⟩ := block2 (unhide HH7)
  go_upto_region 4 with (go_at_call 19; (with_reducible refine Calls.mono (unhide HCY) ?_); rintro e w9 ⟨b9, a19, c19, xs, a9, c9, rfl, hl9, ho9, hb9⟩; obtain rfl := begun_lost hl9; have HO9 := hide ho9.isl; have HB9 : Hid (Below W7.heap.size W7 w9) := ((Below.refl W7.heap.size W7).alloc (Nat.le_refl _) _).trans (hb9.mono (by rw [World.size_alloc]; exact Nat.le_succ _)); clear ho9 hb9 hl9)
  obtain ⟨W10, e10, hx10, hh10, hg10⟩ := two_new w9 (.cells #[.slice (some ⟨b9, 0, none⟩) 2 2, .slice a19 1 c19] 25) (.cells #[.int .i64 0, .int .i64 0] 30)
  rw [e10]
  have hb10 : Below W7.heap.size W7 W10 := Below.next (unhide HB9) hx10 (Nat.le_refl _)
  have HF10 := hide (keep_below (unhide HF7) hb10)
  have HG10 := hide hg10
  have HX10 := hide (Below.next (unhide HX7) hb10 (Nat.le_refl _))
  have HO10 := hide ((unhide HO7).below hb10)
  have HP10 := hide ((unhide HO9).below hx10)
  clear hx10 hh10 hg10 hb10 e10 b0 b1 bf0 bf1 bl
  have HB11 : Hid (Below W10.heap.size W10 (W10.alloc (.cells #[.int .i64 1] 3))) := (Below.refl _ _).alloc (Nat.le_refl _) _
  have HI1 := hide (ints_same (W10.alloc (.cells #[.int .i64 1] 3)) _ _ _ ((unhide HO10).below (unhide HB11)) (begun_roots (new_block W10 (.cells #[.int .i64 1] 3))) (by decide))
  have HI2 : Hid (∀ W, Below W10.heap.size W10 W → Calls Try.prog 22 #[.slice a9 1 c9, .slice (some ⟨W.heap.size, 0, none⟩) 1 1] (W.alloc (.cells #[.int .i64 1] 3)) fun e w' => e = .returned (.bool true) ∧ Below (W.alloc (.cells #[.int .i64 1] 3)).heap.size (W.alloc (.cells #[.int .i64 1] 3)) w') := fun W hW => ints_same (W.alloc (.cells #[.int .i64 1] 3)) _ _ _ (((unhide HP10).below hW).below ((Below.refl _ _).alloc (Nat.le_refl _) _)) (begun_roots (new_block W (.cells #[.int .i64 1] 3))) (by decide)
  obtain ⟨f0, f1, ff0, ff1, fl⟩ := block2 (unhide HF10)
  obtain ⟨g0, g1, gf0, gf1, gl⟩ := block2 (unhide HG10)
  go_wp2_with (first
    | (go_at_call 22; (with_reducible refine Calls.mono (unhide HI1) ?_); rintro e w11 ⟨rfl, hb11⟩; have HB12 := hide (Below.next (unhide HB11) hb11 (Nat.le_refl _)); clear hb11)
    | (go_at_call 22; (with_reducible refine Calls.mono (unhide HI2 _ (unhide HB12)) ?_); rintro e w13 ⟨rfl, hb13⟩; have HB13 := hide ((unhide HB12).trans ((alloc_b (Below.refl _ _) : Below w11.heap.size w11 (w11.alloc (.cells #[.int .i64 1] 3))).mono (unhide HB12).size |>.trans (hb13.mono (by rw [World.size_alloc]; exact Nat.le_trans (unhide HB12).size (Nat.le_succ _))))); clear hb13))
  refine bodyPost_ret (v := .bool true) (by simp [results, Try.results8]) rfl ⟨rfl, Below.next (unhide HX10) (unhide HB13) (Nat.le_refl _)⟩
end Go.Proofs.Ytmkehjncnaokoaa
