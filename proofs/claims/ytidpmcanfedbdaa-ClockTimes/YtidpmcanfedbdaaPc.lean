/-
  clock.Set, clock.Soon.
-/
import Derived.Test.YtidpmcanfedbdaaPb
namespace Go.Proofs.Ytidpmcanfedbdaa
open Go.RowKit

set_option maxRecDepth 100000 in
set_option maxHeartbeats 2000000 in
theorem set_ok (w : World) (v : Value) (now next : Int) (xs : List Al) (id after period : Int) (h : IsC w v now next xs) (hn : xs.length ≤ maxLen) (hf : (setF now next xs id after period).1 = 0) :
    Calls Try.prog 12 #[v, .int .i64 id, .int .i64 after, .int .i64 period] w fun e w' => ∃ a c, e = .returned (.tuple #[.agg #[.int .i64 now, .int .i64 (next + 1), .slice a ((noL id xs).length + 1) c], .bool (decide ((noL id xs).length < xs.length)), .agg #[.int .i64 0, .int .i64 0]]) ∧ Own KA w.heap.size w' (.slice a ((noL id xs).length + 1) c) (insL (id, now + after, period, next) (noL id xs)) ∧ Below w.heap.size w w' := by
  obtain ⟨eF, g, hg1, hg2, hg3, hg4, hg5, hg6, hg7⟩ := setF_good hf
  have gl := g.len
  have gn0 := g.n0; have gn1 := g.n1; have gn2 := g.n2; have gn3 := g.n3
  have hml : (noL id xs).length ≤ 5000 := Nat.le_trans (noL_sub id xs).length_le gl
  have HMO := hide (mono_of (g.sub (noL_sub id xs)).srt (id, now + after, period, next))
  obtain ⟨a0, c0, rfl, hL⟩ := h.form
  have HL := hide hL
  have HC : Hid (∀ W, Below w.heap.size w W → Calls Try.prog 30 #[.agg #[.int .i64 now, .int .i64 next, .slice a0 xs.length c0], .int .i64 id, .int .i64 after, .int .i64 period] W fun e w' => e = .returned (.agg #[.int .i64 0, .int .i64 0]) ∧ Below W.heap.size W w') := fun W hW => by
    have := checkSet_any W _ now next xs id after period (h.below hW) hn
    rw [eF] at this
    exact this
  have HWO : Hid (∀ W, Below w.heap.size w W → Calls Try.prog 31 #[.slice a0 xs.length c0, .int .i64 id] W fun e w' => ∃ a c, e = .returned (.slice a (noL id xs).length c) ∧ Own KA W.heap.size w' (.slice a (noL id xs).length c) (noL id xs) ∧ Below W.heap.size W w') := fun W hW => without_any W _ xs id (hL.below hW) (by omega)
  obtain ⟨n, en⟩ : ∃ n, xs.length = n := ⟨_, rfl⟩
  rw [en] at HC HWO HL hn ⊢
  obtain ⟨m, em⟩ : ∃ m, (noL id xs).length = m := ⟨_, rfl⟩
  rw [em] at HWO ⊢
  have HN := hide en; have HM := hide em
  rw [em] at hml
  have hw2 : IntKind.i64.wrap (next + 1) = next + 1 := wrapi (by omega) (by omega)
  obtain ⟨wh, ewh⟩ : ∃ wh, now + after = wh := ⟨_, rfl⟩
  have hw1 : IntKind.i64.wrap (now + after) = wh := (wrapi (by omega) (by omega)).trans ewh
  rw [ewh] at HMO ⊢
  obtain ⟨ys, eys⟩ : ∃ ys, noL id xs = ys := ⟨_, rfl⟩
  rw [eys] at HMO HWO em ⊢
  have HYN := hide em
  clear HM eys ewh hf eF g hg1 hg2 hg3 hg4 hg5 hg6 hg7
  clear h hL en em
  obtain ⟨W0, e0, hB, k0, k1, k2⟩ := three_new w (.cells #[.int .i64 now, .int .i64 next, .slice a0 n c0] 24) (.cells #[.int .i64 0, .int .i64 0, .slice none 0 0] 24) (.cells #[.int .i64 0, .int .i64 0] 29)
  have HX := hide hB; have HP := hide k0; have HQ := hide k1; have HG := hide k2; have HE := hide e0
  clear hB k0 k1 k2 e0
  go_enter Try.func12, Try.ntmps12
  go_upto_region 1 with fail
  rw [unhide HE]
  clear HE
  obtain ⟨⟨p0, p1, p2⟩, ⟨pf0, pf1, pf2⟩, pl⟩ := block3 (unhide HP)
  go_upto_region 2 with (go_at_call 30; refine (unhide HC _ (unhide HX)).mono ?_; rintro e w1 ⟨he, hb1⟩; obtain rfl : e = .returned (.agg #[.int .i64 0, .int .i64 0]) := he; have HX_1 := hide (Below.next (unhide HX) hb1 (by first | exact Nat.le_refl _ | (have := unhide HBA; omega))); have Kp_1 := hide (keep_below (unhide HP) hb1); have Kq_1 := hide (keep_below (unhide HQ) hb1); have Kg_1 := hide (keep_below (unhide HG) hb1); clear HX HP HQ HG; clear hb1 p0 p1 p2 pf0 pf1 pf2 pl)
  have HX_2 := hide ((unhide HX_1).alloc (Nat.le_trans (show w.heap.size ≤ w.heap.size from Nat.le_refl _) (unhide HX_1).size) (.cells #[.int .i64 0, .int .i64 0] 29))
  have Kp_2 := hide (keep_alloc (unhide Kp_1) (.cells #[.int .i64 0, .int .i64 0] 29))
  have Kq_2 := hide (keep_alloc (unhide Kq_1) (.cells #[.int .i64 0, .int .i64 0] 29))
  have Kg_2 := hide (keep_alloc (unhide Kg_1) (.cells #[.int .i64 0, .int .i64 0] 29))
  have Kf_2 := hide (new_block w1 (.cells #[.int .i64 0, .int .i64 0] 29))
  have hlp_f : w.heap.size < w1.heap.size := size_of (unhide Kp_1)
  have hlq_f : w.heap.size + 1 < w1.heap.size := size_of (unhide Kq_1)
  have hlg_f : w.heap.size + 1 + 1 < w1.heap.size := size_of (unhide Kg_1)
  obtain ⟨T, eT⟩ : ∃ X, w1.heap.size = X := ⟨_, rfl⟩
  obtain ⟨W2, eW2⟩ : ∃ X, w1.alloc (.cells #[.int .i64 0, .int .i64 0] 29) = X := ⟨_, rfl⟩
  rw [eT, eW2] at Kf_2; rw [eW2] at HX_2 Kp_2 Kq_2 Kg_2; rw [eT] at hlp_f hlq_f hlg_f; rw [eT, eW2]
  clear eT eW2 HX_1 Kp_1 Kq_1 Kg_1
  obtain ⟨⟨p0, p1, p2⟩, ⟨pf0, pf1, pf2⟩, pl⟩ := block3 (unhide Kp_2)
  obtain ⟨f0, f1, ff0, ff1, fl⟩ := block2 (unhide Kf_2)
  go_upto_region 5 with (go_at_call 31; refine (unhide HWO _ (unhide HX_2)).mono ?_; rintro e w5 ⟨a5, c5, rfl, ho5, hb5⟩; have HO5 := hide (ho5.base (unhide HX_2).size); have HX_3 := hide (Below.next (unhide HX_2) hb5 (by first | exact Nat.le_refl _ | (have := unhide HBA; omega))); have Kp_3 := hide (keep_below (unhide Kp_2) hb5); have Kq_3 := hide (keep_below (unhide Kq_2) hb5); have Kg_3 := hide (keep_below (unhide Kg_2) hb5); have Kf_3 := hide (keep_below (unhide Kf_2) hb5); clear HX_2 Kp_2 Kq_2 Kg_2 Kf_2; clear hb5 ho5 p0 p1 p2 pf0 pf1 pf2 pl f0 f1 ff0 ff1 fl)
  obtain ⟨⟨p0, p1, p2⟩, ⟨pf0, pf1, pf2⟩, pl⟩ := block3 (unhide Kp_3)
  have x1 : decide ((m : Int) < (n : Int)) = decide (m < n) := by simp
  go_upto_region 7 with fail
  clear p0 p1 p2 pf0 pf1 pf2 pl
  have hyt : ∀ k, (Value.slice a5 m c5).ownBlock = some k → k < w5.heap.size := fun k hk => ((unhide HO5).lt k hk).2
  have HX_4 := hide ((unhide HX_3).alloc (Nat.le_trans (show w.heap.size ≤ w.heap.size from Nat.le_refl _) (unhide HX_3).size) (.cells #[.int .i64 id, .int .i64 wh, .int .i64 period, .int .i64 next] 42))
  have Kp_4 := hide (keep_alloc (unhide Kp_3) (.cells #[.int .i64 id, .int .i64 wh, .int .i64 period, .int .i64 next] 42))
  have Kq_4 := hide (keep_alloc (unhide Kq_3) (.cells #[.int .i64 id, .int .i64 wh, .int .i64 period, .int .i64 next] 42))
  have Kg_4 := hide (keep_alloc (unhide Kg_3) (.cells #[.int .i64 id, .int .i64 wh, .int .i64 period, .int .i64 next] 42))
  have Kf_4 := hide (keep_alloc (unhide Kf_3) (.cells #[.int .i64 id, .int .i64 wh, .int .i64 period, .int .i64 next] 42))
  have Oy_4 := hide ((unhide HO5).below ((Below.refl _ _).alloc (Nat.le_refl _) (.cells #[.int .i64 id, .int .i64 wh, .int .i64 period, .int .i64 next] 42)))
  have Ko_4 := hide (new_block w5 (.cells #[.int .i64 id, .int .i64 wh, .int .i64 period, .int .i64 next] 42))
  have hlp_o : w.heap.size < w5.heap.size := size_of (unhide Kp_3)
  have hlq_o : w.heap.size + 1 < w5.heap.size := size_of (unhide Kq_3)
  have hlg_o : w.heap.size + 1 + 1 < w5.heap.size := size_of (unhide Kg_3)
  have hlf_o : T < w5.heap.size := size_of (unhide Kf_3)
  obtain ⟨T2, eT2⟩ : ∃ X, w5.heap.size = X := ⟨_, rfl⟩
  obtain ⟨W3, eW3⟩ : ∃ X, w5.alloc (.cells #[.int .i64 id, .int .i64 wh, .int .i64 period, .int .i64 next] 42) = X := ⟨_, rfl⟩
  rw [eT2, eW3] at Ko_4; rw [eW3] at HX_4 Kp_4 Kq_4 Kg_4 Kf_4 Oy_4; rw [eT2] at hlp_o hlq_o hlg_o hlf_o hyt; rw [eT2, eW3]
  clear eT2 eW3 HX_3 Kp_3 Kq_3 Kg_3 Kf_3 HO5
  have HYT := hide hyt
  clear hyt
  have HSS : Hid (∀ W : World, W.heap[w.heap.size]? = some (.cells #[.int .i64 now, .int .i64 next, .slice a0 n c0] 24 (0, 0)) → W.heap[T2]? = some (.cells #[.int .i64 id, .int .i64 wh, .int .i64 period, .int .i64 next] 42 (0, 0)) → (W.cell? ⟨w.heap.size, 0, none⟩ = some (.int .i64 now) ∧ W.cell? ⟨w.heap.size, 1, none⟩ = some (.int .i64 next)) ∧ W.cell? ⟨T2, 0, none⟩ = some (.int .i64 id) ∧ W.cell? ⟨T2, 1, none⟩ = some (.int .i64 wh) ∧ W.cell? ⟨T2, 2, none⟩ = some (.int .i64 period) ∧ W.cell? ⟨T2, 3, none⟩ = some (.int .i64 next)) := fun W h1 h2 => by
    obtain ⟨⟨k0, k1, -⟩, -, -⟩ := block3 h1
    obtain ⟨k, -, -⟩ := block4 h2
    exact ⟨⟨k0, k1⟩, k⟩
  have hT2 : w.heap.size + 1 + 1 < T2 := by omega
  have hyb : ∀ k, (Value.slice a5 m c5).ownBlock = some k → w.heap.size ≤ k := fun k hk => ((unhide Oy_4).lt k hk).1
  have HYB := hide hyb
  clear hyb
  have HNP := hide (Own.ne (unhide Oy_4) (unhide Kp_4) (by decide))
  have HNQ := hide (Own.ne (unhide Oy_4) (unhide Kq_4) (by decide))
  have HNG := hide (Own.ne (unhide Oy_4) (unhide Kg_4) (by decide))
  have HYW : Hid (∀ W, Below W3.heap.size W3 W → Calls Try.prog 32 #[.slice a5 m c5, .agg #[.int .i64 id, .int .i64 wh, .int .i64 period, .int .i64 next]] W fun e w' => ∃ a' c', e = .returned (.slice a' (m + 1) c') ∧ Own KA w.heap.size w' (.slice a' (m + 1) c') (insL (id, wh, period, next) ys) ∧ W.grownBy w' (Value.slice a5 m c5).ownBlock) := fun W hW => with_any W w.heap.size a5 m c5 ys id wh period next ((unhide Oy_4).below hW) (unhide HYN) (by omega) (Nat.le_trans (unhide HX_4).size hW.size) (unhide HMO)
  have HNO : Hid (∀ k, (Value.slice a5 m c5).ownBlock = some k → k ≠ T2) := fun k hk => by have := unhide HYT k hk; omega
  obtain ⟨⟨p0, p1⟩, o0, o1, o2, o3⟩ := unhide HSS _ (unhide Kp_4) (unhide Ko_4)
  go_wp2_with fail
  go_region_held3 (fun W => (W.cell? ⟨w.heap.size, 0, none⟩ = some (.int .i64 now) ∧ W.cell? ⟨w.heap.size, 1, none⟩ = some (.int .i64 next)) ∧ W.cell? ⟨T2, 0, none⟩ = some (.int .i64 id) ∧ W.cell? ⟨T2, 1, none⟩ = some (.int .i64 wh) ∧ W.cell? ⟨T2, 2, none⟩ = some (.int .i64 period) ∧ W.cell? ⟨T2, 3, none⟩ = some (.int .i64 next))
    (first | with_reducible exact unhide HSS _ (keep_below (unhide Kp_4) (Below.refl _ _).drew) (keep_below (unhide Ko_4) (Below.refl _ _).drew) | with_reducible exact unhide HSS _ (unhide HP6) (unhide HB6) | (refine unhide HSS _ ?_ ?_ <;> repeat' (first | with_reducible exact unhide HP6 | with_reducible exact unhide HB6 | (with_reducible refine keep_set ?_ ?_) | omega)))
    (first | (go_at_call 32; refine (unhide HYW _ (Below.refl _ _).drew).mono ?_; rintro e w6 ⟨a6, c6, rfl, ho6, hg6⟩; have HO6 := hide ho6; have HP6 := hide (keep_grown (keep_below (unhide Kp_4) (Below.refl _ _).drew) hg6 (fun j hj => unhide HNP j hj)); have HB6 := hide (keep_grown (keep_below (unhide Ko_4) (Below.refl _ _).drew) hg6 (fun j hj => unhide HNO j hj)); have HQ6 := hide (keep_grown (keep_below (unhide Kq_4) (Below.refl _ _).drew) hg6 (fun j hj => unhide HNQ j hj)); have HG6 := hide (keep_grown (keep_below (unhide Kg_4) (Below.refl _ _).drew) hg6 (fun j hj => unhide HNG j hj)); have HX6 := hide (Below.grown (Below.drew (unhide HX_4)) hg6 (Below.drew (unhide HX_4)).size (fun k hk => unhide HYB k hk)); obtain ⟨⟨q0, q1, q2⟩, ⟨qf0, qf1, qf2⟩, ql⟩ := block3 (unhide HQ6); obtain ⟨g0, g1, gf0, gf1, gl6⟩ := block2 (unhide HG6); clear ho6 hg6))
  all_goals
    go_wp2_with fail
    refine bodyPost_ret (v := .tuple #[.agg #[.int .i64 now, .int .i64 (next + 1), .slice a6 (m + 1) c6], .bool (decide (m < n)), .agg #[.int .i64 0, .int .i64 0]]) (by simp [results, Try.results12, go_sem, q0, q1, q2, g0, g1]) rfl ⟨a6, c6, rfl, ?_, ?_⟩
    · exact put2_own (putL_own (unhide HO6) (unhide HQ6) (by decide)) (putL_keeps (unhide HG6) (by omega)) (by decide)
    · exact put2_below (putL_below (unhide HX6) (by omega)) (by omega)

end Go.Proofs.Ytidpmcanfedbdaa
