/-
  taskmillref.Sent where there is room, and whatever comes.
-/
import Derived.Test.YtijogcjocandcaaV
namespace Go.Proofs.Ytijogcjocandcaa
open Go.RowKit

set_option maxRecDepth 100000 in
set_option maxHeartbeats 1000000 in
theorem sent_room (w : World) (v : Value) (P : Pp) (t u : Int) (h : IsPipe w v P) (hc : countP P ≤ 6000) (hy : P.closed = false) (hz3 : ¬ 0 < P.gs.length) (hz4 : (P.items.length : Int) < P.cap) :
    Calls Try.prog 16 #[v, .agg #[.int .i64 t, .int .i64 0, .int .i64 u]] w fun e w' => ∃ v1 v2, e = .returned (.tuple #[v1, v2]) ∧ IsPipe w' v1 { P with items := P.items ++ [u] } ∧ IsAns w' v2 ⟨true, false, false, 0, 0, []⟩ ∧ Below w.heap.size w w' := by
  obtain ⟨cap, items, closed, ss, gs⟩ := P
  obtain ⟨a1, c1, a2, c2, a3, c3, rfl, hI, hS, hG⟩ := h.form
  have hc' : items.length + ss.length + gs.length ≤ 6000 := hc
  simp only at hI hS hG h hy hz3 hz4 ⊢
  subst hy
  clear hc h
  have HI := hide hI; have HS := hide hS; have HG := hide hG
  clear hI hS hG
  obtain ⟨n1, en1⟩ : ∃ n, items.length = n := ⟨_, rfl⟩
  obtain ⟨n2, en2⟩ : ∃ n, ss.length = n := ⟨_, rfl⟩
  obtain ⟨n3, en3⟩ : ∃ n, gs.length = n := ⟨_, rfl⟩
  rw [en1] at HI; rw [en2] at HS; rw [en3] at HG
  rw [en1, en2, en3] at hc'
  rw [en1, en2, en3]
  have HN1 := hide en1; have HN2 := hide en2; have HN3 := hide en3
  rw [en3] at hz3; rw [en1] at hz4
  have HZ3 := hide hz3; have z3 : ¬ (0 : Int) < (n3 : Int) := by omega
  clear hz3
  clear en1 en2 en3
  obtain ⟨W0, e0, hB, k0, k1, k2, k3⟩ := four_new w (.cells #[.int .i64 cap, .slice a1 n1 c1, .bool false, .slice a2 n2 c2, .slice a3 n3 c3] 25) (.cells #[.int .i64 t, .int .i64 0, .int .i64 u] 39) (.cells #[.int .i64 0, .slice none 0 0, .bool false, .slice none 0 0, .slice none 0 0] 25) (.cells #[.bool false, .bool false, .bool false, .int .i64 0, .int .i64 0, .slice none 0 0] 34)
  have HB := hide hB; have HK0 := hide k0; have HK1 := hide k1; have HK2 := hide k2; have HK3 := hide k3; have HE := hide e0
  clear hB k0 k1 k2 k3 e0
  go_enter Try.func16, Try.ntmps16
  go_upto_region 1 with fail
  rw [unhide HE]
  clear HE
  obtain ⟨⟨m0, m1, m2⟩, -, ml⟩ := block3 (unhide HK1)
  go_upto_region 2 with fail
  clear m0 m1 m2 ml
  have HX := hide ((unhide HB).alloc (unhide HB).size (.cells #[.bool true, .bool false, .bool false, .int .i64 0, .int .i64 0, .slice none 0 0] 34))
  have HJ0 := hide (keep_alloc (unhide HK0) (.cells #[.bool true, .bool false, .bool false, .int .i64 0, .int .i64 0, .slice none 0 0] 34))
  have HJ1 := hide (keep_alloc (unhide HK1) (.cells #[.bool true, .bool false, .bool false, .int .i64 0, .int .i64 0, .slice none 0 0] 34))
  have HJ2 := hide (keep_alloc (unhide HK2) (.cells #[.bool true, .bool false, .bool false, .int .i64 0, .int .i64 0, .slice none 0 0] 34))
  have HJ3 := hide (keep_alloc (unhide HK3) (.cells #[.bool true, .bool false, .bool false, .int .i64 0, .int .i64 0, .slice none 0 0] 34))
  have HT := hide (new_block W0 (.cells #[.bool true, .bool false, .bool false, .int .i64 0, .int .i64 0, .slice none 0 0] 34))
  have hTl : w.heap.size + 1 + 1 + 1 < W0.heap.size := (block6 (unhide HK3)).2.2
  obtain ⟨T, eT⟩ : ∃ T, W0.heap.size = T := ⟨_, rfl⟩
  obtain ⟨W1, eW⟩ : ∃ W, W0.alloc (.cells #[.bool true, .bool false, .bool false, .int .i64 0, .int .i64 0, .slice none 0 0] 34) = W := ⟨_, rfl⟩
  rw [eT, eW] at HT; rw [eW] at HX HJ0 HJ1 HJ2 HJ3; rw [eT] at hTl; rw [eT, eW]
  clear eT eW HK0 HK1 HK2 HK3 HB
  obtain ⟨⟨p0, p1, p2, p3, p4⟩, ⟨y0, y1, y2, y3, y4⟩, pl⟩ := block5 (unhide HJ0)
  obtain ⟨⟨m0, m1, m2⟩, -, ml⟩ := block3 (unhide HJ1)
  obtain ⟨⟨q0, q1, q2, q3, q4⟩, ⟨f0, f1, f2, f3, f4⟩, ql⟩ := block5 (unhide HJ2)
  obtain ⟨⟨s0, s1, s2, s3, s4, s5⟩, ⟨g0, g1, g2, g3, g4, g5⟩, sl⟩ := block6 (unhide HJ3)
  obtain ⟨⟨x0, x1, x2, x3, x4, x5⟩, ⟨z0, z1, z2, z3', z4, z5⟩, xl⟩ := block6 (unhide HT)
  go_upto_region 11 with fail
  have HI1 := hide ((unhide HI).below (unhide HX))
  have HW1 := hide (unhide HX).size
  have o1 := (block5 (keep_alloc (unhide HJ0) (.cells #[.int .i64 u] 3))).1.2.1
  have o2 := (block3 (keep_alloc (unhide HJ1) (.cells #[.int .i64 u] 3))).1.2.2
  go_region_law (first
    | (refine step_append ki rfl (.const (.slice none 0 0)) (.tmp 46) rfl W1.heap.size _ [] rfl (own_nil _ _) (.slice a1 n1 c1) items rfl (IsL.below (unhide HI1) (by first | exact (Below.refl _ _).drew | exact ((Below.refl _ _).alloc (Nat.le_refl _) _).drew | exact (Below.refl _ _).drew.alloc (Nat.le_refl _) _)) n1 (by rw [unhide HN1]; simp) (by show n1 * 8 ≤ 140737488355328; omega) (by first | exact Nat.le_refl _ | simp [World.drew]) ?_; intro b5 d5 w5 ho5 hg5; have HO5 := hide (own_nil_append ho5); have HX5 : Hid (Below W1.heap.size W1 w5) := Below.grown (by first | exact (Below.refl _ _).drew | exact ((Below.refl _ _).alloc (Nat.le_refl _) _).drew | exact (Below.refl _ _).drew.alloc (Nat.le_refl _) _) hg5 (by first | exact Nat.le_refl _ | simp [World.drew]) (fun k hk => by cases hk); (first | (have HIO : Hid (IsL KI w5 (.slice (some ⟨W1.heap.size, 0, none⟩) 1 1) [u]) := IsL.below (IsL.below (isl_one ki W1 u) (Below.refl _ _).drew) (Below.grown (Below.refl _ _) hg5 (Nat.le_refl _) (fun k hk => by cases hk))) | skip); obtain ⟨⟨p0', p1', p2', p3', p4'⟩, ⟨y0', y1', y2', y3', y4'⟩, pl'⟩ := block5 (keep_below (unhide HJ0) (unhide HX5)); obtain ⟨⟨m0', m1', m2'⟩, -, ml'⟩ := block3 (keep_below (unhide HJ1) (unhide HX5)); have o3 := (block5 (keep_alloc (keep_below (unhide HJ0) (unhide HX5)) (.cells #[.int .i64 u] 3))).1.2.1; clear ho5 hg5)
    | (refine step_append ki rfl (.tmp 47) (.tmp 50) rfl W1.heap.size _ items rfl (by first | exact unhide HO5 | exact Own.below (unhide HO5) ((Below.refl _ _).alloc (Nat.le_refl _) _)) _ [u] rfl (by first | exact unhide HIO | exact isl_one ki w5 u) (n1 + 1) (by rw [unhide HN1]; rfl) (by show (n1 + 1) * 8 ≤ 140737488355328; omega) (by first | exact (unhide HX5).size | exact Nat.le_trans (unhide HX5).size (by simp)) ?_; intro b6 d6 w6 ho6 hg6; have HO6 := hide ho6; have HX6 : Hid (Below W1.heap.size W1 w6) := (by first | exact (unhide HX5).grown hg6 (unhide HX5).size (fun k hk => ((unhide HO5).lt k hk).1) | exact ((unhide HX5).alloc (unhide HX5).size _).grown hg6 (Nat.le_trans (unhide HX5).size (by simp)) (fun k hk => ((unhide HO5).lt k hk).1)); obtain ⟨⟨e0', e1', e2', e3', e4'⟩, ⟨l0', l1', l2', l3', l4'⟩, pl6⟩ := block5 (keep_below (unhide HJ0) (unhide HX6)); clear ho6 hg6))
  all_goals (
    obtain ⟨W2, e2⟩ : ∃ W, w6.setCell ⟨w.heap.size, 1, none⟩ (.slice b6 (n1 + 1) d6) = W := ⟨_, rfl⟩
    have hR6 : w.heap.size + 1 + 1 + 1 < W1.heap.size := (block6 (unhide HJ3)).2.2
    have M0 := hide (set_block5 (i := 1) (y := .slice b6 (n1 + 1) d6) (keep_below (unhide HJ0) (unhide HX6)))
    have M2 := hide (keep_set (g := w.heap.size) (o := 1) (v := .slice b6 (n1 + 1) d6) (keep_below (unhide HJ2) (unhide HX6)) (by omega))
    have M3 := hide (keep_set (g := w.heap.size) (o := 1) (v := .slice b6 (n1 + 1) d6) (keep_below (unhide HJ3) (unhide HX6)) (by omega))
    have MT := hide (keep_set (g := w.heap.size) (o := 1) (v := .slice b6 (n1 + 1) d6) (keep_below (unhide HT) (unhide HX6)) (by omega))
    have HX7 := hide (below_set (i := 1) (Below.next (unhide HX) (unhide HX6) (Nat.le_refl _)) (Nat.le_refl _) (.slice b6 (n1 + 1) d6))
    have HSK : Hid (∀ k, k ≠ w.heap.size → (w6.setCell ⟨w.heap.size, 1, none⟩ (.slice b6 (n1 + 1) d6)).heap[k]? = w6.heap[k]?) := fun k hk => Below.heap_setCell _ _ _ _ (by simpa using hk)
    rw [e2] at M0 M2 M3 MT HX7 HSK ⊢
    clear e2 p0' p1' p2' p3' p4' y0' y1' y2' y3' y4' pl' m0' m1' m2' ml' o1 o2 o3 e0' e1' e2' e3' e4' l0' l1' l2' l3' l4' pl6
    clear p0 p1 p2 p3 p4 y0 y1 y2 y3 y4 pl q0 q1 q2 q3 q4 f0 f1 f2 f3 f4 ql s0 s1 s2 s3 s4 s5 g0 g1 g2 g3 g4 g5 sl x0 x1 x2 x3 x4 x5 z0 z1 z2 z3' z4 z5 xl m0 m1 m2 ml
    simp only [List.setIfInBounds_toArray, List.set_cons_zero, List.set_cons_succ] at M0
    obtain ⟨⟨p0, p1, p2, p3, p4⟩, ⟨y0, y1, y2, y3, y4⟩, pl⟩ := block5 (unhide M0)
    obtain ⟨⟨q0, q1, q2, q3, q4⟩, ⟨f0, f1, f2, f3, f4⟩, ql⟩ := block5 (unhide M2)
    obtain ⟨⟨s0, s1, s2, s3, s4, s5⟩, ⟨g0, g1, g2, g3, g4, g5⟩, sl⟩ := block6 (unhide M3)
    obtain ⟨⟨x0, x1, x2, x3, x4, x5⟩, ⟨z0, z1, z2, z3', z4, z5⟩, xl⟩ := block6 (unhide MT)
    have u0 : T ≠ w.heap.size + 1 + 1 := by omega
    have u1 : w.heap.size + 1 + 1 ≠ T := by omega
    have u2 : T ≠ w.heap.size + 1 + 1 + 1 := by omega
    have u3 : w.heap.size + 1 + 1 + 1 ≠ T := by omega
    have u4 : T ≠ w.heap.size := by omega
    have u5 : w.heap.size ≠ T := by omega
    go_wp2_with fail
    go_region
    obtain ⟨Wf, ef⟩ : ∃ W, (put6 (put5 W2 (w.heap.size + 1 + 1) (.int .i64 cap) (.slice b6 (n1 + 1) d6) (.bool false) (.slice a2 n2 c2) (.slice a3 n3 c3)) (w.heap.size + 1 + 1 + 1) (.bool true) (.bool false) (.bool false) (.int .i64 0) (.int .i64 0) (.slice none 0 0)).drew = W := ⟨_, rfl⟩
    have H5 := hide (keep_below ((put6_keep (y0 := .bool true) (y1 := .bool false) (y2 := .bool false) (y3 := .int .i64 0) (y4 := .int .i64 0) (y5 := .slice none 0 0) (show w.heap.size + 1 + 1 ≠ w.heap.size + 1 + 1 + 1 by omega)).trans (put5_new (y0 := .int .i64 cap) (y1 := .slice b6 (n1 + 1) d6) (y2 := .bool false) (y3 := .slice a2 n2 c2) (y4 := .slice a3 n3 c3) (unhide M2))) (Below.refl _ _).drew)
    have H6 := hide (keep_below (put6_new (y0 := .bool true) (y1 := .bool false) (y2 := .bool false) (y3 := .int .i64 0) (y4 := .int .i64 0) (y5 := .slice none 0 0) ((put5_keep (y0 := .int .i64 cap) (y1 := .slice b6 (n1 + 1) d6) (y2 := .bool false) (y3 := .slice a2 n2 c2) (y4 := .slice a3 n3 c3) (show w.heap.size + 1 + 1 + 1 ≠ w.heap.size + 1 + 1 by omega)).trans (unhide M3))) (Below.refl _ _).drew)
    have HBf : Hid (Below w.heap.size w (put6 (put5 W2 (w.heap.size + 1 + 1) (.int .i64 cap) (.slice b6 (n1 + 1) d6) (.bool false) (.slice a2 n2 c2) (.slice a3 n3 c3)) (w.heap.size + 1 + 1 + 1) (.bool true) (.bool false) (.bool false) (.int .i64 0) (.int .i64 0) (.slice none 0 0)).drew) := (put6_below (put5_below (unhide HX7) (by omega)) (by omega)).drew
    have HKf : Hid (∀ k, k ≠ w.heap.size + 1 + 1 → k ≠ w.heap.size + 1 + 1 + 1 → ((put6 (put5 W2 (w.heap.size + 1 + 1) (.int .i64 cap) (.slice b6 (n1 + 1) d6) (.bool false) (.slice a2 n2 c2) (.slice a3 n3 c3)) (w.heap.size + 1 + 1 + 1) (.bool true) (.bool false) (.bool false) (.int .i64 0) (.int .i64 0) (.slice none 0 0)).drew).heap[k]? = W2.heap[k]?) := fun k h5 h6 => (drew_at _ k).trans ((put6_keep h6).trans (put5_keep h5))
    rw [ef] at H5 H6 HBf HKf
    have ef2 : ((((((((((((W2).setCell ⟨w.heap.size + 1 + 1, 0, none⟩ (.int .i64 cap)).setCell ⟨w.heap.size + 1 + 1, 1, none⟩ (.slice b6 (n1 + 1) d6)).setCell ⟨w.heap.size + 1 + 1, 2, none⟩ (.bool false)).setCell ⟨w.heap.size + 1 + 1, 3, none⟩ (.slice a2 n2 c2)).setCell ⟨w.heap.size + 1 + 1, 4, none⟩ (.slice a3 n3 c3)).setCell ⟨w.heap.size + 1 + 1 + 1, 0, none⟩ (.bool true)).setCell ⟨w.heap.size + 1 + 1 + 1, 1, none⟩ (.bool false)).setCell ⟨w.heap.size + 1 + 1 + 1, 2, none⟩ (.bool false)).setCell ⟨w.heap.size + 1 + 1 + 1, 3, none⟩ (.int .i64 0)).setCell ⟨w.heap.size + 1 + 1 + 1, 4, none⟩ (.int .i64 0)).setCell ⟨w.heap.size + 1 + 1 + 1, 5, none⟩ (.slice none 0 0)).drew = Wf := ef
    rw [ef2]
    clear ef ef2
    clear p0 p1 p2 p3 p4 y0 y1 y2 y3 y4 pl q0 q1 q2 q3 q4 f0 f1 f2 f3 f4 ql s0 s1 s2 s3 s4 s5 g0 g1 g2 g3 g4 g5 sl x0 x1 x2 x3 x4 x5 z0 z1 z2 z3' z4 z5 xl
    obtain ⟨⟨q0, q1, q2, q3, q4⟩, -, -⟩ := block5 (unhide H5)
    obtain ⟨⟨s0, s1, s2, s3, s4, s5⟩, -, -⟩ := block6 (unhide H6)
    go_wp2_with fail
    refine bodyPost_ret (v := .tuple #[.agg #[.int .i64 cap, .slice b6 (n1 + 1) d6, .bool false, .slice a2 n2 c2, .slice a3 n3 c3], .agg #[.bool true, .bool false, .bool false, .int .i64 0, .int .i64 0, .slice none 0 0]]) (by simp [results, Try.results16, go_sem, q0, q1, q2, q3, q4, s0, s1, s2, s3, s4, s5]) rfl ⟨_, _, rfl, ⟨_, _, _, rfl, ((unhide HO6).keep (fun k hk => by have hk1 := ((unhide HO6).lt k hk).1; exact (unhide HKf k (by omega) (by omega)).trans (unhide HSK k (by omega)))).isl, (unhide HS).below (unhide HBf), (unhide HG).below (unhide HBf)⟩, ⟨_, rfl, isl_nil _⟩, unhide HBf⟩
  )

theorem sent_any (w : World) (v : Value) (P : Pp) (t u : Int) (h : IsPipe w v P) (hc : countP P ≤ 6000) :
    Calls Try.prog 16 #[v, .agg #[.int .i64 t, .int .i64 0, .int .i64 u]] w fun e w' => ∃ v1 v2, e = .returned (.tuple #[v1, v2]) ∧ IsPipe w' v1 (sentL P (t, 0, u)).1 ∧ IsAns w' v2 (sentL P (t, 0, u)).2 ∧ Below w.heap.size w w' := by
  cases h1 : P.closed with
  | true =>
    have e : sentL P (t, 0, u) = (P, ⟨true, true, false, 0, 0, []⟩) := by unfold sentL; rw [if_pos h1]
    rw [e]
    exact sent_closed w v P t u h hc h1
  | false =>
    by_cases h2 : 0 < P.gs.length
    · have e : sentL P (t, 0, u) = ({ P with gs := P.gs.drop 1 }, ⟨true, false, false, 0, 0, [((pAt P.gs 0).1, (pAt P.gs 0).2.1, u, true, false)]⟩) := by unfold sentL; rw [if_neg (by rw [h1]; simp), if_pos h2]
      rw [e]
      exact sent_getter w v P t u h hc h1 h2
    · by_cases h3 : (P.items.length : Int) < P.cap
      · have e : sentL P (t, 0, u) = ({ P with items := P.items ++ [u] }, ⟨true, false, false, 0, 0, []⟩) := by unfold sentL; rw [if_neg (by rw [h1]; simp), if_neg h2, if_pos h3]
        rw [e]
        exact sent_room w v P t u h hc h1 h2 h3
      · have e : sentL P (t, 0, u) = (P, zeroA) := by unfold sentL; rw [if_neg (by rw [h1]; simp), if_neg h2, if_neg h3]
        rw [e]
        exact sent_none w v P t u h hc h1 h2 h3
end Go.Proofs.Ytijogcjocandcaa
