/-
  clock.goOff.
-/
import Derived.Test.YtidpmcanfedbdaaQa
namespace Go.Proofs.Ytidpmcanfedbdaa
open Go.RowKit

theorem grown_putL {w W : World} {row : Option Nat} {R : Nat} (h : w.grownBy W row) (hR : w.heap.size ≤ R) {y0 y1 y2 : Value} : w.grownBy (putL W R y0 y1 y2) row := by
  obtain ⟨h1, h2, h3, h4, h5⟩ := h
  exact ⟨h1, h2, h3, Nat.le_trans h4 (by simp [putL, World.setCell]), fun k hk hr => (putL_keep (by omega)).trans (h5 k hk hr)⟩
/-- What is left behind an alarm that goes off: Next and List. -/
def offL (next : Int) (x : Al) (xs : List Al) : Int × List Al := if x.2.2.1 = 0 then (next, xs) else (next + 1, insL (x.1, x.2.1 + x.2.2.1, x.2.2.1, next) xs)

set_option maxRecDepth 100000 in
set_option maxHeartbeats 2000000 in
theorem goOff_any (w : World) (base : Nat) (now next : Int) (g off n m c : Nat) (i e u y : Int) (xs : List Al) (h : Prt base w (.slice (some ⟨g, off, none⟩) n c) ((i, e, u, y) :: xs)) (hnm : n = m + 1) (hn : m ≤ 5000) (hs : xs.Pairwise (fun a b => ahead b a = false)) (h0 : 0 ≤ next) (h1 : next ≤ 1000000000) (h2 : 0 ≤ e) (h3 : e ≤ 2000000000) (h4 : 0 ≤ u) (h5 : u ≤ 1000000000) :
    Calls Try.prog 36 #[.agg #[.int .i64 now, .int .i64 next, .slice (some ⟨g, off, none⟩) n c]] w fun r w' => ∃ v', r = .returned (.agg #[.int .i64 now, .int .i64 (offL next (i, e, u, y) xs).1, v']) ∧ Prt base w' v' (offL next (i, e, u, y) xs).2 ∧ v'.ownBlock = some g ∧ w.grownBy w' (some g) := by
  have hl : xs.length = m := by have := h.1.len; rw [List.length_cons] at this; omega
  have hc : n ≤ c := h.1.fits
  have hgw : g < w.heap.size := (h.lt g rfl).2
  have HPR := hide h
  obtain ⟨ni, en⟩ : ∃ r, offL next (i, e, u, y) xs = r := ⟨_, rfl⟩
  rw [en]
  unfold offL at en
  simp only at en
  have HLN := hide hl; have HEN := hide en
  have HLC : Hid (∀ W, Below w.heap.size w W → W.cell? ⟨g, off, none⟩ = some (.int .i64 i) ∧ W.cell? ⟨g, off + 1, none⟩ = some (.int .i64 e) ∧ W.cell? ⟨g, off + 2, none⟩ = some (.int .i64 u) ∧ W.cell? ⟨g, off + 3, none⟩ = some (.int .i64 y)) := fun W hW => by
    obtain ⟨b, o, c', ev, hb, hli⟩ := (h.1.below hW).at ka (by simp)
    cases ev
    have := hli.alarm (j := 0) (by simp) (t := i) (c := e) (u := u) (y := y) rfl
    simpa using this
  have b1 : (1 : Int) ≤ (n : Int) := by omega
  have b2 : (0 : Int) < (n : Int) := by omega
  have HNM := hide hnm; have HS := hide hs
  clear h hnm hs hl en
  obtain ⟨W0, e0, hB, k0, k1⟩ := two_new w (.cells #[.int .i64 now, .int .i64 next, .slice (some ⟨g, off, none⟩) n c] 24) (.cells #[.int .i64 0, .int .i64 0, .slice none 0 0] 24)
  have HX := hide hB; have HP := hide k0; have HQ := hide k1; have HE := hide e0
  clear hB k0 k1 e0
  go_enter Try.func36, Try.ntmps36
  go_upto_region 1 with fail
  rw [unhide HE]
  clear HE
  obtain ⟨⟨p0, p1, p2⟩, ⟨pf0, pf1, pf2⟩, pl⟩ := block3 (unhide HP)
  obtain ⟨l0, l1, l2, l3⟩ := unhide HLC _ (unhide HX)
  go_upto_region 2 with fail
  clear p0 p1 p2 pf0 pf1 pf2 pl
  clear l0 l1 l2 l3
  have HX_1 := hide ((unhide HX).alloc (Nat.le_trans (show w.heap.size ≤ w.heap.size from Nat.le_refl _) (unhide HX).size) (.cells #[.int .i64 i, .int .i64 e, .int .i64 u, .int .i64 y] 42))
  have Kp_1 := hide (keep_alloc (unhide HP) (.cells #[.int .i64 i, .int .i64 e, .int .i64 u, .int .i64 y] 42))
  have Kq_1 := hide (keep_alloc (unhide HQ) (.cells #[.int .i64 i, .int .i64 e, .int .i64 u, .int .i64 y] 42))
  have Ko_1 := hide (new_block W0 (.cells #[.int .i64 i, .int .i64 e, .int .i64 u, .int .i64 y] 42))
  have hlp_o : w.heap.size < W0.heap.size := size_of (unhide HP)
  have hlq_o : w.heap.size + 1 < W0.heap.size := size_of (unhide HQ)
  obtain ⟨T, eT⟩ : ∃ X, W0.heap.size = X := ⟨_, rfl⟩
  obtain ⟨W2, eW2⟩ : ∃ X, W0.alloc (.cells #[.int .i64 i, .int .i64 e, .int .i64 u, .int .i64 y] 42) = X := ⟨_, rfl⟩
  rw [eT, eW2] at Ko_1; rw [eW2] at HX_1 Kp_1 Kq_1; rw [eT] at hlp_o hlq_o; rw [eT, eW2]
  clear eT eW2 HX HP HQ
  have hqt : w.heap.size + 1 < T := by omega
  by_cases hu : u = 0
  · have hen := unhide HEN
    rw [if_pos hu] at hen
    subst hen
    subst hu
    clear HEN
    have HT0 : Hid (∀ A, A = (if c = 1 then some ⟨g, off, none⟩ else some ⟨g, off + 1 * 4, none⟩) → Prt base w (.slice A (n - 1) (c - 1)) xs) := fun A hA => by
      refine ⟨(unhide HPR).1.drop_if ka (p := 1) (by have := unhide HNM; omega) hA, fun k hk => ?_⟩
      have hk' : k = g := by
        by_cases e1 : c = 1
        · rw [if_pos e1] at hA; subst hA; cases hk; rfl
        · rw [if_neg e1] at hA; subst hA; cases hk; rfl
      subst hk'
      exact (unhide HPR).2 k rfl
    by_cases hc1 : c = 1
    · have hce : (c = 1) = True := eq_true hc1
      have HT := hide (unhide HT0 (some ⟨g, off, none⟩) (by rw [if_pos hc1]))
      clear hc1
      obtain ⟨⟨p0, p1, p2⟩, ⟨pf0, pf1, pf2⟩, pl⟩ := block3 (unhide Kp_1)
      obtain ⟨⟨o0, o1, o2, o3⟩, ⟨of0, of1, of2, of3⟩, ol⟩ := block4 (unhide Ko_1)
      go_upto_region 4 with fail
      clear p0 p1 p2 pf0 pf1 pf2 pl o0 o1 o2 o3 of0 of1 of2 of3 ol
      have HX_2 := hide (below_set (i := 2) (unhide HX_1) (show w.heap.size ≤ w.heap.size by first | omega | (have := unhide HBA; omega)) (.slice (some ⟨g, off, none⟩) (n - 1) (c - 1)))
      have Kp_2 := hide (set_block3 (i := 2) (y := .slice (some ⟨g, off, none⟩) (n - 1) (c - 1)) (unhide Kp_1))
      have Kq_2 := hide (keep_set (g := w.heap.size) (o := 2) (v := .slice (some ⟨g, off, none⟩) (n - 1) (c - 1)) (unhide Kq_1) (by omega))
      have Ko_2 := hide (keep_set (g := w.heap.size) (o := 2) (v := .slice (some ⟨g, off, none⟩) (n - 1) (c - 1)) (unhide Ko_1) (by omega))
      obtain ⟨W3, eW3⟩ : ∃ X, W2.setCell ⟨w.heap.size, 2, none⟩ (.slice (some ⟨g, off, none⟩) (n - 1) (c - 1)) = X := ⟨_, rfl⟩
      rw [eW3] at HX_2 Kp_2 Kq_2 Ko_2 ⊢
      clear eW3 HX_1 Kp_1 Kq_1 Ko_1
      simp only [List.setIfInBounds_toArray, List.set_cons_zero, List.set_cons_succ] at Kp_2
      obtain ⟨⟨p0, p1, p2⟩, ⟨pf0, pf1, pf2⟩, pl⟩ := block3 (unhide Kp_2)
      obtain ⟨⟨q0, q1, q2⟩, ⟨qf0, qf1, qf2⟩, ql⟩ := block3 (unhide Kq_2)
      go_wp2_with fail
      refine bodyPost_ret (v := .agg #[.int .i64 now, .int .i64 next, .slice (some ⟨g, off, none⟩) (n - 1) (c - 1)]) (by simp [results, Try.results36, go_sem, q0, q1, q2]) rfl ⟨_, rfl, (unhide HT).below (putL_below (unhide HX_2) (by omega)), rfl, grown_of_below (putL_below (unhide HX_2) (by omega))⟩
    · have HT := hide (unhide HT0 (some ⟨g, off + 4, none⟩) (by rw [if_neg hc1]))
      obtain ⟨⟨p0, p1, p2⟩, ⟨pf0, pf1, pf2⟩, pl⟩ := block3 (unhide Kp_1)
      obtain ⟨⟨o0, o1, o2, o3⟩, ⟨of0, of1, of2, of3⟩, ol⟩ := block4 (unhide Ko_1)
      go_upto_region 4 with fail
      clear p0 p1 p2 pf0 pf1 pf2 pl o0 o1 o2 o3 of0 of1 of2 of3 ol
      have HX_2 := hide (below_set (i := 2) (unhide HX_1) (show w.heap.size ≤ w.heap.size by first | omega | (have := unhide HBA; omega)) (.slice (some ⟨g, off + 4, none⟩) (n - 1) (c - 1)))
      have Kp_2 := hide (set_block3 (i := 2) (y := .slice (some ⟨g, off + 4, none⟩) (n - 1) (c - 1)) (unhide Kp_1))
      have Kq_2 := hide (keep_set (g := w.heap.size) (o := 2) (v := .slice (some ⟨g, off + 4, none⟩) (n - 1) (c - 1)) (unhide Kq_1) (by omega))
      have Ko_2 := hide (keep_set (g := w.heap.size) (o := 2) (v := .slice (some ⟨g, off + 4, none⟩) (n - 1) (c - 1)) (unhide Ko_1) (by omega))
      obtain ⟨W3, eW3⟩ : ∃ X, W2.setCell ⟨w.heap.size, 2, none⟩ (.slice (some ⟨g, off + 4, none⟩) (n - 1) (c - 1)) = X := ⟨_, rfl⟩
      rw [eW3] at HX_2 Kp_2 Kq_2 Ko_2 ⊢
      clear eW3 HX_1 Kp_1 Kq_1 Ko_1
      simp only [List.setIfInBounds_toArray, List.set_cons_zero, List.set_cons_succ] at Kp_2
      obtain ⟨⟨p0, p1, p2⟩, ⟨pf0, pf1, pf2⟩, pl⟩ := block3 (unhide Kp_2)
      obtain ⟨⟨q0, q1, q2⟩, ⟨qf0, qf1, qf2⟩, ql⟩ := block3 (unhide Kq_2)
      go_wp2_with fail
      refine bodyPost_ret (v := .agg #[.int .i64 now, .int .i64 next, .slice (some ⟨g, off + 4, none⟩) (n - 1) (c - 1)]) (by simp [results, Try.results36, go_sem, q0, q1, q2]) rfl ⟨_, rfl, (unhide HT).below (putL_below (unhide HX_2) (by omega)), rfl, grown_of_below (putL_below (unhide HX_2) (by omega))⟩
  · have hen := unhide HEN
    rw [if_neg hu] at hen
    subst hen
    have x0 : (u == 0) = false := by simpa using hu
    have hw1 : IntKind.i64.wrap (e + u) = e + u := wrapi (by omega) (by omega)
    have hw2 : IntKind.i64.wrap (next + 1) = next + 1 := wrapi (by omega) (by omega)
    clear HEN hu
    obtain ⟨⟨p0, p1, p2⟩, ⟨pf0, pf1, pf2⟩, pl⟩ := block3 (unhide Kp_1)
    obtain ⟨⟨o0, o1, o2, o3⟩, ⟨of0, of1, of2, of3⟩, ol⟩ := block4 (unhide Ko_1)
    go_upto_region 6 with fail
    clear p0 p1 p2 pf0 pf1 pf2 pl o0 o1 o2 o3 of0 of1 of2 of3 ol
    have HX_2 := hide (below_set (i := 1) (unhide HX_1) (show w.heap.size ≤ T by first | omega | (have := unhide HBA; omega)) (.int .i64 (e + u)))
    have Kp_2 := hide (keep_set (g := T) (o := 1) (v := .int .i64 (e + u)) (unhide Kp_1) (by omega))
    have Kq_2 := hide (keep_set (g := T) (o := 1) (v := .int .i64 (e + u)) (unhide Kq_1) (by omega))
    have Ko_2 := hide (set_block4 (i := 1) (y := .int .i64 (e + u)) (unhide Ko_1))
    obtain ⟨W3, eW3⟩ : ∃ X, W2.setCell ⟨T, 1, none⟩ (.int .i64 (e + u)) = X := ⟨_, rfl⟩
    rw [eW3] at HX_2 Kp_2 Kq_2 Ko_2 ⊢
    clear eW3 HX_1 Kp_1 Kq_1 Ko_1
    simp only [List.setIfInBounds_toArray, List.set_cons_zero, List.set_cons_succ] at Ko_2
    obtain ⟨⟨p0, p1, p2⟩, ⟨pf0, pf1, pf2⟩, pl⟩ := block3 (unhide Kp_2)
    obtain ⟨⟨o0, o1, o2, o3⟩, ⟨of0, of1, of2, of3⟩, ol⟩ := block4 (unhide Ko_2)
    go_upto_region 7 with fail
    clear p0 p1 p2 pf0 pf1 pf2 pl o0 o1 o2 o3 of0 of1 of2 of3 ol
    have HX_3 := hide (below_set (i := 3) (unhide HX_2) (show w.heap.size ≤ T by first | omega | (have := unhide HBA; omega)) (.int .i64 next))
    have Kp_3 := hide (keep_set (g := T) (o := 3) (v := .int .i64 next) (unhide Kp_2) (by omega))
    have Kq_3 := hide (keep_set (g := T) (o := 3) (v := .int .i64 next) (unhide Kq_2) (by omega))
    have Ko_3 := hide (set_block4 (i := 3) (y := .int .i64 next) (unhide Ko_2))
    obtain ⟨W4, eW4⟩ : ∃ X, W3.setCell ⟨T, 3, none⟩ (.int .i64 next) = X := ⟨_, rfl⟩
    rw [eW4] at HX_3 Kp_3 Kq_3 Ko_3 ⊢
    clear eW4 HX_2 Kp_2 Kq_2 Ko_2
    simp only [List.setIfInBounds_toArray, List.set_cons_zero, List.set_cons_succ] at Ko_3
    obtain ⟨⟨p0, p1, p2⟩, ⟨pf0, pf1, pf2⟩, pl⟩ := block3 (unhide Kp_3)
    go_upto_region 8 with fail
    clear p0 p1 p2 pf0 pf1 pf2 pl
    have HX_4 := hide (below_set (i := 1) (unhide HX_3) (show w.heap.size ≤ w.heap.size by first | omega | (have := unhide HBA; omega)) (.int .i64 (next + 1)))
    have Kp_4 := hide (set_block3 (i := 1) (y := .int .i64 (next + 1)) (unhide Kp_3))
    have Kq_4 := hide (keep_set (g := w.heap.size) (o := 1) (v := .int .i64 (next + 1)) (unhide Kq_3) (by omega))
    have Ko_4 := hide (keep_set (g := w.heap.size) (o := 1) (v := .int .i64 (next + 1)) (unhide Ko_3) (by omega))
    obtain ⟨W5, eW5⟩ : ∃ X, W4.setCell ⟨w.heap.size, 1, none⟩ (.int .i64 (next + 1)) = X := ⟨_, rfl⟩
    rw [eW5] at HX_4 Kp_4 Kq_4 Ko_4 ⊢
    clear eW5 HX_3 Kp_3 Kq_3 Ko_3
    simp only [List.setIfInBounds_toArray, List.set_cons_zero, List.set_cons_succ] at Kp_4
    obtain ⟨⟨p0, p1, p2⟩, ⟨pf0, pf1, pf2⟩, pl⟩ := block3 (unhide Kp_4)
    obtain ⟨⟨o0, o1, o2, o3⟩, ⟨of0, of1, of2, of3⟩, ol⟩ := block4 (unhide Ko_4)
    have HPO := hide (putOff_any W5 base g off n m c (i, e, u, y) xs i (e + u) u next ((unhide HPR).below (unhide HX_4)) (unhide HNM) hn (mono_of (unhide HS) _))
    go_upto_region 9 with (go_at_call 41; refine (unhide HPO).mono ?_; rintro r w6 ⟨rfl, hp6, hg6⟩; have HP6 := hide hp6; have HG6 := hide (grown_trans (grown_of_below (row := some g) (unhide HX_4)) hg6); have HK6 := hide (keep_grown (unhide Kp_4) hg6 (fun j hj => by cases hj; omega)); have HQ6 := hide (keep_grown (unhide Kq_4) hg6 (fun j hj => by cases hj; omega)); clear hp6 hg6 p0 p1 p2 pf0 pf1 pf2 pl o0 o1 o2 o3 of0 of1 of2 of3 ol)
    obtain ⟨⟨p0, p1, p2⟩, ⟨pf0, pf1, pf2⟩, pl⟩ := block3 (unhide HK6)
    obtain ⟨⟨q0, q1, q2⟩, ⟨qf0, qf1, qf2⟩, ql⟩ := block3 (unhide HQ6)
    go_wp2_with fail
    refine bodyPost_ret (v := .agg #[.int .i64 now, .int .i64 (next + 1), .slice (some ⟨g, off, none⟩) n c]) (by simp [results, Try.results36, go_sem, q0, q1, q2]) rfl ⟨_, rfl, ?_, rfl, ?_⟩
    · exact (unhide HP6).keep (fun k hk => putL_keep (show k ≠ w.heap.size + 1 by have : k = g := (Option.some.inj hk).symm; omega))
    · exact grown_putL (unhide HG6) (by omega)
end Go.Proofs.Ytidpmcanfedbdaa
