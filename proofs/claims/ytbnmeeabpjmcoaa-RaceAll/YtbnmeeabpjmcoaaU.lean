/-
  order.Before, of a trace of which nothing is wrong.
-/
import Derived.Test.YtbnmeeabpjmcoaaT
namespace Go.Proofs.Ytbnmeeabpjmcoaa
open Go.RowKit

theorem IsL.take {α : Type} {K : Kind α} (hK : K.Ok) {w : World} {a : Option Addr} {n c : Nat} {xs : List α} (h : IsL K w (.slice a n c) xs) {m : Nat} (hm : m ≤ n) (hp : 0 < m) : IsL K w (.slice a m c) (xs.take m) := by
  have hl := h.len
  obtain ⟨b, off, c', hv, hb, hli⟩ := h.at hK (by omega)
  cases hv
  refine Lies.isl hK (fun j i u hj hu => ?_) (by rw [List.length_take]; omega) (Nat.le_trans hm h.fits)
  rw [List.length_take] at hj
  refine hli j i u (by omega) ?_
  rw [← hu]
  simp [show j < m by omega]
theorem two_ret {R _F : Nat} {w W _W1 : World} {x y : Value} (hB : Below w.heap.size w W) (hR : w.heap.size ≤ R) : Below w.heap.size w ((W.setCell ⟨R, 0, none⟩ x).setCell ⟨R, 1, none⟩ y) := below_set2 hB hR x y

set_option maxRecDepth 100000 in
set_option maxHeartbeats 2000000 in
theorem before_late (w : World) (a0 : Option Addr) (n0 c0 : Nat) (a1 : Option Addr) (n1 c1 : Nat) (l : List Ev) (hs : List Int) (hl : IsL KE w (.slice a0 n0 c0) l) (hh : IsL KI w (.slice a1 n1 c1) hs) (hg : GoodT hs l) (i k : Nat) (hi : i < n0) (hk : k < n0) (hki : k ≤ i) :
    Calls Try.prog 14 #[.slice a0 n0 c0, .slice a1 n1 c1, .int .i64 (i : Int), .int .i64 (k : Int)] w fun e w' => e = .returned (.tuple #[.bool (false), .agg #[.int .i64 0, .int .i64 0]]) ∧ Below w.heap.size w w' := by
  have hln := hl.len
  have hn := hg.n
  have wl : IntKind.i64.wrap ((n0 : Int) - 1) = (n0 : Int) - 1 := wrapi (by omega) (by omega)
  have d1 : decide ((0 : Int) ≤ (i : Int) ∧ (i : Int) ≤ (n0 : Int) - 1) = true := decide_eq_true (by omega)
  have d2 : decide ((0 : Int) ≤ (k : Int) ∧ (k : Int) ≤ (n0 : Int) - 1) = true := decide_eq_true (by omega)
  have HCK : Hid (∀ W, Below w.heap.size w W → Calls Try.prog 12 #[.slice a0 n0 c0, .slice a1 n1 c1] W fun e w' => e = .returned (.agg #[.int .i64 0, .int .i64 0]) ∧ Below W.heap.size W w') := fun W hW => by
    have := check_any W a0 n0 c0 a1 n1 c1 l hs (hl.below hW) (hh.below hW)
    rwa [hg.zero] at this
  have i1 : (k : Int) ≤ (i : Int) := by omega
  have HX := hide ((Below.refl w.heap.size w).alloc (Nat.le_refl _) (.cells #[.int .i64 0, .int .i64 0] 28))
  have HQ := hide (new_block w (.cells #[.int .i64 0, .int .i64 0] 28))
  obtain ⟨W0, e0⟩ : ∃ X, w.alloc (.cells #[.int .i64 0, .int .i64 0] 28) = X := ⟨_, rfl⟩
  rw [e0] at HX HQ
  have HE := hide e0
  clear e0 hl hh hg hln
  go_enter Try.func14, Try.ntmps14
  go_upto_region 1 with fail
  rw [unhide HE]
  clear HE
  go_upto_region 2 with (go_at_call 12; refine (unhide HCK _ (unhide HX)).mono ?_; rintro e w1 ⟨rfl, hb1⟩; have HX1 := hide (Below.next (unhide HX) hb1 (Nat.le_refl _)); have HQ1 := hide (keep_below (unhide HQ) hb1); clear hb1)
  have HX2 := hide ((unhide HX1).alloc (unhide HX1).size (.cells #[.int .i64 0, .int .i64 0] 28)); have HQ2 := hide (keep_alloc (unhide HQ1) (.cells #[.int .i64 0, .int .i64 0] 28)); have HF2 := hide (new_block w1 (.cells #[.int .i64 0, .int .i64 0] 28))
  have hFl : w.heap.size < w1.heap.size := size_of (unhide HQ1)
  obtain ⟨F, eF⟩ : ∃ X, w1.heap.size = X := ⟨_, rfl⟩
  obtain ⟨W2, e2⟩ : ∃ X, w1.alloc (.cells #[.int .i64 0, .int .i64 0] 28) = X := ⟨_, rfl⟩
  rw [eF, e2] at HF2; rw [e2] at HX2 HQ2; rw [eF] at hFl; rw [eF, e2]
  clear eF e2 HX HQ HX1 HQ1 HCK
  obtain ⟨g0, g1, gf0, gf1, gl⟩ := block2 (unhide HF2)
  go_upto_region 5 with fail
  clear g0 g1 gf0 gf1 gl
  obtain ⟨q0, q1, f0, f1, ql⟩ := block2 (unhide HQ2)
  go_wp2_with (go_at_call 31; (with_reducible refine Calls.mono (within_any _ _ _ _) ?_); rintro e w3 ⟨rfl, ew3⟩; rw [ew3]; clear ew3 w3; simp only [d1, d2])
  exact bodyPost_ret (v := .tuple #[.bool false, .agg #[.int .i64 0, .int .i64 0]]) (by simp [results, Try.results14, go_sem, q0, q1]) rfl ⟨rfl, below_set2 (unhide HX2) (Nat.le_refl _) _ _⟩

set_option maxRecDepth 100000 in
set_option maxHeartbeats 2000000 in
theorem before_main (w : World) (a0 : Option Addr) (n0 c0 : Nat) (a1 : Option Addr) (n1 c1 : Nat) (l : List Ev) (hs : List Int) (hl : IsL KE w (.slice a0 n0 c0) l) (hh : IsL KI w (.slice a1 n1 c1) hs) (hg : GoodT hs l) (i k : Nat) (hi : i < n0) (hk : k < n0) (hik : i < k) (pl : Nat) (hpl : pl < 64) (hpo : (l.getD i ev0).task = (pl : Int) + 1) (ck ci : Int) (hck : ckAt hs l k pl = ck) (hci : ckAt hs l i pl = ci) :
    Calls Try.prog 14 #[.slice a0 n0 c0, .slice a1 n1 c1, .int .i64 (i : Int), .int .i64 (k : Int)] w fun e w' => e = .returned (.tuple #[.bool (decide (ci ≤ ck)), .agg #[.int .i64 0, .int .i64 0]]) ∧ Below w.heap.size w w' := by
  have hln := hl.len
  have hn := hg.n
  have wl : IntKind.i64.wrap ((n0 : Int) - 1) = (n0 : Int) - 1 := wrapi (by omega) (by omega)
  have d1 : decide ((0 : Int) ≤ (i : Int) ∧ (i : Int) ≤ (n0 : Int) - 1) = true := decide_eq_true (by omega)
  have d2 : decide ((0 : Int) ≤ (k : Int) ∧ (k : Int) ≤ (n0 : Int) - 1) = true := decide_eq_true (by omega)
  have HCK : Hid (∀ W, Below w.heap.size w W → Calls Try.prog 12 #[.slice a0 n0 c0, .slice a1 n1 c1] W fun e w' => e = .returned (.agg #[.int .i64 0, .int .i64 0]) ∧ Below W.heap.size W w') := fun W hW => by
    have := check_any W a0 n0 c0 a1 n1 c1 l hs (hl.below hW) (hh.below hW)
    rwa [hg.zero] at this
  have i1 : ¬ (k : Int) ≤ (i : Int) := by omega
  have wk : IntKind.i64.wrap ((k : Int) + 1) = (k : Int) + 1 := wrapi (by omega) (by omega)
  have HCO : Hid (∀ W, Below w.heap.size w W → Calls Try.prog 34 #[.slice a0 (k + 1) c0, .slice a1 n1 c1] W fun e w' => ∃ G, e = .returned (.slice (some ⟨G, 0, none⟩) (k + 1) (k + 1)) ∧ w'.cell? ⟨G, k * 64 + pl, none⟩ = some (.int .i64 ck) ∧ w'.cell? ⟨G, i * 64 + pl, none⟩ = some (.int .i64 ci) ∧ Below W.heap.size W w') := fun W hW => by
    refine (clocksOf_any W a0 (k + 1) c0 a1 n1 c1 (l.take (k + 1)) hs ((hl.below hW).take ke (by omega) (Nat.succ_pos _)) (hh.below hW) (hg.take _)).mono ?_
    rintro e w' ⟨G, rfl, hrow, -, -, hb⟩
    have h1 := hrow.rng k (by omega) pl _ (ckL_get _ hpl)
    have h2 := hrow.rng i (by omega) pl _ (ckL_get _ hpl)
    rw [ckAt_take hs l (by omega), hck] at h1
    rw [ckAt_take hs l (by omega), hci] at h2
    exact ⟨G, rfl, h1, h2, hb⟩
  obtain ⟨b, off, rfl, hbl, hli⟩ := hl.opens ke hln (by omega)
  obtain ⟨⟨tk, op, ob, vl⟩, ex⟩ : ∃ X, l.getD i ev0 = X := ⟨_, rfl⟩
  have HCE : Hid (∀ W, Below w.heap.size w W → W.cell? ⟨b, off + i * 4, none⟩ = some (.int .i64 tk)) := fun W hW => ((hli.below hW hbl).ev (j := i) (by omega) ex).1
  have wt : IntKind.i64.wrap (tk - 1) = (pl : Int) := by
    rw [ex] at hpo
    dsimp only at hpo
    rw [hpo, show (pl : Int) + 1 - 1 = (pl : Int) by omega]
    exact wrapi (by omega) (by omega)
  have j0 : (0 : Int) ≤ (k : Int) + 1 := by omega
  have j1 : (k : Int) + 1 ≤ (c0 : Int) := by have := hl.fits; omega
  have j2 : (0 : Int) ≤ (i : Int) := by omega
  have j3 : (i : Int) < (n0 : Int) := by omega
  have j4 : (0 : Int) ≤ (k : Int) := by omega
  have j5 : (k : Int) < (k : Int) + 1 := by omega
  have j6 : (i : Int) < (k : Int) + 1 := by omega
  have j7 : (0 : Int) ≤ (pl : Int) := by omega
  have j8 : (pl : Int) < 64 := by omega
  clear hli ex hpo hck hci
  have HX := hide ((Below.refl w.heap.size w).alloc (Nat.le_refl _) (.cells #[.int .i64 0, .int .i64 0] 28))
  have HQ := hide (new_block w (.cells #[.int .i64 0, .int .i64 0] 28))
  obtain ⟨W0, e0⟩ : ∃ X, w.alloc (.cells #[.int .i64 0, .int .i64 0] 28) = X := ⟨_, rfl⟩
  rw [e0] at HX HQ
  have HE := hide e0
  clear e0 hl hh hg hln
  go_enter Try.func14, Try.ntmps14
  go_upto_region 1 with fail
  rw [unhide HE]
  clear HE
  go_upto_region 2 with (go_at_call 12; refine (unhide HCK _ (unhide HX)).mono ?_; rintro e w1 ⟨rfl, hb1⟩; have HX1 := hide (Below.next (unhide HX) hb1 (Nat.le_refl _)); have HQ1 := hide (keep_below (unhide HQ) hb1); clear hb1)
  have HX2 := hide ((unhide HX1).alloc (unhide HX1).size (.cells #[.int .i64 0, .int .i64 0] 28)); have HQ2 := hide (keep_alloc (unhide HQ1) (.cells #[.int .i64 0, .int .i64 0] 28)); have HF2 := hide (new_block w1 (.cells #[.int .i64 0, .int .i64 0] 28))
  have hFl : w.heap.size < w1.heap.size := size_of (unhide HQ1)
  obtain ⟨F, eF⟩ : ∃ X, w1.heap.size = X := ⟨_, rfl⟩
  obtain ⟨W2, e2⟩ : ∃ X, w1.alloc (.cells #[.int .i64 0, .int .i64 0] 28) = X := ⟨_, rfl⟩
  rw [eF, e2] at HF2; rw [e2] at HX2 HQ2; rw [eF] at hFl; rw [eF, e2]
  clear eF e2 HX HQ HX1 HQ1 HCK
  obtain ⟨g0, g1, gf0, gf1, gl⟩ := block2 (unhide HF2)
  go_upto_region 5 with fail
  clear g0 g1 gf0 gf1 gl
  go_upto_region 9 with (go_at_call 31; (with_reducible refine Calls.mono (within_any _ _ _ _) ?_); rintro e w3 ⟨rfl, ew3⟩; rw [ew3]; clear ew3 w3; simp only [d1, d2])
  go_upto_region 10 with (go_at_call 34; (with_reducible refine Calls.mono (unhide HCO _ (unhide HX2)) ?_); rintro e w4 ⟨G, rfl, ck4, ci4, hb4⟩; have HX4 := hide (Below.next (unhide HX2) hb4 (Nat.le_refl _)); have HQ4 := hide (keep_below (unhide HQ2) hb4); clear hb4)
  have hce := unhide HCE _ (unhide HX4)
  go_upto_region 11 with fail
  clear hce
  obtain ⟨q0, q1, f0, f1, ql⟩ := block2 (unhide HQ4)
  go_region
  all_goals
    go_wp2_with fail
    exact bodyPost_ret (v := .tuple #[.bool (decide (ci ≤ ck)), .agg #[.int .i64 0, .int .i64 0]]) (by simp [results, Try.results14, go_sem, q0, q1]) rfl ⟨rfl, by first | exact (below_set2 (unhide HX4) (Nat.le_refl _) _ _).drew | exact below_set2 (unhide HX4).drew (Nat.le_refl _) _ _⟩

theorem before_good (w : World) (a0 : Option Addr) (n0 c0 : Nat) (a1 : Option Addr) (n1 c1 : Nat) (l : List Ev) (hs : List Int) (hl : IsL KE w (.slice a0 n0 c0) l) (hh : IsL KI w (.slice a1 n1 c1) hs) (hg : GoodT hs l) (i k : Nat) (hi : i < n0) (hk : k < n0) :
    Calls Try.prog 14 #[.slice a0 n0 c0, .slice a1 n1 c1, .int .i64 (i : Int), .int .i64 (k : Int)] w fun e w' => e = .returned (.tuple #[.bool (befL hs l i k), .agg #[.int .i64 0, .int .i64 0]]) ∧ Below w.heap.size w w' := by
  have hln := hl.len
  have ho := hg.ev (j := i) (by omega)
  have h1 := ho.t1
  have h2 := ho.t2
  unfold befL
  by_cases hik : i < k
  · rw [decide_eq_true hik, Bool.true_and]
    exact before_main w a0 n0 c0 a1 n1 c1 l hs hl hh hg i k hi hk hik (plOf (l.getD i ev0)) (by unfold plOf; omega) (by unfold plOf; omega) _ _ rfl rfl
  · rw [decide_eq_false hik, Bool.false_and]
    exact before_late w a0 n0 c0 a1 n1 c1 l hs hl hh hg i k hi hk (by omega)
end Go.Proofs.Ytbnmeeabpjmcoaa
