/-
  order.Before where something is wrong; two traces that read the same.
-/
import Derived.Test.YtbnmeeabpjmcoaaLi
import Derived.Test.YtbnmeeabpjmcoaaU
namespace Go.Proofs.Ytbnmeeabpjmcoaa
open Go.RowKit

set_option maxRecDepth 100000 in
set_option maxHeartbeats 4000000 in
theorem before_fault (w : World) (a0 : Option Addr) (n0 c0 : Nat) (a1 : Option Addr) (n1 c1 : Nat) (l : List Ev) (hs : List Int) (hl : IsL KE w (.slice a0 n0 c0) l) (hh : IsL KI w (.slice a1 n1 c1) hs) (fc fa : Int) (hf : checkF hs l = (fc, fa)) (hfc : fc ≠ 0) (zi zk : Int) :
    Calls Try.prog 14 #[.slice a0 n0 c0, .slice a1 n1 c1, .int .i64 zi, .int .i64 zk] w fun e w' => e = .returned (.tuple #[.bool false, .agg #[.int .i64 fc, .int .i64 fa]]) ∧ Below w.heap.size w w' := by
  have HCK : Hid (∀ W, Below w.heap.size w W → Calls Try.prog 12 #[.slice a0 n0 c0, .slice a1 n1 c1] W fun e w' => e = .returned (.agg #[.int .i64 fc, .int .i64 fa]) ∧ Below W.heap.size W w') := fun W hW => by
    have := check_any W a0 n0 c0 a1 n1 c1 l hs (hl.below hW) (hh.below hW)
    rwa [hf] at this
  have x1 : (fc != 0) = true := by simpa using hfc
  have HX := hide ((Below.refl w.heap.size w).alloc (Nat.le_refl _) (.cells #[.int .i64 0, .int .i64 0] 28))
  have HQ := hide (new_block w (.cells #[.int .i64 0, .int .i64 0] 28))
  obtain ⟨W0, e0⟩ : ∃ X, w.alloc (.cells #[.int .i64 0, .int .i64 0] 28) = X := ⟨_, rfl⟩
  rw [e0] at HX HQ
  have HE := hide e0
  clear e0 hl hh hf hfc
  go_enter Try.func14, Try.ntmps14
  go_upto_region 1 with fail
  rw [unhide HE]
  clear HE
  go_upto_region 2 with (go_at_call 12; refine (unhide HCK _ (unhide HX)).mono ?_; rintro e w1 ⟨rfl, hb1⟩; have HX1 := hide (Below.next (unhide HX) hb1 (Nat.le_refl _)); have HQ1 := hide (keep_below (unhide HQ) hb1); clear hb1)
  have HX2 := hide ((unhide HX1).alloc (unhide HX1).size (.cells #[.int .i64 fc, .int .i64 fa] 28)); have HQ2 := hide (keep_alloc (unhide HQ1) (.cells #[.int .i64 fc, .int .i64 fa] 28)); have HF2 := hide (new_block w1 (.cells #[.int .i64 fc, .int .i64 fa] 28))
  have hFl : w.heap.size < w1.heap.size := size_of (unhide HQ1)
  obtain ⟨F, eF⟩ : ∃ X, w1.heap.size = X := ⟨_, rfl⟩
  obtain ⟨W2, e2⟩ : ∃ X, w1.alloc (.cells #[.int .i64 fc, .int .i64 fa] 28) = X := ⟨_, rfl⟩
  rw [eF, e2] at HF2; rw [e2] at HX2 HQ2; rw [eF] at hFl; rw [eF, e2]
  clear eF e2 HX HQ HX1 HQ1 HCK
  obtain ⟨g0, g1, gf0, gf1, gl⟩ := block2 (unhide HF2)
  obtain ⟨q0, q1, f0, f1, ql⟩ := block2 (unhide HQ2)
  go_upto_region 3 with fail
  go_region
  all_goals
    go_wp2_with fail
    exact bodyPost_ret (v := .tuple #[.bool false, .agg #[.int .i64 fc, .int .i64 fa]]) (by simp [results, Try.results14, go_sem, q0, q1]) rfl ⟨rfl, by first | exact (below_set2 (unhide HX2) (Nat.le_refl _) _ _).drew | exact below_set2 (unhide HX2).drew (Nat.le_refl _) _ _⟩


set_option maxRecDepth 100000 in
set_option maxHeartbeats 2000000 in
theorem before_out1 (w : World) (a0 : Option Addr) (n0 c0 : Nat) (a1 : Option Addr) (n1 c1 : Nat) (l : List Ev) (hs : List Int) (hl : IsL KE w (.slice a0 n0 c0) l) (hh : IsL KI w (.slice a1 n1 c1) hs) (hg : GoodT hs l) (zi zk : Int) (hz : ¬ (0 ≤ zi ∧ zi < (n0 : Int))) :
    Calls Try.prog 14 #[.slice a0 n0 c0, .slice a1 n1 c1, .int .i64 zi, .int .i64 zk] w fun e w' => e = .returned (.tuple #[.bool (false), .agg #[.int .i64 3, .int .i64 (-1)]]) ∧ Below w.heap.size w w' := by
  have hln := hl.len
  have hn := hg.n
  have wl : IntKind.i64.wrap ((n0 : Int) - 1) = (n0 : Int) - 1 := wrapi (by omega) (by omega)
  have d1 : decide ((0 : Int) ≤ zi ∧ zi ≤ (n0 : Int) - 1) = false := decide_eq_false (by omega)
  have HCK : Hid (∀ W, Below w.heap.size w W → Calls Try.prog 12 #[.slice a0 n0 c0, .slice a1 n1 c1] W fun e w' => e = .returned (.agg #[.int .i64 0, .int .i64 0]) ∧ Below W.heap.size W w') := fun W hW => by
    have := check_any W a0 n0 c0 a1 n1 c1 l hs (hl.below hW) (hh.below hW)
    rwa [hg.zero] at this
  have HX := hide ((Below.refl w.heap.size w).alloc (Nat.le_refl _) (.cells #[.int .i64 0, .int .i64 0] 28))
  have HQ := hide (new_block w (.cells #[.int .i64 0, .int .i64 0] 28))
  obtain ⟨W0, e0⟩ : ∃ X, w.alloc (.cells #[.int .i64 0, .int .i64 0] 28) = X := ⟨_, rfl⟩
  rw [e0] at HX HQ
  have HE := hide e0
  clear e0 hl hh hg hln
  go_enter Try.func14, Try.ntmps14
  go_upto_region 1 with fail
  rw [unhide HE]
  clear HE
  go_upto_region 2 with (go_at_call 12; refine (unhide HCK _ (unhide HX)).mono ?_; rintro e w1 ⟨rfl, hb1⟩; have HX1 := hide (Below.next (unhide HX) hb1 (Nat.le_refl _)); have HQ1 := hide (keep_below (unhide HQ) hb1); clear hb1)
  have HX2 := hide ((unhide HX1).alloc (unhide HX1).size (.cells #[.int .i64 0, .int .i64 0] 28)); have HQ2 := hide (keep_alloc (unhide HQ1) (.cells #[.int .i64 0, .int .i64 0] 28)); have HF2 := hide (new_block w1 (.cells #[.int .i64 0, .int .i64 0] 28))
  have hFl : w.heap.size < w1.heap.size := size_of (unhide HQ1)
  obtain ⟨F, eF⟩ : ∃ X, w1.heap.size = X := ⟨_, rfl⟩
  obtain ⟨W2, e2⟩ : ∃ X, w1.alloc (.cells #[.int .i64 0, .int .i64 0] 28) = X := ⟨_, rfl⟩
  rw [eF, e2] at HF2; rw [e2] at HX2 HQ2; rw [eF] at hFl; rw [eF, e2]
  clear eF e2 HX HQ HX1 HQ1 HCK
  obtain ⟨g0, g1, gf0, gf1, gl⟩ := block2 (unhide HF2)
  go_upto_region 5 with fail
  clear g0 g1 gf0 gf1 gl
  obtain ⟨q0, q1, f0, f1, ql⟩ := block2 (unhide HQ2)
  go_wp2_with (go_at_call 31; (with_reducible refine Calls.mono (within_any _ _ _ _) ?_); rintro e w3 ⟨rfl, ew3⟩; rw [ew3]; clear ew3 w3; simp only [d1])
  exact bodyPost_ret (v := .tuple #[.bool false, .agg #[.int .i64 3, .int .i64 (-1)]]) (by simp [results, Try.results14, go_sem, q0, q1]) rfl ⟨rfl, below_set2 (unhide HX2) (Nat.le_refl _) _ _⟩

set_option maxRecDepth 100000 in
set_option maxHeartbeats 2000000 in
theorem before_out2 (w : World) (a0 : Option Addr) (n0 c0 : Nat) (a1 : Option Addr) (n1 c1 : Nat) (l : List Ev) (hs : List Int) (hl : IsL KE w (.slice a0 n0 c0) l) (hh : IsL KI w (.slice a1 n1 c1) hs) (hg : GoodT hs l) (zi zk : Int) (hz : 0 ≤ zi ∧ zi < (n0 : Int)) (hz2 : ¬ (0 ≤ zk ∧ zk < (n0 : Int))) :
    Calls Try.prog 14 #[.slice a0 n0 c0, .slice a1 n1 c1, .int .i64 zi, .int .i64 zk] w fun e w' => e = .returned (.tuple #[.bool (false), .agg #[.int .i64 3, .int .i64 (-1)]]) ∧ Below w.heap.size w w' := by
  have hln := hl.len
  have hn := hg.n
  have wl : IntKind.i64.wrap ((n0 : Int) - 1) = (n0 : Int) - 1 := wrapi (by omega) (by omega)
  have d1 : decide ((0 : Int) ≤ zi ∧ zi ≤ (n0 : Int) - 1) = true := decide_eq_true (by omega)
  have d2 : decide ((0 : Int) ≤ zk ∧ zk ≤ (n0 : Int) - 1) = false := decide_eq_false (by omega)
  have HCK : Hid (∀ W, Below w.heap.size w W → Calls Try.prog 12 #[.slice a0 n0 c0, .slice a1 n1 c1] W fun e w' => e = .returned (.agg #[.int .i64 0, .int .i64 0]) ∧ Below W.heap.size W w') := fun W hW => by
    have := check_any W a0 n0 c0 a1 n1 c1 l hs (hl.below hW) (hh.below hW)
    rwa [hg.zero] at this
  have HX := hide ((Below.refl w.heap.size w).alloc (Nat.le_refl _) (.cells #[.int .i64 0, .int .i64 0] 28))
  have HQ := hide (new_block w (.cells #[.int .i64 0, .int .i64 0] 28))
  obtain ⟨W0, e0⟩ : ∃ X, w.alloc (.cells #[.int .i64 0, .int .i64 0] 28) = X := ⟨_, rfl⟩
  rw [e0] at HX HQ
  have HE := hide e0
  clear e0 hl hh hg hln
  go_enter Try.func14, Try.ntmps14
  go_upto_region 1 with fail
  rw [unhide HE]
  clear HE
  go_upto_region 2 with (go_at_call 12; refine (unhide HCK _ (unhide HX)).mono ?_; rintro e w1 ⟨rfl, hb1⟩; have HX1 := hide (Below.next (unhide HX) hb1 (Nat.le_refl _)); have HQ1 := hide (keep_below (unhide HQ) hb1); clear hb1)
  have HX2 := hide ((unhide HX1).alloc (unhide HX1).size (.cells #[.int .i64 0, .int .i64 0] 28)); have HQ2 := hide (keep_alloc (unhide HQ1) (.cells #[.int .i64 0, .int .i64 0] 28)); have HF2 := hide (new_block w1 (.cells #[.int .i64 0, .int .i64 0] 28))
  have hFl : w.heap.size < w1.heap.size := size_of (unhide HQ1)
  obtain ⟨F, eF⟩ : ∃ X, w1.heap.size = X := ⟨_, rfl⟩
  obtain ⟨W2, e2⟩ : ∃ X, w1.alloc (.cells #[.int .i64 0, .int .i64 0] 28) = X := ⟨_, rfl⟩
  rw [eF, e2] at HF2; rw [e2] at HX2 HQ2; rw [eF] at hFl; rw [eF, e2]
  clear eF e2 HX HQ HX1 HQ1 HCK
  obtain ⟨g0, g1, gf0, gf1, gl⟩ := block2 (unhide HF2)
  go_upto_region 5 with fail
  clear g0 g1 gf0 gf1 gl
  obtain ⟨q0, q1, f0, f1, ql⟩ := block2 (unhide HQ2)
  go_wp2_with (go_at_call 31; (with_reducible refine Calls.mono (within_any _ _ _ _) ?_); rintro e w3 ⟨rfl, ew3⟩; rw [ew3]; clear ew3 w3; simp only [d1, d2])
  exact bodyPost_ret (v := .tuple #[.bool false, .agg #[.int .i64 3, .int .i64 (-1)]]) (by simp [results, Try.results14, go_sem, q0, q1]) rfl ⟨rfl, below_set2 (unhide HX2) (Nat.le_refl _) _ _⟩

set_option maxRecDepth 100000 in
set_option maxHeartbeats 4000000 in
theorem trace_same (w : World) (v v' : Value) (xs : List Ev) (h : IsL KE w v xs) (h' : IsL KE w v' xs) (hn : xs.length ≤ 100000) :
    Calls Try.prog 16 #[v, v'] w fun e w' => e = .returned (.bool true) ∧ Below w.heap.size w w' := by
  obtain ⟨a, c, rfl⟩ := h.form
  obtain ⟨a', c', rfl⟩ := h'.form
  have HO := hide (h.opens ke h.len)
  have HO' := hide (h'.opens ke h'.len)
  obtain ⟨n, en⟩ : ∃ X, xs.length = X := ⟨_, rfl⟩
  rw [en] at HO HO' hn ⊢
  have HN := hide en
  have xn : ((n : Int) != (n : Int)) = false := by simp
  have HX := hide (Below.refl w.heap.size w)
  clear h h' en
  go_enter Try.func16, Try.ntmps16
  go_wp2_with fail
  go_loopw [5] (fun i wr => ∃ j : Nat, j ≤ n ∧ i = .int .i64 (j : Int) ∧ Hid (Below w.heap.size w wr)) (fun i _ => n - (intOf i).toNat)
  case atStart => exact ⟨0, Nat.zero_le _, rfl, HX⟩
  case round =>
    obtain ⟨j, hj, rfl, HB⟩ := hrel
    clear HX
    by_cases hlt : j < n
    · have i0 : (0 : Int) ≤ (j : Int) := by omega
      have i1 : (j : Int) < (n : Int) := by omega
      have hw1 : IntKind.i64.wrap ((j : Int) + 1) = (j : Int) + 1 := wrapi (by omega) (by omega)
      obtain ⟨b, o, rfl, hb, hli⟩ := unhide HO (by omega)
      obtain ⟨b', o', rfl, hb', hli'⟩ := unhide HO' (by omega)
      obtain ⟨⟨tk, op, ob, vl⟩, ex⟩ : ∃ X, xs.getD j ev0 = X := ⟨_, rfl⟩
      obtain ⟨k0, k1, k2, k3⟩ := (hli.below (unhide HB) hb).ev (j := j) (by rw [unhide HN]; exact hlt) ex
      obtain ⟨m0, m1, m2, m3⟩ := (hli'.below (unhide HB) hb').ev (j := j) (by rw [unhide HN]; exact hlt) ex
      clear hli hli' ex
      go_upto_region 6 with fail
      go_quiet (fail)
      have HB2 := hide (below_drewN (unhide HB) nq)
      go_wp2_with fail
      go_roundw
      case rel => exact ⟨j + 1, by omega, by go_num, HB2⟩
      case measure => simp [intOf]; omega
    · obtain rfl : j = n := by omega
      have i1 : ¬ (j : Int) < (j : Int) := by omega
      go_wp2_with fail
      go_ret
      exact ⟨rfl, unhide HB⟩
end Go.Proofs.Ytbnmeeabpjmcoaa
