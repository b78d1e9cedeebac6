/-
  taskmillref.MateOf, IsPower, FindBlock, NoBlock, WithBlock, SameBlocks, SameSpace.
-/
import Derived.Test.YtomhfnjnmhdpkaaMb
import Derived.Test.YtomhfnjnmhdpkaaS
namespace Go.Proofs.Ytomhfnjnmhdpkaa
open Go.RowKit

set_option maxRecDepth 100000 in
set_option maxHeartbeats 4000000 in
theorem refMate_any (w : World) (t c : Int) (hp : pw c = true) (h0 : 0 ≤ t) (ht : t ≤ 2305843009213693952) :
    Calls Try.prog 32 #[.agg #[.int .i64 t, .int .i64 c]] w fun e w' => e = .returned (.agg #[.int .i64 (mateS t c), .int .i64 c]) ∧ Below w.heap.size w w' := by
  have hc := pw_pos hp
  have hcl := pw_le hp
  obtain ⟨W, e0, hB, k0, k1⟩ := two_new w (.cells #[.int .i64 t, .int .i64 c] 38) (.cells #[.int .i64 0, .int .i64 0] 38)
  have HX := hide hB; have HE := hide e0; have HK0 := hide k0; have HK1 := hide k1
  have hq0 : 0 ≤ t / c := Int.ediv_nonneg h0 (by omega)
  have hqt : t.tdiv c = t / c := Int.tdiv_eq_ediv_of_nonneg h0
  have hql : t / c ≤ t := Int.ediv_le_self _ h0
  have hev : evn t c = (t / c % 2 == 0) := rfl
  have hms : mateS t c = if evn t c = true then t + c else t - c := rfl
  rw [hms, hev]
  clear hms hev
  obtain ⟨Q, eQ⟩ : ∃ Q, t / c = Q := ⟨_, rfl⟩
  rw [eQ] at hq0 hqt hql ⊢
  have hc0 : ¬ c = 0 := by omega
  have hw1 : IntKind.i64.wrap (t + c) = t + c := wrapi (by omega) (by omega)
  have hw2 : IntKind.i64.wrap (t - c) = t - c := wrapi (by omega) (by omega)
  have hw3 : IntKind.i64.wrap Q = Q := wrapi (by omega) (by omega)
  have hqm : Q.tmod 2 = Q % 2 := Int.tmod_eq_emod_of_nonneg hq0
  clear hB e0 k0 k1 hp
  by_cases hm : Q % 2 = 0
  · have hb : (Q % 2 == 0) = true := by simpa using hm
    have hb2 : (Q.tmod 2 == 0) = true := by rw [hqm]; exact hb
    rw [hb, if_pos rfl]
    go_enter Try.func32, Try.ntmps32
    go_upto_region 1 with fail
    rw [unhide HE]
    clear HE
    obtain ⟨p0, p1, -, -, pl⟩ := block2 (unhide HK0)
    obtain ⟨q0, q1, f0, f1, ql⟩ := block2 (unhide HK1)
    have HF := hide (set2_block (x' := .int .i64 (t + c)) (y' := .int .i64 c) (unhide HK1))
    go_wp2_with fail
    obtain ⟨s0, s1, -⟩ := block2 (unhide HF)
    exact bodyPost_ret (v := .agg #[.int .i64 (t + c), .int .i64 c]) (by simp [results, Try.results32, go_sem, s0, s1]) rfl ⟨rfl, below_set2 (unhide HX) (by omega) _ _⟩
  · have hb : (Q % 2 == 0) = false := by simpa using hm
    have hb2 : (Q.tmod 2 == 0) = false := by rw [hqm]; exact hb
    rw [hb, if_neg (by decide)]
    go_enter Try.func32, Try.ntmps32
    go_upto_region 1 with fail
    rw [unhide HE]
    clear HE
    obtain ⟨p0, p1, -, -, pl⟩ := block2 (unhide HK0)
    obtain ⟨q0, q1, f0, f1, ql⟩ := block2 (unhide HK1)
    have HF := hide (set2_block (x' := .int .i64 (t - c)) (y' := .int .i64 c) (unhide HK1))
    go_wp2_with fail
    obtain ⟨s0, s1, -⟩ := block2 (unhide HF)
    exact bodyPost_ret (v := .agg #[.int .i64 (t - c), .int .i64 c]) (by simp [results, Try.results32, go_sem, s0, s1]) rfl ⟨rfl, below_set2 (unhide HX) (by omega) _ _⟩

set_option maxRecDepth 100000 in
set_option maxHeartbeats 4000000 in
theorem sameBlocks_same (w : World) (v v' : Value) (xs : List Bl) (h : IsL KB w v xs) (h' : IsL KB w v' xs) (hn : xs.length ≤ 100000) :
    Calls Try.prog 19 #[v, v'] w fun e w' => e = .returned (.bool true) ∧ Below w.heap.size w w' := by
  obtain ⟨a0, c0, rfl⟩ := h.form
  obtain ⟨a1, c1, rfl⟩ := h'.form
  have H0 := hide (h.opens kb rfl); have H1 := hide (h'.opens kb rfl)
  obtain ⟨n, en⟩ : ∃ n, xs.length = n := ⟨_, rfl⟩
  rw [en] at H0 H1 hn ⊢
  have HN := hide en
  have xn : ((n : Int) != (n : Int)) = false := by simp
  clear h h' en
  go_enter Try.func19, Try.ntmps19
  go_wp2
  go_loopw [5] (fun i wr => ∃ j : Nat, j ≤ n ∧ i = .int .i64 (j : Int) ∧ Hid (Below w.heap.size w wr)) (fun i _ => n - (intOf i).toNat)
  case atStart => exact ⟨0, Nat.zero_le _, rfl, hide (Below.refl _ _)⟩
  case round =>
    obtain ⟨j, hj, rfl, HX⟩ := hrel
    by_cases hlt : j < n
    · obtain ⟨b0, o0, rfl, hb0, l0⟩ := unhide H0 (by omega)
      obtain ⟨b1, o1, rfl, hb1, l1⟩ := unhide H1 (by omega)
      obtain ⟨⟨t, c⟩, hx⟩ : ∃ x, xs.getD j (0, 0) = x := ⟨_, rfl⟩
      obtain ⟨k0, k1⟩ := (l0.below (unhide HX) hb0).block (j := j) (by rw [unhide HN]; exact hlt) hx
      obtain ⟨q0, q1⟩ := (l1.below (unhide HX) hb1).block (j := j) (by rw [unhide HN]; exact hlt) hx
      have i0 : (0 : Int) ≤ (j : Int) := by omega
      have i1 : (j : Int) < (n : Int) := by omega
      have x1 : ∀ w, (Op.equalIn 10000 38 (.agg #[.int .i64 t, .int .i64 c]) (.agg #[.int .i64 t, .int .i64 c])).run Try.prog w = .ok true w := fun w => by rw [blk_eq]; simp
      clear hx H0 H1 l0 l1
      go_wp2_with fail
      go_quiet (fail)
      have HX2 := hide (below_drewN (unhide HX) nq)
      go_wp2_with fail
      go_roundw
      case rel => exact ⟨j + 1, by omega, by go_num, HX2⟩
      case measure => simp [intOf]; omega
    · obtain rfl : j = n := by omega
      have i1 : ¬ (j : Int) < (j : Int) := by omega
      go_wp2_with fail
      go_ret
      exact ⟨rfl, unhide HX⟩

set_option maxRecDepth 100000 in
set_option maxHeartbeats 4000000 in
theorem sameSpace_same (w : World) (v v' : Value) (b : Int) (us fs : List Bl) (h : IsS w v b us fs) (h' : IsS w v' b us fs) (hn : us.length ≤ 100000) (hm : fs.length ≤ 100000) :
    Calls Try.prog 14 #[v, v'] w fun e w' => e = .returned (.bool true) ∧ Below w.heap.size w w' := by
  obtain ⟨a0, c0, a1, c1, rfl, hu, hf⟩ := h.form
  obtain ⟨a2, c2, a3, c3, rfl, hu', hf'⟩ := h'.form
  have HS1 : Hid (∀ W, Below w.heap.size w W → Calls Try.prog 19 #[.slice a0 us.length c0, .slice a2 us.length c2] W fun e w' => e = .returned (.bool true) ∧ Below W.heap.size W w') := fun W hW => sameBlocks_same W _ _ us (hu.below hW) (hu'.below hW) hn
  have HS2 : Hid (∀ W, Below w.heap.size w W → Calls Try.prog 19 #[.slice a1 fs.length c1, .slice a3 fs.length c3] W fun e w' => e = .returned (.bool true) ∧ Below W.heap.size W w') := fun W hW => sameBlocks_same W _ _ fs (hf.below hW) (hf'.below hW) hm
  generalize us.length = n at *
  generalize fs.length = m at *
  obtain ⟨W, e0, hB, k0, k1⟩ := two_new w (.cells #[.int .i64 b, .slice a0 n c0, .slice a1 m c1] 24) (.cells #[.int .i64 b, .slice a2 n c2, .slice a3 m c3] 24)
  have HX := hide hB; have HE := hide e0; have HK0 := hide k0; have HK1 := hide k1
  have hbb : (b == b) = true := by simp
  clear h h' hu hf hu' hf' hB e0 k0 k1
  go_enter Try.func14, Try.ntmps14
  go_upto_region 1 with fail
  rw [unhide HE]
  clear HE
  obtain ⟨⟨p0, p1, p2⟩, -, pl⟩ := block3 (unhide HK0)
  obtain ⟨q0, q1, q2⟩ := (block3 (unhide HK1)).1
  go_wp2_with (go_at_call 19; (first
    | ((with_reducible refine Calls.mono (unhide HS1 W (unhide HX)) ?_); rintro e w1 ⟨rfl, hb1⟩; have HX1 := hide (Below.next (unhide HX) hb1 (Nat.le_refl _)); have HP1 := hide (keep_below (unhide HK0) hb1); have HQ1 := hide (keep_below (unhide HK1) hb1); obtain ⟨r0, r1, r2⟩ := (block3 (unhide HP1)).1; obtain ⟨s0, s1, s2⟩ := (block3 (unhide HQ1)).1; clear hb1)
    | ((with_reducible refine Calls.mono (unhide HS2 w1 (unhide HX1)) ?_); rintro e w2 ⟨rfl, hb2⟩; have HX2 := hide (Below.next (unhide HX1) hb2 (Nat.le_refl _)); clear hb2)))
  go_ret
  exact ⟨rfl, unhide HX2⟩

end Go.Proofs.Ytomhfnjnmhdpkaa
