/-
  taskmillref.F, TraceFault; taskmilllaw.orderBegun.
-/
import Derived.Test.YtbnmeeabpjmcoaaU
namespace Go.Proofs.Ytbnmeeabpjmcoaa
open Go.RowKit

set_option maxRecDepth 100000 in
set_option maxHeartbeats 4000000 in
theorem F_any (w : World) (c t : Int) : Calls Try.prog 18 #[.int .i64 c, .int .i64 t] w fun e w' => e = .returned (.agg #[.int .i64 c, .int .i64 t]) ∧ Below w.heap.size w w' := by
  have HQ := hide (new_block w (.cells #[.int .i64 0, .int .i64 0] 28))
  have HX := hide ((Below.refl w.heap.size w).alloc (Nat.le_refl _) (.cells #[.int .i64 0, .int .i64 0] 28))
  obtain ⟨W0, e0⟩ : ∃ X, w.alloc (.cells #[.int .i64 0, .int .i64 0] 28) = X := ⟨_, rfl⟩
  rw [e0] at HQ HX
  have HE := hide e0
  clear e0
  go_enter Try.func18, Try.ntmps18
  go_upto_region 1 with fail
  rw [unhide HE]
  clear HE
  obtain ⟨q0, q1, f0, f1, ql⟩ := block2 (unhide HQ)
  go_wp2_with fail
  exact bodyPost_ret (v := .agg #[.int .i64 c, .int .i64 t]) (by simp [results, Try.results18, go_sem, q0, q1]) rfl ⟨rfl, below_set2 (unhide HX) (Nat.le_refl _) _ _⟩

set_option maxRecDepth 100000 in
set_option maxHeartbeats 4000000 in
theorem tf_many1 (w : World) (a0 : Option Addr) (n0 c0 : Nat) (a1 : Option Addr) (n1 c1 : Nat) (h : 2000 < n0) :
    Calls Try.prog 15 #[.slice a0 n0 c0, .slice a1 n1 c1] w fun e w' => e = .returned (.agg #[.int .i64 2, .int .i64 0]) ∧ Below w.heap.size w w' := by
  have i1 : (2000 : Int) < (n0 : Int) := by omega
  have HQ := hide (new_block w (.cells #[.int .i64 0, .int .i64 0] 28))
  have HX := hide ((Below.refl w.heap.size w).alloc (Nat.le_refl _) (.cells #[.int .i64 0, .int .i64 0] 28))
  obtain ⟨W0, e0⟩ : ∃ X, w.alloc (.cells #[.int .i64 0, .int .i64 0] 28) = X := ⟨_, rfl⟩
  rw [e0] at HQ HX
  have HE := hide e0
  clear e0
  go_enter Try.func15, Try.ntmps15
  go_upto_region 1 with fail
  rw [unhide HE]
  clear HE
  go_wp2_with (go_at_call 18; (with_reducible refine Calls.mono (F_any _ _ _) ?_); rintro e w5 ⟨rfl, hb5⟩; have HQ5 := hide (keep_below (unhide HQ) hb5); have HX5 := hide (Below.next (unhide HX) hb5 (Nat.le_refl _)); clear hb5; obtain ⟨q0, q1, f0, f1, ql⟩ := block2 (unhide HQ5))
  exact bodyPost_ret (v := .agg #[.int .i64 2, .int .i64 0]) (by simp [results, Try.results15, go_sem, q0, q1]) rfl ⟨rfl, below_set2 (unhide HX5) (Nat.le_refl _) _ _⟩

set_option maxRecDepth 100000 in
set_option maxHeartbeats 4000000 in
theorem tf_many2 (w : World) (a0 : Option Addr) (n0 c0 : Nat) (a1 : Option Addr) (n1 c1 : Nat) (h : ¬ 2000 < n0) (h2 : 20 < n1) :
    Calls Try.prog 15 #[.slice a0 n0 c0, .slice a1 n1 c1] w fun e w' => e = .returned (.agg #[.int .i64 2, .int .i64 0]) ∧ Below w.heap.size w w' := by
  have i1 : ¬ (2000 : Int) < (n0 : Int) := by omega
  have i2 : (20 : Int) < (n1 : Int) := by omega
  have HQ := hide (new_block w (.cells #[.int .i64 0, .int .i64 0] 28))
  have HX := hide ((Below.refl w.heap.size w).alloc (Nat.le_refl _) (.cells #[.int .i64 0, .int .i64 0] 28))
  obtain ⟨W0, e0⟩ : ∃ X, w.alloc (.cells #[.int .i64 0, .int .i64 0] 28) = X := ⟨_, rfl⟩
  rw [e0] at HQ HX
  have HE := hide e0
  clear e0
  go_enter Try.func15, Try.ntmps15
  go_upto_region 1 with fail
  rw [unhide HE]
  clear HE
  go_wp2_with (go_at_call 18; (with_reducible refine Calls.mono (F_any _ _ _) ?_); rintro e w5 ⟨rfl, hb5⟩; have HQ5 := hide (keep_below (unhide HQ) hb5); have HX5 := hide (Below.next (unhide HX) hb5 (Nat.le_refl _)); clear hb5; obtain ⟨q0, q1, f0, f1, ql⟩ := block2 (unhide HQ5))
  exact bodyPost_ret (v := .agg #[.int .i64 2, .int .i64 0]) (by simp [results, Try.results15, go_sem, q0, q1]) rfl ⟨rfl, below_set2 (unhide HX5) (Nat.le_refl _) _ _⟩

set_option maxRecDepth 100000 in
set_option maxHeartbeats 4000000 in
theorem tf_loops (w : World) (a0 : Option Addr) (n0 c0 : Nat) (a1 : Option Addr) (n1 c1 : Nat) (l : List Ev) (hs : List Int) (hl : IsL KE w (.slice a0 n0 c0) l) (hh : IsL KI w (.slice a1 n1 c1) hs) (h1 : ¬ 2000 < n0) (h2 : ¬ 20 < n1) (R : Int × Int) (hR : (if (firstF holdC hs 0).1 ≠ 0 then firstF holdC hs 0 else firstF (wrongC (n1 : Int)) l 0) = R) :
    Calls Try.prog 15 #[.slice a0 n0 c0, .slice a1 n1 c1] w fun e w' => e = .returned (.agg #[.int .i64 R.1, .int .i64 R.2]) ∧ Below w.heap.size w w' := by
  have e0 := hl.len
  have e1 := hh.len
  obtain ⟨RA, eRA⟩ : ∃ X, firstF holdC hs 0 = X := ⟨_, rfl⟩
  rw [eRA] at hR
  have HRA : Hid (firstF holdC (hs.drop 0) ((0 : Nat) : Int) = RA) := eRA
  have HR := hide hR; have HL := hide hl; have HH := hide hh; have HN0 := hide e0; have HN1 := hide e1
  have i1 : ¬ (2000 : Int) < (n0 : Int) := by omega
  have i2 : ¬ (20 : Int) < (n1 : Int) := by omega
  clear hR hl hh e0 e1 eRA
  have HQ := hide (new_block w (.cells #[.int .i64 0, .int .i64 0] 28))
  have HX := hide ((Below.refl w.heap.size w).alloc (Nat.le_refl _) (.cells #[.int .i64 0, .int .i64 0] 28))
  obtain ⟨W0, e0⟩ : ∃ X, w.alloc (.cells #[.int .i64 0, .int .i64 0] 28) = X := ⟨_, rfl⟩
  rw [e0] at HQ HX
  have HE := hide e0
  clear e0
  go_enter Try.func15, Try.ntmps15
  go_upto_region 1 with fail
  rw [unhide HE]
  clear HE
  go_upto_region 4 with fail
  go_loopw [5] (fun i W => ∃ j : Nat, j ≤ n1 ∧ i = .int .i64 j ∧ Hid (firstF holdC (hs.drop j) (j : Int) = RA) ∧ Hid (W.heap[w.heap.size]? = some (.cells #[.int .i64 0, .int .i64 0] 28 (0, 0))) ∧ Hid (Below w.heap.size w W)) (fun i _ => n1 - (intOf i).toNat)
  case atStart => exact ⟨0, Nat.zero_le _, rfl, HRA, HQ, HX⟩
  case round =>
    obtain ⟨j, hj, rfl, HRj, HQj, HXj⟩ := hrel
    clear HRA HQ HX
    by_cases hlt : j < n1
    · obtain ⟨b, off, rfl, hbl, hli⟩ := (unhide HH).opens ki (unhide HN1) (by omega)
      have hlt2 : j < hs.length := by rw [unhide HN1]; exact hlt
      have cx := (hli.below (unhide HXj) hbl).ints hlt2
      have HRn := unhide HRj
      rw [drop_at (d := 0) hlt2] at HRn
      obtain ⟨x, ex⟩ : ∃ X, hs.getD j 0 = X := ⟨_, rfl⟩
      rw [ex] at cx HRn
      have i0 : (0 : Int) ≤ (j : Int) := by omega
      have i3 : (j : Int) < (n1 : Int) := by omega
      have hw1 : IntKind.i64.wrap ((j : Int) + 1) = (j : Int) + 1 := wrapi (by omega) (by omega)
      have HRN := hide HRn
      clear HRj HRn ex hlt2 hli
      have hbad : holdC x = 8 → Hid (R = (8, (j : Int))) := fun h8 => by have h3 := unhide HRN; rw [firstF_stop h8 (by decide)] at h3; have h4 := unhide HR; rw [← h3, if_pos (show (8 : Int) ≠ 0 by decide)] at h4; exact h4.symm
      by_cases x1 : x < 0
      · have HR2 := hbad (by unfold holdC; rw [if_neg (by omega)])
        clear HRN hbad
        go_wp2_with (go_at_call 18; (with_reducible refine Calls.mono (F_any _ _ _) ?_); rintro e w5 ⟨rfl, hb5⟩; have HQ5 := hide (keep_below (unhide HQj) hb5); have HX5 := hide (Below.next (unhide HXj) hb5 (Nat.le_refl _)); clear hb5; obtain ⟨q0, q1, f0, f1, ql⟩ := block2 (unhide HQ5))
        refine bodyPost_ret (v := .agg #[.int .i64 8, .int .i64 (j : Int)]) (by simp [results, Try.results15, go_sem, q0, q1]) rfl ⟨?_, below_set2 (unhide HX5) (Nat.le_refl _) _ _⟩
        rw [unhide HR2]
      · by_cases x2 : 100 < x
        · have HR2 := hbad (by unfold holdC; rw [if_neg (by omega)])
          clear HRN hbad
          go_wp2_with (go_at_call 18; (with_reducible refine Calls.mono (F_any _ _ _) ?_); rintro e w5 ⟨rfl, hb5⟩; have HQ5 := hide (keep_below (unhide HQj) hb5); have HX5 := hide (Below.next (unhide HXj) hb5 (Nat.le_refl _)); clear hb5; obtain ⟨q0, q1, f0, f1, ql⟩ := block2 (unhide HQ5))
          refine bodyPost_ret (v := .agg #[.int .i64 8, .int .i64 (j : Int)]) (by simp [results, Try.results15, go_sem, q0, q1]) rfl ⟨?_, below_set2 (unhide HX5) (Nat.le_refl _) _ _⟩
          rw [unhide HR2]
        · have HR2 : Hid (firstF holdC (hs.drop (j + 1)) ((j : Int) + 1) = RA) := by have := unhide HRN; rw [firstF_go (by unfold holdC; rw [if_pos (by omega)])] at this; exact this
          clear HRN hbad
          go_wp2_with fail
          go_roundw
          case rel => exact ⟨j + 1, by omega, by go_num, HR2, HQj, HXj⟩
          case measure => simp [intOf]; omega
    · obtain rfl : j = n1 := by omega
      have i3 : ¬ (j : Int) < (j : Int) := by omega
      have HR2 : Hid (firstF (wrongC (j : Int)) (l.drop 0) ((0 : Nat) : Int) = R) := by
        have h3 := unhide HRj
        rw [List.drop_eq_nil_of_le (by rw [unhide HN1]; exact Nat.le_refl _)] at h3
        have h4 := unhide HR
        rw [← h3] at h4
        exact h4
      clear HRj HR hlt hj
      go_upto_region 9 with fail
      go_loopw [6] (fun i W => ∃ k : Nat, k ≤ n0 ∧ i = .int .i64 k ∧ Hid (firstF (wrongC (j : Int)) (l.drop k) (k : Int) = R) ∧ Hid (W.heap[w.heap.size]? = some (.cells #[.int .i64 0, .int .i64 0] 28 (0, 0))) ∧ Hid (Below w.heap.size w W)) (fun i _ => n0 - (intOf i).toNat)
      case atStart => exact ⟨0, Nat.zero_le _, rfl, HR2, HQj, HXj⟩
      case round =>
        obtain ⟨k, hk, rfl, HRk, HQk, HXk⟩ := hrel
        clear HR2 HQj HXj
        by_cases hlt : k < n0
        · obtain ⟨b, off, rfl, hbl, hli⟩ := (unhide HL).opens ke (unhide HN0) (by omega)
          have hlt2 : k < l.length := by rw [unhide HN0]; exact hlt
          obtain ⟨⟨tk, op, ob, vl⟩, ex⟩ : ∃ X, l.getD k ev0 = X := ⟨_, rfl⟩
          obtain ⟨k0, k1, k2, k3⟩ := (hli.below (unhide HXk) hbl).ev hlt2 ex
          have HRn := unhide HRk
          rw [drop_at (d := ev0) hlt2, ex] at HRn
          have i0 : (0 : Int) ≤ (k : Int) := by omega
          have i4 : (k : Int) < (n0 : Int) := by omega
          have hw1 : IntKind.i64.wrap ((k : Int) + 1) = (k : Int) + 1 := wrapi (by omega) (by omega)
          have HRN := hide HRn
          clear HRk HRn ex hlt2 hli
          by_cases t1 : tk < 1
          · have hd : wrongC (j : Int) ⟨tk, op, ob, vl⟩ = 3 := by unfold wrongC; dsimp only; rw [if_pos (by omega)]
            go_upto_region 12 with fail
            clear k0 k1 k2 k3
            have HQ3 := hide (keep_alloc (unhide HQk) (.cells #[.int .i64 tk, .int .i64 op, .int .i64 ob, .int .i64 vl] 41)); have HX3 := hide ((unhide HXk).alloc (unhide HXk).size (.cells #[.int .i64 tk, .int .i64 op, .int .i64 ob, .int .i64 vl] 41)); have HZ3 := hide (new_block wr (.cells #[.int .i64 tk, .int .i64 op, .int .i64 ob, .int .i64 vl] 41))
            have hZl : w.heap.size < wr.heap.size := size_of (unhide HQk)
            obtain ⟨Z, eZ⟩ : ∃ X, wr.heap.size = X := ⟨_, rfl⟩
            obtain ⟨W3, e3⟩ : ∃ X, wr.alloc (.cells #[.int .i64 tk, .int .i64 op, .int .i64 ob, .int .i64 vl] 41) = X := ⟨_, rfl⟩
            rw [eZ, e3] at HZ3; rw [e3] at HQ3 HX3; rw [eZ] at hZl; rw [eZ, e3]
            clear eZ e3 HQk HXk
            obtain ⟨⟨z0, z1, z2, z3⟩, -, zl⟩ := block4 (unhide HZ3)
            have HE2 : Hid (R = (3, (k : Int))) := by have := unhide HRN; rw [firstF_stop hd (by decide)] at this; exact this.symm
            clear hd HRN
            go_wp2_with (go_at_call 18; (with_reducible refine Calls.mono (F_any _ _ _) ?_); rintro e w5 ⟨rfl, hb5⟩; have HQ5 := hide (keep_below (unhide HQ3) hb5); have HX5 := hide (Below.next (unhide HX3) hb5 (Nat.le_refl _)); clear hb5 z0 z1 z2 z3 zl HQ3 HX3 HZ3; obtain ⟨q0, q1, f0, f1, ql⟩ := block2 (unhide HQ5))
            refine bodyPost_ret (v := .agg #[.int .i64 3, .int .i64 (k : Int)]) (by simp [results, Try.results15, go_sem, q0, q1]) rfl ⟨?_, below_set2 (unhide HX5) (Nat.le_refl _) _ _⟩
            rw [unhide HE2]
          · by_cases t2 : 64 < tk
            · have hd : wrongC (j : Int) ⟨tk, op, ob, vl⟩ = 3 := by unfold wrongC; dsimp only; rw [if_pos (by omega)]
              go_upto_region 12 with fail
              clear k0 k1 k2 k3
              have HQ3 := hide (keep_alloc (unhide HQk) (.cells #[.int .i64 tk, .int .i64 op, .int .i64 ob, .int .i64 vl] 41)); have HX3 := hide ((unhide HXk).alloc (unhide HXk).size (.cells #[.int .i64 tk, .int .i64 op, .int .i64 ob, .int .i64 vl] 41)); have HZ3 := hide (new_block wr (.cells #[.int .i64 tk, .int .i64 op, .int .i64 ob, .int .i64 vl] 41))
              have hZl : w.heap.size < wr.heap.size := size_of (unhide HQk)
              obtain ⟨Z, eZ⟩ : ∃ X, wr.heap.size = X := ⟨_, rfl⟩
              obtain ⟨W3, e3⟩ : ∃ X, wr.alloc (.cells #[.int .i64 tk, .int .i64 op, .int .i64 ob, .int .i64 vl] 41) = X := ⟨_, rfl⟩
              rw [eZ, e3] at HZ3; rw [e3] at HQ3 HX3; rw [eZ] at hZl; rw [eZ, e3]
              clear eZ e3 HQk HXk
              obtain ⟨⟨z0, z1, z2, z3⟩, -, zl⟩ := block4 (unhide HZ3)
              have HE2 : Hid (R = (3, (k : Int))) := by have := unhide HRN; rw [firstF_stop hd (by decide)] at this; exact this.symm
              clear hd HRN
              go_wp2_with (go_at_call 18; (with_reducible refine Calls.mono (F_any _ _ _) ?_); rintro e w5 ⟨rfl, hb5⟩; have HQ5 := hide (keep_below (unhide HQ3) hb5); have HX5 := hide (Below.next (unhide HX3) hb5 (Nat.le_refl _)); clear hb5 z0 z1 z2 z3 zl HQ3 HX3 HZ3; obtain ⟨q0, q1, f0, f1, ql⟩ := block2 (unhide HQ5))
              refine bodyPost_ret (v := .agg #[.int .i64 3, .int .i64 (k : Int)]) (by simp [results, Try.results15, go_sem, q0, q1]) rfl ⟨?_, below_set2 (unhide HX5) (Nat.le_refl _) _ _⟩
              rw [unhide HE2]
            · by_cases o1 : op < 8
              · have hd : wrongC (j : Int) ⟨tk, op, ob, vl⟩ = 4 := by unfold wrongC; dsimp only; rw [if_neg (by omega), if_pos (by omega)]
                go_upto_region 12 with fail
                clear k0 k1 k2 k3
                have HQ3 := hide (keep_alloc (unhide HQk) (.cells #[.int .i64 tk, .int .i64 op, .int .i64 ob, .int .i64 vl] 41)); have HX3 := hide ((unhide HXk).alloc (unhide HXk).size (.cells #[.int .i64 tk, .int .i64 op, .int .i64 ob, .int .i64 vl] 41)); have HZ3 := hide (new_block wr (.cells #[.int .i64 tk, .int .i64 op, .int .i64 ob, .int .i64 vl] 41))
                have hZl : w.heap.size < wr.heap.size := size_of (unhide HQk)
                obtain ⟨Z, eZ⟩ : ∃ X, wr.heap.size = X := ⟨_, rfl⟩
                obtain ⟨W3, e3⟩ : ∃ X, wr.alloc (.cells #[.int .i64 tk, .int .i64 op, .int .i64 ob, .int .i64 vl] 41) = X := ⟨_, rfl⟩
                rw [eZ, e3] at HZ3; rw [e3] at HQ3 HX3; rw [eZ] at hZl; rw [eZ, e3]
                clear eZ e3 HQk HXk
                obtain ⟨⟨z0, z1, z2, z3⟩, -, zl⟩ := block4 (unhide HZ3)
                have HE2 : Hid (R = (4, (k : Int))) := by have := unhide HRN; rw [firstF_stop hd (by decide)] at this; exact this.symm
                clear hd HRN
                go_wp2_with (go_at_call 18; (with_reducible refine Calls.mono (F_any _ _ _) ?_); rintro e w5 ⟨rfl, hb5⟩; have HQ5 := hide (keep_below (unhide HQ3) hb5); have HX5 := hide (Below.next (unhide HX3) hb5 (Nat.le_refl _)); clear hb5 z0 z1 z2 z3 zl HQ3 HX3 HZ3; obtain ⟨q0, q1, f0, f1, ql⟩ := block2 (unhide HQ5))
                refine bodyPost_ret (v := .agg #[.int .i64 4, .int .i64 (k : Int)]) (by simp [results, Try.results15, go_sem, q0, q1]) rfl ⟨?_, below_set2 (unhide HX5) (Nat.le_refl _) _ _⟩
                rw [unhide HE2]
              · by_cases o2 : 22 < op
                · have hd : wrongC (j : Int) ⟨tk, op, ob, vl⟩ = 4 := by unfold wrongC; dsimp only; rw [if_neg (by omega), if_pos (by omega)]
                  go_upto_region 12 with fail
                  clear k0 k1 k2 k3
                  have HQ3 := hide (keep_alloc (unhide HQk) (.cells #[.int .i64 tk, .int .i64 op, .int .i64 ob, .int .i64 vl] 41)); have HX3 := hide ((unhide HXk).alloc (unhide HXk).size (.cells #[.int .i64 tk, .int .i64 op, .int .i64 ob, .int .i64 vl] 41)); have HZ3 := hide (new_block wr (.cells #[.int .i64 tk, .int .i64 op, .int .i64 ob, .int .i64 vl] 41))
                  have hZl : w.heap.size < wr.heap.size := size_of (unhide HQk)
                  obtain ⟨Z, eZ⟩ : ∃ X, wr.heap.size = X := ⟨_, rfl⟩
                  obtain ⟨W3, e3⟩ : ∃ X, wr.alloc (.cells #[.int .i64 tk, .int .i64 op, .int .i64 ob, .int .i64 vl] 41) = X := ⟨_, rfl⟩
                  rw [eZ, e3] at HZ3; rw [e3] at HQ3 HX3; rw [eZ] at hZl; rw [eZ, e3]
                  clear eZ e3 HQk HXk
                  obtain ⟨⟨z0, z1, z2, z3⟩, -, zl⟩ := block4 (unhide HZ3)
                  have HE2 : Hid (R = (4, (k : Int))) := by have := unhide HRN; rw [firstF_stop hd (by decide)] at this; exact this.symm
                  clear hd HRN
                  go_wp2_with (go_at_call 18; (with_reducible refine Calls.mono (F_any _ _ _) ?_); rintro e w5 ⟨rfl, hb5⟩; have HQ5 := hide (keep_below (unhide HQ3) hb5); have HX5 := hide (Below.next (unhide HX3) hb5 (Nat.le_refl _)); clear hb5 z0 z1 z2 z3 zl HQ3 HX3 HZ3; obtain ⟨q0, q1, f0, f1, ql⟩ := block2 (unhide HQ5))
                  refine bodyPost_ret (v := .agg #[.int .i64 4, .int .i64 (k : Int)]) (by simp [results, Try.results15, go_sem, q0, q1]) rfl ⟨?_, below_set2 (unhide HX5) (Nat.le_refl _) _ _⟩
                  rw [unhide HE2]
                · by_cases e14 : op = 14
                  · subst e14
                    by_cases u1 : ob < 0
                    · have hd : wrongC (j : Int) ⟨tk, 14, ob, vl⟩ = 5 := by unfold wrongC; dsimp only; rw [if_neg (by omega), if_neg (by omega), if_pos (by omega)]
                      go_upto_region 12 with fail
                      clear k0 k1 k2 k3
                      have HQ3 := hide (keep_alloc (unhide HQk) (.cells #[.int .i64 tk, .int .i64 14, .int .i64 ob, .int .i64 vl] 41)); have HX3 := hide ((unhide HXk).alloc (unhide HXk).size (.cells #[.int .i64 tk, .int .i64 14, .int .i64 ob, .int .i64 vl] 41)); have HZ3 := hide (new_block wr (.cells #[.int .i64 tk, .int .i64 14, .int .i64 ob, .int .i64 vl] 41))
                      have hZl : w.heap.size < wr.heap.size := size_of (unhide HQk)
                      obtain ⟨Z, eZ⟩ : ∃ X, wr.heap.size = X := ⟨_, rfl⟩
                      obtain ⟨W3, e3⟩ : ∃ X, wr.alloc (.cells #[.int .i64 tk, .int .i64 14, .int .i64 ob, .int .i64 vl] 41) = X := ⟨_, rfl⟩
                      rw [eZ, e3] at HZ3; rw [e3] at HQ3 HX3; rw [eZ] at hZl; rw [eZ, e3]
                      clear eZ e3 HQk HXk
                      obtain ⟨⟨z0, z1, z2, z3⟩, -, zl⟩ := block4 (unhide HZ3)
                      have HE2 : Hid (R = (5, (k : Int))) := by have := unhide HRN; rw [firstF_stop hd (by decide)] at this; exact this.symm
                      clear hd HRN
                      go_wp2_with (go_at_call 18; (with_reducible refine Calls.mono (F_any _ _ _) ?_); rintro e w5 ⟨rfl, hb5⟩; have HQ5 := hide (keep_below (unhide HQ3) hb5); have HX5 := hide (Below.next (unhide HX3) hb5 (Nat.le_refl _)); clear hb5 z0 z1 z2 z3 zl HQ3 HX3 HZ3; obtain ⟨q0, q1, f0, f1, ql⟩ := block2 (unhide HQ5))
                      refine bodyPost_ret (v := .agg #[.int .i64 5, .int .i64 (k : Int)]) (by simp [results, Try.results15, go_sem, q0, q1]) rfl ⟨?_, below_set2 (unhide HX5) (Nat.le_refl _) _ _⟩
                      rw [unhide HE2]
                    · by_cases u2 : 20 < ob
                      · have hd : wrongC (j : Int) ⟨tk, 14, ob, vl⟩ = 5 := by unfold wrongC; dsimp only; rw [if_neg (by omega), if_neg (by omega), if_pos (by omega)]
                        go_upto_region 12 with fail
                        clear k0 k1 k2 k3
                        have HQ3 := hide (keep_alloc (unhide HQk) (.cells #[.int .i64 tk, .int .i64 14, .int .i64 ob, .int .i64 vl] 41)); have HX3 := hide ((unhide HXk).alloc (unhide HXk).size (.cells #[.int .i64 tk, .int .i64 14, .int .i64 ob, .int .i64 vl] 41)); have HZ3 := hide (new_block wr (.cells #[.int .i64 tk, .int .i64 14, .int .i64 ob, .int .i64 vl] 41))
                        have hZl : w.heap.size < wr.heap.size := size_of (unhide HQk)
                        obtain ⟨Z, eZ⟩ : ∃ X, wr.heap.size = X := ⟨_, rfl⟩
                        obtain ⟨W3, e3⟩ : ∃ X, wr.alloc (.cells #[.int .i64 tk, .int .i64 14, .int .i64 ob, .int .i64 vl] 41) = X := ⟨_, rfl⟩
                        rw [eZ, e3] at HZ3; rw [e3] at HQ3 HX3; rw [eZ] at hZl; rw [eZ, e3]
                        clear eZ e3 HQk HXk
                        obtain ⟨⟨z0, z1, z2, z3⟩, -, zl⟩ := block4 (unhide HZ3)
                        have HE2 : Hid (R = (5, (k : Int))) := by have := unhide HRN; rw [firstF_stop hd (by decide)] at this; exact this.symm
                        clear hd HRN
                        go_wp2_with (go_at_call 18; (with_reducible refine Calls.mono (F_any _ _ _) ?_); rintro e w5 ⟨rfl, hb5⟩; have HQ5 := hide (keep_below (unhide HQ3) hb5); have HX5 := hide (Below.next (unhide HX3) hb5 (Nat.le_refl _)); clear hb5 z0 z1 z2 z3 zl HQ3 HX3 HZ3; obtain ⟨q0, q1, f0, f1, ql⟩ := block2 (unhide HQ5))
                        refine bodyPost_ret (v := .agg #[.int .i64 5, .int .i64 (k : Int)]) (by simp [results, Try.results15, go_sem, q0, q1]) rfl ⟨?_, below_set2 (unhide HX5) (Nat.le_refl _) _ _⟩
                        rw [unhide HE2]
                      · by_cases u3 : (j : Int) ≤ ob
                        · have hd : wrongC (j : Int) ⟨tk, 14, ob, vl⟩ = 5 := by unfold wrongC; dsimp only; rw [if_neg (by omega), if_neg (by omega), if_neg (by omega), if_pos ⟨rfl, u3⟩]
                          go_upto_region 12 with fail
                          clear k0 k1 k2 k3
                          have HQ3 := hide (keep_alloc (unhide HQk) (.cells #[.int .i64 tk, .int .i64 14, .int .i64 ob, .int .i64 vl] 41)); have HX3 := hide ((unhide HXk).alloc (unhide HXk).size (.cells #[.int .i64 tk, .int .i64 14, .int .i64 ob, .int .i64 vl] 41)); have HZ3 := hide (new_block wr (.cells #[.int .i64 tk, .int .i64 14, .int .i64 ob, .int .i64 vl] 41))
                          have hZl : w.heap.size < wr.heap.size := size_of (unhide HQk)
                          obtain ⟨Z, eZ⟩ : ∃ X, wr.heap.size = X := ⟨_, rfl⟩
                          obtain ⟨W3, e3⟩ : ∃ X, wr.alloc (.cells #[.int .i64 tk, .int .i64 14, .int .i64 ob, .int .i64 vl] 41) = X := ⟨_, rfl⟩
                          rw [eZ, e3] at HZ3; rw [e3] at HQ3 HX3; rw [eZ] at hZl; rw [eZ, e3]
                          clear eZ e3 HQk HXk
                          obtain ⟨⟨z0, z1, z2, z3⟩, -, zl⟩ := block4 (unhide HZ3)
                          have HE2 : Hid (R = (5, (k : Int))) := by have := unhide HRN; rw [firstF_stop hd (by decide)] at this; exact this.symm
                          clear hd HRN
                          go_wp2_with (go_at_call 18; (with_reducible refine Calls.mono (F_any _ _ _) ?_); rintro e w5 ⟨rfl, hb5⟩; have HQ5 := hide (keep_below (unhide HQ3) hb5); have HX5 := hide (Below.next (unhide HX3) hb5 (Nat.le_refl _)); clear hb5 z0 z1 z2 z3 zl HQ3 HX3 HZ3; obtain ⟨q0, q1, f0, f1, ql⟩ := block2 (unhide HQ5))
                          refine bodyPost_ret (v := .agg #[.int .i64 5, .int .i64 (k : Int)]) (by simp [results, Try.results15, go_sem, q0, q1]) rfl ⟨?_, below_set2 (unhide HX5) (Nat.le_refl _) _ _⟩
                          rw [unhide HE2]
                        · have hd : wrongC (j : Int) ⟨tk, 14, ob, vl⟩ = 0 := by unfold wrongC; dsimp only; rw [if_neg (by omega), if_neg (by omega), if_neg (by omega), if_neg (fun h => u3 h.2), if_neg (fun h => absurd h.1 (by decide))]
                          go_upto_region 12 with fail
                          clear k0 k1 k2 k3
                          have HQ3 := hide (keep_alloc (unhide HQk) (.cells #[.int .i64 tk, .int .i64 14, .int .i64 ob, .int .i64 vl] 41)); have HX3 := hide ((unhide HXk).alloc (unhide HXk).size (.cells #[.int .i64 tk, .int .i64 14, .int .i64 ob, .int .i64 vl] 41)); have HZ3 := hide (new_block wr (.cells #[.int .i64 tk, .int .i64 14, .int .i64 ob, .int .i64 vl] 41))
                          have hZl : w.heap.size < wr.heap.size := size_of (unhide HQk)
                          obtain ⟨Z, eZ⟩ : ∃ X, wr.heap.size = X := ⟨_, rfl⟩
                          obtain ⟨W3, e3⟩ : ∃ X, wr.alloc (.cells #[.int .i64 tk, .int .i64 14, .int .i64 ob, .int .i64 vl] 41) = X := ⟨_, rfl⟩
                          rw [eZ, e3] at HZ3; rw [e3] at HQ3 HX3; rw [eZ] at hZl; rw [eZ, e3]
                          clear eZ e3 HQk HXk
                          obtain ⟨⟨z0, z1, z2, z3⟩, -, zl⟩ := block4 (unhide HZ3)
                          have HRN2 : Hid (firstF (wrongC (j : Int)) (l.drop (k + 1)) ((k : Int) + 1) = R) := by have := unhide HRN; rw [firstF_go hd] at this; exact this
                          clear hd HRN
                          go_wp2_with fail
                          go_roundw
                          case rel => exact ⟨k + 1, by omega, by go_num, HRN2, HQ3, HX3⟩
                          case measure => simp [intOf]; omega
                  · by_cases e15 : op = 15
                    · subst e15
                      by_cases u1 : ob < 0
                      · have hd : wrongC (j : Int) ⟨tk, 15, ob, vl⟩ = 5 := by unfold wrongC; dsimp only; rw [if_neg (by omega), if_neg (by omega), if_pos (by omega)]
                        go_upto_region 12 with fail
                        clear k0 k1 k2 k3
                        have HQ3 := hide (keep_alloc (unhide HQk) (.cells #[.int .i64 tk, .int .i64 15, .int .i64 ob, .int .i64 vl] 41)); have HX3 := hide ((unhide HXk).alloc (unhide HXk).size (.cells #[.int .i64 tk, .int .i64 15, .int .i64 ob, .int .i64 vl] 41)); have HZ3 := hide (new_block wr (.cells #[.int .i64 tk, .int .i64 15, .int .i64 ob, .int .i64 vl] 41))
                        have hZl : w.heap.size < wr.heap.size := size_of (unhide HQk)
                        obtain ⟨Z, eZ⟩ : ∃ X, wr.heap.size = X := ⟨_, rfl⟩
                        obtain ⟨W3, e3⟩ : ∃ X, wr.alloc (.cells #[.int .i64 tk, .int .i64 15, .int .i64 ob, .int .i64 vl] 41) = X := ⟨_, rfl⟩
                        rw [eZ, e3] at HZ3; rw [e3] at HQ3 HX3; rw [eZ] at hZl; rw [eZ, e3]
                        clear eZ e3 HQk HXk
                        obtain ⟨⟨z0, z1, z2, z3⟩, -, zl⟩ := block4 (unhide HZ3)
                        have HE2 : Hid (R = (5, (k : Int))) := by have := unhide HRN; rw [firstF_stop hd (by decide)] at this; exact this.symm
                        clear hd HRN
                        go_wp2_with (go_at_call 18; (with_reducible refine Calls.mono (F_any _ _ _) ?_); rintro e w5 ⟨rfl, hb5⟩; have HQ5 := hide (keep_below (unhide HQ3) hb5); have HX5 := hide (Below.next (unhide HX3) hb5 (Nat.le_refl _)); clear hb5 z0 z1 z2 z3 zl HQ3 HX3 HZ3; obtain ⟨q0, q1, f0, f1, ql⟩ := block2 (unhide HQ5))
                        refine bodyPost_ret (v := .agg #[.int .i64 5, .int .i64 (k : Int)]) (by simp [results, Try.results15, go_sem, q0, q1]) rfl ⟨?_, below_set2 (unhide HX5) (Nat.le_refl _) _ _⟩
                        rw [unhide HE2]
                      · by_cases u2 : 20 < ob
                        · have hd : wrongC (j : Int) ⟨tk, 15, ob, vl⟩ = 5 := by unfold wrongC; dsimp only; rw [if_neg (by omega), if_neg (by omega), if_pos (by omega)]
                          go_upto_region 12 with fail
                          clear k0 k1 k2 k3
                          have HQ3 := hide (keep_alloc (unhide HQk) (.cells #[.int .i64 tk, .int .i64 15, .int .i64 ob, .int .i64 vl] 41)); have HX3 := hide ((unhide HXk).alloc (unhide HXk).size (.cells #[.int .i64 tk, .int .i64 15, .int .i64 ob, .int .i64 vl] 41)); have HZ3 := hide (new_block wr (.cells #[.int .i64 tk, .int .i64 15, .int .i64 ob, .int .i64 vl] 41))
                          have hZl : w.heap.size < wr.heap.size := size_of (unhide HQk)
                          obtain ⟨Z, eZ⟩ : ∃ X, wr.heap.size = X := ⟨_, rfl⟩
                          obtain ⟨W3, e3⟩ : ∃ X, wr.alloc (.cells #[.int .i64 tk, .int .i64 15, .int .i64 ob, .int .i64 vl] 41) = X := ⟨_, rfl⟩
                          rw [eZ, e3] at HZ3; rw [e3] at HQ3 HX3; rw [eZ] at hZl; rw [eZ, e3]
                          clear eZ e3 HQk HXk
                          obtain ⟨⟨z0, z1, z2, z3⟩, -, zl⟩ := block4 (unhide HZ3)
                          have HE2 : Hid (R = (5, (k : Int))) := by have := unhide HRN; rw [firstF_stop hd (by decide)] at this; exact this.symm
                          clear hd HRN
                          go_wp2_with (go_at_call 18; (with_reducible refine Calls.mono (F_any _ _ _) ?_); rintro e w5 ⟨rfl, hb5⟩; have HQ5 := hide (keep_below (unhide HQ3) hb5); have HX5 := hide (Below.next (unhide HX3) hb5 (Nat.le_refl _)); clear hb5 z0 z1 z2 z3 zl HQ3 HX3 HZ3; obtain ⟨q0, q1, f0, f1, ql⟩ := block2 (unhide HQ5))
                          refine bodyPost_ret (v := .agg #[.int .i64 5, .int .i64 (k : Int)]) (by simp [results, Try.results15, go_sem, q0, q1]) rfl ⟨?_, below_set2 (unhide HX5) (Nat.le_refl _) _ _⟩
                          rw [unhide HE2]
                        · by_cases u3 : (j : Int) ≤ ob
                          · have hd : wrongC (j : Int) ⟨tk, 15, ob, vl⟩ = 5 := by unfold wrongC; dsimp only; rw [if_neg (by omega), if_neg (by omega), if_neg (by omega), if_pos ⟨rfl, u3⟩]
                            go_upto_region 12 with fail
                            clear k0 k1 k2 k3
                            have HQ3 := hide (keep_alloc (unhide HQk) (.cells #[.int .i64 tk, .int .i64 15, .int .i64 ob, .int .i64 vl] 41)); have HX3 := hide ((unhide HXk).alloc (unhide HXk).size (.cells #[.int .i64 tk, .int .i64 15, .int .i64 ob, .int .i64 vl] 41)); have HZ3 := hide (new_block wr (.cells #[.int .i64 tk, .int .i64 15, .int .i64 ob, .int .i64 vl] 41))
                            have hZl : w.heap.size < wr.heap.size := size_of (unhide HQk)
                            obtain ⟨Z, eZ⟩ : ∃ X, wr.heap.size = X := ⟨_, rfl⟩
                            obtain ⟨W3, e3⟩ : ∃ X, wr.alloc (.cells #[.int .i64 tk, .int .i64 15, .int .i64 ob, .int .i64 vl] 41) = X := ⟨_, rfl⟩
                            rw [eZ, e3] at HZ3; rw [e3] at HQ3 HX3; rw [eZ] at hZl; rw [eZ, e3]
                            clear eZ e3 HQk HXk
                            obtain ⟨⟨z0, z1, z2, z3⟩, -, zl⟩ := block4 (unhide HZ3)
                            have HE2 : Hid (R = (5, (k : Int))) := by have := unhide HRN; rw [firstF_stop hd (by decide)] at this; exact this.symm
                            clear hd HRN
                            go_wp2_with (go_at_call 18; (with_reducible refine Calls.mono (F_any _ _ _) ?_); rintro e w5 ⟨rfl, hb5⟩; have HQ5 := hide (keep_below (unhide HQ3) hb5); have HX5 := hide (Below.next (unhide HX3) hb5 (Nat.le_refl _)); clear hb5 z0 z1 z2 z3 zl HQ3 HX3 HZ3; obtain ⟨q0, q1, f0, f1, ql⟩ := block2 (unhide HQ5))
                            refine bodyPost_ret (v := .agg #[.int .i64 5, .int .i64 (k : Int)]) (by simp [results, Try.results15, go_sem, q0, q1]) rfl ⟨?_, below_set2 (unhide HX5) (Nat.le_refl _) _ _⟩
                            rw [unhide HE2]
                          · have hd : wrongC (j : Int) ⟨tk, 15, ob, vl⟩ = 0 := by unfold wrongC; dsimp only; rw [if_neg (by omega), if_neg (by omega), if_neg (by omega), if_neg (fun h => u3 h.2), if_neg (fun h => absurd h.1 (by decide))]
                            go_upto_region 12 with fail
                            clear k0 k1 k2 k3
                            have HQ3 := hide (keep_alloc (unhide HQk) (.cells #[.int .i64 tk, .int .i64 15, .int .i64 ob, .int .i64 vl] 41)); have HX3 := hide ((unhide HXk).alloc (unhide HXk).size (.cells #[.int .i64 tk, .int .i64 15, .int .i64 ob, .int .i64 vl] 41)); have HZ3 := hide (new_block wr (.cells #[.int .i64 tk, .int .i64 15, .int .i64 ob, .int .i64 vl] 41))
                            have hZl : w.heap.size < wr.heap.size := size_of (unhide HQk)
                            obtain ⟨Z, eZ⟩ : ∃ X, wr.heap.size = X := ⟨_, rfl⟩
                            obtain ⟨W3, e3⟩ : ∃ X, wr.alloc (.cells #[.int .i64 tk, .int .i64 15, .int .i64 ob, .int .i64 vl] 41) = X := ⟨_, rfl⟩
                            rw [eZ, e3] at HZ3; rw [e3] at HQ3 HX3; rw [eZ] at hZl; rw [eZ, e3]
                            clear eZ e3 HQk HXk
                            obtain ⟨⟨z0, z1, z2, z3⟩, -, zl⟩ := block4 (unhide HZ3)
                            have HRN2 : Hid (firstF (wrongC (j : Int)) (l.drop (k + 1)) ((k : Int) + 1) = R) := by have := unhide HRN; rw [firstF_go hd] at this; exact this
                            clear hd HRN
                            go_wp2_with fail
                            go_roundw
                            case rel => exact ⟨k + 1, by omega, by go_num, HRN2, HQ3, HX3⟩
                            case measure => simp [intOf]; omega
                    · by_cases e16 : op = 16
                      · subst e16
                        by_cases u1 : ob < 0
                        · have hd : wrongC (j : Int) ⟨tk, 16, ob, vl⟩ = 5 := by unfold wrongC; dsimp only; rw [if_neg (by omega), if_neg (by omega), if_pos (by omega)]
                          go_upto_region 12 with fail
                          clear k0 k1 k2 k3
                          have HQ3 := hide (keep_alloc (unhide HQk) (.cells #[.int .i64 tk, .int .i64 16, .int .i64 ob, .int .i64 vl] 41)); have HX3 := hide ((unhide HXk).alloc (unhide HXk).size (.cells #[.int .i64 tk, .int .i64 16, .int .i64 ob, .int .i64 vl] 41)); have HZ3 := hide (new_block wr (.cells #[.int .i64 tk, .int .i64 16, .int .i64 ob, .int .i64 vl] 41))
                          have hZl : w.heap.size < wr.heap.size := size_of (unhide HQk)
                          obtain ⟨Z, eZ⟩ : ∃ X, wr.heap.size = X := ⟨_, rfl⟩
                          obtain ⟨W3, e3⟩ : ∃ X, wr.alloc (.cells #[.int .i64 tk, .int .i64 16, .int .i64 ob, .int .i64 vl] 41) = X := ⟨_, rfl⟩
                          rw [eZ, e3] at HZ3; rw [e3] at HQ3 HX3; rw [eZ] at hZl; rw [eZ, e3]
                          clear eZ e3 HQk HXk
                          obtain ⟨⟨z0, z1, z2, z3⟩, -, zl⟩ := block4 (unhide HZ3)
                          have HE2 : Hid (R = (5, (k : Int))) := by have := unhide HRN; rw [firstF_stop hd (by decide)] at this; exact this.symm
                          clear hd HRN
                          go_wp2_with (go_at_call 18; (with_reducible refine Calls.mono (F_any _ _ _) ?_); rintro e w5 ⟨rfl, hb5⟩; have HQ5 := hide (keep_below (unhide HQ3) hb5); have HX5 := hide (Below.next (unhide HX3) hb5 (Nat.le_refl _)); clear hb5 z0 z1 z2 z3 zl HQ3 HX3 HZ3; obtain ⟨q0, q1, f0, f1, ql⟩ := block2 (unhide HQ5))
                          refine bodyPost_ret (v := .agg #[.int .i64 5, .int .i64 (k : Int)]) (by simp [results, Try.results15, go_sem, q0, q1]) rfl ⟨?_, below_set2 (unhide HX5) (Nat.le_refl _) _ _⟩
                          rw [unhide HE2]
                        · by_cases u2 : 20 < ob
                          · have hd : wrongC (j : Int) ⟨tk, 16, ob, vl⟩ = 5 := by unfold wrongC; dsimp only; rw [if_neg (by omega), if_neg (by omega), if_pos (by omega)]
                            go_upto_region 12 with fail
                            clear k0 k1 k2 k3
                            have HQ3 := hide (keep_alloc (unhide HQk) (.cells #[.int .i64 tk, .int .i64 16, .int .i64 ob, .int .i64 vl] 41)); have HX3 := hide ((unhide HXk).alloc (unhide HXk).size (.cells #[.int .i64 tk, .int .i64 16, .int .i64 ob, .int .i64 vl] 41)); have HZ3 := hide (new_block wr (.cells #[.int .i64 tk, .int .i64 16, .int .i64 ob, .int .i64 vl] 41))
                            have hZl : w.heap.size < wr.heap.size := size_of (unhide HQk)
                            obtain ⟨Z, eZ⟩ : ∃ X, wr.heap.size = X := ⟨_, rfl⟩
                            obtain ⟨W3, e3⟩ : ∃ X, wr.alloc (.cells #[.int .i64 tk, .int .i64 16, .int .i64 ob, .int .i64 vl] 41) = X := ⟨_, rfl⟩
                            rw [eZ, e3] at HZ3; rw [e3] at HQ3 HX3; rw [eZ] at hZl; rw [eZ, e3]
                            clear eZ e3 HQk HXk
                            obtain ⟨⟨z0, z1, z2, z3⟩, -, zl⟩ := block4 (unhide HZ3)
                            have HE2 : Hid (R = (5, (k : Int))) := by have := unhide HRN; rw [firstF_stop hd (by decide)] at this; exact this.symm
                            clear hd HRN
                            go_wp2_with (go_at_call 18; (with_reducible refine Calls.mono (F_any _ _ _) ?_); rintro e w5 ⟨rfl, hb5⟩; have HQ5 := hide (keep_below (unhide HQ3) hb5); have HX5 := hide (Below.next (unhide HX3) hb5 (Nat.le_refl _)); clear hb5 z0 z1 z2 z3 zl HQ3 HX3 HZ3; obtain ⟨q0, q1, f0, f1, ql⟩ := block2 (unhide HQ5))
                            refine bodyPost_ret (v := .agg #[.int .i64 5, .int .i64 (k : Int)]) (by simp [results, Try.results15, go_sem, q0, q1]) rfl ⟨?_, below_set2 (unhide HX5) (Nat.le_refl _) _ _⟩
                            rw [unhide HE2]
                          · by_cases u3 : (j : Int) ≤ ob
                            · have hd : wrongC (j : Int) ⟨tk, 16, ob, vl⟩ = 5 := by unfold wrongC; dsimp only; rw [if_neg (by omega), if_neg (by omega), if_neg (by omega), if_pos ⟨rfl, u3⟩]
                              go_upto_region 12 with fail
                              clear k0 k1 k2 k3
                              have HQ3 := hide (keep_alloc (unhide HQk) (.cells #[.int .i64 tk, .int .i64 16, .int .i64 ob, .int .i64 vl] 41)); have HX3 := hide ((unhide HXk).alloc (unhide HXk).size (.cells #[.int .i64 tk, .int .i64 16, .int .i64 ob, .int .i64 vl] 41)); have HZ3 := hide (new_block wr (.cells #[.int .i64 tk, .int .i64 16, .int .i64 ob, .int .i64 vl] 41))
                              have hZl : w.heap.size < wr.heap.size := size_of (unhide HQk)
                              obtain ⟨Z, eZ⟩ : ∃ X, wr.heap.size = X := ⟨_, rfl⟩
                              obtain ⟨W3, e3⟩ : ∃ X, wr.alloc (.cells #[.int .i64 tk, .int .i64 16, .int .i64 ob, .int .i64 vl] 41) = X := ⟨_, rfl⟩
                              rw [eZ, e3] at HZ3; rw [e3] at HQ3 HX3; rw [eZ] at hZl; rw [eZ, e3]
                              clear eZ e3 HQk HXk
                              obtain ⟨⟨z0, z1, z2, z3⟩, -, zl⟩ := block4 (unhide HZ3)
                              have HE2 : Hid (R = (5, (k : Int))) := by have := unhide HRN; rw [firstF_stop hd (by decide)] at this; exact this.symm
                              clear hd HRN
                              go_wp2_with (go_at_call 18; (with_reducible refine Calls.mono (F_any _ _ _) ?_); rintro e w5 ⟨rfl, hb5⟩; have HQ5 := hide (keep_below (unhide HQ3) hb5); have HX5 := hide (Below.next (unhide HX3) hb5 (Nat.le_refl _)); clear hb5 z0 z1 z2 z3 zl HQ3 HX3 HZ3; obtain ⟨q0, q1, f0, f1, ql⟩ := block2 (unhide HQ5))
                              refine bodyPost_ret (v := .agg #[.int .i64 5, .int .i64 (k : Int)]) (by simp [results, Try.results15, go_sem, q0, q1]) rfl ⟨?_, below_set2 (unhide HX5) (Nat.le_refl _) _ _⟩
                              rw [unhide HE2]
                            · have hd : wrongC (j : Int) ⟨tk, 16, ob, vl⟩ = 0 := by unfold wrongC; dsimp only; rw [if_neg (by omega), if_neg (by omega), if_neg (by omega), if_neg (fun h => u3 h.2), if_neg (fun h => absurd h.1 (by decide))]
                              go_upto_region 12 with fail
                              clear k0 k1 k2 k3
                              have HQ3 := hide (keep_alloc (unhide HQk) (.cells #[.int .i64 tk, .int .i64 16, .int .i64 ob, .int .i64 vl] 41)); have HX3 := hide ((unhide HXk).alloc (unhide HXk).size (.cells #[.int .i64 tk, .int .i64 16, .int .i64 ob, .int .i64 vl] 41)); have HZ3 := hide (new_block wr (.cells #[.int .i64 tk, .int .i64 16, .int .i64 ob, .int .i64 vl] 41))
                              have hZl : w.heap.size < wr.heap.size := size_of (unhide HQk)
                              obtain ⟨Z, eZ⟩ : ∃ X, wr.heap.size = X := ⟨_, rfl⟩
                              obtain ⟨W3, e3⟩ : ∃ X, wr.alloc (.cells #[.int .i64 tk, .int .i64 16, .int .i64 ob, .int .i64 vl] 41) = X := ⟨_, rfl⟩
                              rw [eZ, e3] at HZ3; rw [e3] at HQ3 HX3; rw [eZ] at hZl; rw [eZ, e3]
                              clear eZ e3 HQk HXk
                              obtain ⟨⟨z0, z1, z2, z3⟩, -, zl⟩ := block4 (unhide HZ3)
                              have HRN2 : Hid (firstF (wrongC (j : Int)) (l.drop (k + 1)) ((k : Int) + 1) = R) := by have := unhide HRN; rw [firstF_go hd] at this; exact this
                              clear hd HRN
                              go_wp2_with fail
                              go_roundw
                              case rel => exact ⟨k + 1, by omega, by go_num, HRN2, HQ3, HX3⟩
                              case measure => simp [intOf]; omega
                      · by_cases e11 : op = 11
                        · subst e11
                          by_cases u1 : ob < 0
                          · have hd : wrongC (j : Int) ⟨tk, 11, ob, vl⟩ = 5 := by unfold wrongC; dsimp only; rw [if_neg (by omega), if_neg (by omega), if_pos (by omega)]
                            go_upto_region 12 with fail
                            clear k0 k1 k2 k3
                            have HQ3 := hide (keep_alloc (unhide HQk) (.cells #[.int .i64 tk, .int .i64 11, .int .i64 ob, .int .i64 vl] 41)); have HX3 := hide ((unhide HXk).alloc (unhide HXk).size (.cells #[.int .i64 tk, .int .i64 11, .int .i64 ob, .int .i64 vl] 41)); have HZ3 := hide (new_block wr (.cells #[.int .i64 tk, .int .i64 11, .int .i64 ob, .int .i64 vl] 41))
                            have hZl : w.heap.size < wr.heap.size := size_of (unhide HQk)
                            obtain ⟨Z, eZ⟩ : ∃ X, wr.heap.size = X := ⟨_, rfl⟩
                            obtain ⟨W3, e3⟩ : ∃ X, wr.alloc (.cells #[.int .i64 tk, .int .i64 11, .int .i64 ob, .int .i64 vl] 41) = X := ⟨_, rfl⟩
                            rw [eZ, e3] at HZ3; rw [e3] at HQ3 HX3; rw [eZ] at hZl; rw [eZ, e3]
                            clear eZ e3 HQk HXk
                            obtain ⟨⟨z0, z1, z2, z3⟩, -, zl⟩ := block4 (unhide HZ3)
                            have HE2 : Hid (R = (5, (k : Int))) := by have := unhide HRN; rw [firstF_stop hd (by decide)] at this; exact this.symm
                            clear hd HRN
                            go_wp2_with (go_at_call 18; (with_reducible refine Calls.mono (F_any _ _ _) ?_); rintro e w5 ⟨rfl, hb5⟩; have HQ5 := hide (keep_below (unhide HQ3) hb5); have HX5 := hide (Below.next (unhide HX3) hb5 (Nat.le_refl _)); clear hb5 z0 z1 z2 z3 zl HQ3 HX3 HZ3; obtain ⟨q0, q1, f0, f1, ql⟩ := block2 (unhide HQ5))
                            refine bodyPost_ret (v := .agg #[.int .i64 5, .int .i64 (k : Int)]) (by simp [results, Try.results15, go_sem, q0, q1]) rfl ⟨?_, below_set2 (unhide HX5) (Nat.le_refl _) _ _⟩
                            rw [unhide HE2]
                          · by_cases u2 : 20 < ob
                            · have hd : wrongC (j : Int) ⟨tk, 11, ob, vl⟩ = 5 := by unfold wrongC; dsimp only; rw [if_neg (by omega), if_neg (by omega), if_pos (by omega)]
                              go_upto_region 12 with fail
                              clear k0 k1 k2 k3
                              have HQ3 := hide (keep_alloc (unhide HQk) (.cells #[.int .i64 tk, .int .i64 11, .int .i64 ob, .int .i64 vl] 41)); have HX3 := hide ((unhide HXk).alloc (unhide HXk).size (.cells #[.int .i64 tk, .int .i64 11, .int .i64 ob, .int .i64 vl] 41)); have HZ3 := hide (new_block wr (.cells #[.int .i64 tk, .int .i64 11, .int .i64 ob, .int .i64 vl] 41))
                              have hZl : w.heap.size < wr.heap.size := size_of (unhide HQk)
                              obtain ⟨Z, eZ⟩ : ∃ X, wr.heap.size = X := ⟨_, rfl⟩
                              obtain ⟨W3, e3⟩ : ∃ X, wr.alloc (.cells #[.int .i64 tk, .int .i64 11, .int .i64 ob, .int .i64 vl] 41) = X := ⟨_, rfl⟩
                              rw [eZ, e3] at HZ3; rw [e3] at HQ3 HX3; rw [eZ] at hZl; rw [eZ, e3]
                              clear eZ e3 HQk HXk
                              obtain ⟨⟨z0, z1, z2, z3⟩, -, zl⟩ := block4 (unhide HZ3)
                              have HE2 : Hid (R = (5, (k : Int))) := by have := unhide HRN; rw [firstF_stop hd (by decide)] at this; exact this.symm
                              clear hd HRN
                              go_wp2_with (go_at_call 18; (with_reducible refine Calls.mono (F_any _ _ _) ?_); rintro e w5 ⟨rfl, hb5⟩; have HQ5 := hide (keep_below (unhide HQ3) hb5); have HX5 := hide (Below.next (unhide HX3) hb5 (Nat.le_refl _)); clear hb5 z0 z1 z2 z3 zl HQ3 HX3 HZ3; obtain ⟨q0, q1, f0, f1, ql⟩ := block2 (unhide HQ5))
                              refine bodyPost_ret (v := .agg #[.int .i64 5, .int .i64 (k : Int)]) (by simp [results, Try.results15, go_sem, q0, q1]) rfl ⟨?_, below_set2 (unhide HX5) (Nat.le_refl _) _ _⟩
                              rw [unhide HE2]
                            · by_cases u3 : vl < 1
                              · have hd : wrongC (j : Int) ⟨tk, 11, ob, vl⟩ = 5 := by unfold wrongC; dsimp only; rw [if_neg (by omega), if_neg (by omega), if_neg (by omega), if_neg (fun h => absurd h.1 (by decide)), if_pos ⟨rfl, by omega⟩]
                                go_upto_region 12 with fail
                                clear k0 k1 k2 k3
                                have HQ3 := hide (keep_alloc (unhide HQk) (.cells #[.int .i64 tk, .int .i64 11, .int .i64 ob, .int .i64 vl] 41)); have HX3 := hide ((unhide HXk).alloc (unhide HXk).size (.cells #[.int .i64 tk, .int .i64 11, .int .i64 ob, .int .i64 vl] 41)); have HZ3 := hide (new_block wr (.cells #[.int .i64 tk, .int .i64 11, .int .i64 ob, .int .i64 vl] 41))
                                have hZl : w.heap.size < wr.heap.size := size_of (unhide HQk)
                                obtain ⟨Z, eZ⟩ : ∃ X, wr.heap.size = X := ⟨_, rfl⟩
                                obtain ⟨W3, e3⟩ : ∃ X, wr.alloc (.cells #[.int .i64 tk, .int .i64 11, .int .i64 ob, .int .i64 vl] 41) = X := ⟨_, rfl⟩
                                rw [eZ, e3] at HZ3; rw [e3] at HQ3 HX3; rw [eZ] at hZl; rw [eZ, e3]
                                clear eZ e3 HQk HXk
                                obtain ⟨⟨z0, z1, z2, z3⟩, -, zl⟩ := block4 (unhide HZ3)
                                have HE2 : Hid (R = (5, (k : Int))) := by have := unhide HRN; rw [firstF_stop hd (by decide)] at this; exact this.symm
                                clear hd HRN
                                go_wp2_with (go_at_call 18; (with_reducible refine Calls.mono (F_any _ _ _) ?_); rintro e w5 ⟨rfl, hb5⟩; have HQ5 := hide (keep_below (unhide HQ3) hb5); have HX5 := hide (Below.next (unhide HX3) hb5 (Nat.le_refl _)); clear hb5 z0 z1 z2 z3 zl HQ3 HX3 HZ3; obtain ⟨q0, q1, f0, f1, ql⟩ := block2 (unhide HQ5))
                                refine bodyPost_ret (v := .agg #[.int .i64 5, .int .i64 (k : Int)]) (by simp [results, Try.results15, go_sem, q0, q1]) rfl ⟨?_, below_set2 (unhide HX5) (Nat.le_refl _) _ _⟩
                                rw [unhide HE2]
                              · by_cases u4 : 64 < vl
                                · have hd : wrongC (j : Int) ⟨tk, 11, ob, vl⟩ = 5 := by unfold wrongC; dsimp only; rw [if_neg (by omega), if_neg (by omega), if_neg (by omega), if_neg (fun h => absurd h.1 (by decide)), if_pos ⟨rfl, by omega⟩]
                                  go_upto_region 12 with fail
                                  clear k0 k1 k2 k3
                                  have HQ3 := hide (keep_alloc (unhide HQk) (.cells #[.int .i64 tk, .int .i64 11, .int .i64 ob, .int .i64 vl] 41)); have HX3 := hide ((unhide HXk).alloc (unhide HXk).size (.cells #[.int .i64 tk, .int .i64 11, .int .i64 ob, .int .i64 vl] 41)); have HZ3 := hide (new_block wr (.cells #[.int .i64 tk, .int .i64 11, .int .i64 ob, .int .i64 vl] 41))
                                  have hZl : w.heap.size < wr.heap.size := size_of (unhide HQk)
                                  obtain ⟨Z, eZ⟩ : ∃ X, wr.heap.size = X := ⟨_, rfl⟩
                                  obtain ⟨W3, e3⟩ : ∃ X, wr.alloc (.cells #[.int .i64 tk, .int .i64 11, .int .i64 ob, .int .i64 vl] 41) = X := ⟨_, rfl⟩
                                  rw [eZ, e3] at HZ3; rw [e3] at HQ3 HX3; rw [eZ] at hZl; rw [eZ, e3]
                                  clear eZ e3 HQk HXk
                                  obtain ⟨⟨z0, z1, z2, z3⟩, -, zl⟩ := block4 (unhide HZ3)
                                  have HE2 : Hid (R = (5, (k : Int))) := by have := unhide HRN; rw [firstF_stop hd (by decide)] at this; exact this.symm
                                  clear hd HRN
                                  go_wp2_with (go_at_call 18; (with_reducible refine Calls.mono (F_any _ _ _) ?_); rintro e w5 ⟨rfl, hb5⟩; have HQ5 := hide (keep_below (unhide HQ3) hb5); have HX5 := hide (Below.next (unhide HX3) hb5 (Nat.le_refl _)); clear hb5 z0 z1 z2 z3 zl HQ3 HX3 HZ3; obtain ⟨q0, q1, f0, f1, ql⟩ := block2 (unhide HQ5))
                                  refine bodyPost_ret (v := .agg #[.int .i64 5, .int .i64 (k : Int)]) (by simp [results, Try.results15, go_sem, q0, q1]) rfl ⟨?_, below_set2 (unhide HX5) (Nat.le_refl _) _ _⟩
                                  rw [unhide HE2]
                                · have hd : wrongC (j : Int) ⟨tk, 11, ob, vl⟩ = 0 := by unfold wrongC; dsimp only; rw [if_neg (by omega), if_neg (by omega), if_neg (by omega), if_neg (fun h => absurd h.1 (by decide)), if_neg (fun h => h.2 (by omega))]
                                  go_upto_region 12 with fail
                                  clear k0 k1 k2 k3
                                  have HQ3 := hide (keep_alloc (unhide HQk) (.cells #[.int .i64 tk, .int .i64 11, .int .i64 ob, .int .i64 vl] 41)); have HX3 := hide ((unhide HXk).alloc (unhide HXk).size (.cells #[.int .i64 tk, .int .i64 11, .int .i64 ob, .int .i64 vl] 41)); have HZ3 := hide (new_block wr (.cells #[.int .i64 tk, .int .i64 11, .int .i64 ob, .int .i64 vl] 41))
                                  have hZl : w.heap.size < wr.heap.size := size_of (unhide HQk)
                                  obtain ⟨Z, eZ⟩ : ∃ X, wr.heap.size = X := ⟨_, rfl⟩
                                  obtain ⟨W3, e3⟩ : ∃ X, wr.alloc (.cells #[.int .i64 tk, .int .i64 11, .int .i64 ob, .int .i64 vl] 41) = X := ⟨_, rfl⟩
                                  rw [eZ, e3] at HZ3; rw [e3] at HQ3 HX3; rw [eZ] at hZl; rw [eZ, e3]
                                  clear eZ e3 HQk HXk
                                  obtain ⟨⟨z0, z1, z2, z3⟩, -, zl⟩ := block4 (unhide HZ3)
                                  have HRN2 : Hid (firstF (wrongC (j : Int)) (l.drop (k + 1)) ((k : Int) + 1) = R) := by have := unhide HRN; rw [firstF_go hd] at this; exact this
                                  clear hd HRN
                                  go_wp2_with fail
                                  go_roundw
                                  case rel => exact ⟨k + 1, by omega, by go_num, HRN2, HQ3, HX3⟩
                                  case measure => simp [intOf]; omega
                        · by_cases u1 : ob < 0
                          · have b14 : (op == 14) = false := by simpa using e14
                            have b15 : (op == 15) = false := by simpa using e15
                            have b16 : (op == 16) = false := by simpa using e16
                            have b11 : (op == 11) = false := by simpa using e11
                            have hd : wrongC (j : Int) ⟨tk, op, ob, vl⟩ = 5 := by unfold wrongC; dsimp only; rw [if_neg (by omega), if_neg (by omega), if_pos (by omega)]
                            go_upto_region 12 with fail
                            clear k0 k1 k2 k3
                            have HQ3 := hide (keep_alloc (unhide HQk) (.cells #[.int .i64 tk, .int .i64 op, .int .i64 ob, .int .i64 vl] 41)); have HX3 := hide ((unhide HXk).alloc (unhide HXk).size (.cells #[.int .i64 tk, .int .i64 op, .int .i64 ob, .int .i64 vl] 41)); have HZ3 := hide (new_block wr (.cells #[.int .i64 tk, .int .i64 op, .int .i64 ob, .int .i64 vl] 41))
                            have hZl : w.heap.size < wr.heap.size := size_of (unhide HQk)
                            obtain ⟨Z, eZ⟩ : ∃ X, wr.heap.size = X := ⟨_, rfl⟩
                            obtain ⟨W3, e3⟩ : ∃ X, wr.alloc (.cells #[.int .i64 tk, .int .i64 op, .int .i64 ob, .int .i64 vl] 41) = X := ⟨_, rfl⟩
                            rw [eZ, e3] at HZ3; rw [e3] at HQ3 HX3; rw [eZ] at hZl; rw [eZ, e3]
                            clear eZ e3 HQk HXk
                            obtain ⟨⟨z0, z1, z2, z3⟩, -, zl⟩ := block4 (unhide HZ3)
                            have HE2 : Hid (R = (5, (k : Int))) := by have := unhide HRN; rw [firstF_stop hd (by decide)] at this; exact this.symm
                            clear hd HRN
                            go_wp2_with (go_at_call 18; (with_reducible refine Calls.mono (F_any _ _ _) ?_); rintro e w5 ⟨rfl, hb5⟩; have HQ5 := hide (keep_below (unhide HQ3) hb5); have HX5 := hide (Below.next (unhide HX3) hb5 (Nat.le_refl _)); clear hb5 z0 z1 z2 z3 zl HQ3 HX3 HZ3; obtain ⟨q0, q1, f0, f1, ql⟩ := block2 (unhide HQ5))
                            refine bodyPost_ret (v := .agg #[.int .i64 5, .int .i64 (k : Int)]) (by simp [results, Try.results15, go_sem, q0, q1]) rfl ⟨?_, below_set2 (unhide HX5) (Nat.le_refl _) _ _⟩
                            rw [unhide HE2]
                          · by_cases u2 : 20 < ob
                            · have b14 : (op == 14) = false := by simpa using e14
                              have b15 : (op == 15) = false := by simpa using e15
                              have b16 : (op == 16) = false := by simpa using e16
                              have b11 : (op == 11) = false := by simpa using e11
                              have hd : wrongC (j : Int) ⟨tk, op, ob, vl⟩ = 5 := by unfold wrongC; dsimp only; rw [if_neg (by omega), if_neg (by omega), if_pos (by omega)]
                              go_upto_region 12 with fail
                              clear k0 k1 k2 k3
                              have HQ3 := hide (keep_alloc (unhide HQk) (.cells #[.int .i64 tk, .int .i64 op, .int .i64 ob, .int .i64 vl] 41)); have HX3 := hide ((unhide HXk).alloc (unhide HXk).size (.cells #[.int .i64 tk, .int .i64 op, .int .i64 ob, .int .i64 vl] 41)); have HZ3 := hide (new_block wr (.cells #[.int .i64 tk, .int .i64 op, .int .i64 ob, .int .i64 vl] 41))
                              have hZl : w.heap.size < wr.heap.size := size_of (unhide HQk)
                              obtain ⟨Z, eZ⟩ : ∃ X, wr.heap.size = X := ⟨_, rfl⟩
                              obtain ⟨W3, e3⟩ : ∃ X, wr.alloc (.cells #[.int .i64 tk, .int .i64 op, .int .i64 ob, .int .i64 vl] 41) = X := ⟨_, rfl⟩
                              rw [eZ, e3] at HZ3; rw [e3] at HQ3 HX3; rw [eZ] at hZl; rw [eZ, e3]
                              clear eZ e3 HQk HXk
                              obtain ⟨⟨z0, z1, z2, z3⟩, -, zl⟩ := block4 (unhide HZ3)
                              have HE2 : Hid (R = (5, (k : Int))) := by have := unhide HRN; rw [firstF_stop hd (by decide)] at this; exact this.symm
                              clear hd HRN
                              go_wp2_with (go_at_call 18; (with_reducible refine Calls.mono (F_any _ _ _) ?_); rintro e w5 ⟨rfl, hb5⟩; have HQ5 := hide (keep_below (unhide HQ3) hb5); have HX5 := hide (Below.next (unhide HX3) hb5 (Nat.le_refl _)); clear hb5 z0 z1 z2 z3 zl HQ3 HX3 HZ3; obtain ⟨q0, q1, f0, f1, ql⟩ := block2 (unhide HQ5))
                              refine bodyPost_ret (v := .agg #[.int .i64 5, .int .i64 (k : Int)]) (by simp [results, Try.results15, go_sem, q0, q1]) rfl ⟨?_, below_set2 (unhide HX5) (Nat.le_refl _) _ _⟩
                              rw [unhide HE2]
                            · have b14 : (op == 14) = false := by simpa using e14
                              have b15 : (op == 15) = false := by simpa using e15
                              have b16 : (op == 16) = false := by simpa using e16
                              have b11 : (op == 11) = false := by simpa using e11
                              have hd : wrongC (j : Int) ⟨tk, op, ob, vl⟩ = 0 := by unfold wrongC; dsimp only; rw [if_neg (by omega), if_neg (by omega), if_neg (by omega), if_neg (fun h => by have h5 := h.1; simp [ofPipe] at h5; omega), if_neg (fun h => e11 h.1)]
                              go_upto_region 12 with fail
                              clear k0 k1 k2 k3
                              have HQ3 := hide (keep_alloc (unhide HQk) (.cells #[.int .i64 tk, .int .i64 op, .int .i64 ob, .int .i64 vl] 41)); have HX3 := hide ((unhide HXk).alloc (unhide HXk).size (.cells #[.int .i64 tk, .int .i64 op, .int .i64 ob, .int .i64 vl] 41)); have HZ3 := hide (new_block wr (.cells #[.int .i64 tk, .int .i64 op, .int .i64 ob, .int .i64 vl] 41))
                              have hZl : w.heap.size < wr.heap.size := size_of (unhide HQk)
                              obtain ⟨Z, eZ⟩ : ∃ X, wr.heap.size = X := ⟨_, rfl⟩
                              obtain ⟨W3, e3⟩ : ∃ X, wr.alloc (.cells #[.int .i64 tk, .int .i64 op, .int .i64 ob, .int .i64 vl] 41) = X := ⟨_, rfl⟩
                              rw [eZ, e3] at HZ3; rw [e3] at HQ3 HX3; rw [eZ] at hZl; rw [eZ, e3]
                              clear eZ e3 HQk HXk
                              obtain ⟨⟨z0, z1, z2, z3⟩, -, zl⟩ := block4 (unhide HZ3)
                              have HRN2 : Hid (firstF (wrongC (j : Int)) (l.drop (k + 1)) ((k : Int) + 1) = R) := by have := unhide HRN; rw [firstF_go hd] at this; exact this
                              clear hd HRN
                              go_wp2_with fail
                              go_roundw
                              case rel => exact ⟨k + 1, by omega, by go_num, HRN2, HQ3, HX3⟩
                              case measure => simp [intOf]; omega
        · obtain rfl : k = n0 := by omega
          have i4 : ¬ (k : Int) < (k : Int) := by omega
          have HE2 : Hid (R = (0, 0)) := by have h3 := unhide HRk; rw [List.drop_eq_nil_of_le (by rw [unhide HN0]; exact Nat.le_refl _)] at h3; exact h3.symm
          clear HRk hlt hk
          obtain ⟨q0, q1, f0, f1, ql⟩ := block2 (unhide HQk)
          go_wp2_with fail
          refine bodyPost_ret (v := .agg #[.int .i64 0, .int .i64 0]) (by simp [results, Try.results15, go_sem, q0, q1]) rfl ⟨?_, below_set2 (unhide HXk) (Nat.le_refl _) _ _⟩
          rw [unhide HE2]
theorem tf_any (w : World) (a0 : Option Addr) (n0 c0 : Nat) (a1 : Option Addr) (n1 c1 : Nat) (l : List Ev) (hs : List Int) (hl : IsL KE w (.slice a0 n0 c0) l) (hh : IsL KI w (.slice a1 n1 c1) hs) :
    Calls Try.prog 15 #[.slice a0 n0 c0, .slice a1 n1 c1] w fun e w' => e = .returned (.agg #[.int .i64 (checkF hs l).1, .int .i64 (checkF hs l).2]) ∧ Below w.heap.size w w' := by
  unfold checkF
  rw [hl.len, hh.len]
  by_cases h1 : 2000 < n0
  · rw [if_pos (Or.inl h1)]
    exact tf_many1 w a0 n0 c0 a1 n1 c1 h1
  · by_cases h2 : 20 < n1
    · rw [if_pos (Or.inr h2)]
      exact tf_many2 w a0 n0 c0 a1 n1 c1 h1 h2
    · rw [if_neg (fun h => h.elim h1 h2)]
      exact tf_loops w a0 n0 c0 a1 n1 c1 l hs hl hh h1 h2 _ rfl
end Go.Proofs.Ytbnmeeabpjmcoaa
