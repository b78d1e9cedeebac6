/-
  taskmillref.HeapFault, alarm.checkMade, alarm.haveBelow.
-/
import Derived.Test.YtcfjpjojckngeaaC
namespace Go.Proofs.Ytcfjpjojckngeaa
open Go.RowKit

set_option maxRecDepth 100000 in
set_option maxHeartbeats 1000000 in
theorem hfault_many (w : World) (a : Option Addr) (n c : Nat) (hmn : 5000 < n) (hn : n ≤ maxLen) :
    Calls Try.prog 12 #[.slice a n c] w fun e w' => e = .returned (.agg #[.int .i64 2, .int .i64 0]) ∧ Below w.heap.size w w' := by
  unfold maxLen at hn
  have h1 : (5000 : Int) < (n : Int) := by omega
  go_enter Try.func12, Try.ntmps12
  go_wp2_with (go_at_call 15; refine (f_any _ _ _).mono ?_; rintro e w1 ⟨rfl, hb1⟩; have hx1 := hb1.mono (show w.heap.size + 1 ≤ _ by simp); obtain ⟨r0, r1, f0, f1⟩ := res1 hx1; have HX := hide hx1; clear hb1 hx1)
  exact bodyPost_ret (v := .agg #[.int .i64 2, .int .i64 0]) (by simp [results, Try.results12, go_sem, r0, r1]) rfl ⟨rfl, end1 (unhide HX)⟩

set_option maxRecDepth 100000 in
set_option maxHeartbeats 1000000 in
theorem hfault_zero (w : World) (a : Option Addr) (c : Nat) :
    Calls Try.prog 12 #[.slice a 0 c] w fun e w' => e = .returned (faultV (0, 0)) ∧ Below w.heap.size w w' := by
  go_enter Try.func12, Try.ntmps12
  go_wp2
  go_loopw [3] (fun i wr => i = .int .i64 0 ∧ wr = (w.alloc (.cells #[.int .i64 0, .int .i64 0] 28))) (fun i _ => 0)
  case atStart => exact ⟨rfl, rfl⟩
  case round =>
    obtain ⟨rfl, rfl⟩ := hrel
    obtain ⟨r0, r1, f0, f1⟩ := res1 (Below.refl (w.heap.size + 1) (w.alloc (.cells #[.int .i64 0, .int .i64 0] 28)))
    go_wp2
    exact bodyPost_ret (v := .agg #[.int .i64 0, .int .i64 0]) (by simp [results, Try.results12, go_sem, r0, r1]) rfl ⟨rfl, (Below.refl _ _).alloc (Nat.le_refl _) _⟩

set_option maxRecDepth 100000 in
set_option maxHeartbeats 1000000 in
theorem hfault_some (w : World) (b off c n : Nat) (ts : List Tm) (hl : ts.length = n) (hmn : n ≤ 5000) (hb : b < w.heap.size) (hc : Cells w b off ts) :
    Calls Try.prog 12 #[.slice (some ⟨b, off, none⟩) n c] w fun e w' => e = .returned (faultV (firstFrom (heapW ts) n 0)) ∧ Below w.heap.size w w' := by
  have h1 : ¬ (5000 : Int) < (n : Int) := by omega
  have HC : Hid (∀ W, Below w.heap.size w W → ∀ j, j < n → W.cell? ⟨b, off + j * 2, none⟩ = some (.int .i64 (tAt ts j).1) ∧ W.cell? ⟨b, off + j * 2 + 1, none⟩ = some (.int .i64 (tAt ts j).2)) := fun W hW j hj => hc.below hW hb j (by rw [hl]; exact hj)
  obtain ⟨V, hV⟩ : ∃ V, heapW ts = V := ⟨_, rfl⟩
  rw [hV]
  have HV : Hid (∀ j, V j = heapW ts j) := fun j => by rw [hV]
  clear hc hl hV
  go_enter Try.func12, Try.ntmps12
  go_wp2
  go_loopw [3] (fun i wr => ∃ j : Nat, j ≤ n ∧ i = .int .i64 j ∧ firstFrom V n 0 = firstFrom V (n - j) j ∧ Below (w.heap.size + 1) (w.alloc (.cells #[.int .i64 0, .int .i64 0] 28)) wr) (fun i _ => n - (intOf i).toNat)
  case atStart => exact ⟨0, Nat.zero_le _, rfl, rfl, Below.refl _ _⟩
  case round =>
    obtain ⟨j, hj, rfl, hfrom, hnx⟩ := hrel
    have HF := hide hfrom
    have HX := hide hnx
    clear hfrom
    by_cases hlt : j < n
    · obtain ⟨k0, k1⟩ := unhide HC _ (below1 hnx) j hlt
      have hVj := unhide HV j
      unfold heapW at hVj
      obtain ⟨x, hx⟩ : ∃ x, (tAt ts j).1 = x := ⟨_, rfl⟩
      obtain ⟨y, hy⟩ : ∃ y, (tAt ts j).2 = y := ⟨_, rfl⟩
      have hp : tAt ts j = (x, y) := by rw [← hx, ← hy]
      rw [hx] at k0
      rw [hy] at k1
      rw [hp] at hVj
      have HPX := hide hp
      clear hx hy hp
      have i0 : (0 : Int) ≤ (j : Int) := by omega
      have i1 : (j : Int) < (n : Int) := by omega
      clear hnx
      by_cases ho : oor (x, y)
      · rw [if_pos ho] at hVj
        have HTF : Hid (∀ W, Calls Try.prog 14 #[.agg #[.int .i64 x, .int .i64 y], .int .i64 j] W fun e w' => e = .returned (.agg #[.int .i64 3, .int .i64 j]) ∧ Below W.heap.size W w') := fun W => by
          have := timerFault_any W x y j
          rw [if_pos ho] at this
          exact this
        go_upto_region 7 with (go_at_call 14; refine (unhide HTF _).mono ?_; rintro e w2 ⟨rfl, hb2⟩; have HX2 := hide (next1 (unhide HX) hb2); clear hb2 k0 k1)
        have T01 := hide (new2 (Below.refl _ (w2.alloc (.cells #[.int .i64 3, .int .i64 (j : Int)] 28))))
        have HX3 := hide ((unhide HX2).alloc (Nat.le_trans (by simp) (unhide HX2).size) (.cells #[.int .i64 3, .int .i64 (j : Int)] 28))
        obtain ⟨T, hT⟩ : ∃ T, w2.heap.size = T := ⟨_, rfl⟩
        obtain ⟨W3, hW3⟩ : ∃ W, w2.alloc (.cells #[.int .i64 3, .int .i64 (j : Int)] 28) = W := ⟨_, rfl⟩
        rw [hW3, hT] at T01
        rw [hW3] at HX3
        rw [hW3, hT]
        clear hW3 hT
        obtain ⟨t0, t1⟩ := unhide T01
        obtain ⟨r0, r1, f0, f1⟩ := res1 (unhide HX3)
        go_wp2_with fail
        refine bodyPost_ret (v := .agg #[.int .i64 3, .int .i64 (j : Int)]) (by simp [results, Try.results12, go_sem, r0, r1]) rfl ⟨ret_fault ?_, end1 (unhide HX3)⟩
        rw [unhide HF, firstFrom_here hlt (by rw [hVj]; decide), hVj]
      · rw [if_neg ho] at hVj
        have HTF : Hid (∀ W, Calls Try.prog 14 #[.agg #[.int .i64 x, .int .i64 y], .int .i64 j] W fun e w' => e = .returned (.agg #[.int .i64 0, .int .i64 0]) ∧ Below W.heap.size W w') := fun W => by
          have := timerFault_any W x y j
          rw [if_neg ho] at this
          exact this
        by_cases hj0 : 0 < j
        · obtain ⟨K, hK⟩ : ∃ K, (j - 1) / 4 = K := ⟨_, rfl⟩
          have hKn : K < n := by omega
          have wj : IntKind.i64.wrap ((j : Int) - 1) = (j : Int) - 1 := by simp [IntKind.wrap, IntKind.bits, IntKind.signed]; omega
          have wk : IntKind.i64.wrap (((j : Int) - 1).tdiv 4) = (K : Int) := by rw [Int.tdiv_eq_ediv_of_nonneg (by omega)]; simp [IntKind.wrap, IntKind.bits, IntKind.signed]; omega
          rw [hK] at hVj
          clear hK
          obtain ⟨u, hu⟩ : ∃ u, (tAt ts K).1 = u := ⟨_, rfl⟩
          have HKC : Hid (∀ W, Below w.heap.size w W → W.cell? ⟨b, off + j * 2, none⟩ = some (.int .i64 x) ∧ W.cell? ⟨b, off + K * 2, none⟩ = some (.int .i64 u)) := fun W hW => by
            have h3 := (unhide HC W hW K hKn).1
            have h4 := (unhide HC W hW j hlt).1
            rw [hu] at h3
            rw [unhide HPX] at h4
            exact ⟨h4, h3⟩
          rw [hu] at hVj
          clear hu
          have g1 : (0 : Int) < (j : Int) := by omega
          have g2 : (0 : Int) ≤ (K : Int) := by omega
          have g3 : (K : Int) < (n : Int) := by omega
          go_upto_region 7 with (go_at_call 14; refine (unhide HTF _).mono ?_; rintro e w2 ⟨rfl, hb2⟩; have HX2 := hide (next1 (unhide HX) hb2); clear hb2 k0 k1)
          have T01 := hide (new2 (Below.refl _ (w2.alloc (.cells #[.int .i64 0, .int .i64 0] 28))))
          have HX3 := hide ((unhide HX2).alloc (Nat.le_trans (by simp) (unhide HX2).size) (.cells #[.int .i64 0, .int .i64 0] 28))
          obtain ⟨T, hT⟩ : ∃ T, w2.heap.size = T := ⟨_, rfl⟩
          obtain ⟨W3, hW3⟩ : ∃ W, w2.alloc (.cells #[.int .i64 0, .int .i64 0] 28) = W := ⟨_, rfl⟩
          rw [hW3, hT] at T01
          rw [hW3] at HX3
          rw [hW3, hT]
          clear hW3 hT
          obtain ⟨t0, t1⟩ := unhide T01
          obtain ⟨k0, k2⟩ := unhide HKC _ (below1 (unhide HX3))
          by_cases hs : x < u
          · rw [if_pos ⟨hj0, hs⟩] at hVj
            have hs1 : decide (x < u) = true := decide_eq_true hs
            go_wp2_with fail
            go_quiet (fail)
            have HX4 := hide (below_drewN (unhide HX3) nq)
            clear k0 k2 t0 t1
            go_wp2_with (go_at_call 15; refine (f_any _ _ _).mono ?_; rintro e w5 ⟨rfl, hb5⟩; have HX5 := hide (next1 (unhide HX4) hb5); obtain ⟨r0, r1, f0, f1⟩ := res1 (unhide HX5); clear hb5)
            refine bodyPost_ret (v := .agg #[.int .i64 5, .int .i64 (j : Int)]) (by simp [results, Try.results12, go_sem, r0, r1]) rfl ⟨ret_fault ?_, end1 (unhide HX5)⟩
            rw [unhide HF, firstFrom_here hlt (by rw [hVj]; decide), hVj]
          · rw [if_neg (fun h => hs h.2)] at hVj
            have hs1 : decide (x < u) = false := decide_eq_false hs
            go_wp2_with fail
            go_quiet (fail)
            have HX4 := hide (below_drewN (unhide HX3) nq)
            clear k0 k2 t0 t1
            go_wp2_with fail
            go_roundw
            case rel => exact ⟨j + 1, by omega, by go_num, (unhide HF).trans (firstFrom_next hlt hVj), unhide HX4⟩
            case measure => simp [intOf]; omega
        · rw [if_neg (fun h => hj0 h.1)] at hVj
          have hd : decide ((0 : Int) < (j : Int)) = false := by simp; omega
          go_upto_region 7 with (go_at_call 14; refine (unhide HTF _).mono ?_; rintro e w2 ⟨rfl, hb2⟩; have HX2 := hide (next1 (unhide HX) hb2); clear hb2 k0 k1)
          have T01 := hide (new2 (Below.refl _ (w2.alloc (.cells #[.int .i64 0, .int .i64 0] 28))))
          have HX3 := hide ((unhide HX2).alloc (Nat.le_trans (by simp) (unhide HX2).size) (.cells #[.int .i64 0, .int .i64 0] 28))
          obtain ⟨T, hT⟩ : ∃ T, w2.heap.size = T := ⟨_, rfl⟩
          obtain ⟨W3, hW3⟩ : ∃ W, w2.alloc (.cells #[.int .i64 0, .int .i64 0] 28) = W := ⟨_, rfl⟩
          rw [hW3, hT] at T01
          rw [hW3] at HX3
          rw [hW3, hT]
          clear hW3 hT
          obtain ⟨t0, t1⟩ := unhide T01
          go_wp2_with fail
          go_quiet (fail)
          have HX4 := hide (below_drewN (unhide HX3) nq)
          clear t0 t1
          go_wp2_with fail
          go_roundw
          case rel => exact ⟨j + 1, by omega, by go_num, (unhide HF).trans (firstFrom_next hlt hVj), unhide HX4⟩
          case measure => simp [intOf]; omega
    · obtain ⟨r0, r1, f0, f1⟩ := res1 hnx
      clear hnx
      go_wp2
      refine bodyPost_ret (v := .agg #[.int .i64 0, .int .i64 0]) (by simp [results, Try.results12, go_sem, r0, r1]) rfl ⟨ret_fault ((unhide HF).trans (firstFrom_none (by omega))), end1 (unhide HX)⟩

theorem hfault_any (w : World) (v : Value) (ts : List Tm) (h : IsTs w v ts) (hn : ts.length ≤ maxLen) :
    Calls Try.prog 12 #[v] w fun e w' => e = .returned (faultV (heapF ts)) ∧ Below w.heap.size w w' := by
  unfold heapF
  by_cases h1 : 5000 < ts.length
  · rw [if_pos h1]
    obtain ⟨a, c, rfl⟩ := Rd.form h
    exact hfault_many w a ts.length c h1 hn
  · rw [if_neg h1]
    by_cases h0 : 0 < ts.length
    · obtain ⟨b, off, c, rfl, hb, hc⟩ := h.at h0
      exact hfault_some w b off c ts.length ts rfl (by omega) hb hc
    · obtain ⟨a, c, rfl⟩ := Rd.form h
      have e0 : ts.length = 0 := by omega
      rw [e0]
      exact hfault_zero w a c

set_option maxRecDepth 100000 in
set_option maxHeartbeats 1000000 in
theorem cmade_many (w : World) (a : Option Addr) (n c : Nat) (hmn : 5000 < n) (hn : n ≤ maxLen) :
    Calls Try.prog 31 #[.slice a n c] w fun e w' => e = .returned (.agg #[.int .i64 2, .int .i64 0]) ∧ Below w.heap.size w w' := by
  unfold maxLen at hn
  have h1 : (5000 : Int) < (n : Int) := by omega
  go_enter Try.func31, Try.ntmps31
  go_wp2
  exact bodyPost_ret (v := .agg #[.int .i64 2, .int .i64 0]) (by simp [results, Try.results31, go_sem]) rfl ⟨rfl, (Below.refl _ _).alloc (Nat.le_refl _) _⟩

set_option maxRecDepth 100000 in
set_option maxHeartbeats 1000000 in
theorem cmade_zero (w : World) (a : Option Addr) (c : Nat) :
    Calls Try.prog 31 #[.slice a 0 c] w fun e w' => e = .returned (faultV (0, 0)) ∧ Below w.heap.size w w' := by
  go_enter Try.func31, Try.ntmps31
  go_wp2
  go_loopw [11] (fun i wr => i = .int .i64 0 ∧ wr = (w.alloc (.cells #[.int .i64 0, .int .i64 0] 28))) (fun i _ => 0)
  case atStart => exact ⟨rfl, rfl⟩
  case round =>
    obtain ⟨rfl, rfl⟩ := hrel
    obtain ⟨r0, r1, f0, f1⟩ := res1 (Below.refl (w.heap.size + 1) (w.alloc (.cells #[.int .i64 0, .int .i64 0] 28)))
    go_wp2
    exact bodyPost_ret (v := .agg #[.int .i64 0, .int .i64 0]) (by simp [results, Try.results31, go_sem, r0, r1]) rfl ⟨rfl, (Below.refl _ _).alloc (Nat.le_refl _) _⟩

set_option maxRecDepth 100000 in
set_option maxHeartbeats 1000000 in
theorem cmade_some (w : World) (b off c n : Nat) (ts : List Tm) (hl : ts.length = n) (hmn : n ≤ 5000) (hb : b < w.heap.size) (hc : Cells w b off ts) :
    Calls Try.prog 31 #[.slice (some ⟨b, off, none⟩) n c] w fun e w' => e = .returned (faultV (firstFrom (madeW ts) n 0)) ∧ Below w.heap.size w w' := by
  have h1 : ¬ (5000 : Int) < (n : Int) := by omega
  have HC : Hid (∀ W, Below w.heap.size w W → ∀ j, j < n → W.cell? ⟨b, off + j * 2, none⟩ = some (.int .i64 (tAt ts j).1) ∧ W.cell? ⟨b, off + j * 2 + 1, none⟩ = some (.int .i64 (tAt ts j).2)) := fun W hW j hj => hc.below hW hb j (by rw [hl]; exact hj)
  obtain ⟨V, hV⟩ : ∃ V, madeW ts = V := ⟨_, rfl⟩
  rw [hV]
  have HV : Hid (∀ j, V j = madeW ts j) := fun j => by rw [hV]
  clear hc hl hV
  go_enter Try.func31, Try.ntmps31
  go_wp2
  go_loopw [11] (fun i wr => ∃ j : Nat, j ≤ n ∧ i = .int .i64 j ∧ firstFrom V n 0 = firstFrom V (n - j) j ∧ Below (w.heap.size + 1) (w.alloc (.cells #[.int .i64 0, .int .i64 0] 28)) wr) (fun i _ => n - (intOf i).toNat)
  case atStart => exact ⟨0, Nat.zero_le _, rfl, rfl, Below.refl _ _⟩
  case round =>
    obtain ⟨j, hj, rfl, hfrom, hnx⟩ := hrel
    have HF := hide hfrom
    have HX := hide hnx
    clear hfrom
    by_cases hlt : j < n
    · obtain ⟨k0, k1⟩ := unhide HC _ (below1 hnx) j hlt
      have hVj := unhide HV j
      unfold madeW at hVj
      obtain ⟨x, hx⟩ : ∃ x, (tAt ts j).1 = x := ⟨_, rfl⟩
      obtain ⟨y, hy⟩ : ∃ y, (tAt ts j).2 = y := ⟨_, rfl⟩
      have hp : tAt ts j = (x, y) := by rw [← hx, ← hy]
      rw [hx] at k0
      rw [hy] at k1
      rw [hp] at hVj
      have HPX := hide hp
      clear hx hy hp
      have i0 : (0 : Int) ≤ (j : Int) := by omega
      have i1 : (j : Int) < (n : Int) := by omega
      clear hnx
      by_cases ho : oor (x, y)
      · rw [if_pos ho] at hVj
        have ho1 : decide (oor (x, y)) = true := decide_eq_true ho
        go_upto_region 7 with (go_at_call 23; refine (oor_any _ _ _).mono ?_; rintro e w2 ⟨rfl, hb2⟩; obtain ⟨t0, t1⟩ := new2 hb2; have HX2 := hide (next1a (unhide HX) hb2); clear hb2 k0 k1)
        obtain ⟨r0, r1, f0, f1⟩ := res1 (unhide HX2)
        go_wp2_with fail
        refine bodyPost_ret (v := .agg #[.int .i64 3, .int .i64 (j : Int)]) (by simp [results, Try.results31, go_sem, r0, r1]) rfl ⟨ret_fault ?_, end1 (unhide HX2)⟩
        rw [unhide HF, firstFrom_here hlt (by rw [hVj]; decide), hVj]
      · rw [if_neg ho] at hVj
        have ho1 : decide (oor (x, y)) = false := decide_eq_false ho
        go_wp2_with (go_at_call 23; refine (oor_any _ _ _).mono ?_; rintro e w2 ⟨rfl, hb2⟩; obtain ⟨t0, t1⟩ := new2 hb2; have HX2 := hide (next1a (unhide HX) hb2); clear hb2 k0 k1)
        clear t0 t1
        go_roundw
        case rel => exact ⟨j + 1, by omega, by go_num, (unhide HF).trans (firstFrom_next hlt hVj), unhide HX2⟩
        case measure => simp [intOf]; omega
    · obtain ⟨r0, r1, f0, f1⟩ := res1 hnx
      clear hnx
      go_wp2
      refine bodyPost_ret (v := .agg #[.int .i64 0, .int .i64 0]) (by simp [results, Try.results31, go_sem, r0, r1]) rfl ⟨ret_fault ((unhide HF).trans (firstFrom_none (by omega))), end1 (unhide HX)⟩

theorem cmade_any (w : World) (v : Value) (ts : List Tm) (h : IsTs w v ts) (hn : ts.length ≤ maxLen) :
    Calls Try.prog 31 #[v] w fun e w' => e = .returned (faultV (madeF ts)) ∧ Below w.heap.size w w' := by
  unfold madeF
  by_cases h1 : 5000 < ts.length
  · rw [if_pos h1]
    obtain ⟨a, c, rfl⟩ := Rd.form h
    exact cmade_many w a ts.length c h1 hn
  · rw [if_neg h1]
    by_cases h0 : 0 < ts.length
    · obtain ⟨b, off, c, rfl, hb, hc⟩ := h.at h0
      exact cmade_some w b off c ts.length ts rfl (by omega) hb hc
    · obtain ⟨a, c, rfl⟩ := Rd.form h
      have e0 : ts.length = 0 := by omega
      rw [e0]
      exact cmade_zero w a c

set_option maxRecDepth 100000 in
set_option maxHeartbeats 400000 in
theorem haveBelow_any (w : World) (n : Nat) (hn : n ≤ 100000) :
    Calls Try.prog 32 #[.int .i64 n] w fun e w' => e = .returned (.int .i64 (((n + 2) / 4 : Nat) : Int)) ∧ w' = w := by
  have e : (((n + 2) / 4 : Nat) : Int) = ((n : Int) + 2) / 4 := by omega
  rw [e]
  have w1 : IntKind.i64.wrap ((n : Int) + 4) = (n : Int) + 4 := by simp [IntKind.wrap, IntKind.bits, IntKind.signed]; omega
  have w2 : IntKind.i64.wrap ((n : Int) + 4 - 2) = (n : Int) + 2 := by simp [IntKind.wrap, IntKind.bits, IntKind.signed]; omega
  have w3 : IntKind.i64.wrap (((n : Int) + 2) / 4) = ((n : Int) + 2) / 4 := by simp [IntKind.wrap, IntKind.bits, IntKind.signed]; omega
  go_enter Try.func32, Try.ntmps32
  go_wp2
  go_ret
  exact ⟨rfl, rfl⟩
end Go.Proofs.Ytcfjpjojckngeaa
