/-
  taskmilllaw.WaitHalves returns true.
-/
import Derived.Test.YtjlcfdhghohccaaWb
namespace Go.Proofs.Ytjlcfdhghohccaa
open Go.RowKit

theorem fld (a b : Int) (W : World) : (Instr.field 27 (.agg #[.int .i64 a, .int .i64 b]) 0).run Try.prog W = .ok (.int .i64 a) W := by kernel_rfl

set_option maxRecDepth 100000 in
set_option maxHeartbeats 1000000 in
theorem vast_bool (w : World) (a : Option Addr) (n c : Nat) (ls : List Ln) (hl : ls.length = n) (h : IsLs w (.slice a n c) ls) (hm : n ≤ maxLen) (ht : ∀ j, j < n → (lAt ls j).2.length ≤ 17592186044416) :
    Calls Try.prog 9 #[.slice a n c] w fun e w' => e = .returned (.bool (decide (6000 < n ∨ 6000 < (waitL ls).length))) ∧ w' = w := by
  obtain ⟨B, hB⟩ : ∃ B, decide (6000 < n ∨ 6000 < (waitL ls).length) = B := ⟨_, rfl⟩
  rw [hB]
  have HBB := hide hB
  clear hB
  unfold maxLen at hm
  have HA := hide (h.opens hl)
  have HB := hide (waitL_bound (by rw [hl]; exact ht))
  have HL := hide hl
  clear h ht hl
  go_enter Try.func9, Try.ntmps9
  go_wp2
  go_loopw [3, 4] (fun s i wr => ∃ (j : Nat) (z : Int), j ≤ n ∧ s = .int .i64 z ∧ i = .int .i64 j ∧ wr = w ∧ Summed n ls j z) (fun _ i _ => n - (intOf i).toNat)
  case atStart => exact ⟨0, 0, Nat.zero_le _, rfl, rfl, rfl, fun _ => by simp [waitL]⟩
  case round =>
    obtain ⟨j, z, hj, rfl, rfl, rfl, hz⟩ := hrel
    have HZ := hide hz
    clear hz
    by_cases hlt : j < n
    · obtain ⟨b, off, rfl, hb, hc⟩ := unhide HA (by omega)
      obtain ⟨k0, av, cv, k1, _⟩ := hc j (by rw [unhide HL]; exact hlt)
      have i0 : (0 : Int) ≤ (j : Int) := by omega
      have i1 : (j : Int) < (n : Int) := by omega
      obtain ⟨m, em⟩ : ∃ m, (lAt ls j).2.length = m := ⟨_, rfl⟩
      rw [em] at k1
      have HS : Hid (Summed n ls (j + 1) (IntKind.i64.wrap (z + m))) := fun h6 => by
        have h1 := unhide HZ h6
        have h2 := unhide HB (j + 1) (by rw [unhide HL]; omega)
        rw [waitL_take (by rw [unhide HL]; exact hlt), List.length_append, em] at h2 ⊢
        have h3 : (j + 1) * 17592186044416 ≤ 6000 * 17592186044416 := Nat.mul_le_mul_right _ (by omega)
        rw [h1]
        simp [IntKind.wrap, IntKind.bits, IntKind.signed]
        omega
      obtain ⟨y, ey⟩ : ∃ y, IntKind.i64.wrap (z + m) = y := ⟨_, rfl⟩
      rw [ey] at HS
      clear em hc hb
      go_wp2
      go_roundw
      case rel => exact ⟨j + 1, y, by omega, rfl, by go_num, by first | rfl | trivial, unhide HS⟩
      case measure => simp [intOf]; omega
    · have e : j = n := by omega
      subst e
      by_cases h6 : 6000 < j
      · have c1 : (6000 : Int) < (j : Int) := by omega
        go_wp2
        go_ret
        refine ⟨?_, rfl⟩
        rw [← unhide HBB, decide_eq_true (Or.inl h6)]; rfl
      · have c1 : ¬ (6000 : Int) < (j : Int) := by omega
        have h1 := unhide HZ (by omega)
        rw [List.take_of_length_le (by rw [unhide HL]; omega)] at h1
        have HH := hide h1
        clear h1
        by_cases h7 : (6000 : Int) < z
        · go_wp2
          go_ret
          refine ⟨?_, rfl⟩
          rw [← unhide HBB, decide_eq_true (Or.inr (by have := unhide HH; omega))]; rfl
        · go_wp2
          go_ret
          refine ⟨?_, rfl⟩
          rw [← unhide HBB, decide_eq_false (by have := unhide HH; omega)]; rfl


set_option maxRecDepth 100000 in
set_option maxHeartbeats 4000000 in
theorem halves_early (w : World) (a : Option Addr) (n c : Nat) (x y m k : Int) (ls : List Ln) (h : Arg w a n c ls) (hno : ¬ ((n ≤ 6000 ∧ (waitL ls).length ≤ 300 ∧ linesF ls = (0, 0)) ∧ 0 ≤ m ∧ 0 ≤ k ∧ m ≤ 1000 ∧ k ≤ 1000 ∧ x ≠ y)) :
    Calls Try.prog 7 #[.slice a n c, .int .i64 x, .int .i64 y, .int .i64 m, .int .i64 k] w fun e w' => e = .returned (.bool true) ∧ Below w.heap.size w w' := by
  have hnot : ∀ (x : Bool) (w : World), (Op.unary .not (.bool x)).run Try.prog w = .ok (.bool (!x)) w := fun _ _ => rfl
  have hfld := fld
  have hl := h.rd.len
  have HVS : Hid (∀ W, Below w.heap.size w W → Calls Try.prog 9 #[.slice a n c] W fun e w' => e = .returned (.bool (decide (6000 < n ∨ 6000 < (waitL ls).length))) ∧ w' = W) := fun W hW => vast_bool W a n c ls hl (h.rd.below hW) h.max h.each
  by_cases h6 : 6000 < n ∨ 6000 < (waitL ls).length
  · rw [decide_eq_true h6] at HVS
    clear h hno h6 hl
    go_enter Try.func7, Try.ntmps7
    go_wp2_with (first
      | (go_at_call 8; refine (begun_any _).mono ?_; rintro e w1 ⟨rfl, hb1⟩; have HX1 := hide hb1; clear hb1)
      | (go_at_call 9; refine (unhide HVS _ (unhide HX1)).mono ?_; rintro e w1 ⟨rfl, rfl⟩))
    go_ret
    exact ⟨rfl, unhide HX1⟩
  · rw [decide_eq_false h6] at HVS
    have HWA : Hid (∀ W, Below w.heap.size w W → Calls Try.prog 17 #[.slice a n c] W fun e w' => ∃ a' c', e = .returned (.slice a' (waitL ls).length c') ∧ IsInts w' (.slice a' (waitL ls).length c') (waitL ls) ∧ Below W.heap.size W w') := fun W hW => waiting_any W a n c ls hl (h.rd.below hW) (by omega) (by omega)
    have HLF : Hid (∀ W, Below w.heap.size w W → Calls Try.prog 13 #[.slice a n c] W fun e w' => e = .returned (.agg #[.int .i64 (linesF ls).1, .int .i64 (linesF ls).2]) ∧ Below W.heap.size W w') := fun W hW => lf_any W a n c ls (h.rd.below hW) h.max h.each
    have hz : (linesF ls).1 = 0 → linesF ls = (0, 0) := linesF_zero
    obtain ⟨q, hq⟩ : ∃ q, (waitL ls).length = q := ⟨_, rfl⟩
    obtain ⟨u, hu⟩ : ∃ u, (linesF ls).1 = u := ⟨_, rfl⟩
    obtain ⟨v, hv⟩ : ∃ v, (linesF ls).2 = v := ⟨_, rfl⟩
    rw [hu] at hz
    rw [hq] at h6 hno HWA
    rw [hu, hv] at HLF
    clear h hl hu hv
    by_cases h3 : 300 < q
    · have c3 : (300 : Int) < (q : Int) := by omega
      clear hno hz hq h6
      go_enter Try.func7, Try.ntmps7
      go_wp2_with (first
        | (go_at_call 8; refine (begun_any _).mono ?_; rintro e w1 ⟨rfl, hb1⟩; have HX1 := hide hb1; clear hb1)
        | (go_at_call 9; refine (unhide HVS _ (unhide HX1)).mono ?_; rintro e w1 ⟨rfl, rfl⟩)
        | (go_at_call 17; refine (unhide HWA _ (unhide HX1)).mono ?_; rintro e w2 ⟨a2, c2, rfl, _, hb2⟩; have HX2 := hide (Below.next (unhide HX1) hb2 (Nat.le_refl _)); clear hb2)
        | (go_at_call 13; refine (unhide HLF _ (unhide HX2)).mono ?_; rintro e w3 ⟨rfl, hb3⟩; have HX3 := hide (Below.next (unhide HX2) hb3 (Nat.le_refl _)); clear hb3))
      go_ret
      exact ⟨rfl, unhide HX2⟩
    · have c3 : ¬ (300 : Int) < (q : Int) := by omega
      by_cases hu : u = 0
      · have hz0 := hz hu
        subst hu
        have hno2 : ¬ (0 ≤ m ∧ 0 ≤ k ∧ m ≤ 1000 ∧ k ≤ 1000 ∧ x ≠ y) := fun h9 => hno ⟨⟨by omega, by omega, hz0⟩, h9⟩
        clear hno hz hz0 hq h6
        by_cases m0 : m < 0
        · clear hno2
          go_enter Try.func7, Try.ntmps7
          go_wp2_with (first
            | (go_at_call 8; refine (begun_any _).mono ?_; rintro e w1 ⟨rfl, hb1⟩; have HX1 := hide hb1; clear hb1)
            | (go_at_call 9; refine (unhide HVS _ (unhide HX1)).mono ?_; rintro e w1 ⟨rfl, rfl⟩)
            | (go_at_call 17; refine (unhide HWA _ (unhide HX1)).mono ?_; rintro e w2 ⟨a2, c2, rfl, _, hb2⟩; have HX2 := hide (Below.next (unhide HX1) hb2 (Nat.le_refl _)); clear hb2)
            | (go_at_call 13; refine (unhide HLF _ (unhide HX2)).mono ?_; rintro e w3 ⟨rfl, hb3⟩; have HX3 := hide (Below.next (unhide HX2) hb3 (Nat.le_refl _)); clear hb3))
          go_ret
          exact ⟨rfl, unhide HX3⟩
        · by_cases k0 : k < 0
          · clear hno2
            go_enter Try.func7, Try.ntmps7
            go_wp2_with (first
              | (go_at_call 8; refine (begun_any _).mono ?_; rintro e w1 ⟨rfl, hb1⟩; have HX1 := hide hb1; clear hb1)
              | (go_at_call 9; refine (unhide HVS _ (unhide HX1)).mono ?_; rintro e w1 ⟨rfl, rfl⟩)
              | (go_at_call 17; refine (unhide HWA _ (unhide HX1)).mono ?_; rintro e w2 ⟨a2, c2, rfl, _, hb2⟩; have HX2 := hide (Below.next (unhide HX1) hb2 (Nat.le_refl _)); clear hb2)
              | (go_at_call 13; refine (unhide HLF _ (unhide HX2)).mono ?_; rintro e w3 ⟨rfl, hb3⟩; have HX3 := hide (Below.next (unhide HX2) hb3 (Nat.le_refl _)); clear hb3))
            go_ret
            exact ⟨rfl, unhide HX3⟩
          · by_cases m1 : 1000 < m
            · clear hno2
              go_enter Try.func7, Try.ntmps7
              go_wp2_with (first
                | (go_at_call 8; refine (begun_any _).mono ?_; rintro e w1 ⟨rfl, hb1⟩; have HX1 := hide hb1; clear hb1)
                | (go_at_call 9; refine (unhide HVS _ (unhide HX1)).mono ?_; rintro e w1 ⟨rfl, rfl⟩)
                | (go_at_call 17; refine (unhide HWA _ (unhide HX1)).mono ?_; rintro e w2 ⟨a2, c2, rfl, _, hb2⟩; have HX2 := hide (Below.next (unhide HX1) hb2 (Nat.le_refl _)); clear hb2)
                | (go_at_call 13; refine (unhide HLF _ (unhide HX2)).mono ?_; rintro e w3 ⟨rfl, hb3⟩; have HX3 := hide (Below.next (unhide HX2) hb3 (Nat.le_refl _)); clear hb3))
              go_ret
              exact ⟨rfl, unhide HX3⟩
            · by_cases k1 : 1000 < k
              · clear hno2
                go_enter Try.func7, Try.ntmps7
                go_wp2_with (first
                  | (go_at_call 8; refine (begun_any _).mono ?_; rintro e w1 ⟨rfl, hb1⟩; have HX1 := hide hb1; clear hb1)
                  | (go_at_call 9; refine (unhide HVS _ (unhide HX1)).mono ?_; rintro e w1 ⟨rfl, rfl⟩)
                  | (go_at_call 17; refine (unhide HWA _ (unhide HX1)).mono ?_; rintro e w2 ⟨a2, c2, rfl, _, hb2⟩; have HX2 := hide (Below.next (unhide HX1) hb2 (Nat.le_refl _)); clear hb2)
                  | (go_at_call 13; refine (unhide HLF _ (unhide HX2)).mono ?_; rintro e w3 ⟨rfl, hb3⟩; have HX3 := hide (Below.next (unhide HX2) hb3 (Nat.le_refl _)); clear hb3))
                go_ret
                exact ⟨rfl, unhide HX3⟩
              · have hxy : x = y := Classical.byContradiction fun hne => hno2 ⟨by omega, by omega, by omega, by omega, hne⟩
                subst hxy
                have e1 : (x == x) = true := by simp
                clear hno2
                go_enter Try.func7, Try.ntmps7
                go_wp2_with (first
                  | (go_at_call 8; refine (begun_any _).mono ?_; rintro e w1 ⟨rfl, hb1⟩; have HX1 := hide hb1; clear hb1)
                  | (go_at_call 9; refine (unhide HVS _ (unhide HX1)).mono ?_; rintro e w1 ⟨rfl, rfl⟩)
                  | (go_at_call 17; refine (unhide HWA _ (unhide HX1)).mono ?_; rintro e w2 ⟨a2, c2, rfl, _, hb2⟩; have HX2 := hide (Below.next (unhide HX1) hb2 (Nat.le_refl _)); clear hb2)
                  | (go_at_call 13; refine (unhide HLF _ (unhide HX2)).mono ?_; rintro e w3 ⟨rfl, hb3⟩; have HX3 := hide (Below.next (unhide HX2) hb3 (Nat.le_refl _)); clear hb3))
                go_ret
                exact ⟨rfl, unhide HX3⟩
      · have hu1 : (u != 0) = true := by simpa using hu
        clear hno hz hq h6
        go_enter Try.func7, Try.ntmps7
        go_wp2_with (first
          | (go_at_call 8; refine (begun_any _).mono ?_; rintro e w1 ⟨rfl, hb1⟩; have HX1 := hide hb1; clear hb1)
          | (go_at_call 9; refine (unhide HVS _ (unhide HX1)).mono ?_; rintro e w1 ⟨rfl, rfl⟩)
          | (go_at_call 17; refine (unhide HWA _ (unhide HX1)).mono ?_; rintro e w2 ⟨a2, c2, rfl, _, hb2⟩; have HX2 := hide (Below.next (unhide HX1) hb2 (Nat.le_refl _)); clear hb2)
          | (go_at_call 13; refine (unhide HLF _ (unhide HX2)).mono ?_; rintro e w3 ⟨rfl, hb3⟩; have HX3 := hide (Below.next (unhide HX2) hb3 (Nat.le_refl _)); clear hb3))
        go_ret
        exact ⟨rfl, unhide HX3⟩
end Go.Proofs.Ytjlcfdhghohccaa
