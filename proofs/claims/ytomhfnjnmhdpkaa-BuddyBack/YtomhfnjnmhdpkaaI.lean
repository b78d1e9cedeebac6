/-
  buddy.firstWrong, part.
-/
import Derived.Test.YtomhfnjnmhdpkaaH
namespace Go.Proofs.Ytomhfnjnmhdpkaa
open Go.RowKit

/-- What is wrong with the first wrong block of a list: its code. -/
def firstW (u : Int) : Option Int → List Bl → Int
  | _, [] => 0
  | p, x :: r => if fitB u x = true then (if (match p with | none => false | some q => decide (x.1 ≤ q)) = true then 5 else firstW u (some x.1) r) else 3
theorem firstW_cons (u : Int) (p : Option Int) (x : Bl) (r : List Bl) : firstW u p (x :: r) = if fitB u x = true then (if (match p with | none => false | some q => decide (x.1 ≤ q)) = true then 5 else firstW u (some x.1) r) else 3 := by cases p <;> rfl
def prevO (xs : List Bl) (j : Nat) : Option Int := if j = 0 then none else some (aAt xs (j - 1)).1
theorem firstW_bad {u : Int} {xs : List Bl} {j : Nat} (hj : j < xs.length) (h : fitB u (aAt xs j) = false) : firstW u (prevO xs j) (xs.drop j) = 3 := by
  rw [drop_at hj, firstW_cons, h]; rfl
theorem firstW_low {u : Int} {xs : List Bl} {j : Nat} (hj : j < xs.length) (h : fitB u (aAt xs j) = true) (h0 : 0 < j) (hl : (aAt xs j).1 ≤ (aAt xs (j - 1)).1) : firstW u (prevO xs j) (xs.drop j) = 5 := by
  have h1 : ¬ j = 0 := by omega
  rw [drop_at hj, firstW_cons]
  simp [h, prevO, h1, hl]
theorem firstW_next {u : Int} {xs : List Bl} {j : Nat} (hj : j < xs.length) (h : fitB u (aAt xs j) = true) (hl : 0 < j → ¬ (aAt xs j).1 ≤ (aAt xs (j - 1)).1) : firstW u (prevO xs j) (xs.drop j) = firstW u (prevO xs (j + 1)) (xs.drop (j + 1)) := by
  rw [drop_at hj, firstW_cons, h]
  have e : prevO xs (j + 1) = some (aAt xs j).1 := by unfold prevO; rw [if_neg (by omega)]; rfl
  rw [e]
  by_cases h0 : j = 0
  · subst h0; simp [prevO]
  · have h1 := hl (by omega)
    simp only [prevO, h0, if_false, if_true, decide_eq_true_eq, h1]

set_option maxRecDepth 100000 in
set_option maxHeartbeats 2000000 in
theorem firstWrong_any (w : World) (v : Value) (xs : List Bl) (u : Int) (h : IsL KB w v xs) (hn : xs.length ≤ 100000) (hu : 0 ≤ u ∧ u ≤ 1073741824) (hb : ∀ x ∈ xs, x.2 ≤ 9223372036854775807) :
    Calls Try.prog 22 #[v, .int .i64 u] w fun e w' => e = .returned (.int .i64 (firstW u none xs)) ∧ Below w.heap.size w w' := by
  obtain ⟨a0, c0, rfl⟩ := h.form
  have H0 := hide (h.opens kb rfl)
  have HB := hide (fun j (hj : j < xs.length) => hb _ (aAt_mem hj))
  have HBAD := hide (fun j hj hf => @firstW_bad u xs j hj hf)
  have HLOW := hide (fun j hj hf h0 hl => @firstW_low u xs j hj hf h0 hl)
  have HNXT := hide (fun j hj hf hl => @firstW_next u xs j hj hf hl)
  obtain ⟨R, eR⟩ : ∃ R, firstW u none xs = R := ⟨_, rfl⟩
  have HR0 : Hid (firstW u (prevO xs 0) (xs.drop 0) = R) := eR
  have HEND : Hid (firstW u (prevO xs xs.length) (xs.drop xs.length) = 0) := by rw [List.drop_length]; exact rfl
  rw [eR]
  obtain ⟨n, en⟩ : ∃ n, xs.length = n := ⟨_, rfl⟩
  rw [en] at H0 hn HB HBAD HLOW HNXT HEND ⊢
  have HN := hide en
  clear h en hb eR
  go_enter Try.func22, Try.ntmps22
  go_wp2
  go_loopw [9] (fun i wr => ∃ j : Nat, j ≤ n ∧ i = .int .i64 (j : Int) ∧ Hid (firstW u (prevO xs j) (xs.drop j) = R) ∧ Hid (Below w.heap.size w wr)) (fun i _ => n - (intOf i).toNat)
  case atStart => exact ⟨0, Nat.zero_le _, rfl, HR0, hide (Below.refl _ _)⟩
  case round =>
    obtain ⟨j, hj, rfl, HR, HX⟩ := hrel
    clear HR0
    by_cases hlt : j < n
    · obtain ⟨b0, o0, rfl, hb0, l0⟩ := unhide H0 (by omega)
      have l0 := l0.below (unhide HX) hb0
      obtain ⟨⟨t, c⟩, hx⟩ : ∃ z, aAt xs j = z := ⟨_, rfl⟩
      obtain ⟨k0, k1⟩ := l0.block (j := j) (by rw [unhide HN]; exact hlt) hx
      have hcb := unhide HB j hlt
      have HBADJ := hide (unhide HBAD j hlt); have HLOWJ := hide (unhide HLOW j hlt); have HNXTJ := hide (unhide HNXT j hlt)
      rw [hx] at hcb HBADJ HLOWJ HNXTJ
      simp only at hcb
      have i0 : (0 : Int) ≤ (j : Int) := by omega
      have i1 : (j : Int) < (n : Int) := by omega
      obtain ⟨FR, eFR⟩ : ∃ X, fitB u (t, c) = X := ⟨_, rfl⟩
      have HFT : Hid (∀ W, Calls Try.prog 37 #[.agg #[.int .i64 t, .int .i64 c], .int .i64 u] W fun e w' => e = .returned (.bool FR) ∧ Below W.heap.size W w') := fun W => by
        have := fits_any W t c u hu hcb
        rw [eFR] at this
        exact this
      have HP0 := hide (new_block wr (.cells #[.int .i64 t, .int .i64 c] 38))
      have HB1 := hide ((Below.refl wr.heap.size wr).alloc (Nat.le_refl _) (.cells #[.int .i64 t, .int .i64 c] 38))
      obtain ⟨VB, eV⟩ : ∃ X, wr.heap.size = X := ⟨_, rfl⟩
      go_upto_region 4 with fail
      obtain ⟨W0, e0⟩ : ∃ X, wr.alloc (.cells #[.int .i64 t, .int .i64 c] 38) = X := ⟨_, rfl⟩
      rw [e0] at HP0 HB1 ⊢
      have HX1 := hide (Below.next (unhide HX) (unhide HB1) (Nat.le_refl _))
      rw [eV] at HP0
      have HLL : Hid (∀ W, Below wr.heap.size wr W → Lies KB W b0 o0 xs) := fun W hW => l0.keep (hW.block b0 (Nat.lt_of_lt_of_le hb0 (unhide HX).size))
      clear e0 k0 k1 eV l0 hx hcb HB H0 HBAD HLOW HNXT
      obtain ⟨p0, p1, -, -, pl⟩ := block2 (unhide HP0)
      rw [eFR] at HBADJ HLOWJ HNXTJ
      cases FR with
      | false =>
        go_wp2_with (go_at_call 37; refine (unhide HFT _).mono ?_; rintro e w1 ⟨rfl, hb1⟩; have HX2 := hide (Below.next (unhide HX1) hb1 (Nat.le_refl _)); clear hb1)
        go_ret
        exact ⟨by rw [← unhide HR, unhide HBADJ (by trivial)] <;> rfl, unhide HX2⟩
      | true =>
        go_upto_region 6 with (go_at_call 37; refine (unhide HFT _).mono ?_; rintro e w1 ⟨rfl, hb1⟩; have HX2 := hide (Below.next (unhide HX1) hb1 (Nat.le_refl _)); have HP1 := hide (keep_below (unhide HP0) hb1); have HL1 := hide (unhide HLL _ (Below.next (unhide HB1) hb1 (Nat.le_refl _))); clear hb1)
        clear p0 p1 pl
        obtain ⟨p0, p1, -, -, pl⟩ := block2 (unhide HP1)
        by_cases hj0 : 0 < j
        · obtain ⟨⟨t', c'⟩, hx⟩ : ∃ z, aAt xs (j - 1) = z := ⟨_, rfl⟩
          obtain ⟨k0, k1⟩ := (unhide HL1).block (j := j - 1) (by rw [unhide HN]; omega) hx
          rw [hx] at HLOWJ HNXTJ
          have hw1 : IntKind.i64.wrap ((j : Int) - 1) = ((j - 1 : Nat) : Int) := by rw [wrapi (by omega) (by omega)]; omega
          have i3 : (0 : Int) ≤ ((j - 1 : Nat) : Int) := by omega
          have i4 : ((j - 1 : Nat) : Int) < (n : Int) := by omega
          have i5 : (0 : Int) < (j : Int) := by omega
          have hw2 : (j : Int) - 1 = ((j - 1 : Nat) : Int) := by omega
          have htn : (((j - 1 : Nat) : Int)).toNat = j - 1 := by omega
          clear hx
          by_cases hle : t ≤ t'
          · go_quiet (fail)
            go_wp2_with fail
            go_ret
            exact ⟨by rw [← unhide HR, unhide HLOWJ (by trivial) (by omega) (by omega)] <;> rfl, below_drewN (unhide HX2) nq⟩
          · go_quiet (fail)
            have HX3 := hide (below_drewN (unhide HX2) nq)
            go_wp2_with fail
            go_roundw
            case rel => exact ⟨j + 1, by omega, by go_num, hide (by rw [← unhide HR, unhide HNXTJ (by trivial) (fun _ => by omega)]), HX3⟩
            case measure => simp [intOf]; omega
        · have hj1 : j = 0 := by omega
          subst hj1
          go_quiet (fail)
          have HX3 := hide (below_drewN (unhide HX2) nq)
          go_wp2_with fail
          go_roundw
          case rel => exact ⟨0 + 1, by omega, by go_num, hide (by rw [← unhide HR, unhide HNXTJ (by trivial) (fun h => absurd h hj0)]), HX3⟩
          case measure => simp [intOf]; omega
    · obtain rfl : j = n := by omega
      have i1 : ¬ (j : Int) < (j : Int) := by omega
      go_wp2_with fail
      go_ret
      exact ⟨by rw [← unhide HR, unhide HEND] <;> rfl, unhide HX⟩

end Go.Proofs.Ytomhfnjnmhdpkaa
