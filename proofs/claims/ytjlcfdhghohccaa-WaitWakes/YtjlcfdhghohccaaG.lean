/-
  cmp.Compare of numbers; wait.place: a binary search.
-/
import Derived.Test.YtjlcfdhghohccaaF
namespace Go.Proofs.Ytjlcfdhghohccaa
open Go.RowKit

def cmpI (x y : Int) : Int := if x < y then -1 else if y < x then 1 else 0

set_option maxRecDepth 100000 in
set_option maxHeartbeats 1000000 in
theorem nan_any (w : World) (x : Int) : Calls Try.prog 55 #[.int .i64 x] w fun e w' => e = .returned (.bool false) ∧ w' = w := by
  have h1 : (x != x) = false := by simp
  go_enter Try.func55, Try.ntmps55
  go_wp2
  go_ret
  exact ⟨rfl, rfl⟩

set_option maxRecDepth 100000 in
set_option maxHeartbeats 1000000 in
theorem compare_any (w : World) (x y : Int) : Calls Try.prog 54 #[.int .i64 x, .int .i64 y] w fun e w' => e = .returned (.int .i64 (cmpI x y)) ∧ w' = w := by
  rcases Int.lt_trichotomy x y with h | h | h
  · have e : cmpI x y = -1 := by unfold cmpI; rw [if_pos h]
    rw [e]
    go_enter Try.func54, Try.ntmps54
    go_wp2_with (go_at_call 55; refine (nan_any _ _).mono ?_; rintro e w1 ⟨rfl, hw⟩; subst hw)
    go_ret
    exact ⟨rfl, rfl⟩
  · subst h
    have e : cmpI x x = 0 := by unfold cmpI; rw [if_neg (by omega), if_neg (by omega)]
    have h1 : ¬ x < x := by omega
    rw [e]
    go_enter Try.func54, Try.ntmps54
    go_wp2_with (go_at_call 55; refine (nan_any _ _).mono ?_; rintro e w1 ⟨rfl, hw⟩; subst hw)
    go_ret
    exact ⟨rfl, rfl⟩
  · have e : cmpI x y = 1 := by unfold cmpI; rw [if_neg (by omega), if_pos h]
    have h1 : ¬ x < y := by omega
    rw [e]
    go_enter Try.func54, Try.ntmps54
    go_wp2_with (go_at_call 55; refine (nan_any _ _).mono ?_; rintro e w1 ⟨rfl, hw⟩; subst hw)
    go_ret
    exact ⟨rfl, rfl⟩

set_option maxRecDepth 100000 in
set_option maxHeartbeats 1000000 in
theorem placecmp_any (w : World) (x y : Int) (v : Value) (hv : ∃ a n c, v = .slice a n c) : Calls Try.prog 53 #[.agg #[.int .i64 x, v], .int .i64 y] w fun e w' => e = .returned (.int .i64 (cmpI x y)) ∧ Below w.heap.size w w' := by
  obtain ⟨a, n, c, rfl⟩ := hv
  have HC := hide (compare_any (w.alloc (.cells #[.int .i64 x, .slice a n c] 55)) x y)
  obtain ⟨z, hz⟩ : ∃ z, cmpI x y = z := ⟨_, rfl⟩
  rw [hz] at HC ⊢
  clear hz
  go_enter Try.func53, Try.ntmps53
  go_wp2_with (go_at_call 54; refine (unhide HC).mono ?_; rintro e w1 ⟨rfl, hw⟩; subst hw)
  go_ret
  exact ⟨rfl, (Below.refl _ _).alloc (Nat.le_refl _) _⟩

/-- The addresses rise. -/
def Rises (ls : List Ln) : Prop := ∀ i j, i < j → j < ls.length → (lAt ls i).1 < (lAt ls j).1
/-- The place of an address. -/
def posL (x : Int) : List Ln → Nat
  | [] => 0
  | l :: r => if l.1 < x then posL x r + 1 else 0
theorem posL_le (x : Int) : ∀ ls, posL x ls ≤ ls.length
  | [] => Nat.le_refl _
  | l :: r => by
    rw [posL]
    have := posL_le x r
    split
    · simp; omega
    · simp
theorem posL_low (x : Int) : ∀ ls k, k < posL x ls → (lAt ls k).1 < x
  | [], k, h => by simp [posL] at h
  | l :: r, k, h => by
    rw [posL] at h
    split at h
    · rename_i hl
      cases k with
      | zero => exact hl
      | succ k => exact posL_low x r k (by omega)
    · omega
theorem posL_here (x : Int) : ∀ ls, posL x ls < ls.length → x ≤ (lAt ls (posL x ls)).1
  | [], h => by simp at h
  | l :: r, h => by
    rw [posL] at h ⊢
    split
    · rename_i hl
      rw [if_pos hl] at h
      exact posL_here x r (by simpa using h)
    · rename_i hl
      exact Int.not_lt.1 hl
theorem posL_of {x : Int} {ls : List Ln} {k : Nat} (hk : k ≤ ls.length) (h1 : ∀ i, i < k → (lAt ls i).1 < x) (h2 : k < ls.length → x ≤ (lAt ls k).1) : posL x ls = k := by
  rcases Nat.lt_trichotomy (posL x ls) k with h | h | h
  · have := h1 _ h
    have := posL_here x ls (by omega)
    omega
  · exact h
  · have := posL_low x ls k h
    have := posL_le x ls
    have := h2 (by omega)
    omega

/-- Is there a line at an address, at its place? -/
def thereL (x : Int) (ls : List Ln) : Bool := decide (posL x ls < ls.length) && decide ((lAt ls (posL x ls)).1 = x)

set_option maxRecDepth 100000 in
set_option maxHeartbeats 2000000 in
theorem search_any (w : World) (a : Option Addr) (n c : Nat) (x : Int) (ls : List Ln) (hl : ls.length = n) (h : IsLs w (.slice a n c) ls) (hm : n ≤ 100000) (hs : Rises ls) :
    Calls Try.prog 52 #[.slice a n c, .int .i64 x, .func (.func 53) #[] #[]] w fun e w' => e = .returned (.tuple #[.int .i64 (posL x ls : Nat), .bool (thereL x ls)]) ∧ Below w.heap.size w w' := by
  have HA := hide (h.opens hl)
  have HL := hide hl; have HS := hide hs
  clear h hl hs
  go_enter Try.func52, Try.ntmps52
  go_wp2
  go_loopw [9, 10] (fun s i wr => ∃ (p q : Nat), p ≤ q ∧ q ≤ n ∧ s = .int .i64 p ∧ i = .int .i64 q ∧ (∀ k, k < p → (lAt ls k).1 < x) ∧ (∀ k, q ≤ k → k < n → x ≤ (lAt ls k).1) ∧ Below w.heap.size w wr) (fun s i _ => (intOf i).toNat - (intOf s).toNat)
  case atStart => exact ⟨0, n, Nat.zero_le _, Nat.le_refl _, rfl, rfl, fun k hk => by omega, fun k h1 h2 => by omega, Below.refl _ _⟩
  case round =>
    obtain ⟨p, q, hpq, hqn, rfl, rfl, h1, h2, hnx⟩ := hrel
    by_cases hlt : p < q
    · obtain ⟨b, off, rfl, hb, hc⟩ := unhide HA (by omega)
      obtain ⟨m, em⟩ : ∃ m, (p + q) / 2 = m := ⟨_, rfl⟩
      have hmq : m < q := by omega
      have hpm : p ≤ m := by omega
      obtain ⟨k0, av, cv, k1, _⟩ := hc.below hnx hb m (by rw [unhide HL]; omega)
      have i0 : (0 : Int) ≤ (m : Int) := by omega
      have i1 : (m : Int) < (n : Int) := by omega
      have i2 : (p : Int) < (q : Int) := by omega
      have w1 : IntKind.i64.wrap ((p : Int) + (q : Int)) = (p : Int) + (q : Int) := by simp [IntKind.wrap, IntKind.bits, IntKind.signed]; omega
      have w2 : ((p : Int) + (q : Int)) / 2 = (m : Int) := by omega
      obtain ⟨y, ey⟩ : ∃ y, (lAt ls m).1 = y := ⟨_, rfl⟩
      obtain ⟨mm, emm⟩ : ∃ mm, (lAt ls m).2.length = mm := ⟨_, rfl⟩
      rw [emm] at k1
      rw [ey] at k0
      have H1 := hide h1; have H2 := hide h2; have HX := hide hnx; have HY := hide ey; have HM := hide em
      clear h1 h2 hnx hc hb ey emm em
      by_cases hyx : y < x
      · have ec : cmpI y x = -1 := by unfold cmpI; rw [if_pos hyx]
        have HC : Hid (∀ W, Calls Try.prog 53 #[.agg #[.int .i64 y, .slice av mm cv], .int .i64 x] W fun e w' => e = .returned (.int .i64 (-1)) ∧ Below W.heap.size W w') := fun W => by
          have := placecmp_any W y x (.slice av mm cv) ⟨_, _, _, rfl⟩
          rw [ec] at this
          exact this
        clear ec
        go_wp2_with (go_at_call 53; refine (unhide HC _).mono ?_; rintro e w2 ⟨rfl, hb2⟩; have HX2 := hide (Below.next (unhide HX) hb2 (Nat.le_refl _)); clear hb2)
        go_roundw
        case rel =>
          refine ⟨m + 1, q, by omega, hqn, by go_num, rfl, fun k hk => ?_, unhide H2, unhide HX2⟩
          by_cases e : k = m
          · subst e; rw [unhide HY]; exact hyx
          · have := unhide HS k m (by omega) (by rw [unhide HL]; omega)
            rw [unhide HY] at this
            omega
        case measure => simp [intOf]; omega
      · obtain ⟨cz, ec⟩ : ∃ cz, cmpI y x = cz := ⟨_, rfl⟩
        have hcz : ¬ cz < 0 := by rw [← ec]; unfold cmpI; rw [if_neg hyx]; split <;> omega
        have HC : Hid (∀ W, Calls Try.prog 53 #[.agg #[.int .i64 y, .slice av mm cv], .int .i64 x] W fun e w' => e = .returned (.int .i64 cz) ∧ Below W.heap.size W w') := fun W => by
          have := placecmp_any W y x (.slice av mm cv) ⟨_, _, _, rfl⟩
          rw [ec] at this
          exact this
        clear ec
        go_wp2_with (go_at_call 53; refine (unhide HC _).mono ?_; rintro e w2 ⟨rfl, hb2⟩; have HX2 := hide (Below.next (unhide HX) hb2 (Nat.le_refl _)); clear hb2)
        go_roundw
        case rel =>
          refine ⟨p, m, hpm, by omega, rfl, rfl, unhide H1, fun k h3 h4 => ?_, unhide HX2⟩
          by_cases e : k = m
          · subst e; rw [unhide HY]; omega
          · have := unhide HS m k (by omega) (by rw [unhide HL]; exact h4)
            rw [unhide HY] at this
            omega
        case measure => simp [intOf]; omega
    · have e : q = p := by omega
      subst e
      have hpos := posL_of (x := x) (ls := ls) (k := q) (by rw [unhide HL]; exact hqn) h1 (fun h3 => h2 q (Nat.le_refl _) (by rw [unhide HL] at h3; exact h3))
      by_cases hqn2 : q < n
      · obtain ⟨b, off, rfl, hb, hc⟩ := unhide HA (by omega)
        obtain ⟨k0, av, cv, k1, _⟩ := hc.below hnx hb q (by rw [unhide HL]; omega)
        have i0 : (0 : Int) ≤ (q : Int) := by omega
        have i1 : (q : Int) < (n : Int) := by omega
        obtain ⟨y, ey⟩ : ∃ y, (lAt ls q).1 = y := ⟨_, rfl⟩
        obtain ⟨mm, emm⟩ : ∃ mm, (lAt ls q).2.length = mm := ⟨_, rfl⟩
        rw [emm] at k1
        rw [ey] at k0
        have hyx : x ≤ y := by rw [← ey]; exact h2 q (Nat.le_refl _) hqn2
        have HC : Hid (∀ W, Calls Try.prog 53 #[.agg #[.int .i64 y, .slice av mm cv], .int .i64 x] W fun e w' => e = .returned (.int .i64 (cmpI y x)) ∧ Below W.heap.size W w') := fun W => placecmp_any W y x (.slice av mm cv) ⟨_, _, _, rfl⟩
        have ht : thereL x ls = decide (y = x) := by unfold thereL; rw [hpos, unhide HL, ey]; simp [hqn2]
        by_cases hyx2 : y = x
        · have ec : cmpI y x = 0 := by unfold cmpI; rw [if_neg (by omega), if_neg (by omega)]
          rw [decide_eq_true hyx2] at ht
          rw [ec] at HC
          have HX := hide hnx; have HP := hide hpos; have HTH := hide ht
          clear h1 h2 hnx hc hb ey emm ec hyx hyx2 ht hpos
          go_wp2_with (go_at_call 53; refine (unhide HC _).mono ?_; rintro e w2 ⟨rfl, hb2⟩; have HX2 := hide (Below.next (unhide HX) hb2 (Nat.le_refl _)); clear hb2)
          go_ret2
          refine ⟨?_, unhide HX2⟩
          rw [unhide HP, unhide HTH]
          rfl
        · have ec : cmpI y x = 1 := by unfold cmpI; rw [if_neg (by omega), if_pos (by omega)]
          rw [decide_eq_false hyx2] at ht
          rw [ec] at HC
          have HX := hide hnx; have HP := hide hpos; have HTH := hide ht
          clear h1 h2 hnx hc hb ey emm ec hyx hyx2 ht hpos
          go_wp2_with (go_at_call 53; refine (unhide HC _).mono ?_; rintro e w2 ⟨rfl, hb2⟩; have HX2 := hide (Below.next (unhide HX) hb2 (Nat.le_refl _)); clear hb2)
          go_ret2
          refine ⟨?_, unhide HX2⟩
          rw [unhide HP, unhide HTH]
          rfl
      · have ht : thereL x ls = false := by unfold thereL; rw [hpos, unhide HL]; simp [hqn2]
        have HX := hide hnx; have HP := hide hpos; have HTH := hide ht
        clear h1 h2 hnx ht hpos
        go_wp2_with fail
        go_ret2
        refine ⟨?_, unhide HX⟩
        rw [unhide HP, unhide HTH]
        rfl

set_option maxRecDepth 100000 in
set_option maxHeartbeats 1000000 in
theorem place_any (w : World) (a : Option Addr) (n c : Nat) (x : Int) (ls : List Ln) (hl : ls.length = n) (h : IsLs w (.slice a n c) ls) (hm : n ≤ 100000) (hs : Rises ls) :
    Calls Try.prog 44 #[.slice a n c, .int .i64 x] w fun e w' => e = .returned (.tuple #[.int .i64 (posL x ls : Nat), .bool (thereL x ls)]) ∧ Below w.heap.size w w' := by
  have HC := hide (search_any w a n c x ls hl h hm hs)
  obtain ⟨p, hp⟩ : ∃ p, posL x ls = p := ⟨_, rfl⟩
  obtain ⟨t, ht⟩ : ∃ t, thereL x ls = t := ⟨_, rfl⟩
  rw [hp, ht] at HC ⊢
  clear h hl hs hp ht
  go_enter Try.func44, Try.ntmps44
  go_wp2_with (go_at_call 52; refine (unhide HC).mono ?_; rintro e w2 ⟨rfl, hb2⟩; have HX2 := hide hb2; clear hb2)
  go_ret2
  exact ⟨rfl, unhide HX2⟩
end Go.Proofs.Ytjlcfdhghohccaa
