/-
  slices.Index and slices.Contains of numbers; ring.checkPut.
-/
import Derived.Test.YtcdnennfimbgoabH
namespace Go.Proofs.Ytcdnennfimbgoab
open Go.RowKit

set_option maxRecDepth 100000 in
set_option maxHeartbeats 1000000 in
theorem index_zero (w : World) (a0 : Option Addr) (c0 : Nat) (x : Int) :
    Calls Try.prog 28 #[.slice a0 0 c0, .int .i64 x] w fun e w' => e = .returned (.int .i64 (-1)) ∧ Below w.heap.size w w' := by
  go_enter Try.func28, Try.ntmps28
  go_wp2
  go_loopw [8] (fun i wr => i = .int .i64 0 ∧ wr = w) (fun i _ => 0)
  case atStart => exact ⟨rfl, rfl⟩
  case round =>
    obtain ⟨rfl, rfl⟩ := hrel
    go_wp2
    go_ret
    exact ⟨rfl, Below.refl _ _⟩

set_option maxRecDepth 100000 in
set_option maxHeartbeats 1000000 in
theorem index_some (w : World) (n b0 o0 c0 : Nat) (x : Int) (hn : n ≤ maxLen) (Z : Nat → Int)
    (h0 : ∀ j, j < n → w.cell? ⟨b0, o0 + j, none⟩ = some (.int .i64 (Z j))) :
    Calls Try.prog 28 #[.slice (some ⟨b0, o0, none⟩) n c0, .int .i64 x] w fun e w' => ∃ r, e = .returned (.int .i64 r) ∧ (0 ≤ r ↔ ∃ j, j < n ∧ Z j = x) ∧ Below w.heap.size w w' := by
  unfold maxLen at hn
  have H0 := hide h0
  clear h0
  go_enter Try.func28, Try.ntmps28
  go_wp2
  go_loopw [8] (fun i wr => ∃ j : Nat, j ≤ n ∧ i = .int .i64 j ∧ wr = w ∧ ∀ i, i < j → Z i ≠ x) (fun i _ => n - (intOf i).toNat)
  case atStart => exact ⟨0, Nat.zero_le _, rfl, rfl, fun i hi => by omega⟩
  case round =>
    obtain ⟨j, hj, rfl, rfl, hne⟩ := hrel
    have HN := hide hne
    clear hne
    by_cases hlt : j < n
    · have k0 := unhide H0 j hlt
      obtain ⟨z, ez⟩ : ∃ z, Z j = z := ⟨_, rfl⟩
      rw [ez] at k0
      have HZ := hide ez
      clear ez
      have i0 : (0 : Int) ≤ (j : Int) := by omega
      have i1 : (j : Int) < (n : Int) := by omega
      by_cases hz : x = z
      · subst hz
        have hz1 : (x == x) = true := by simp
        go_wp2
        go_ret
        exact ⟨_, rfl, ⟨fun _ => ⟨j, hlt, unhide HZ⟩, fun _ => i0⟩, Below.refl _ _⟩
      · have hz1 : (x == z) = false := by simpa using hz
        go_wp2
        go_roundw
        case rel => exact ⟨j + 1, by omega, by go_num, by first | rfl | trivial, fun i hi => by
          by_cases e : i = j
          · subst e; rw [unhide HZ]; exact Ne.symm hz
          · exact unhide HN i (by omega)⟩
        case measure => simp [intOf]; omega
    · go_wp2
      go_ret
      refine ⟨_, rfl, ⟨fun h => absurd h (by omega), ?_⟩, Below.refl _ _⟩
      rintro ⟨i, hi, he⟩
      exact absurd he (unhide HN i (by omega))

theorem index_any (w : World) (v : Value) (zs : List Int) (x : Int) (h : IsInts w v zs) (hn : zs.length ≤ maxLen) :
    Calls Try.prog 28 #[v, .int .i64 x] w fun e w' => ∃ r, e = .returned (.int .i64 r) ∧ (0 ≤ r ↔ zs.contains x = true) ∧ Below w.heap.size w w' := by
  by_cases h0 : 0 < zs.length
  · obtain ⟨b, off, c, rfl, hb, hc⟩ := h.at h0
    refine (index_some w zs.length b off c x hn _ hc).mono ?_
    rintro e w' ⟨r, rfl, hr, hb⟩
    exact ⟨r, rfl, hr.trans (contains_iff zs x).symm, hb⟩
  · obtain ⟨a0, c0, rfl⟩ := Rd.form h
    have e0 : zs.length = 0 := by omega
    have e1 : zs = [] := List.eq_nil_of_length_eq_zero e0
    subst e1
    refine (index_zero w a0 c0 x).mono ?_
    rintro e w' ⟨rfl, hb⟩
    exact ⟨_, rfl, ⟨fun h => absurd h (by omega), fun h => by cases h⟩, hb⟩

set_option maxRecDepth 100000 in
set_option maxHeartbeats 1000000 in
theorem contains_any (w : World) (v : Value) (zs : List Int) (x : Int) (h : IsInts w v zs) (hn : zs.length ≤ maxLen) :
    Calls Try.prog 26 #[v, .int .i64 x] w fun e w' => e = .returned (.bool (zs.contains x)) ∧ Below w.heap.size w w' := by
  have HI := hide (index_any w v zs x h hn)
  obtain ⟨r, hr⟩ : ∃ r, zs.contains x = r := ⟨_, rfl⟩
  rw [hr] at HI ⊢
  clear h hn hr
  cases r with
  | true =>
    go_enter Try.func26, Try.ntmps26
    go_wp2_with (go_at_call 28; refine (unhide HI).mono ?_; rintro e w1 ⟨r, rfl, hr, hb⟩; have h0 : 0 ≤ r := hr.2 rfl; have HB := hide hb; clear hr hb)
    go_ret
    exact ⟨rfl, unhide HB⟩
  | false =>
    go_enter Try.func26, Try.ntmps26
    go_wp2_with (go_at_call 28; refine (unhide HI).mono ?_; rintro e w1 ⟨r, rfl, hr, hb⟩; have h0 : decide (0 ≤ r) = false := decide_eq_false (fun h => by have := hr.1 h; cases this); have HB := hide hb; clear hr hb)
    go_ret
    exact ⟨rfl, unhide HB⟩

theorem cells_new (w : World) (x y : Value) : (w.alloc (.cells #[x, y] 27)).cell? ⟨w.heap.size, 0, none⟩ = some x ∧ (w.alloc (.cells #[x, y] 27)).cell? ⟨w.heap.size, 1, none⟩ = some y := by
  have hh := (MapKept.heap_alloc w (.cells #[x, y] 27)).1
  constructor
  · simp only [World.cell?, hh]; rfl
  · simp only [World.cell?, hh]; rfl

/-- What is wrong with a Put. -/
def putF (nx : Int) (zs : List Int) (t : Int) : Int × Int := if (ringF nx zs).1 ≠ 0 then ringF nx zs else if t < 1 then (3, -1) else if t = nx ∨ zs.contains t = true then (10, -1) else (0, 0)

set_option maxRecDepth 100000 in
set_option maxHeartbeats 1000000 in
theorem checkPut_any (w : World) (nx : Int) (v : Value) (zs : List Int) (t : Int) (h : IsInts w v zs) (hn : zs.length ≤ maxLen) :
    Calls Try.prog 20 #[.agg #[.int .i64 nx, v], .int .i64 t] w fun e w' => e = .returned (faultV (putF nx zs t)) ∧ Below w.heap.size w w' := by
  obtain ⟨a, c, rfl⟩ := Rd.form h
  obtain ⟨x, y, hf⟩ : ∃ x y, ringF nx zs = (x, y) := ⟨_, _, rfl⟩
  have HC : Hid (∀ W, Below (w.heap.size + 2) ((w.alloc (.cells #[.int .i64 nx, .slice a zs.length c] 25)).alloc (.cells #[.int .i64 0, .int .i64 0] 27)) W → Calls Try.prog 18 #[.agg #[.int .i64 nx, .slice a zs.length c]] W fun e w' => e = .returned (.agg #[.int .i64 x, .int .i64 y]) ∧ Below W.heap.size W w') := fun W hW => by
    have := rcheck_any W nx _ zs (Rd.below h (below_two hW)) hn
    rw [hf] at this
    exact this
  obtain ⟨r, hr⟩ : ∃ r, zs.contains t = r := ⟨_, rfl⟩
  have HT : Hid (∀ W, Below (w.heap.size + 2) ((w.alloc (.cells #[.int .i64 nx, .slice a zs.length c] 25)).alloc (.cells #[.int .i64 0, .int .i64 0] 27)) W → Calls Try.prog 26 #[.slice a zs.length c, .int .i64 t] W fun e w' => e = .returned (.bool r) ∧ Below W.heap.size W w') := fun W hW => by
    have := contains_any W _ zs t (Rd.below h (below_two hW)) hn
    rw [hr] at this
    exact this
  unfold putF
  rw [hf, hr]
  have HF := hide hf
  clear h hf hr
  by_cases hx : x = 0
  · subst hx
    rw [if_neg (by simp)]
    by_cases ht : t < 1
    · rw [if_pos ht]
      go_enter Try.func20, Try.ntmps20
      go_upto_region 2 with (go_at_call 18; refine (unhide HC _ (Below.refl _ _)).mono ?_; rintro e w1 ⟨rfl, hb1⟩; have HB1 := hide ((hb1.mono (show w.heap.size + 2 ≤ _ by simp)).alloc (Nat.le_trans (by simp) hb1.size) (.cells #[.int .i64 0, .int .i64 y] 27)); clear hb1)
      have HT5 := hide (cells_new w1 (.int .i64 0) (.int .i64 y))
      obtain ⟨Wb, hWb⟩ : ∃ W, w1.alloc (.cells #[.int .i64 0, .int .i64 y] 27) = W := ⟨_, rfl⟩
      rw [hWb] at HB1 HT5 ⊢
      clear hWb
      obtain ⟨t0, t1⟩ := unhide HT5
      obtain ⟨r0, r1, f0, f1⟩ := res_there (unhide HB1)
      obtain ⟨x0, x1⟩ := arg_there (unhide HB1)
      go_wp2_with fail
      refine bodyPost_ret (v := .agg #[.int .i64 3, .int .i64 (-1)]) (by simp [results, Try.results20, go_sem, r0, r1]) rfl ⟨rfl, ?_⟩
      exact ((below_two (unhide HB1)).setCell (Nat.le_succ _) _).setCell (Nat.le_succ _) _
    · rw [if_neg ht]
      by_cases hp : t = nx
      · rw [if_pos (Or.inl hp)]
        have e1 : (t == nx) = true := by simpa using hp
        clear hp
        go_enter Try.func20, Try.ntmps20
        go_upto_region 2 with (go_at_call 18; refine (unhide HC _ (Below.refl _ _)).mono ?_; rintro e w1 ⟨rfl, hb1⟩; have HB1 := hide ((hb1.mono (show w.heap.size + 2 ≤ _ by simp)).alloc (Nat.le_trans (by simp) hb1.size) (.cells #[.int .i64 0, .int .i64 y] 27)); clear hb1)
        have HT5 := hide (cells_new w1 (.int .i64 0) (.int .i64 y))
        obtain ⟨Wb, hWb⟩ : ∃ W, w1.alloc (.cells #[.int .i64 0, .int .i64 y] 27) = W := ⟨_, rfl⟩
        rw [hWb] at HB1 HT5 ⊢
        clear hWb
        obtain ⟨t0, t1⟩ := unhide HT5
        obtain ⟨r0, r1, f0, f1⟩ := res_there (unhide HB1)
        obtain ⟨x0, x1⟩ := arg_there (unhide HB1)
        go_wp2_with fail
        refine bodyPost_ret (v := .agg #[.int .i64 10, .int .i64 (-1)]) (by simp [results, Try.results20, go_sem, r0, r1]) rfl ⟨rfl, ?_⟩
        exact ((below_two (unhide HB1)).setCell (Nat.le_succ _) _).setCell (Nat.le_succ _) _
      · have e1 : (t == nx) = false := by simpa using hp
        cases r with
        | true =>
          rw [if_pos (Or.inr rfl)]
          clear hp
          go_enter Try.func20, Try.ntmps20
          go_upto_region 2 with (go_at_call 18; refine (unhide HC _ (Below.refl _ _)).mono ?_; rintro e w1 ⟨rfl, hb1⟩; have HB1 := hide ((hb1.mono (show w.heap.size + 2 ≤ _ by simp)).alloc (Nat.le_trans (by simp) hb1.size) (.cells #[.int .i64 0, .int .i64 y] 27)); clear hb1)
          have HT5 := hide (cells_new w1 (.int .i64 0) (.int .i64 y))
          obtain ⟨Wb, hWb⟩ : ∃ W, w1.alloc (.cells #[.int .i64 0, .int .i64 y] 27) = W := ⟨_, rfl⟩
          rw [hWb] at HB1 HT5 ⊢
          clear hWb
          obtain ⟨t0, t1⟩ := unhide HT5
          obtain ⟨r0, r1, f0, f1⟩ := res_there (unhide HB1)
          obtain ⟨x0, x1⟩ := arg_there (unhide HB1)
          go_wp2_with (go_at_call 26; refine (unhide HT _ (unhide HB1)).mono ?_; rintro e w3 ⟨rfl, hb3⟩; have hX3 := below_call (unhide HB1) hb3; obtain ⟨q0, q1, g0, g1⟩ := res_there hX3; have HX3 := hide hX3; clear hb3 hX3)
          refine bodyPost_ret (v := .agg #[.int .i64 10, .int .i64 (-1)]) (by simp [results, Try.results20, go_sem, q0, q1]) rfl ⟨rfl, ?_⟩
          exact ((below_two (unhide HX3)).setCell (Nat.le_succ _) _).setCell (Nat.le_succ _) _
        | false =>
          rw [if_neg (by simp [hp])]
          clear hp
          go_enter Try.func20, Try.ntmps20
          go_upto_region 2 with (go_at_call 18; refine (unhide HC _ (Below.refl _ _)).mono ?_; rintro e w1 ⟨rfl, hb1⟩; have HB1 := hide ((hb1.mono (show w.heap.size + 2 ≤ _ by simp)).alloc (Nat.le_trans (by simp) hb1.size) (.cells #[.int .i64 0, .int .i64 y] 27)); clear hb1)
          have HT5 := hide (cells_new w1 (.int .i64 0) (.int .i64 y))
          obtain ⟨Wb, hWb⟩ : ∃ W, w1.alloc (.cells #[.int .i64 0, .int .i64 y] 27) = W := ⟨_, rfl⟩
          rw [hWb] at HB1 HT5 ⊢
          clear hWb
          obtain ⟨t0, t1⟩ := unhide HT5
          obtain ⟨r0, r1, f0, f1⟩ := res_there (unhide HB1)
          obtain ⟨x0, x1⟩ := arg_there (unhide HB1)
          go_wp2_with (go_at_call 26; refine (unhide HT _ (unhide HB1)).mono ?_; rintro e w3 ⟨rfl, hb3⟩; have hX3 := below_call (unhide HB1) hb3; obtain ⟨q0, q1, g0, g1⟩ := res_there hX3; have HX3 := hide hX3; clear hb3 hX3)
          refine bodyPost_ret (v := .agg #[.int .i64 0, .int .i64 0]) (by simp [results, Try.results20, go_sem, q0, q1]) rfl ⟨rfl, ?_⟩
          exact ((below_two (unhide HX3)).setCell (Nat.le_succ _) _).setCell (Nat.le_succ _) _
  · have hx1 : (x != 0) = true := by simpa using hx
    rw [if_pos hx]
    clear hx
    go_enter Try.func20, Try.ntmps20
    go_upto_region 2 with (go_at_call 18; refine (unhide HC _ (Below.refl _ _)).mono ?_; rintro e w1 ⟨rfl, hb1⟩; have HB1 := hide ((hb1.mono (show w.heap.size + 2 ≤ _ by simp)).alloc (Nat.le_trans (by simp) hb1.size) (.cells #[.int .i64 x, .int .i64 y] 27)); clear hb1)
    have HT5 := hide (cells_new w1 (.int .i64 x) (.int .i64 y))
    obtain ⟨Wb, hWb⟩ : ∃ W, w1.alloc (.cells #[.int .i64 x, .int .i64 y] 27) = W := ⟨_, rfl⟩
    rw [hWb] at HB1 HT5 ⊢
    clear hWb
    obtain ⟨t0, t1⟩ := unhide HT5
    obtain ⟨r0, r1, f0, f1⟩ := res_there (unhide HB1)
    obtain ⟨x0, x1⟩ := arg_there (unhide HB1)
    go_wp2_with fail
    refine bodyPost_ret (v := .agg #[.int .i64 x, .int .i64 y]) (by simp [results, Try.results20, go_sem, r0, r1]) rfl ⟨rfl, ?_⟩
    exact ((below_two (unhide HB1)).setCell (Nat.le_succ _) _).setCell (Nat.le_succ _) _
end Go.Proofs.Ytcdnennfimbgoab
