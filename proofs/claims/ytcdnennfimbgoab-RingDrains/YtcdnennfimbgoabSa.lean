/-
  ring.checkRefill, ring.room and ring.withLast.
-/
import Derived.Test.YtcdnennfimbgoabSy
import Derived.Test.YtcdnennfimbgoabSr
namespace Go.Proofs.Ytcdnennfimbgoab
open Go.RowKit

theorem two_size {w W' : World} {o o' : Obj} (h : Below (w.heap.size + 2) ((w.alloc o).alloc o') W') : w.heap.size + 2 ≤ W'.heap.size := Nat.le_trans (by simp) h.size

/-- What is wrong with a Refill. -/
def refillF (nx : Int) (zs gs : List Int) (p : Int) : Int × Int := if (ringF nx zs).1 ≠ 0 then ringF nx zs else if (globalF nx zs gs).1 ≠ 0 then globalF nx zs gs else if p < 1 ∨ 64 < p then (3, -1) else (0, 0)

theorem firstFrom_zero {W : Nat → Int} : ∀ {f i : Nat}, (firstFrom W f i).1 = 0 → firstFrom W f i = (0, 0)
  | 0, _, _ => rfl
  | f + 1, i, h => by
    rw [firstFrom] at h ⊢
    split
    · rename_i h1; rw [if_pos h1] at h; exact firstFrom_zero h
    · rename_i h1; rw [if_neg h1] at h; exact absurd h h1
theorem globalF_zero {nx : Int} {zs gs : List Int} (h : (globalF nx zs gs).1 = 0) : globalF nx zs gs = (0, 0) := by
  unfold globalF at h ⊢
  split
  · rename_i h1; rw [if_pos h1] at h; exact absurd h (by decide)
  · rename_i h1
    rw [if_neg h1] at h
    split
    · rename_i h2; rw [if_pos h2] at h; exact absurd h h2
    · rename_i h2; rw [if_neg h2] at h; exact firstFrom_zero h

set_option maxRecDepth 100000 in
set_option maxHeartbeats 1000000 in
theorem checkRefill_any (w : World) (nx : Int) (v : Value) (zs : List Int) (p : Int) (h : IsInts w v zs) (hn : zs.length ≤ maxLen) (vg : Value) (gs : List Int) (h' : IsInts w vg gs) (hm : gs.length ≤ maxLen) :
    Calls Try.prog 14 #[.agg #[.int .i64 nx, v], vg, .int .i64 p] w fun e w' => e = .returned (faultV (refillF nx zs gs p)) ∧ Below w.heap.size w w' := by
  obtain ⟨a, c, rfl⟩ := Rd.form h
  obtain ⟨a', c', rfl⟩ := Rd.form h'
  obtain ⟨x, y, hf⟩ : ∃ x y, ringF nx zs = (x, y) := ⟨_, _, rfl⟩
  have HC : Hid (∀ W, Below (w.heap.size + 2) ((w.alloc (.cells #[.int .i64 nx, .slice a zs.length c] 25)).alloc (.cells #[.int .i64 0, .int .i64 0] 27)) W → Calls Try.prog 18 #[.agg #[.int .i64 nx, .slice a zs.length c]] W fun e w' => e = .returned (.agg #[.int .i64 x, .int .i64 y]) ∧ Below W.heap.size W w') := fun W hW => by
    have := rcheck_any W nx _ zs (Rd.below h (below_two hW)) hn
    rw [hf] at this
    exact this
  by_cases hx : x = 0
  · subst hx
    have hf0 : ringF nx zs = (0, 0) := ringF_zero (by rw [hf])
    obtain rfl : y = 0 := by rw [hf0] at hf; exact (congrArg Prod.snd hf).symm
    obtain ⟨gx, gy, hgf⟩ : ∃ x y, globalF nx zs gs = (x, y) := ⟨_, _, rfl⟩
    have HG : Hid (∀ W, Below (w.heap.size + 2) ((w.alloc (.cells #[.int .i64 nx, .slice a zs.length c] 25)).alloc (.cells #[.int .i64 0, .int .i64 0] 27)) W → Calls Try.prog 22 #[.agg #[.int .i64 nx, .slice a zs.length c], .slice a' gs.length c'] W fun e w' => e = .returned (.agg #[.int .i64 gx, .int .i64 gy]) ∧ Below W.heap.size W w') := fun W hW => by
      have := global_any W nx _ zs (Rd.below h (below_two hW)) (good_iff.1 hf0) _ gs (Rd.below h' (below_two hW)) hm
      rw [hgf] at this
      exact this
    unfold refillF
    rw [hf, hgf, if_neg (by simp)]
    by_cases hgx : gx = 0
    · subst hgx
      obtain rfl : gy = 0 := by have := globalF_zero (nx := nx) (zs := zs) (gs := gs) (by rw [hgf]); rw [this] at hgf; exact (congrArg Prod.snd hgf).symm
      rw [if_neg (by simp)]
      clear h h' hf hf0 hgf
      by_cases hp : p < 1
      · rw [if_pos (Or.inl hp)]
        go_enter Try.func14, Try.ntmps14
        go_upto_region 2 with (go_at_call 18; refine (unhide HC _ (Below.refl _ _)).mono ?_; rintro e w1 ⟨rfl, hb1⟩; have HB1 := hide (hb1.mono (show w.heap.size + 2 ≤ _ by simp)); clear hb1)
        have WaT := hide (cells_new w1 (.int .i64 0) (.int .i64 0))
        have WaB := hide ((unhide HB1).alloc (two_size (unhide HB1)) (.cells #[.int .i64 0, .int .i64 0] 27))
        obtain ⟨Wa, hWa⟩ : ∃ W, w1.alloc (.cells #[.int .i64 0, .int .i64 0] 27) = W := ⟨_, rfl⟩
        rw [hWa] at WaT WaB ⊢
        clear hWa
        obtain ⟨t0, t1⟩ := unhide WaT
        obtain ⟨r0, r1, f0, f1⟩ := res_there (unhide WaB)
        obtain ⟨x0, x1⟩ := arg_there (unhide WaB)
        go_upto_region 5 with (go_at_call 22; refine (unhide HG _ (unhide WaB)).mono ?_; rintro e w2 ⟨rfl, hb2⟩; have HB2 := hide (below_call (unhide WaB) hb2); clear hb2 t0 t1 r0 r1 f0 f1 x0 x1)
        have WdT := hide (cells_new w2 (.int .i64 0) (.int .i64 0))
        have WdB := hide ((unhide HB2).alloc (two_size (unhide HB2)) (.cells #[.int .i64 0, .int .i64 0] 27))
        obtain ⟨Wd, hWd⟩ : ∃ W, w2.alloc (.cells #[.int .i64 0, .int .i64 0] 27) = W := ⟨_, rfl⟩
        rw [hWd] at WdT WdB ⊢
        clear hWd
        obtain ⟨t0, t1⟩ := unhide WdT
        obtain ⟨r0, r1, f0, f1⟩ := res_there (unhide WdB)
        obtain ⟨x0, x1⟩ := arg_there (unhide WdB)
        go_wp2_with fail
        refine bodyPost_ret (v := .agg #[.int .i64 3, .int .i64 (-1)]) (by simp [results, Try.results14, go_sem, r0, r1]) rfl ⟨rfl, ?_⟩
        exact ((below_two (unhide WdB)).setCell (Nat.le_succ _) _).setCell (Nat.le_succ _) _
      · by_cases hq : 64 < p
        · rw [if_pos (Or.inr hq)]
          go_enter Try.func14, Try.ntmps14
          go_upto_region 2 with (go_at_call 18; refine (unhide HC _ (Below.refl _ _)).mono ?_; rintro e w1 ⟨rfl, hb1⟩; have HB1 := hide (hb1.mono (show w.heap.size + 2 ≤ _ by simp)); clear hb1)
          have WaT := hide (cells_new w1 (.int .i64 0) (.int .i64 0))
          have WaB := hide ((unhide HB1).alloc (two_size (unhide HB1)) (.cells #[.int .i64 0, .int .i64 0] 27))
          obtain ⟨Wa, hWa⟩ : ∃ W, w1.alloc (.cells #[.int .i64 0, .int .i64 0] 27) = W := ⟨_, rfl⟩
          rw [hWa] at WaT WaB ⊢
          clear hWa
          obtain ⟨t0, t1⟩ := unhide WaT
          obtain ⟨r0, r1, f0, f1⟩ := res_there (unhide WaB)
          obtain ⟨x0, x1⟩ := arg_there (unhide WaB)
          go_upto_region 5 with (go_at_call 22; refine (unhide HG _ (unhide WaB)).mono ?_; rintro e w2 ⟨rfl, hb2⟩; have HB2 := hide (below_call (unhide WaB) hb2); clear hb2 t0 t1 r0 r1 f0 f1 x0 x1)
          have WdT := hide (cells_new w2 (.int .i64 0) (.int .i64 0))
          have WdB := hide ((unhide HB2).alloc (two_size (unhide HB2)) (.cells #[.int .i64 0, .int .i64 0] 27))
          obtain ⟨Wd, hWd⟩ : ∃ W, w2.alloc (.cells #[.int .i64 0, .int .i64 0] 27) = W := ⟨_, rfl⟩
          rw [hWd] at WdT WdB ⊢
          clear hWd
          obtain ⟨t0, t1⟩ := unhide WdT
          obtain ⟨r0, r1, f0, f1⟩ := res_there (unhide WdB)
          obtain ⟨x0, x1⟩ := arg_there (unhide WdB)
          go_wp2_with fail
          refine bodyPost_ret (v := .agg #[.int .i64 3, .int .i64 (-1)]) (by simp [results, Try.results14, go_sem, r0, r1]) rfl ⟨rfl, ?_⟩
          exact ((below_two (unhide WdB)).setCell (Nat.le_succ _) _).setCell (Nat.le_succ _) _
        · rw [if_neg (by omega)]
          go_enter Try.func14, Try.ntmps14
          go_upto_region 2 with (go_at_call 18; refine (unhide HC _ (Below.refl _ _)).mono ?_; rintro e w1 ⟨rfl, hb1⟩; have HB1 := hide (hb1.mono (show w.heap.size + 2 ≤ _ by simp)); clear hb1)
          have WaT := hide (cells_new w1 (.int .i64 0) (.int .i64 0))
          have WaB := hide ((unhide HB1).alloc (two_size (unhide HB1)) (.cells #[.int .i64 0, .int .i64 0] 27))
          obtain ⟨Wa, hWa⟩ : ∃ W, w1.alloc (.cells #[.int .i64 0, .int .i64 0] 27) = W := ⟨_, rfl⟩
          rw [hWa] at WaT WaB ⊢
          clear hWa
          obtain ⟨t0, t1⟩ := unhide WaT
          obtain ⟨r0, r1, f0, f1⟩ := res_there (unhide WaB)
          obtain ⟨x0, x1⟩ := arg_there (unhide WaB)
          go_upto_region 5 with (go_at_call 22; refine (unhide HG _ (unhide WaB)).mono ?_; rintro e w2 ⟨rfl, hb2⟩; have HB2 := hide (below_call (unhide WaB) hb2); clear hb2 t0 t1 r0 r1 f0 f1 x0 x1)
          have WdT := hide (cells_new w2 (.int .i64 0) (.int .i64 0))
          have WdB := hide ((unhide HB2).alloc (two_size (unhide HB2)) (.cells #[.int .i64 0, .int .i64 0] 27))
          obtain ⟨Wd, hWd⟩ : ∃ W, w2.alloc (.cells #[.int .i64 0, .int .i64 0] 27) = W := ⟨_, rfl⟩
          rw [hWd] at WdT WdB ⊢
          clear hWd
          obtain ⟨t0, t1⟩ := unhide WdT
          obtain ⟨r0, r1, f0, f1⟩ := res_there (unhide WdB)
          obtain ⟨x0, x1⟩ := arg_there (unhide WdB)
          go_wp2_with fail
          refine bodyPost_ret (v := .agg #[.int .i64 0, .int .i64 0]) (by simp [results, Try.results14, go_sem, r0, r1]) rfl ⟨rfl, ?_⟩
          exact ((below_two (unhide WdB)).setCell (Nat.le_succ _) _).setCell (Nat.le_succ _) _
    · have hgx1 : (gx != 0) = true := by simpa using hgx
      rw [if_pos hgx]
      clear h h' hf hf0 hgf hgx
      go_enter Try.func14, Try.ntmps14
      go_upto_region 2 with (go_at_call 18; refine (unhide HC _ (Below.refl _ _)).mono ?_; rintro e w1 ⟨rfl, hb1⟩; have HB1 := hide (hb1.mono (show w.heap.size + 2 ≤ _ by simp)); clear hb1)
      have WaT := hide (cells_new w1 (.int .i64 0) (.int .i64 0))
      have WaB := hide ((unhide HB1).alloc (two_size (unhide HB1)) (.cells #[.int .i64 0, .int .i64 0] 27))
      obtain ⟨Wa, hWa⟩ : ∃ W, w1.alloc (.cells #[.int .i64 0, .int .i64 0] 27) = W := ⟨_, rfl⟩
      rw [hWa] at WaT WaB ⊢
      clear hWa
      obtain ⟨t0, t1⟩ := unhide WaT
      obtain ⟨r0, r1, f0, f1⟩ := res_there (unhide WaB)
      obtain ⟨x0, x1⟩ := arg_there (unhide WaB)
      go_upto_region 5 with (go_at_call 22; refine (unhide HG _ (unhide WaB)).mono ?_; rintro e w2 ⟨rfl, hb2⟩; have HB2 := hide (below_call (unhide WaB) hb2); clear hb2 t0 t1 r0 r1 f0 f1 x0 x1)
      have WdT := hide (cells_new w2 (.int .i64 gx) (.int .i64 gy))
      have WdB := hide ((unhide HB2).alloc (two_size (unhide HB2)) (.cells #[.int .i64 gx, .int .i64 gy] 27))
      obtain ⟨Wd, hWd⟩ : ∃ W, w2.alloc (.cells #[.int .i64 gx, .int .i64 gy] 27) = W := ⟨_, rfl⟩
      rw [hWd] at WdT WdB ⊢
      clear hWd
      obtain ⟨t0, t1⟩ := unhide WdT
      obtain ⟨r0, r1, f0, f1⟩ := res_there (unhide WdB)
      obtain ⟨x0, x1⟩ := arg_there (unhide WdB)
      go_wp2_with fail
      refine bodyPost_ret (v := .agg #[.int .i64 gx, .int .i64 gy]) (by simp [results, Try.results14, go_sem, r0, r1]) rfl ⟨rfl, ?_⟩
      exact ((below_two (unhide WdB)).setCell (Nat.le_succ _) _).setCell (Nat.le_succ _) _
  · have hx1 : (x != 0) = true := by simpa using hx
    unfold refillF
    rw [hf, if_pos hx]
    clear h h' hf hx
    go_enter Try.func14, Try.ntmps14
    go_upto_region 2 with (go_at_call 18; refine (unhide HC _ (Below.refl _ _)).mono ?_; rintro e w1 ⟨rfl, hb1⟩; have HB1 := hide (hb1.mono (show w.heap.size + 2 ≤ _ by simp)); clear hb1)
    have WaT := hide (cells_new w1 (.int .i64 x) (.int .i64 y))
    have WaB := hide ((unhide HB1).alloc (two_size (unhide HB1)) (.cells #[.int .i64 x, .int .i64 y] 27))
    obtain ⟨Wa, hWa⟩ : ∃ W, w1.alloc (.cells #[.int .i64 x, .int .i64 y] 27) = W := ⟨_, rfl⟩
    rw [hWa] at WaT WaB ⊢
    clear hWa
    obtain ⟨t0, t1⟩ := unhide WaT
    obtain ⟨r0, r1, f0, f1⟩ := res_there (unhide WaB)
    obtain ⟨x0, x1⟩ := arg_there (unhide WaB)
    go_wp2_with fail
    refine bodyPost_ret (v := .agg #[.int .i64 x, .int .i64 y]) (by simp [results, Try.results14, go_sem, r0, r1]) rfl ⟨rfl, ?_⟩
    exact ((below_two (unhide WaB)).setCell (Nat.le_succ _) _).setCell (Nat.le_succ _) _

set_option maxRecDepth 100000 in
set_option maxHeartbeats 400000 in
theorem room_any (w : World) (nx : Int) (a : Option Addr) (n c : Nat) (hn : n ≤ 256) :
    Calls Try.prog 15 #[.agg #[.int .i64 nx, .slice a n c]] w fun e w' => e = .returned (.int .i64 (256 - (n : Int))) ∧ Below w.heap.size w w' := by
  go_enter Try.func15, Try.ntmps15
  go_wp2
  go_ret
  exact ⟨rfl, (Below.refl _ _).alloc (Nat.le_refl _) _⟩
end Go.Proofs.Ytcdnennfimbgoab
