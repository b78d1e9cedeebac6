/-
  taskmilllaw.RingTakes returns true.
-/
import Derived.Test.YtcdnennfimbgoaaL
namespace Go.Proofs.Ytcdnennfimbgoaa
open Go.RowKit

/-- A boxed ring, in every world behind. -/
theorem arg1 {w W : World} {x y : Value} (h : Below (w.heap.size + 1) (w.alloc (.cells #[x, y] 24)) W) : W.cell? ⟨w.heap.size, 0, none⟩ = some x ∧ W.cell? ⟨w.heap.size, 1, none⟩ = some y ∧ w.heap.size < W.heap.size := by
  have hh := (MapKept.heap_alloc w (.cells #[x, y] 24)).1
  refine ⟨?_, ?_, Nat.lt_of_lt_of_le (by simp) h.size⟩
  · rw [h.cell (p := ⟨w.heap.size, 0, none⟩) (by simp)]; simp only [World.cell?, hh]; rfl
  · rw [h.cell (p := ⟨w.heap.size, 1, none⟩) (by simp)]; simp only [World.cell?, hh]; rfl
theorem below1 {w W : World} {o : Obj} (h : Below (w.heap.size + 1) (w.alloc o) W) : Below w.heap.size w W := ((Below.refl _ _).alloc (Nat.le_refl _) o).trans (h.mono (Nat.le_succ _))
theorem next1 {w W W' : World} {o : Obj} (h : Below (w.heap.size + 1) (w.alloc o) W) (h' : Below W.heap.size W W') : Below (w.heap.size + 1) (w.alloc o) W' := h.trans (h'.mono (Nat.le_trans (by simp) h.size))
theorem next1a {w W W' : World} {o o1 : Obj} (h : Below (w.heap.size + 1) (w.alloc o) W) (h' : Below (W.alloc o1).heap.size (W.alloc o1) W') : Below (w.heap.size + 1) (w.alloc o) W' := next1 h (((Below.refl _ _).alloc (Nat.le_refl _) o1).trans (h'.mono (by simp)))
theorem next1b {w W W' : World} {o o1 o2 : Obj} (h : Below (w.heap.size + 1) (w.alloc o) W) (h' : Below ((W.alloc o1).alloc o2).heap.size ((W.alloc o1).alloc o2) W') : Below (w.heap.size + 1) (w.alloc o) W' := next1 h ((below_new2 W o1 o2).trans (h'.mono (by simp; omega)))

/-- Three variables, behind two calls. -/
theorem three_vars {w3 w4 w5 : World} {p0 p1 f0 f1 g0 g1 : Value} (h4 : Below ((w3.alloc (.cells #[p0, p1] 24)).alloc (.cells #[f0, f1] 28)).heap.size ((w3.alloc (.cells #[p0, p1] 24)).alloc (.cells #[f0, f1] 28)) w4) (h5 : Below (w4.alloc (.cells #[g0, g1] 28)).heap.size (w4.alloc (.cells #[g0, g1] 28)) w5) :
    (w5.cell? ⟨w3.heap.size, 0, none⟩ = some p0 ∧ w5.cell? ⟨w3.heap.size, 1, none⟩ = some p1) ∧ (w5.cell? ⟨w3.heap.size + 1, 0, none⟩ = some f0 ∧ w5.cell? ⟨w3.heap.size + 1, 1, none⟩ = some f1) ∧ (w5.cell? ⟨w4.heap.size, 0, none⟩ = some g0 ∧ w5.cell? ⟨w4.heap.size, 1, none⟩ = some g1) ∧ (w5.frozen? ⟨w4.heap.size, 0, none⟩ = false ∧ w5.frozen? ⟨w4.heap.size, 1, none⟩ = false) := by
  have s4 : w3.heap.size + 2 ≤ w4.heap.size := by have := h4.size; simp at this; omega
  have b0 : w5.heap[w3.heap.size]? = some (.cells #[p0, p1] 24) := by
    rw [h5.block _ (by simp; omega), Below.heap_alloc _ _ _ (by omega), h4.block _ (by simp; omega), Below.heap_alloc _ _ _ (by simp)]
    exact (MapKept.heap_alloc w3 _).1
  have b1 : w5.heap[w3.heap.size + 1]? = some (.cells #[f0, f1] 28) := by
    rw [h5.block _ (by simp; omega), Below.heap_alloc _ _ _ (by omega), h4.block _ (by simp)]
    have := (MapKept.heap_alloc (w3.alloc (.cells #[p0, p1] 24)) (.cells #[f0, f1] 28)).1
    rw [World.size_alloc] at this
    exact this
  have b2 : w5.heap[w4.heap.size]? = some (.cells #[g0, g1] 28) := by
    rw [h5.block _ (by simp)]
    exact (MapKept.heap_alloc w4 _).1
  refine ⟨⟨?_, ?_⟩, ⟨?_, ?_⟩, ⟨?_, ?_⟩, ?_, ?_⟩
  · simp only [World.cell?, b0]; rfl
  · simp only [World.cell?, b0]; rfl
  · simp only [World.cell?, b1]; rfl
  · simp only [World.cell?, b1]; rfl
  · simp only [World.cell?, b2]; rfl
  · simp only [World.cell?, b2]; rfl
  · simp only [World.frozen?, b2]; rfl
  · simp only [World.frozen?, b2]; rfl

set_option maxRecDepth 100000 in
set_option maxHeartbeats 1000000 in
theorem takes_long (w : World) (nx : Int) (a : Option Addr) (n c : Nat) (hn : 2000 < n) (hm : n ≤ maxLen) :
    Calls Try.prog 4 #[.agg #[.int .i64 nx, .slice a n c]] w fun e w' => e = .returned (.bool true) ∧ Below w.heap.size w w' := by
  have hnot : ∀ (x : Bool) (w : World), (Op.unary .not (.bool x)).run Try.prog w = .ok (.bool (!x)) w := fun _ _ => rfl
  unfold maxLen at hm
  have h1 : (2000 : Int) < (n : Int) := by omega
  go_enter Try.func4, Try.ntmps4
  go_wp2_with (go_at_call 9; refine (begun_any _).mono ?_; rintro e w1 ⟨rfl, hb1⟩; have hx1 := hb1.mono (show w.heap.size + 1 ≤ _ by simp); obtain ⟨x0, x1, s1⟩ := arg1 hx1; have HX1 := hide hx1; clear hb1 hx1)
  go_ret
  exact ⟨rfl, below1 (unhide HX1)⟩

set_option maxRecDepth 100000 in
set_option maxHeartbeats 1000000 in
theorem takes_fault (w : World) (nx : Int) (v : Value) (zs : List Int) (h : IsInts w v zs) (hv : Fits v) (hn : zs.length ≤ 2000) (x y : Int) (hf : ringF nx zs = (x, y)) (hx : x ≠ 0) :
    Calls Try.prog 4 #[.agg #[.int .i64 nx, v]] w fun e w' => e = .returned (.bool true) ∧ Below w.heap.size w w' := by
  have hnot : ∀ (x : Bool) (w : World), (Op.unary .not (.bool x)).run Try.prog w = .ok (.bool (!x)) w := fun _ _ => rfl
  obtain ⟨a, c, rfl⟩ := Rd.form h
  have h1 : ¬ (2000 : Int) < (zs.length : Int) := by omega
  have hx1 : (x != 0) = true := by simpa using hx
  have hx2 : (x == 0) = false := by simpa using hx
  have HOR : Hid (∀ W, Below (w.heap.size + 1) (w.alloc (.cells #[.int .i64 nx, .slice a zs.length c] 24)) W → Calls Try.prog 10 #[.agg #[.int .i64 nx, .slice a zs.length c]] W fun e w' => ∃ a' c', e = .returned (.agg #[.int .i64 nx, .slice a' zs.length c']) ∧ Own W.heap.size w' (.slice a' zs.length c') zs ∧ Below W.heap.size W w') := fun W hW => ownRing_any W nx _ zs (Rd.below h (below1 hW)) (by omega)
  have HTK : Hid (∀ W v', IsInts W v' zs → Calls Try.prog 21 #[.agg #[.int .i64 nx, v']] W fun e w' => e = .returned (.tuple #[.agg #[.int .i64 0, .slice none 0 0], .int .i64 0, .agg #[.int .i64 x, .int .i64 y]]) ∧ Below W.heap.size W w') := fun W v' hW => rtake_fault W nx v' zs hW (by unfold maxLen; omega) x y hf hx
  have HRF : Hid (∀ W, Below w.heap.size w W → Calls Try.prog 13 #[.agg #[.int .i64 nx, .slice a zs.length c]] W fun e w' => e = .returned (.agg #[.int .i64 x, .int .i64 y]) ∧ Below W.heap.size W w') := fun W hW => by
    have := rfault_any W nx _ zs (Rd.below h hW) hv (by unfold maxLen; omega)
    rw [hf] at this
    exact this
  have HLN : Hid (∀ W, Below w.heap.size w W → Calls Try.prog 17 #[.agg #[.int .i64 nx, .slice a zs.length c]] W fun e w' => ∃ a' c', e = .returned (.slice a' (lineL nx zs).length c') ∧ Own W.heap.size w' (.slice a' (lineL nx zs).length c') (lineL nx zs) ∧ Below W.heap.size W w') := fun W hW => line_any W nx _ zs (Rd.below h hW) (by omega)
  obtain ⟨ln, hln⟩ : ∃ l, lineL nx zs = l := ⟨_, rfl⟩
  rw [hln] at HLN
  clear h hv hf hx hln
  go_enter Try.func4, Try.ntmps4
  go_upto_region 8 with (first
    | (go_at_call 9; refine (begun_any _).mono ?_; rintro e w1 ⟨rfl, hb1⟩; have hx1 := hb1.mono (show w.heap.size + 1 ≤ _ by simp); obtain ⟨x0, x1, s1⟩ := arg1 hx1; have HX1 := hide hx1; clear hb1 hx1)
    | (go_at_call 10; refine (unhide HOR _ (unhide HX1)).mono ?_; rintro e w2 ⟨a2, c2, rfl, ho2, hb2⟩; have HO2 := hide ho2; have HX2 := hide (next1 (unhide HX1) hb2); clear ho2 hb2 x0 x1 s1)
    | (go_at_call 21; refine (unhide HTK _ _ (unhide HO2).list.1).mono ?_; rintro e w3 ⟨rfl, hb3⟩; have hx3 := next1 (unhide HX2) hb3; obtain ⟨x0, x1, s1⟩ := arg1 hx3; have HX3 := hide hx3; clear hb3 hx3)
    | (go_at_call 13; refine (unhide HRF _ ((below1 (unhide HX3)).trans ((below_new2 w3 _ _).mono (below1 (unhide HX3)).size))).mono ?_; rintro e w4 ⟨rfl, hb4⟩; have hx4 := next1b (unhide HX3) hb4; have HB4 := hide hb4; clear x0 x1 s1; obtain ⟨x0, x1, s1⟩ := arg1 hx4; have HX4 := hide hx4; clear hb4 hx4)
    | (go_at_call 17; refine (unhide HLN _ ((below1 (unhide HX4)).alloc (below1 (unhide HX4)).size _)).mono ?_; rintro e w5 ⟨a5, c5, rfl, ho5, hb5⟩; have HX5 := hide (next1a (unhide HX4) hb5); have HO5 := hide ho5; have HB5 := hide hb5; clear ho5 hb5 x0 x1 s1))
  obtain ⟨⟨p0, p1⟩, ⟨f0, f1⟩, ⟨g0, g1⟩, z0, z1⟩ := three_vars (unhide HB4) (unhide HB5)
  clear z0 z1
  go_wp2_with (go_at_call 18; refine (noRing_none _ _ _).mono ?_; rintro e w6 ⟨rfl, hb6⟩; have HX6 := hide (next1 (unhide HX5) hb6); clear hb6)
  go_ret
  exact ⟨rfl, below1 (unhide HX6)⟩
set_option maxRecDepth 100000 in
set_option maxHeartbeats 1000000 in
theorem takes_none (w : World) (a : Option Addr) (c : Nat) (h : IsInts w (.slice a ([] : List Int).length c) []) (hv : Fits (.slice a ([] : List Int).length c)) :
    Calls Try.prog 4 #[.agg #[.int .i64 0, .slice a ([] : List Int).length c]] w fun e w' => e = .returned (.bool true) ∧ Below w.heap.size w w' := by
  have hnot : ∀ (x : Bool) (w : World), (Op.unary .not (.bool x)).run Try.prog w = .ok (.bool (!x)) w := fun _ _ => rfl
  have hf : ringF 0 [] = (0, 0) := rfl
  have HOR : Hid (∀ W, Below (w.heap.size + 1) (w.alloc (.cells #[.int .i64 0, .slice a ([] : List Int).length c] 24)) W → Calls Try.prog 10 #[.agg #[.int .i64 0, .slice a ([] : List Int).length c]] W fun e w' => ∃ a' c', e = .returned (.agg #[.int .i64 0, .slice a' ([] : List Int).length c']) ∧ Own W.heap.size w' (.slice a' ([] : List Int).length c') ([] : List Int) ∧ Below W.heap.size W w') := fun W hW => ownRing_any W 0 _ ([] : List Int) (Rd.below h (below1 hW)) (by simp)
  have HRF : Hid (∀ W, Below w.heap.size w W → Calls Try.prog 13 #[.agg #[.int .i64 0, .slice a ([] : List Int).length c]] W fun e w' => e = .returned (.agg #[.int .i64 0, .int .i64 0]) ∧ Below W.heap.size W w') := fun W hW => by
    have := rfault_any W 0 _ ([] : List Int) (Rd.below h hW) hv (by simp [maxLen])
    rw [hf] at this
    exact this
  have HTK : Hid (∀ W v', IsList W v' ([] : List Int) → Calls Try.prog 21 #[.agg #[.int .i64 0, v']] W fun e w' => e = .returned (.tuple #[.agg #[.int .i64 0, .slice none 0 0], .int .i64 0, .agg #[.int .i64 6, .int .i64 0]]) ∧ Below W.heap.size W w') := fun W v' hW => by
    obtain ⟨a', c', rfl⟩ := Rd.form hW.1
    exact rtake_none W a' c' hW.1
  have HLN : Hid (∀ W, Below w.heap.size w W → Calls Try.prog 17 #[.agg #[.int .i64 0, .slice a ([] : List Int).length c]] W fun e w' => ∃ a' c', e = .returned (.slice a' 0 c') ∧ Own W.heap.size w' (.slice a' 0 c') [] ∧ Below W.heap.size W w') := fun W hW => line_any W 0 _ [] (Rd.below h hW) (by simp)
  clear h hv hf
  simp only [List.length_nil] at HOR HRF HTK HLN ⊢
  go_enter Try.func4, Try.ntmps4
  go_upto_region 8 with (first
    | (go_at_call 9; refine (begun_any _).mono ?_; rintro e w1 ⟨rfl, hb1⟩; have hx1 := hb1.mono (show w.heap.size + 1 ≤ _ by simp); obtain ⟨x0, x1, s1⟩ := arg1 hx1; have HX1 := hide hx1; clear hb1 hx1)
    | (go_at_call 10; refine (unhide HOR _ (unhide HX1)).mono ?_; rintro e w2 ⟨a2, c2, rfl, ho2, hb2⟩; have HO2 := hide ho2; have HX2 := hide (next1 (unhide HX1) hb2); clear ho2 hb2 x0 x1 s1)
    | (go_at_call 21; refine (unhide HTK _ _ (unhide HO2).list).mono ?_; rintro e w3 ⟨rfl, hb3⟩; have hx3 := next1 (unhide HX2) hb3; obtain ⟨x0, x1, s1⟩ := arg1 hx3; have HX3 := hide hx3; clear hb3 hx3)
    | (go_at_call 13; refine (unhide HRF _ ((below1 (unhide HX3)).trans ((below_new2 w3 _ _).mono (below1 (unhide HX3)).size))).mono ?_; rintro e w4 ⟨rfl, hb4⟩; have hx4 := next1b (unhide HX3) hb4; have HB4 := hide hb4; clear x0 x1 s1; obtain ⟨x0, x1, s1⟩ := arg1 hx4; have HX4 := hide hx4; clear hb4 hx4)
    | (go_at_call 17; refine (unhide HLN _ ((below1 (unhide HX4)).alloc (below1 (unhide HX4)).size _)).mono ?_; rintro e w5 ⟨a5, c5, rfl, ho5, hb5⟩; have HX5 := hide (next1a (unhide HX4) hb5); have HO5 := hide ho5; have HB5 := hide hb5; clear ho5 hb5 x0 x1 s1))
  obtain ⟨⟨p0, p1⟩, ⟨f0, f1⟩, ⟨g0, g1⟩, z0, z1⟩ := three_vars (unhide HB4) (unhide HB5)
  have hs4 : w3.heap.size + 2 ≤ w4.heap.size := by have := (unhide HB4).size; simp at this; omega
  have ne0 : w3.heap.size ≠ w4.heap.size := by omega
  have ne1 : w3.heap.size + 1 ≠ w4.heap.size := by omega
  have ne2 : w4.heap.size ≠ w3.heap.size := by omega
  have ne3 : w4.heap.size ≠ w3.heap.size + 1 := by omega
  have lt4 : w.heap.size ≤ w4.heap.size := (below1 (unhide HX4)).size
  go_upto_region 10 with (go_at_call 15; refine (f_any _ _ _).mono ?_; rintro e w6 ⟨rfl, hb6⟩; clear p0 p1 f0 f1 g0 g1 z0 z1; obtain ⟨⟨p0, p1⟩, ⟨f0, f1⟩, ⟨g0, g1⟩, z0, z1⟩ := three_vars (unhide HB4) ((unhide HB5).trans (hb6.mono (unhide HB5).size)); have HX6 := hide (below1 (next1 (unhide HX5) hb6)); clear hb6)
  have HX7 := hide (((unhide HX6).setCell (p := ⟨w4.heap.size, 0, none⟩) lt4 (.int .i64 6)).setCell (p := ⟨w4.heap.size, 1, none⟩) lt4 (.int .i64 0))
  go_wp2_with (go_at_call 18; refine (noRing_none _ _ _).mono ?_; rintro e w7 ⟨rfl, hb7⟩; have HX8 := hide ((unhide HX7).trans (hb7.mono (unhide HX7).size)); clear hb7)
  go_ret
  exact ⟨rfl, unhide HX8⟩

theorem faultFrom_zero {W : Nat → Int} : ∀ {f i : Nat}, (faultFrom W f i).1 = 0 → faultFrom W f i = (0, 0)
  | 0, _, _ => rfl
  | f + 1, i, h => by
    rw [faultFrom] at h ⊢
    split
    · rename_i h1; rw [if_pos h1] at h; exact faultFrom_zero h
    · rename_i h1; rw [if_neg h1] at h; exact absurd h h1
theorem ringF_zero {nx : Int} {zs : List Int} (h : (ringF nx zs).1 = 0) : ringF nx zs = (0, 0) := by
  unfold ringF at h ⊢
  split
  · rename_i h1; rw [if_pos h1] at h; exact absurd h (by decide)
  · rename_i h1
    rw [if_neg h1] at h
    split
    · rename_i h2; rw [if_pos h2] at h; exact absurd h (by decide)
    · rename_i h2; rw [if_neg h2] at h; exact faultFrom_zero h
theorem ringF_len {nx : Int} {zs : List Int} (h : ringF nx zs = (0, 0)) : zs.length ≤ 256 := by
  apply Decidable.byContradiction
  intro h1
  unfold ringF at h
  rw [if_pos (by omega)] at h
  cases h
theorem ringF_next {nx : Int} {zs : List Int} (h : ringF nx zs = (0, 0)) : ¬ nx < 0 := by
  intro h1
  have h2 := ringF_len h
  unfold ringF at h
  rw [if_neg (by omega), if_pos h1] at h
  cases h

set_option maxRecDepth 100000 in
set_option maxHeartbeats 1000000 in
theorem takes_some (w : World) (nx : Int) (v : Value) (zs : List Int) (h : IsInts w v zs) (hv : Fits v) (hn : zs.length ≤ 2000) (hf : ringF nx zs = (0, 0)) (y : Int) (ys : List Int) (n : Nat) (hys : ys.length = n) (hline : lineL nx zs = y :: ys)
    (htk : ∀ W v', IsList W v' zs → Calls Try.prog 21 #[.agg #[.int .i64 nx, v']] W fun e w' => ∃ a' c', e = .returned (.tuple #[.agg #[.int .i64 0, .slice a' n c'], .int .i64 y, .agg #[.int .i64 0, .int .i64 0]]) ∧ Own W.heap.size w' (.slice a' n c') ys ∧ Below W.heap.size W w') :
    Calls Try.prog 4 #[.agg #[.int .i64 nx, v]] w fun e w' => e = .returned (.bool true) ∧ Below w.heap.size w w' := by
  have hnot : ∀ (x : Bool) (w : World), (Op.unary .not (.bool x)).run Try.prog w = .ok (.bool (!x)) w := fun _ _ => rfl
  obtain ⟨a, c, rfl⟩ := Rd.form h
  have h1 : ¬ (2000 : Int) < (zs.length : Int) := by omega
  have HOR : Hid (∀ W, Below (w.heap.size + 1) (w.alloc (.cells #[.int .i64 nx, .slice a zs.length c] 24)) W → Calls Try.prog 10 #[.agg #[.int .i64 nx, .slice a zs.length c]] W fun e w' => ∃ a' c', e = .returned (.agg #[.int .i64 nx, .slice a' zs.length c']) ∧ Own W.heap.size w' (.slice a' zs.length c') zs ∧ Below W.heap.size W w') := fun W hW => ownRing_any W nx _ zs (Rd.below h (below1 hW)) (by omega)
  have HRF : Hid (∀ W, Below w.heap.size w W → Calls Try.prog 13 #[.agg #[.int .i64 nx, .slice a zs.length c]] W fun e w' => e = .returned (.agg #[.int .i64 0, .int .i64 0]) ∧ Below W.heap.size W w') := fun W hW => by
    have := rfault_any W nx _ zs (Rd.below h hW) hv (by unfold maxLen; omega)
    rw [hf] at this
    exact this
  have HTK := hide htk
  have hn2 : n ≤ 2001 := by
    have : (lineL nx zs).length = n + 1 := by rw [hline, List.length_cons, hys]
    have h2 : (lineL nx zs).length ≤ zs.length + 1 := by unfold lineL; split <;> simp
    omega
  have HLN : Hid (∀ W, Below w.heap.size w W → Calls Try.prog 17 #[.agg #[.int .i64 nx, (.slice a zs.length c)]] W fun e w' => ∃ a' c', e = .returned (.slice a' (n + 1) c') ∧ Own W.heap.size w' (.slice a' (n + 1) c') (y :: ys) ∧ Below W.heap.size W w') := fun W hW => by
    have := line_any W nx _ zs (Rd.below h hW) (by omega)
    rw [hline, List.length_cons, hys] at this
    exact this
  have HYS := hide hys
  clear h hv hf htk hline hys
  go_enter Try.func4, Try.ntmps4
  go_upto_region 8 with (first
    | (go_at_call 9; refine (begun_any _).mono ?_; rintro e w1 ⟨rfl, hb1⟩; have hx1 := hb1.mono (show w.heap.size + 1 ≤ _ by simp); obtain ⟨x0, x1, s1⟩ := arg1 hx1; have HX1 := hide hx1; clear hb1 hx1)
    | (go_at_call 10; refine (unhide HOR _ (unhide HX1)).mono ?_; rintro e w2 ⟨a2, c2, rfl, ho2, hb2⟩; have HO2 := hide ho2; have HX2 := hide (next1 (unhide HX1) hb2); clear ho2 hb2 x0 x1 s1)
    | (go_at_call 21; refine (unhide HTK _ _ (unhide HO2).list).mono ?_; rintro e w3 ⟨a3, c3, rfl, ho3, hb3⟩; have hx3 := next1 (unhide HX2) hb3; obtain ⟨x0, x1, s1⟩ := arg1 hx3; have HX3 := hide hx3; have HO3 := hide ho3; clear ho3; clear hb3 hx3)
    | (go_at_call 13; refine (unhide HRF _ ((below1 (unhide HX3)).trans ((below_new2 w3 _ _).mono (below1 (unhide HX3)).size))).mono ?_; rintro e w4 ⟨rfl, hb4⟩; have hx4 := next1b (unhide HX3) hb4; have HB4 := hide hb4; clear x0 x1 s1; obtain ⟨x0, x1, s1⟩ := arg1 hx4; have HX4 := hide hx4; clear hb4 hx4)
    | (go_at_call 17; refine (unhide HLN _ ((below1 (unhide HX4)).alloc (below1 (unhide HX4)).size _)).mono ?_; rintro e w5 ⟨a5, c5, rfl, ho5, hb5⟩; have HX5 := hide (next1a (unhide HX4) hb5); have HO5 := hide ho5; have HB5 := hide hb5; clear ho5 hb5 x0 x1 s1))
  obtain ⟨⟨p0, p1⟩, ⟨f0, f1⟩, ⟨g0, g1⟩, z0, z1⟩ := three_vars (unhide HB4) (unhide HB5)
  clear z0 z1
  obtain ⟨g, o, c', e5, hg, hc5⟩ := IsInts.at (unhide HO5).list.1 (by simp)
  have hcap := (unhide HO5).list.2 _ _ _ rfl
  have hy0 := hc5 0 (by simp)
  rw [Nat.add_zero] at hy0
  have hyl : (y :: ys).length = n + 1 := by rw [List.length_cons, unhide HYS]
  rw [hyl] at e5
  cases e5
  have HG := hide hg
  have hy0 : w5.cell? ⟨g, o, none⟩ = some (.int .i64 y) := hy0
  have HSS : Hid (∀ W, Below w5.heap.size w5 W → W.cell? ⟨w3.heap.size, 0, none⟩ = some (.int .i64 0) ∧ W.cell? ⟨w3.heap.size, 1, none⟩ = some (.slice a3 n c3) ∧ W.cell? ⟨g, o, none⟩ = some (.int .i64 y) ∧ Below w5.heap.size w5 W) := fun W hW =>
    ⟨(hW.cell (p := ⟨w3.heap.size, 0, none⟩) (World.block_lt_of_cell? _ _ p0)).trans p0, (hW.cell (p := ⟨w3.heap.size, 1, none⟩) (World.block_lt_of_cell? _ _ p1)).trans p1, (hW.cell (p := ⟨g, o, none⟩) (unhide HG)).trans hy0, hW⟩
  have HIN : Hid (∀ W, Below w5.heap.size w5 W → ∀ c1, Calls Try.prog 20 #[.slice a3 n c3, .slice (if c5 = 1 then some ⟨g, o, none⟩ else some ⟨g, o + 1, none⟩) n c1] W fun e w' => e = .returned (.bool true) ∧ Below W.heap.size W w') := fun W hW c1 => by
    have hB3 : Below w3.heap.size w3 w5 := (below_new2 w3 _ _).trans ((((unhide HB4).mono (by simp; omega)).trans ((((Below.refl _ _).alloc (Nat.le_refl _) _).trans ((unhide HB5).mono (by simp))).mono (Nat.le_trans (by simp; omega) (unhide HB4).size))))
    have hI3 := Rd.below (Rd.below (unhide HO3).list.1 hB3) hW
    have hI5 := Rd.below (unhide HO5).list.1 hW
    have hp := IsInts.part hI5 1 n c1 (by rw [hyl]; omega)
    have e1 : ((y :: ys).drop 1).take n = ys := by rw [List.drop_one, List.tail_cons, List.take_of_length_le (by rw [unhide HYS]; omega)]
    rw [e1] at hp
    refine ints_same W _ _ ys hI3 ?_ (by rw [unhide HYS]; unfold maxLen; omega)
    split
    · have e0 : n = 0 := by omega
      have e2 : ys = [] := List.eq_nil_of_length_eq_zero (by rw [unhide HYS]; omega)
      rw [e2, e0]
      exact ⟨rfl, Or.inr ⟨_, _, rfl, fun j u hj => by simp at hj⟩⟩
    · exact hp
  have i0 : (0 : Int) ≤ (n : Int) := by omega
  have i1 : (1 : Int) ≤ (n : Int) + 1 := by omega
  have i2 : (n : Int) + 1 ≤ (c5 : Int) := by omega
  have i3 : (0 : Int) < (n : Int) + 1 := by omega
  have i4 : (1 : Int) ≤ (c5 : Int) := by omega
  have i5 : (0 : Int) ≤ (n : Int) + 1 := by omega
  have i6 : ((n : Int) + 1 == 0) = false := by simp; omega
  have i7 : (y == y) = true := by simp
  clear hg hyl hc5
  go_upto_region 14 with fail
  clear f0 f1 g0 g1
  by_cases hc1 : c5 = 1
  · skip
    have HI1 : Hid (∀ W, Below w5.heap.size w5 W → ∀ c1, Calls Try.prog 20 #[.slice a3 n c3, .slice (some ⟨g, o, none⟩) n c1] W fun e w' => e = .returned (.bool true) ∧ Below W.heap.size W w') := fun W hW c1 => by
      have := unhide HIN W hW c1
      rw [if_pos hc1] at this
      exact this
    clear HIN
    go_region_held3 (fun W => W.cell? ⟨w3.heap.size, 0, none⟩ = some (.int .i64 0) ∧ W.cell? ⟨w3.heap.size, 1, none⟩ = some (.slice a3 n c3) ∧ W.cell? ⟨g, o, none⟩ = some (.int .i64 y) ∧ Below w5.heap.size w5 W)
      (first | with_reducible exact unhide HSS _ (Below.refl _ _).drew | with_reducible exact unhide HSS _ (unhide HB6))
      (first | (go_at_call 20; refine (unhide HI1 _ (by go_split_ands; assumption) _).mono ?_; rintro e w6 ⟨rfl, hb6⟩; have HB6 : Hid (Below w5.heap.size w5 w6) := Below.trans (B := w5.heap.size) (by go_split_ands; assumption) (hb6.mono (Below.size (B := w5.heap.size) (by go_split_ands; assumption))); clear hb6))
    go_wp2_with fail
    go_ret
    exact ⟨rfl, below1 (next1 (unhide HX5) (unhide HB6))⟩
  · skip
    have HI1 : Hid (∀ W, Below w5.heap.size w5 W → ∀ c1, Calls Try.prog 20 #[.slice a3 n c3, .slice (some ⟨g, o + 1, none⟩) n c1] W fun e w' => e = .returned (.bool true) ∧ Below W.heap.size W w') := fun W hW c1 => by
      have := unhide HIN W hW c1
      rw [if_neg hc1] at this
      exact this
    clear HIN
    go_region_held3 (fun W => W.cell? ⟨w3.heap.size, 0, none⟩ = some (.int .i64 0) ∧ W.cell? ⟨w3.heap.size, 1, none⟩ = some (.slice a3 n c3) ∧ W.cell? ⟨g, o, none⟩ = some (.int .i64 y) ∧ Below w5.heap.size w5 W)
      (first | with_reducible exact unhide HSS _ (Below.refl _ _).drew | with_reducible exact unhide HSS _ (unhide HB6))
      (first | (go_at_call 20; refine (unhide HI1 _ (by go_split_ands; assumption) _).mono ?_; rintro e w6 ⟨rfl, hb6⟩; have HB6 : Hid (Below w5.heap.size w5 w6) := Below.trans (B := w5.heap.size) (by go_split_ands; assumption) (hb6.mono (Below.size (B := w5.heap.size) (by go_split_ands; assumption))); clear hb6))
    go_wp2_with fail
    go_ret
    exact ⟨rfl, below1 (next1 (unhide HX5) (unhide HB6))⟩

theorem takes_walk (w : World) (nx : Int) (v : Value) (zs : List Int) (h : IsInts w v zs) (hv : Fits v) (hm : zs.length ≤ maxLen) :
    Calls Try.prog 4 #[.agg #[.int .i64 nx, v]] w fun e w' => e = .returned (.bool true) ∧ Below w.heap.size w w' := by
  by_cases hl : 2000 < zs.length
  · obtain ⟨a, c, rfl⟩ := Rd.form h
    exact takes_long w nx a _ c hl hm
  · by_cases hx : (ringF nx zs).1 = 0
    · have hf : ringF nx zs = (0, 0) := ringF_zero hx
      have hnn : ¬ nx < 0 := ringF_next hf
      have h256 : zs.length ≤ 256 := ringF_len hf
      by_cases h0 : nx = 0
      · subst h0
        cases zs with
        | nil =>
          obtain ⟨a, c, rfl⟩ := Rd.form h
          exact takes_none w a c h hv
        | cons z zt =>
          refine takes_some w 0 v (z :: zt) h hv (by omega) hf z zt zt.length rfl rfl fun W v' hW => ?_
          obtain ⟨b, off, c, e, _, _⟩ := IsInts.at hW.1 (by simp)
          subst e
          exact rtake_first W b off c zt.length z zt rfl hW.1 (hW.2 _ _ _ rfl) (by simp at h256; omega) hf
      · refine takes_some w nx v zs h hv (by omega) hf nx zs zs.length rfl (by unfold lineL; rw [if_pos (by omega)]) fun W v' hW => rtake_next W nx v' zs hW.1 hm (by omega) hf h0
    · exact takes_fault w nx v zs h hv (by omega) _ _ rfl hx
end Go.Proofs.Ytcdnennfimbgoaa
