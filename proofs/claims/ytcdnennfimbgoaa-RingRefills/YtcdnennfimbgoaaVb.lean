/-
  taskmilllaw.RingRefills where the ring, or the number of tasks, is wrong.
-/
import Derived.Test.YtcdnennfimbgoaaVa
namespace Go.Proofs.Ytcdnennfimbgoaa
open Go.RowKit

set_option maxRecDepth 100000 in
set_option maxHeartbeats 2000000 in
theorem refills_ring (w : World) (nx : Int) (a : Option Addr) (c : Nat) (zs : List Int) (p : Int) (ag : Option Addr) (n cg : Nat) (gs : List Int) (h : IsInts w (.slice a zs.length c) zs) (hv : Fits (.slice a zs.length c)) (hn : zs.length ≤ 2000) (hg : IsInts w (.slice ag n cg) gs) (hgn : gs.length = n) (hm : n ≤ 6000) (x y : Int) (hf : refillF nx zs gs p = (x, y)) (hx : x ≠ 0) (hr : ringF nx zs = (x, y)) :
    Calls Try.prog 5 #[.agg #[.int .i64 nx, .slice a zs.length c], .slice ag n cg, .int .i64 p] w fun e w' => e = .returned (.bool true) ∧ Below w.heap.size w w' := by
  have hnot : ∀ (x : Bool) (w : World), (Op.unary .not (.bool x)).run Try.prog w = .ok (.bool (!x)) w := fun _ _ => rfl
  have h1 : ¬ (2000 : Int) < (zs.length : Int) := by omega
  have h2 : ¬ (6000 : Int) < (n : Int) := by omega
  have hx1 : (x != 0) = true := by simpa using hx
  have hx2 : (x == 0) = false := by simpa using hx
  have hxx : (x == x) = true := by simp
  have hyy : (y == y) = true := by simp
  have HOR : Hid (∀ W, Below (w.heap.size + 1) (w.alloc (.cells #[.int .i64 nx, .slice a zs.length c] 24)) W → Calls Try.prog 10 #[.agg #[.int .i64 nx, .slice a zs.length c]] W fun e w' => ∃ a' c', e = .returned (.agg #[.int .i64 nx, .slice a' zs.length c']) ∧ Own W.heap.size w' (.slice a' zs.length c') zs ∧ Below W.heap.size W w') := fun W hW => ownRing_any W nx _ zs (Rd.below h (below1 hW)) (by omega)
  have HOW : Hid (∀ W, Below w.heap.size w W → Calls Try.prog 23 #[.slice ag n cg] W fun e w' => ∃ a' c', e = .returned (.slice a' n c') ∧ Own W.heap.size w' (.slice a' n c') gs ∧ Below W.heap.size W w') := fun W hW => by
    have := own_list W _ gs (IsInts.below hg hW) (by omega)
    rw [hgn] at this
    exact this
  have HRE : Hid (∀ W v' vg', IsInts W v' zs → IsInts W vg' gs → Calls Try.prog 22 #[.agg #[.int .i64 nx, v'], vg', .int .i64 p] W fun e w' => e = .returned (.tuple #[.agg #[.int .i64 0, .slice none 0 0], .slice none 0 0, .agg #[.int .i64 x, .int .i64 y]]) ∧ Below W.heap.size W w') := fun W v' vg' hW hW' => refill_fault W nx v' zs p hW (by unfold maxLen; omega) vg' gs hW' (by rw [hgn]; unfold maxLen; omega) x y hf hx
  have HRF : Hid (∀ W, Below w.heap.size w W → Calls Try.prog 13 #[.agg #[.int .i64 nx, .slice a zs.length c]] W fun e w' => e = .returned (.agg #[.int .i64 x, .int .i64 y]) ∧ Below W.heap.size W w') := fun W hW => by
    have := rfault_any W nx _ zs (Rd.below h hW) hv (by unfold maxLen; omega)
    rw [hr] at this
    exact this
  clear h hv hg hgn hf hx hr
  go_enter Try.func5, Try.ntmps5
  go_upto_region 7 with (first
    | (go_at_call 9; refine (begun_any _).mono ?_; rintro e w1 ⟨rfl, hb1⟩; have hx1 := hb1.mono (show w.heap.size + 1 ≤ _ by simp); obtain ⟨x0, x1, s1⟩ := arg1 hx1; have HX1 := hide hx1; clear hb1 hx1)
    | (go_at_call 10; refine (unhide HOR _ (unhide HX1)).mono ?_; rintro e w2 ⟨a2, c2, rfl, ho2, hb2⟩; have HO2 := hide ho2; have HX2 := hide (next1 (unhide HX1) hb2); clear ho2 hb2 x0 x1 s1)
    | (go_at_call 23; refine (unhide HOW _ (below1 (unhide HX2))).mono ?_; rintro e w3 ⟨a3, c3, rfl, ho3, hb3⟩; have HO3 := hide ho3; have HI2 := hide (IsInts.below (unhide HO2).list.1 hb3); have HX3 := hide (next1 (unhide HX2) hb3); clear ho3 hb3)
    | (go_at_call 22; refine (unhide HRE _ _ _ (unhide HI2) (unhide HO3).list.1).mono ?_; rintro e w4 ⟨rfl, hb4⟩; have hx4 := next1 (unhide HX3) hb4; obtain ⟨x0, x1, s1⟩ := arg1 hx4; have HX4 := hide hx4; clear hb4 hx4)
    | (go_at_call 13; refine (unhide HRF _ ((below1 (unhide HX4)).trans ((below_new2 w4 _ _).mono (below1 (unhide HX4)).size))).mono ?_; rintro e w5 ⟨rfl, hb5⟩; have HB5 := hide hb5; clear hb5 x0 x1 s1))
  have VW6 := hide (ref_vars (x := x) (y := y) (unhide HX4) (unhide HB5))
  obtain ⟨W6, eW6⟩ : ∃ W, w5.alloc (.cells #[.int .i64 x, .int .i64 y] 28) = W := ⟨_, rfl⟩
  rw [eW6] at VW6 ⊢
  clear eW6
  obtain ⟨⟨q30, q31⟩, ⟨q70, q71⟩, ⟨q90, q91⟩, ⟨q100, q101⟩, z0, z1⟩ := (unhide VW6).cells
  go_wp2_with fail
  clear q30 q31 q70 q71 q90 q91 q100 q101 z0 z1
  go_loopw [11] (fun i wr => i = .int .i64 0 ∧ wr = W6) (fun i _ => 0)
  case atStart => exact ⟨rfl, rfl⟩
  case round =>
    obtain ⟨rfl, rfl⟩ := hrel
    obtain ⟨⟨q30, q31⟩, ⟨q70, q71⟩, ⟨q90, q91⟩, ⟨q100, q101⟩, z0, z1⟩ := (unhide VW6).cells
    by_cases hn1 : 0 < n
    · have i8 : (0 : Int) < (n : Int) := by omega
      go_wp2_with fail
      clear q30 q31 q70 q71 q90 q91 q100 q101 z0 z1 i8
      go_loopw [12] (fun i wr2 => i = .int .i64 0 ∧ wr2 = wr) (fun i _ => 0)
      case atStart => exact ⟨rfl, rfl⟩
      case round =>
        obtain ⟨rfl, rfl⟩ := hrel
        obtain ⟨⟨q30, q31⟩, ⟨q70, q71⟩, ⟨q90, q91⟩, ⟨q100, q101⟩, z0, z1⟩ := (unhide VW6).cells
        · have i9 : (0 : Int) < (n : Int) := by omega
          go_wp2_with (go_at_call 18; refine (noRing_none _ _ _).mono ?_; rintro e w9 ⟨rfl, hb9⟩; have HE := hide ((unhide VW6).keep hb9).all; clear hb9)
          go_ret
          exact ⟨rfl, unhide HE⟩
    · have i8 : ¬ (0 : Int) < (n : Int) := by omega
      go_wp2_with fail
      clear q30 q31 q70 q71 q90 q91 q100 q101 z0 z1 i8
      go_loopw [12] (fun i wr2 => i = .int .i64 0 ∧ wr2 = wr) (fun i _ => 0)
      case atStart => exact ⟨rfl, rfl⟩
      case round =>
        obtain ⟨rfl, rfl⟩ := hrel
        obtain ⟨⟨q30, q31⟩, ⟨q70, q71⟩, ⟨q90, q91⟩, ⟨q100, q101⟩, z0, z1⟩ := (unhide VW6).cells
        · have i9 : ¬ (0 : Int) < (n : Int) := by omega
          go_wp2_with (go_at_call 18; refine (noRing_none _ _ _).mono ?_; rintro e w9 ⟨rfl, hb9⟩; have HE := hide ((unhide VW6).keep hb9).all; clear hb9)
          go_ret
          exact ⟨rfl, unhide HE⟩

set_option maxRecDepth 100000 in
set_option maxHeartbeats 2000000 in
theorem refills_many (w : World) (nx : Int) (a : Option Addr) (c : Nat) (zs : List Int) (p : Int) (ag : Option Addr) (n cg : Nat) (gs : List Int) (h : IsInts w (.slice a zs.length c) zs) (hv : Fits (.slice a zs.length c)) (hn : zs.length ≤ 2000) (hg : IsInts w (.slice ag n cg) gs) (hgn : gs.length = n) (hm : n ≤ 6000) (x y : Int) (hf : refillF nx zs gs p = (x, y)) (hx : x ≠ 0) (hr : ringF nx zs = (0, 0)) (h5 : 5000 < n) :
    Calls Try.prog 5 #[.agg #[.int .i64 nx, .slice a zs.length c], .slice ag n cg, .int .i64 p] w fun e w' => e = .returned (.bool true) ∧ Below w.heap.size w w' := by
  have e2 : refillF nx zs gs p = (2, -1) := by
    have e3 : globalF nx zs gs = (2, -1) := by unfold globalF; rw [hgn, if_pos h5]
    unfold refillF
    rw [hr, if_neg (by simp), e3, if_pos (by simp)]
  have e3 := e2.symm.trans hf
  obtain rfl : 2 = x := congrArg Prod.fst e3
  obtain rfl : -1 = y := congrArg Prod.snd e3
  clear e2 e3
  have hnot : ∀ (x : Bool) (w : World), (Op.unary .not (.bool x)).run Try.prog w = .ok (.bool (!x)) w := fun _ _ => rfl
  have h1 : ¬ (2000 : Int) < (zs.length : Int) := by omega
  have h2 : ¬ (6000 : Int) < (n : Int) := by omega
  have HOR : Hid (∀ W, Below (w.heap.size + 1) (w.alloc (.cells #[.int .i64 nx, .slice a zs.length c] 24)) W → Calls Try.prog 10 #[.agg #[.int .i64 nx, .slice a zs.length c]] W fun e w' => ∃ a' c', e = .returned (.agg #[.int .i64 nx, .slice a' zs.length c']) ∧ Own W.heap.size w' (.slice a' zs.length c') zs ∧ Below W.heap.size W w') := fun W hW => ownRing_any W nx _ zs (Rd.below h (below1 hW)) (by omega)
  have HOW : Hid (∀ W, Below w.heap.size w W → Calls Try.prog 23 #[.slice ag n cg] W fun e w' => ∃ a' c', e = .returned (.slice a' n c') ∧ Own W.heap.size w' (.slice a' n c') gs ∧ Below W.heap.size W w') := fun W hW => by
    have := own_list W _ gs (IsInts.below hg hW) (by omega)
    rw [hgn] at this
    exact this
  have HRE : Hid (∀ W v' vg', IsInts W v' zs → IsInts W vg' gs → Calls Try.prog 22 #[.agg #[.int .i64 nx, v'], vg', .int .i64 p] W fun e w' => e = .returned (.tuple #[.agg #[.int .i64 0, .slice none 0 0], .slice none 0 0, .agg #[.int .i64 2, .int .i64 (-1)]]) ∧ Below W.heap.size W w') := fun W v' vg' hW hW' => refill_fault W nx v' zs p hW (by unfold maxLen; omega) vg' gs hW' (by rw [hgn]; unfold maxLen; omega) 2 (-1) hf hx
  have HRF : Hid (∀ W, Below w.heap.size w W → Calls Try.prog 13 #[.agg #[.int .i64 nx, .slice a zs.length c]] W fun e w' => e = .returned (.agg #[.int .i64 0, .int .i64 0]) ∧ Below W.heap.size W w') := fun W hW => by
    have := rfault_any W nx _ zs (Rd.below h hW) hv (by unfold maxLen; omega)
    rw [hr] at this
    exact this
  have h5 : (5000 : Int) < (n : Int) := by omega
  clear h hv hg hgn hf hx hr
  go_enter Try.func5, Try.ntmps5
  go_upto_region 7 with (first
    | (go_at_call 9; refine (begun_any _).mono ?_; rintro e w1 ⟨rfl, hb1⟩; have hx1 := hb1.mono (show w.heap.size + 1 ≤ _ by simp); obtain ⟨x0, x1, s1⟩ := arg1 hx1; have HX1 := hide hx1; clear hb1 hx1)
    | (go_at_call 10; refine (unhide HOR _ (unhide HX1)).mono ?_; rintro e w2 ⟨a2, c2, rfl, ho2, hb2⟩; have HO2 := hide ho2; have HX2 := hide (next1 (unhide HX1) hb2); clear ho2 hb2 x0 x1 s1)
    | (go_at_call 23; refine (unhide HOW _ (below1 (unhide HX2))).mono ?_; rintro e w3 ⟨a3, c3, rfl, ho3, hb3⟩; have HO3 := hide ho3; have HI2 := hide (IsInts.below (unhide HO2).list.1 hb3); have HX3 := hide (next1 (unhide HX2) hb3); clear ho3 hb3)
    | (go_at_call 22; refine (unhide HRE _ _ _ (unhide HI2) (unhide HO3).list.1).mono ?_; rintro e w4 ⟨rfl, hb4⟩; have hx4 := next1 (unhide HX3) hb4; obtain ⟨x0, x1, s1⟩ := arg1 hx4; have HX4 := hide hx4; clear hb4 hx4)
    | (go_at_call 13; refine (unhide HRF _ ((below1 (unhide HX4)).trans ((below_new2 w4 _ _).mono (below1 (unhide HX4)).size))).mono ?_; rintro e w5 ⟨rfl, hb5⟩; have HB5 := hide hb5; clear hb5 x0 x1 s1))
  have VW6 := hide (ref_vars (x := 0) (y := 0) (unhide HX4) (unhide HB5))
  obtain ⟨W6, eW6⟩ : ∃ W, w5.alloc (.cells #[.int .i64 0, .int .i64 0] 28) = W := ⟨_, rfl⟩
  rw [eW6] at VW6 ⊢
  clear eW6
  obtain ⟨⟨q30, q31⟩, ⟨q70, q71⟩, ⟨q90, q91⟩, ⟨q100, q101⟩, z0, z1⟩ := (unhide VW6).cells
  go_upto_region 9 with (go_at_call 15; refine (f_any _ _ _).mono ?_; rintro e w6 ⟨rfl, hb6⟩; have V6 := hide ((unhide VW6).keep hb6); clear hb6 q30 q31 q70 q71 q90 q91 q100 q101 z0 z1; obtain ⟨⟨q30, q31⟩, ⟨q70, q71⟩, ⟨q90, q91⟩, ⟨q100, q101⟩, z0, z1⟩ := (unhide V6).cells)
  clear q30 q31 q70 q71 q90 q91 q100 q101 z0 z1
  have VW7 := hide ((unhide V6).set 2 (-1))
  obtain ⟨W7, eW7⟩ : ∃ W, (w6.setCell ⟨w5.heap.size, 0, none⟩ (.int .i64 2)).setCell ⟨w5.heap.size, 1, none⟩ (.int .i64 (-1)) = W := ⟨_, rfl⟩
  rw [eW7] at VW7 ⊢
  clear eW7
  go_wp2_with fail
  go_loopw [11] (fun i wr => i = .int .i64 0 ∧ wr = W7) (fun i _ => 0)
  case atStart => exact ⟨rfl, rfl⟩
  case round =>
    obtain ⟨rfl, rfl⟩ := hrel
    obtain ⟨⟨q30, q31⟩, ⟨q70, q71⟩, ⟨q90, q91⟩, ⟨q100, q101⟩, z0, z1⟩ := (unhide VW7).cells
    · have i8 : (0 : Int) < (n : Int) := by omega
      go_wp2_with fail
      clear q30 q31 q70 q71 q90 q91 q100 q101 z0 z1 i8
      go_loopw [12] (fun i wr2 => i = .int .i64 0 ∧ wr2 = wr) (fun i _ => 0)
      case atStart => exact ⟨rfl, rfl⟩
      case round =>
        obtain ⟨rfl, rfl⟩ := hrel
        obtain ⟨⟨q30, q31⟩, ⟨q70, q71⟩, ⟨q90, q91⟩, ⟨q100, q101⟩, z0, z1⟩ := (unhide VW7).cells
        · have i9 : (0 : Int) < (n : Int) := by omega
          go_wp2_with (go_at_call 18; refine (noRing_none _ _ _).mono ?_; rintro e w9 ⟨rfl, hb9⟩; have HE := hide ((unhide VW7).keep hb9).all; clear hb9)
          go_ret
          exact ⟨rfl, unhide HE⟩
end Go.Proofs.Ytcdnennfimbgoaa
