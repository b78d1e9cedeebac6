/-
  wait.Wake; taskmilllaw.waitBegun.
-/
import Derived.Test.YtjlcfdhghohccaaR
namespace Go.Proofs.Ytjlcfdhghohccaa
open Go.RowKit

set_option maxRecDepth 100000 in
set_option maxHeartbeats 2000000 in
theorem wake_fault (w : World) (a : Option Addr) (n c : Nat) (x k : Int) (ls : List Ln) (h : Arg w a n c ls) (u v : Int) (hf : linesF ls = (u, v)) (hu : u ≠ 0) :
    Calls Try.prog 23 #[.slice a n c, .int .i64 x, .int .i64 k] w fun e w' => e = .returned (.tuple #[.slice none 0 0, .slice none 0 0, .agg #[.int .i64 u, .int .i64 v]]) ∧ Below w.heap.size w w' := by
  have hx1 : (u != 0) = true := by simpa using hu
  have HCK : Hid (∀ W, Below w.heap.size w W → Calls Try.prog 11 #[.slice a n c] W fun e w' => e = .returned (.agg #[.int .i64 u, .int .i64 v]) ∧ Below W.heap.size W w') := fun W hW => by
    have := check_any W a n c ls (h.rd.below hW) h.max h.each
    rw [hf] at this
    exact this
  have HX0 := hide (Below.refl (w.heap.size + 1) (w.alloc (.cells #[.int .i64 0, .int .i64 0] 27)))
  clear h hf hu
  go_enter Try.func23, Try.ntmps23
  go_upto_region 2 with (go_at_call 11; refine (unhide HCK _ (below1 (unhide HX0))).mono ?_; rintro e w1 ⟨rfl, hb1⟩; have HX1 := hide (next1 (unhide HX0) hb1); clear hb1)
  have TB := hide (new_block w1 (.cells #[.int .i64 u, .int .i64 v] 27))
  have XB := hide ((unhide HX1).alloc (Nat.le_trans (by simp) (unhide HX1).size) (.cells #[.int .i64 u, .int .i64 v] 27))
  have HTS := hide (show w.heap.size < w1.heap.size from Nat.lt_of_lt_of_le (by simp) (unhide HX1).size)
  obtain ⟨T, hT⟩ : ∃ T, w1.heap.size = T := ⟨_, rfl⟩
  obtain ⟨W2, hW2⟩ : ∃ W, w1.alloc (.cells #[.int .i64 u, .int .i64 v] 27) = W := ⟨_, rfl⟩
  rw [hT, hW2] at TB
  rw [hT] at HTS
  rw [hW2] at XB
  rw [hT, hW2]
  clear hT hW2 HX1
  obtain ⟨t0, t1, t2, t3, _⟩ := block2 (unhide TB)
  obtain ⟨r0, r1, f0, f1⟩ := res1 (unhide XB)
  have n0 : w.heap.size ≠ T := Nat.ne_of_lt (unhide HTS)
  have n1 : T ≠ w.heap.size := Ne.symm n0
  go_wp2_with fail
  go_region
  all_goals go_wp2_with fail
  all_goals exact bodyPost_ret (v := .tuple #[.slice none 0 0, .slice none 0 0, .agg #[.int .i64 u, .int .i64 v]]) (by simp [results, Try.results23, go_sem, r0, r1]) rfl ⟨rfl, (end1 (unhide XB)).drew⟩

theorem Own.set2 {base : Nat} {w : World} {v : Value} {zs : List Int} (h : Own base w v zs) {r : Nat} (hr : r < base) (x y : Value) : Own base ((w.setCell ⟨r, 0, none⟩ x).setCell ⟨r, 1, none⟩ y) v zs :=
  h.keep fun k hk _ => by
    have hne : k ≠ r := by omega
    rw [Below.heap_setCell _ _ _ _ (by simpa using hne), Below.heap_setCell _ _ _ _ (by simpa using hne)]

set_option maxRecDepth 100000 in
set_option maxHeartbeats 2000000 in
theorem wake_ok (w : World) (a : Option Addr) (n c : Nat) (x k : Int) (ls : List Ln) (h : IsLs w (.slice a n c) ls) (hg : Good ls) :
    Calls Try.prog 23 #[.slice a n c, .int .i64 x, .int .i64 k] w fun e w' => ∃ a1 c1 a2 c2, e = .returned (.tuple #[.slice a1 (takenL x k ls).length c1, .slice a2 (firstL x k ls).length c2, .agg #[.int .i64 0, .int .i64 0]]) ∧ FreshL w.heap.size w' (.slice a1 (takenL x k ls).length c1) (takenL x k ls) ∧ Own w.heap.size w' (.slice a2 (firstL x k ls).length c2) (firstL x k ls) ∧ Below w.heap.size w w' := by
  have HCK : Hid (∀ W, Below w.heap.size w W → Calls Try.prog 11 #[.slice a n c] W fun e w' => e = .returned (.agg #[.int .i64 0, .int .i64 0]) ∧ Below W.heap.size W w') := fun W hW => by
    have := check_any W a n c ls (h.below hW) (hg.arg h).max (hg.arg h).each
    rw [good_to hg] at this
    exact this
  have HX0 := hide (Below.refl (w.heap.size + 1) (w.alloc (.cells #[.int .i64 0, .int .i64 0] 27)))
  have HTK : Hid (∀ W, Below w.heap.size w W → Calls Try.prog 36 #[.slice a n c, .int .i64 x, .int .i64 k] W fun e w' => ∃ a1 c1 a2 c2, e = .returned (.tuple #[.slice a1 (takenL x k ls).length c1, .slice a2 (firstL x k ls).length c2]) ∧ FreshL W.heap.size w' (.slice a1 (takenL x k ls).length c1) (takenL x k ls) ∧ Own W.heap.size w' (.slice a2 (firstL x k ls).length c2) (firstL x k ls) ∧ Below W.heap.size W w') := fun W hW => taken_any W a n c x k ls h.len (h.below hW) (by have := hg.len; have := h.len; omega) (by have := hg.few; omega) hg.rise
  obtain ⟨L, hL⟩ : ∃ L, takenL x k ls = L := ⟨_, rfl⟩
  obtain ⟨f, hf⟩ : ∃ f, firstL x k ls = f := ⟨_, rfl⟩
  rw [hL, hf] at HTK ⊢
  obtain ⟨ln, hln⟩ : ∃ k, L.length = k := ⟨_, rfl⟩
  obtain ⟨fn, hfn⟩ : ∃ k, f.length = k := ⟨_, rfl⟩
  rw [hln, hfn] at HTK ⊢
  clear h hg hL hf hln hfn
  go_enter Try.func23, Try.ntmps23
  go_upto_region 2 with (go_at_call 11; refine (unhide HCK _ (below1 (unhide HX0))).mono ?_; rintro e w1 ⟨rfl, hb1⟩; have HX1 := hide (next1 (unhide HX0) hb1); clear hb1)
  have TB := hide (new_block w1 (.cells #[.int .i64 0, .int .i64 0] 27))
  have XB := hide ((unhide HX1).alloc (Nat.le_trans (by simp) (unhide HX1).size) (.cells #[.int .i64 0, .int .i64 0] 27))
  have HTS := hide (show w.heap.size < w1.heap.size from Nat.lt_of_lt_of_le (by simp) (unhide HX1).size)
  obtain ⟨T, hT⟩ : ∃ T, w1.heap.size = T := ⟨_, rfl⟩
  obtain ⟨W2, hW2⟩ : ∃ W, w1.alloc (.cells #[.int .i64 0, .int .i64 0] 27) = W := ⟨_, rfl⟩
  rw [hT, hW2] at TB
  rw [hT] at HTS
  rw [hW2] at XB
  rw [hT, hW2]
  clear hT hW2 HX1
  obtain ⟨t0, t1, _, _, _⟩ := block2 (unhide TB)
  go_upto_region 5 with (go_at_call 36; refine (unhide HTK _ (below1 (unhide XB))).mono ?_; rintro e w3 ⟨a3, c3, a4, c4, rfl, hf3, ho3, hb3⟩; have HF3 := hide hf3; have HO3 := hide ho3; have HX3 := hide (next1 (unhide XB) hb3); clear hf3 ho3 hb3 t0 t1; obtain ⟨r0, r1, f0, f1⟩ := res1 (unhide HX3))
  have hlt : w.heap.size < W2.heap.size := Nat.lt_of_lt_of_le (by simp) (unhide XB).size
  have HFR := hide (((unhide HF3).set2 hlt (.int .i64 0) (.int .i64 0)).base (Nat.le_of_lt hlt))
  have HOR := hide (((unhide HO3).set2 hlt (.int .i64 0) (.int .i64 0)).base (Nat.le_of_lt hlt))
  clear hlt
  go_wp2_with fail
  exact bodyPost_ret (v := .tuple #[.slice a3 ln c3, .slice a4 fn c4, .agg #[.int .i64 0, .int .i64 0]]) (by simp [results, Try.results23, go_sem, r0, r1]) rfl ⟨a3, c3, a4, c4, rfl, unhide HFR, unhide HOR, end1 (unhide HX3)⟩
end Go.Proofs.Ytjlcfdhghohccaa
