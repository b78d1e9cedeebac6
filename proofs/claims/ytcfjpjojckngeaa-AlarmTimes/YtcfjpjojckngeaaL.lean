/-
  taskmilllaw.AlarmAdds returns true.
-/
import Derived.Test.YtcfjpjojckngeaaK
namespace Go.Proofs.Ytcfjpjojckngeaa
open Go.RowKit

set_option maxRecDepth 100000 in
set_option maxHeartbeats 1000000 in
theorem adds_long (w : World) (a : Option Addr) (n c : Nat) (x y : Int) (hl : 6000 < n) (hm : n ≤ maxLen) :
    Calls Try.prog 3 #[.slice a n c, .agg #[.int .i64 x, .int .i64 y]] w fun e w' => e = .returned (.bool true) ∧ Below w.heap.size w w' := by
  have hnot : ∀ (x : Bool) (w : World), (Op.unary .not (.bool x)).run Try.prog w = .ok (.bool (!x)) w := fun _ _ => rfl
  unfold maxLen at hm
  have h1 : (6000 : Int) < (n : Int) := by omega
  go_enter Try.func3, Try.ntmps3
  go_wp2_with (go_at_call 8; refine (begun_any _).mono ?_; rintro e w1 ⟨rfl, hb1⟩; have HX1 := hide (hb1.mono (show w.heap.size + 1 ≤ _ by simp)); clear hb1)
  go_ret
  exact ⟨rfl, below1 (unhide HX1)⟩

set_option maxRecDepth 100000 in
set_option maxHeartbeats 2000000 in
theorem adds_heap (w : World) (a : Option Addr) (n c : Nat) (x y : Int) (ts : List Tm) (hl : ts.length = n) (h : IsTs w (.slice a n c) ts) (hn : n ≤ 6000) (fx fy : Int) (hf : heapF ts = (fx, fy)) (hx : fx ≠ 0) :
    Calls Try.prog 3 #[.slice a n c, .agg #[.int .i64 x, .int .i64 y]] w fun e w' => e = .returned (.bool true) ∧ Below w.heap.size w w' := by
  have hnot : ∀ (x : Bool) (w : World), (Op.unary .not (.bool x)).run Try.prog w = .ok (.bool (!x)) w := fun _ _ => rfl
  have h1 : ¬ (6000 : Int) < (n : Int) := by omega
  have hadd : addF ts (x, y) = (fx, fy) := by unfold addF; rw [hf, if_pos hx]
  have HOW : Hid (∀ W, Below w.heap.size w W → Calls Try.prog 9 #[.slice a n c] W fun e w' => ∃ a' c', e = .returned (.slice a' n c') ∧ Own W.heap.size w' (.slice a' n c') ts ∧ Below W.heap.size W w') := fun W hW => by
    have := own_any W _ ts (IsTs.below h hW) (by omega)
    rw [hl] at this
    exact this
  have HCK : Hid (∀ W v', IsTs W v' ts → Calls Try.prog 10 #[v'] W fun e w' => e = .returned (.agg #[.int .i64 fx, .int .i64 fy]) ∧ Below W.heap.size W w') := fun W v' hW => by
    have := check_any W v' ts hW (by rw [hl]; unfold maxLen; omega)
    rw [hf] at this
    exact this
  have HHF : Hid (∀ W, Below w.heap.size w W → Calls Try.prog 12 #[.slice a n c] W fun e w' => e = .returned (.agg #[.int .i64 fx, .int .i64 fy]) ∧ Below W.heap.size W w') := fun W hW => by
    have := hfault_any W _ ts (IsTs.below h hW) (by rw [hl]; unfold maxLen; omega)
    rw [hf] at this
    exact this
  have HAD : Hid (∀ W v', IsTs W v' ts → Calls Try.prog 11 #[v', .agg #[.int .i64 x, .int .i64 y]] W fun e w' => e = .returned (.tuple #[.slice none 0 0, .int .i64 0, .agg #[.int .i64 fx, .int .i64 fy]]) ∧ Below W.heap.size W w') := fun W v' hW => by
    obtain ⟨a', c', rfl⟩ := Rd.form hW
    have h2 := hW
    rw [hl] at h2 ⊢
    exact add_fault W a' n c' x y ts hl h2 (by unfold maxLen; omega) _ _ hadd hx
  have HV := hide h
  have HL := hide hl
  have q1 : (fx == fx) = true := by simp
  have q2 : (fy == fy) = true := by simp
  have q3 : (fx == 0) = false := by simpa using hx
  have q4 : (fx != 0) = true := by simpa using hx
  clear h hf hl hx hadd
  go_enter Try.func3, Try.ntmps3
  go_upto_region 9 with (first
    | (go_at_call 8; refine (begun_any _).mono ?_; rintro e w1 ⟨rfl, hb1⟩; have HX1 := hide (hb1.mono (show w.heap.size + 1 ≤ _ by simp)); clear hb1)
    | (go_at_call 9; refine (unhide HOW _ (below1 (unhide HX1))).mono ?_; rintro e w2 ⟨a2, c2, rfl, ho2, hb2⟩; have HI2 := hide ho2.ts; have HX2 := hide (next1 (unhide HX1) hb2); clear ho2 hb2)
    | (go_at_call 10; refine (unhide HCK _ _ (unhide HI2)).mono ?_; rintro e w3 ⟨rfl, hb3⟩; have HX3 := hide (next1 (unhide HX2) hb3); have HI3 := hide (IsTs.below (unhide HI2) hb3); obtain ⟨x0, x1, s1⟩ := arg1 (unhide HX3); clear hb3)
    | (go_at_call 11; refine (unhide HAD _ _ (IsTs.below (unhide HI3) ((Below.refl _ _).alloc (Nat.le_refl _) _))).mono ?_; rintro e w4 ⟨rfl, hb4⟩; have HB4 := hide hb4; have HX4 := hide (next1a (unhide HX3) hb4); have HI4 := hide (IsTs.below (IsTs.below (unhide HI3) ((Below.refl _ _).alloc (Nat.le_refl _) _)) hb4); clear hb4 x0 x1 s1)
    | (go_at_call 12; refine (unhide HHF _ ((below1 (unhide HX4)).alloc (below1 (unhide HX4)).size _)).mono ?_; rintro e w5 ⟨rfl, hb5⟩; have HB5 := hide hb5; have HI5 := hide (IsTs.below (IsTs.below (unhide HI4) ((Below.refl _ _).alloc (Nat.le_refl _) _)) hb5); clear hb5))
  have V6 := hide (add_vars (g0 := fx) (g1 := fy) (unhide HX3) (unhide HB4) (unhide HB5))
  have HI6 := hide (IsTs.below (unhide HI5) ((Below.refl _ _).alloc (Nat.le_refl _) (.cells #[.int .i64 fx, .int .i64 fy] 28)))
  obtain ⟨s6, e6⟩ : ∃ s, w3.heap.size = s := ⟨_, rfl⟩
  obtain ⟨s9, e9⟩ : ∃ s, w4.heap.size = s := ⟨_, rfl⟩
  obtain ⟨W6, eW6⟩ : ∃ W, w5.alloc (.cells #[.int .i64 fx, .int .i64 fy] 28) = W := ⟨_, rfl⟩
  rw [e6, e9, eW6] at V6
  rw [eW6] at HI6
  rw [e6, e9, eW6]
  clear e6 e9 eW6 HB4 HB5 HX1 HX2 HX3 HX4 HI2 HI3 HI4 HI5 HOW HCK HHF HAD
  have HV6 : Hid (IsTs W6 (.slice a n c) ts) := IsTs.below (unhide HV) (unhide V6).all
  obtain ⟨⟨x0, x1⟩, ⟨c00, c01⟩, ⟨f00, f01⟩, ⟨g00, g01⟩, z0, z1⟩ := (unhide V6).cells
  go_wp2_with (go_at_call 13; refine (same_any _ _ _ ts (unhide HI6) (unhide HV6) (by rw [unhide HL]; unfold maxLen; omega)).mono ?_; rintro e w7 ⟨rfl, hb7⟩; have V7 := hide ((unhide V6).keep hb7); clear hb7; clear x0 x1 c00 c01 f00 f01 g00 g01 z0 z1; obtain ⟨⟨x0, x1⟩, ⟨c00, c01⟩, ⟨f00, f01⟩, ⟨g00, g01⟩, z0, z1⟩ := (unhide V7).cells)
  go_ret
  exact ⟨rfl, (unhide V7).all⟩

set_option maxRecDepth 100000 in
set_option maxHeartbeats 2000000 in
theorem adds_oor (w : World) (a : Option Addr) (n c : Nat) (x y : Int) (ts : List Tm) (hl : ts.length = n) (h : IsTs w (.slice a n c) ts) (hn : n ≤ 6000) (hf : heapF ts = (0, 0)) (ho : oor (x, y)) :
    Calls Try.prog 3 #[.slice a n c, .agg #[.int .i64 x, .int .i64 y]] w fun e w' => e = .returned (.bool true) ∧ Below w.heap.size w w' := by
  have hnot : ∀ (x : Bool) (w : World), (Op.unary .not (.bool x)).run Try.prog w = .ok (.bool (!x)) w := fun _ _ => rfl
  have h1 : ¬ (6000 : Int) < (n : Int) := by omega
  have hadd : addF ts (x, y) = (3, -1) := by unfold addF; rw [hf, if_neg (by simp), if_pos ho]
  have HOW : Hid (∀ W, Below w.heap.size w W → Calls Try.prog 9 #[.slice a n c] W fun e w' => ∃ a' c', e = .returned (.slice a' n c') ∧ Own W.heap.size w' (.slice a' n c') ts ∧ Below W.heap.size W w') := fun W hW => by
    have := own_any W _ ts (IsTs.below h hW) (by omega)
    rw [hl] at this
    exact this
  have HCK : Hid (∀ W v', IsTs W v' ts → Calls Try.prog 10 #[v'] W fun e w' => e = .returned (.agg #[.int .i64 0, .int .i64 0]) ∧ Below W.heap.size W w') := fun W v' hW => by
    have := check_any W v' ts hW (by rw [hl]; unfold maxLen; omega)
    rw [hf] at this
    exact this
  have HHF : Hid (∀ W, Below w.heap.size w W → Calls Try.prog 12 #[.slice a n c] W fun e w' => e = .returned (.agg #[.int .i64 0, .int .i64 0]) ∧ Below W.heap.size W w') := fun W hW => by
    have := hfault_any W _ ts (IsTs.below h hW) (by rw [hl]; unfold maxLen; omega)
    rw [hf] at this
    exact this
  have HAD : Hid (∀ W v', IsTs W v' ts → Calls Try.prog 11 #[v', .agg #[.int .i64 x, .int .i64 y]] W fun e w' => e = .returned (.tuple #[.slice none 0 0, .int .i64 0, .agg #[.int .i64 3, .int .i64 (-1)]]) ∧ Below W.heap.size W w') := fun W v' hW => by
    obtain ⟨a', c', rfl⟩ := Rd.form hW
    have h2 := hW
    rw [hl] at h2 ⊢
    exact add_fault W a' n c' x y ts hl h2 (by unfold maxLen; omega) _ _ hadd (by decide)
  have HV := hide h
  have HL := hide hl
  have HTF : Hid (∀ W, Calls Try.prog 14 #[.agg #[.int .i64 x, .int .i64 y], .int .i64 (-1)] W fun e w' => e = .returned (.agg #[.int .i64 3, .int .i64 (-1)]) ∧ Below W.heap.size W w') := fun W => by
    have := timerFault_any W x y (-1)
    rw [if_pos ho] at this
    exact this
  clear h hf hl hadd ho
  go_enter Try.func3, Try.ntmps3
  go_upto_region 9 with (first
    | (go_at_call 8; refine (begun_any _).mono ?_; rintro e w1 ⟨rfl, hb1⟩; have HX1 := hide (hb1.mono (show w.heap.size + 1 ≤ _ by simp)); clear hb1)
    | (go_at_call 9; refine (unhide HOW _ (below1 (unhide HX1))).mono ?_; rintro e w2 ⟨a2, c2, rfl, ho2, hb2⟩; have HI2 := hide ho2.ts; have HX2 := hide (next1 (unhide HX1) hb2); clear ho2 hb2)
    | (go_at_call 10; refine (unhide HCK _ _ (unhide HI2)).mono ?_; rintro e w3 ⟨rfl, hb3⟩; have HX3 := hide (next1 (unhide HX2) hb3); have HI3 := hide (IsTs.below (unhide HI2) hb3); obtain ⟨x0, x1, s1⟩ := arg1 (unhide HX3); clear hb3)
    | (go_at_call 11; refine (unhide HAD _ _ (IsTs.below (unhide HI3) ((Below.refl _ _).alloc (Nat.le_refl _) _))).mono ?_; rintro e w4 ⟨rfl, hb4⟩; have HB4 := hide hb4; have HX4 := hide (next1a (unhide HX3) hb4); have HI4 := hide (IsTs.below (IsTs.below (unhide HI3) ((Below.refl _ _).alloc (Nat.le_refl _) _)) hb4); clear hb4 x0 x1 s1)
    | (go_at_call 12; refine (unhide HHF _ ((below1 (unhide HX4)).alloc (below1 (unhide HX4)).size _)).mono ?_; rintro e w5 ⟨rfl, hb5⟩; have HB5 := hide hb5; have HI5 := hide (IsTs.below (IsTs.below (unhide HI4) ((Below.refl _ _).alloc (Nat.le_refl _) _)) hb5); clear hb5))
  have V6 := hide (add_vars (g0 := 0) (g1 := 0) (unhide HX3) (unhide HB4) (unhide HB5))
  have HI6 := hide (IsTs.below (unhide HI5) ((Below.refl _ _).alloc (Nat.le_refl _) (.cells #[.int .i64 0, .int .i64 0] 28)))
  obtain ⟨s6, e6⟩ : ∃ s, w3.heap.size = s := ⟨_, rfl⟩
  obtain ⟨s9, e9⟩ : ∃ s, w4.heap.size = s := ⟨_, rfl⟩
  obtain ⟨W6, eW6⟩ : ∃ W, w5.alloc (.cells #[.int .i64 0, .int .i64 0] 28) = W := ⟨_, rfl⟩
  rw [e6, e9, eW6] at V6
  rw [eW6] at HI6
  rw [e6, e9, eW6]
  clear e6 e9 eW6 HB4 HB5 HX1 HX2 HX3 HX4 HI2 HI3 HI4 HI5 HOW HCK HHF HAD
  have HV6 : Hid (IsTs W6 (.slice a n c) ts) := IsTs.below (unhide HV) (unhide V6).all
  obtain ⟨⟨x0, x1⟩, ⟨c00, c01⟩, ⟨f00, f01⟩, ⟨g00, g01⟩, z0, z1⟩ := (unhide V6).cells
  go_upto_region 13 with (first
    | (go_at_call 13; refine (same_any _ _ _ ts (unhide HI6) (unhide HV6) (by rw [unhide HL]; unfold maxLen; omega)).mono ?_; rintro e w7 ⟨rfl, hb7⟩; have V7 := hide ((unhide V6).keep hb7); clear hb7; clear x0 x1 c00 c01 f00 f01 g00 g01 z0 z1; obtain ⟨⟨x0, x1⟩, ⟨c00, c01⟩, ⟨f00, f01⟩, ⟨g00, g01⟩, z0, z1⟩ := (unhide V7).cells)
    | (go_at_call 14; refine (unhide HTF _).mono ?_; rintro e w8 ⟨rfl, hb8⟩; have V8 := hide ((unhide V7).keep hb8); clear hb8; clear x0 x1 c00 c01 f00 f01 g00 g01 z0 z1; obtain ⟨⟨x0, x1⟩, ⟨c00, c01⟩, ⟨f00, f01⟩, ⟨g00, g01⟩, z0, z1⟩ := (unhide V8).cells))
  clear x0 x1 c00 c01 f00 f01 g00 g01 z0 z1
  have V9 := hide ((unhide V8).set 3 (-1))
  obtain ⟨W9, eW9⟩ : ∃ W, (w8.setCell ⟨w5.heap.size, 0, none⟩ (.int .i64 3)).setCell ⟨w5.heap.size, 1, none⟩ (.int .i64 (-1)) = W := ⟨_, rfl⟩
  rw [eW9] at V9 ⊢
  clear eW9
  obtain ⟨⟨x0, x1⟩, ⟨c00, c01⟩, ⟨f00, f01⟩, ⟨g00, g01⟩, z0, z1⟩ := (unhide V9).cells
  go_wp2_with fail
  go_ret
  exact ⟨rfl, (unhide V9).all⟩

set_option maxRecDepth 100000 in
set_option maxHeartbeats 2000000 in
theorem adds_full (w : World) (a : Option Addr) (n c : Nat) (x y : Int) (ts : List Tm) (hl : ts.length = n) (h : IsTs w (.slice a n c) ts) (hn : n ≤ 6000) (hf : heapF ts = (0, 0)) (ho : ¬ oor (x, y)) (h5 : n = 5000) :
    Calls Try.prog 3 #[.slice a n c, .agg #[.int .i64 x, .int .i64 y]] w fun e w' => e = .returned (.bool true) ∧ Below w.heap.size w w' := by
  have hnot : ∀ (x : Bool) (w : World), (Op.unary .not (.bool x)).run Try.prog w = .ok (.bool (!x)) w := fun _ _ => rfl
  have h1 : ¬ (6000 : Int) < (n : Int) := by omega
  have hadd : addF ts (x, y) = (9, 0) := by unfold addF; rw [hf, if_neg (by simp), if_neg ho, hl, if_pos h5]
  have HOW : Hid (∀ W, Below w.heap.size w W → Calls Try.prog 9 #[.slice a n c] W fun e w' => ∃ a' c', e = .returned (.slice a' n c') ∧ Own W.heap.size w' (.slice a' n c') ts ∧ Below W.heap.size W w') := fun W hW => by
    have := own_any W _ ts (IsTs.below h hW) (by omega)
    rw [hl] at this
    exact this
  have HCK : Hid (∀ W v', IsTs W v' ts → Calls Try.prog 10 #[v'] W fun e w' => e = .returned (.agg #[.int .i64 0, .int .i64 0]) ∧ Below W.heap.size W w') := fun W v' hW => by
    have := check_any W v' ts hW (by rw [hl]; unfold maxLen; omega)
    rw [hf] at this
    exact this
  have HHF : Hid (∀ W, Below w.heap.size w W → Calls Try.prog 12 #[.slice a n c] W fun e w' => e = .returned (.agg #[.int .i64 0, .int .i64 0]) ∧ Below W.heap.size W w') := fun W hW => by
    have := hfault_any W _ ts (IsTs.below h hW) (by rw [hl]; unfold maxLen; omega)
    rw [hf] at this
    exact this
  have HAD : Hid (∀ W v', IsTs W v' ts → Calls Try.prog 11 #[v', .agg #[.int .i64 x, .int .i64 y]] W fun e w' => e = .returned (.tuple #[.slice none 0 0, .int .i64 0, .agg #[.int .i64 9, .int .i64 0]]) ∧ Below W.heap.size W w') := fun W v' hW => by
    obtain ⟨a', c', rfl⟩ := Rd.form hW
    have h2 := hW
    rw [hl] at h2 ⊢
    exact add_fault W a' n c' x y ts hl h2 (by unfold maxLen; omega) _ _ hadd (by decide)
  have HV := hide h
  have HL := hide hl
  have HTF : Hid (∀ W, Calls Try.prog 14 #[.agg #[.int .i64 x, .int .i64 y], .int .i64 (-1)] W fun e w' => e = .returned (.agg #[.int .i64 0, .int .i64 0]) ∧ Below W.heap.size W w') := fun W => by
    have := timerFault_any W x y (-1)
    rw [if_neg ho] at this
    exact this
  have h6 : ((n : Int) == 5000) = true := by simp; omega
  clear h hf hl hadd ho h5
  go_enter Try.func3, Try.ntmps3
  go_upto_region 9 with (first
    | (go_at_call 8; refine (begun_any _).mono ?_; rintro e w1 ⟨rfl, hb1⟩; have HX1 := hide (hb1.mono (show w.heap.size + 1 ≤ _ by simp)); clear hb1)
    | (go_at_call 9; refine (unhide HOW _ (below1 (unhide HX1))).mono ?_; rintro e w2 ⟨a2, c2, rfl, ho2, hb2⟩; have HI2 := hide ho2.ts; have HX2 := hide (next1 (unhide HX1) hb2); clear ho2 hb2)
    | (go_at_call 10; refine (unhide HCK _ _ (unhide HI2)).mono ?_; rintro e w3 ⟨rfl, hb3⟩; have HX3 := hide (next1 (unhide HX2) hb3); have HI3 := hide (IsTs.below (unhide HI2) hb3); obtain ⟨x0, x1, s1⟩ := arg1 (unhide HX3); clear hb3)
    | (go_at_call 11; refine (unhide HAD _ _ (IsTs.below (unhide HI3) ((Below.refl _ _).alloc (Nat.le_refl _) _))).mono ?_; rintro e w4 ⟨rfl, hb4⟩; have HB4 := hide hb4; have HX4 := hide (next1a (unhide HX3) hb4); have HI4 := hide (IsTs.below (IsTs.below (unhide HI3) ((Below.refl _ _).alloc (Nat.le_refl _) _)) hb4); clear hb4 x0 x1 s1)
    | (go_at_call 12; refine (unhide HHF _ ((below1 (unhide HX4)).alloc (below1 (unhide HX4)).size _)).mono ?_; rintro e w5 ⟨rfl, hb5⟩; have HB5 := hide hb5; have HI5 := hide (IsTs.below (IsTs.below (unhide HI4) ((Below.refl _ _).alloc (Nat.le_refl _) _)) hb5); clear hb5))
  have V6 := hide (add_vars (g0 := 0) (g1 := 0) (unhide HX3) (unhide HB4) (unhide HB5))
  have HI6 := hide (IsTs.below (unhide HI5) ((Below.refl _ _).alloc (Nat.le_refl _) (.cells #[.int .i64 0, .int .i64 0] 28)))
  obtain ⟨s6, e6⟩ : ∃ s, w3.heap.size = s := ⟨_, rfl⟩
  obtain ⟨s9, e9⟩ : ∃ s, w4.heap.size = s := ⟨_, rfl⟩
  obtain ⟨W6, eW6⟩ : ∃ W, w5.alloc (.cells #[.int .i64 0, .int .i64 0] 28) = W := ⟨_, rfl⟩
  rw [e6, e9, eW6] at V6
  rw [eW6] at HI6
  rw [e6, e9, eW6]
  clear e6 e9 eW6 HB4 HB5 HX1 HX2 HX3 HX4 HI2 HI3 HI4 HI5 HOW HCK HHF HAD
  have HV6 : Hid (IsTs W6 (.slice a n c) ts) := IsTs.below (unhide HV) (unhide V6).all
  obtain ⟨⟨x0, x1⟩, ⟨c00, c01⟩, ⟨f00, f01⟩, ⟨g00, g01⟩, z0, z1⟩ := (unhide V6).cells
  go_upto_region 13 with (first
    | (go_at_call 13; refine (same_any _ _ _ ts (unhide HI6) (unhide HV6) (by rw [unhide HL]; unfold maxLen; omega)).mono ?_; rintro e w7 ⟨rfl, hb7⟩; have V7 := hide ((unhide V6).keep hb7); clear hb7; clear x0 x1 c00 c01 f00 f01 g00 g01 z0 z1; obtain ⟨⟨x0, x1⟩, ⟨c00, c01⟩, ⟨f00, f01⟩, ⟨g00, g01⟩, z0, z1⟩ := (unhide V7).cells)
    | (go_at_call 14; refine (unhide HTF _).mono ?_; rintro e w8 ⟨rfl, hb8⟩; have V8 := hide ((unhide V7).keep hb8); clear hb8; clear x0 x1 c00 c01 f00 f01 g00 g01 z0 z1; obtain ⟨⟨x0, x1⟩, ⟨c00, c01⟩, ⟨f00, f01⟩, ⟨g00, g01⟩, z0, z1⟩ := (unhide V8).cells))
  clear x0 x1 c00 c01 f00 f01 g00 g01 z0 z1
  have V9 := hide ((unhide V8).set 0 0)
  obtain ⟨W9, eW9⟩ : ∃ W, (w8.setCell ⟨w5.heap.size, 0, none⟩ (.int .i64 0)).setCell ⟨w5.heap.size, 1, none⟩ (.int .i64 0) = W := ⟨_, rfl⟩
  rw [eW9] at V9 ⊢
  clear eW9
  obtain ⟨⟨x0, x1⟩, ⟨c00, c01⟩, ⟨f00, f01⟩, ⟨g00, g01⟩, z0, z1⟩ := (unhide V9).cells
  go_upto_region 15 with (go_at_call 15; refine (f_any _ _ _).mono ?_; rintro e w10 ⟨rfl, hb10⟩; have V10 := hide ((unhide V9).keep hb10); clear hb10; clear x0 x1 c00 c01 f00 f01 g00 g01 z0 z1; obtain ⟨⟨x0, x1⟩, ⟨c00, c01⟩, ⟨f00, f01⟩, ⟨g00, g01⟩, z0, z1⟩ := (unhide V10).cells)
  clear x0 x1 c00 c01 f00 f01 g00 g01 z0 z1
  have V11 := hide ((unhide V10).set 9 0)
  obtain ⟨W11, eW11⟩ : ∃ W, (w10.setCell ⟨w5.heap.size, 0, none⟩ (.int .i64 9)).setCell ⟨w5.heap.size, 1, none⟩ (.int .i64 0) = W := ⟨_, rfl⟩
  rw [eW11] at V11 ⊢
  clear eW11
  obtain ⟨⟨x0, x1⟩, ⟨c00, c01⟩, ⟨f00, f01⟩, ⟨g00, g01⟩, z0, z1⟩ := (unhide V11).cells
  go_wp2_with fail
  go_ret
  exact ⟨rfl, (unhide V11).all⟩

set_option maxRecDepth 100000 in
set_option maxHeartbeats 2000000 in
theorem adds_ok (w : World) (a : Option Addr) (n c : Nat) (x y : Int) (ts : List Tm) (hl : ts.length = n) (h : IsTs w (.slice a n c) ts) (hn : n ≤ 6000) (hf : heapF ts = (0, 0)) (ho : ¬ oor (x, y)) (h5 : n ≠ 5000) :
    Calls Try.prog 3 #[.slice a n c, .agg #[.int .i64 x, .int .i64 y]] w fun e w' => e = .returned (.bool true) ∧ Below w.heap.size w w' := by
  have hnot : ∀ (x : Bool) (w : World), (Op.unary .not (.bool x)).run Try.prog w = .ok (.bool (!x)) w := fun _ _ => rfl
  have h1 : ¬ (6000 : Int) < (n : Int) := by omega
  have hn5 : n ≤ 5000 := by rw [← hl]; exact heapF_len hf
  have hadd : addF ts (x, y) = (0, 0) := by unfold addF; rw [hf, if_neg (by simp), if_neg ho, hl, if_neg h5]
  have HOW : Hid (∀ W, Below w.heap.size w W → Calls Try.prog 9 #[.slice a n c] W fun e w' => ∃ a' c', e = .returned (.slice a' n c') ∧ Own W.heap.size w' (.slice a' n c') ts ∧ Below W.heap.size W w') := fun W hW => by
    have := own_any W _ ts (IsTs.below h hW) (by omega)
    rw [hl] at this
    exact this
  have HCK : Hid (∀ W v', IsTs W v' ts → Calls Try.prog 10 #[v'] W fun e w' => e = .returned (.agg #[.int .i64 0, .int .i64 0]) ∧ Below W.heap.size W w') := fun W v' hW => by
    have := check_any W v' ts hW (by rw [hl]; unfold maxLen; omega)
    rw [hf] at this
    exact this
  have HHF : Hid (∀ W, Below w.heap.size w W → Calls Try.prog 12 #[.slice a n c] W fun e w' => e = .returned (.agg #[.int .i64 0, .int .i64 0]) ∧ Below W.heap.size W w') := fun W hW => by
    have := hfault_any W _ ts (IsTs.below h hW) (by rw [hl]; unfold maxLen; omega)
    rw [hf] at this
    exact this
  have HAD : Hid (∀ W v', IsTs W v' ts → Calls Try.prog 11 #[v', .agg #[.int .i64 x, .int .i64 y]] W fun e w' => ∃ g c', e = .returned (.tuple #[.slice (some ⟨g, 0, none⟩) (n + 1) c', .int .i64 ((riseL (ts ++ [(x, y)]) n).2 : Nat), .agg #[.int .i64 0, .int .i64 0]]) ∧ Own W.heap.size w' (.slice (some ⟨g, 0, none⟩) (n + 1) c') (riseL (ts ++ [(x, y)]) n).1 ∧ Below W.heap.size W w') := fun W v' hW => by
    obtain ⟨a', c', rfl⟩ := Rd.form hW
    have h2 := hW
    rw [hl] at h2 ⊢
    exact add_ok W a' n c' x y ts hl h2 (by omega) hadd
  have HV := hide h
  have HL := hide hl
  have HTF : Hid (∀ W, Calls Try.prog 14 #[.agg #[.int .i64 x, .int .i64 y], .int .i64 (-1)] W fun e w' => e = .returned (.agg #[.int .i64 0, .int .i64 0]) ∧ Below W.heap.size W w') := fun W => by
    have := timerFault_any W x y (-1)
    rw [if_neg ho] at this
    exact this
  have h6 : ((n : Int) == 5000) = false := by simp; omega
  have HLA : Hid ((ts ++ [(x, y)]).length = n + 1) := by show _ = _; rw [List.length_append, hl]; rfl
  have HLR : Hid ((riseL (ts ++ [(x, y)]) n).1.length = n + 1) := by show _ = _; rw [riseL, riseF_length]; exact unhide HLA
  have HOL : Hid (∀ W, Below w.heap.size w W → Calls Try.prog 9 #[.slice a n c] W fun e w' => ∃ a' c', e = .returned (.slice a' n c') ∧ Own W.heap.size w' (.slice a' n c') ts ∧ Below W.heap.size W w') := HOW
  clear h hf hl hadd ho
  go_enter Try.func3, Try.ntmps3
  go_upto_region 9 with (first
    | (go_at_call 8; refine (begun_any _).mono ?_; rintro e w1 ⟨rfl, hb1⟩; have HX1 := hide (hb1.mono (show w.heap.size + 1 ≤ _ by simp)); clear hb1)
    | (go_at_call 9; refine (unhide HOW _ (below1 (unhide HX1))).mono ?_; rintro e w2 ⟨a2, c2, rfl, ho2, hb2⟩; have HI2 := hide ho2.ts; have HX2 := hide (next1 (unhide HX1) hb2); clear ho2 hb2)
    | (go_at_call 10; refine (unhide HCK _ _ (unhide HI2)).mono ?_; rintro e w3 ⟨rfl, hb3⟩; have HX3 := hide (next1 (unhide HX2) hb3); have HI3 := hide (IsTs.below (unhide HI2) hb3); obtain ⟨x0, x1, s1⟩ := arg1 (unhide HX3); clear hb3)
    | (go_at_call 11; refine (unhide HAD _ _ (IsTs.below (unhide HI3) ((Below.refl _ _).alloc (Nat.le_refl _) _))).mono ?_; rintro e w4 ⟨ga, ca, rfl, hoa, hb4⟩; have HOA := hide hoa; clear hoa; have HB4 := hide hb4; have HX4 := hide (next1a (unhide HX3) hb4); have HI4 := hide (IsTs.below (IsTs.below (unhide HI3) ((Below.refl _ _).alloc (Nat.le_refl _) _)) hb4); clear hb4 x0 x1 s1)
    | (go_at_call 12; refine (unhide HHF _ ((below1 (unhide HX4)).alloc (below1 (unhide HX4)).size _)).mono ?_; rintro e w5 ⟨rfl, hb5⟩; have HB5 := hide hb5; have HI5 := hide (IsTs.below (IsTs.below (unhide HI4) ((Below.refl _ _).alloc (Nat.le_refl _) _)) hb5); clear hb5))
  have V6 := hide (add_vars (g0 := 0) (g1 := 0) (unhide HX3) (unhide HB4) (unhide HB5))
  have HI6 := hide (IsTs.below (unhide HI5) ((Below.refl _ _).alloc (Nat.le_refl _) (.cells #[.int .i64 0, .int .i64 0] 28)))
  have HOA5 := hide (IsTs.below (IsTs.below (unhide HOA).ts ((Below.refl _ _).alloc (Nat.le_refl _) _)) (unhide HB5))
  obtain ⟨s6, e6⟩ : ∃ s, w3.heap.size = s := ⟨_, rfl⟩
  obtain ⟨s9, e9⟩ : ∃ s, w4.heap.size = s := ⟨_, rfl⟩
  obtain ⟨W6, eW6⟩ : ∃ W, w5.alloc (.cells #[.int .i64 0, .int .i64 0] 28) = W := ⟨_, rfl⟩
  rw [e6, e9, eW6] at V6
  rw [eW6] at HI6
  rw [e6, e9, eW6]
  clear e6 e9 eW6 HB4 HB5 HX1 HX2 HX3 HX4 HI2 HI3 HI4 HI5 HOW HCK HHF HAD
  have HV6 : Hid (IsTs W6 (.slice a n c) ts) := IsTs.below (unhide HV) (unhide V6).all
  obtain ⟨⟨x0, x1⟩, ⟨c00, c01⟩, ⟨f00, f01⟩, ⟨g00, g01⟩, z0, z1⟩ := (unhide V6).cells
  go_upto_region 13 with (first
    | (go_at_call 13; refine (same_any _ _ _ ts (unhide HI6) (unhide HV6) (by rw [unhide HL]; unfold maxLen; omega)).mono ?_; rintro e w7 ⟨rfl, hb7⟩; have V7 := hide ((unhide V6).keep hb7); clear hb7; clear x0 x1 c00 c01 f00 f01 g00 g01 z0 z1; obtain ⟨⟨x0, x1⟩, ⟨c00, c01⟩, ⟨f00, f01⟩, ⟨g00, g01⟩, z0, z1⟩ := (unhide V7).cells)
    | (go_at_call 14; refine (unhide HTF _).mono ?_; rintro e w8 ⟨rfl, hb8⟩; have V8 := hide ((unhide V7).keep hb8); clear hb8; clear x0 x1 c00 c01 f00 f01 g00 g01 z0 z1; obtain ⟨⟨x0, x1⟩, ⟨c00, c01⟩, ⟨f00, f01⟩, ⟨g00, g01⟩, z0, z1⟩ := (unhide V8).cells))
  clear x0 x1 c00 c01 f00 f01 g00 g01 z0 z1
  have V9 := hide ((unhide V8).set 0 0)
  obtain ⟨W9, eW9⟩ : ∃ W, (w8.setCell ⟨w5.heap.size, 0, none⟩ (.int .i64 0)).setCell ⟨w5.heap.size, 1, none⟩ (.int .i64 0) = W := ⟨_, rfl⟩
  rw [eW9] at V9 ⊢
  clear eW9
  obtain ⟨⟨x0, x1⟩, ⟨c00, c01⟩, ⟨f00, f01⟩, ⟨g00, g01⟩, z0, z1⟩ := (unhide V9).cells
  have HFR : Hid (∀ W, Below W9.heap.size W9 W → Calls Try.prog 9 #[.slice a n c] W fun e w' => ∃ a' c', e = .returned (.slice a' n c') ∧ Own W.heap.size w' (.slice a' n c') ts ∧ Below W.heap.size W w') := fun W hW => unhide HOL W ((unhide V9).keep hW).all
  have HSS : Hid (∀ W, Below W9.heap.size W9 W → (W.cell? ⟨w.heap.size, 0, none⟩ = some (.int .i64 x) ∧ W.cell? ⟨w.heap.size, 1, none⟩ = some (.int .i64 y)) ∧ Below W9.heap.size W9 W) := fun W hW => ⟨((unhide V9).keep hW).cells.1, hW⟩
  go_upto_region 19 with fail
  clear c00 c01 f00 f01 g00 g01 z0 z1
  go_region_held3 (fun W => (W.cell? ⟨w.heap.size, 0, none⟩ = some (.int .i64 x) ∧ W.cell? ⟨w.heap.size, 1, none⟩ = some (.int .i64 y)) ∧ Below W9.heap.size W9 W)
    (first | with_reducible exact unhide HSS _ (Below.refl _ _).drew | with_reducible exact unhide HSS _ (unhide HB3) | with_reducible exact unhide HSS _ (unhide HB4) | with_reducible exact unhide HSS _ (unhide HB10) | with_reducible exact unhide HSS _ ((unhide HB3).alloc (unhide HB3).size _) | with_reducible exact unhide HSS _ (below_ad W9 _))
    (first
    | (go_at_call 9; (first | with_reducible refine Calls.mono (unhide HFR W9.drew (Below.refl _ _).drew) ?_ | with_reducible refine Calls.mono (unhide HFR (W9.alloc _).drew (below_ad W9 _)) ?_); rintro e w3 ⟨a3, c3, rfl, ho3, hb3⟩; have HO3 := hide (ho3.base (show W9.heap.size ≤ _ by first | exact (Below.refl W9.heap.size W9).drew.size | exact (below_ad W9 _).size)); have HB3 : Hid (Below W9.heap.size W9 w3) := (by first | exact (Below.refl _ _).drew.trans (hb3.mono (Nat.le_refl _)) | exact (below_ad W9 _).trans (hb3.mono (below_ad W9 _).size)); have HBX3 := hide hb3; clear ho3 hb3)
    | (refine step_append_ts (by rfl) (.tmp 69) (.tmp 71) rfl W9.heap.size (.slice a3 n c3) ts rfl (by first | exact unhide HO3 | exact Own.below (unhide HO3) ((Below.refl _ _).alloc (Nat.le_refl _) _)) _ [(x, y)] rfl (by first | exact ts_new w3 x y | exact IsTs.below (ts_new_drew W9 x y) (unhide HBX3)) (n + 1) (by rw [unhide HL]; rfl) (by omega) (by first | exact (unhide HB3).size | exact Nat.le_trans (unhide HB3).size (by simp)) ?_; intro a4 c4 w4 ho4 hg4; have HO4 := hide ho4; have HB4 : Hid (Below W9.heap.size W9 w4) := (by first | exact (unhide HB3).grown hg4 (unhide HB3).size (fun k hk => ((unhide HO3).lt k hk).1) | exact ((unhide HB3).alloc (unhide HB3).size _).grown hg4 (Nat.le_trans (unhide HB3).size (by simp)) (fun k hk => ((unhide HO3).lt k hk).1)); clear ho4 hg4)
    | (go_at_call 16; refine (risen_any _ _ (ts ++ [(x, y)]) (n + 1) n (unhide HLA) (by omega) (by omega) (unhide HO4).ts).mono ?_; rintro e w10 ⟨gb, cb, rfl, hgb, hrb, hb10⟩; have HRB := hide hrb; have HB10 : Hid (Below W9.heap.size W9 w10) := (unhide HB4).trans (hb10.mono (unhide HB4).size); clear hgb hrb hb10))
  all_goals
    have HW10 := hide (IsTs.below (unhide HOA5) ((unhide V9).below.trans ((unhide HB10).mono (unhide V9).below.size)))
    have HRT : Hid (IsTs w10 (.slice (some ⟨gb, 0, none⟩) (n + 1) cb) (riseL (ts ++ [(x, y)]) n).1) := by
      have := ((unhide HRB).own (Nat.le_refl gb)).ts
      rw [unhide HLR] at this
      exact this
    have q1 : (((riseL (ts ++ [(x, y)]) n).2 : Int) == ((riseL (ts ++ [(x, y)]) n).2 : Int)) = true := by simp
    go_wp2_with (go_at_call 13; refine (same_any _ _ _ _ (unhide HW10) (unhide HRT) (by rw [unhide HLR]; unfold maxLen; omega)).mono ?_; rintro e w11 ⟨rfl, hb11⟩; have V11 := hide (((unhide V9).keep (unhide HB10)).keep hb11); clear hb11)
    go_ret
    exact ⟨rfl, (unhide V11).all⟩

theorem adds_walk (w : World) (v : Value) (ts : List Tm) (x y : Int) (h : IsTs w v ts) (hm : ts.length ≤ maxLen) :
    Calls Try.prog 3 #[v, .agg #[.int .i64 x, .int .i64 y]] w fun e w' => e = .returned (.bool true) ∧ Below w.heap.size w w' := by
  obtain ⟨a, c, rfl⟩ := Rd.form h
  by_cases hl : 6000 < ts.length
  · exact adds_long w a _ c x y hl hm
  · have hn : ts.length ≤ 6000 := by omega
    by_cases h1 : (heapF ts).1 = 0
    · have h0 := heapF_zero h1
      by_cases ho : oor (x, y)
      · exact adds_oor w a _ c x y ts rfl h hn h0 ho
      · by_cases h5 : ts.length = 5000
        · exact adds_full w a _ c x y ts rfl h hn h0 ho h5
        · exact adds_ok w a _ c x y ts rfl h hn h0 ho h5
    · exact adds_heap w a _ c x y ts rfl h hn _ _ rfl h1
end Go.Proofs.Ytcfjpjojckngeaa
