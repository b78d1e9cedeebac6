/-
  order.Clocks where something is wrong; taskmilllaw.OrderLamport: its walk.
-/
import Derived.Test.YtbnmeeabpjmcoaaCk
import Derived.Test.YtbnmeeabpjmcoaaBe
namespace Go.Proofs.Ytbnmeeabpjmcoaa
open Go.RowKit

set_option maxRecDepth 100000 in
set_option maxHeartbeats 4000000 in
theorem clocks_fault (w : World) (a0 : Option Addr) (n0 c0 : Nat) (a1 : Option Addr) (n1 c1 : Nat) (l : List Ev) (hs : List Int) (hl : IsL KE w (.slice a0 n0 c0) l) (hh : IsL KI w (.slice a1 n1 c1) hs) (fc fa : Int) (hf : checkF hs l = (fc, fa)) (hfc : fc ≠ 0) :
    Calls Try.prog 13 #[.slice a0 n0 c0, .slice a1 n1 c1] w fun e w' => e = .returned (.tuple #[.slice none 0 0, .agg #[.int .i64 fc, .int .i64 fa]]) ∧ Below w.heap.size w w' := by
  have HCK : Hid (∀ W, Below w.heap.size w W → Calls Try.prog 12 #[.slice a0 n0 c0, .slice a1 n1 c1] W fun e w' => e = .returned (.agg #[.int .i64 fc, .int .i64 fa]) ∧ Below W.heap.size W w') := fun W hW => by
    have := check_any W a0 n0 c0 a1 n1 c1 l hs (hl.below hW) (hh.below hW)
    rwa [hf] at this
  have x1 : (fc != 0) = true := by simpa using hfc
  have HX := hide ((Below.refl w.heap.size w).alloc (Nat.le_refl _) (.cells #[.int .i64 0, .int .i64 0] 28))
  have HQ := hide (new_block w (.cells #[.int .i64 0, .int .i64 0] 28))
  obtain ⟨W0, e0⟩ : ∃ X, w.alloc (.cells #[.int .i64 0, .int .i64 0] 28) = X := ⟨_, rfl⟩
  rw [e0] at HX HQ
  have HE := hide e0
  clear e0 hl hh hf hfc
  go_enter Try.func13, Try.ntmps13
  go_upto_region 1 with fail
  rw [unhide HE]
  clear HE
  go_upto_region 2 with (go_at_call 12; refine (unhide HCK _ (unhide HX)).mono ?_; rintro e w1 ⟨rfl, hb1⟩; have HX1 := hide (Below.next (unhide HX) hb1 (Nat.le_refl _)); have HQ1 := hide (keep_below (unhide HQ) hb1); clear hb1)
  have HX2 := hide ((unhide HX1).alloc (unhide HX1).size (.cells #[.int .i64 fc, .int .i64 fa] 28)); have HQ2 := hide (keep_alloc (unhide HQ1) (.cells #[.int .i64 fc, .int .i64 fa] 28)); have HF2 := hide (new_block w1 (.cells #[.int .i64 fc, .int .i64 fa] 28))
  have hFl : w.heap.size < w1.heap.size := size_of (unhide HQ1)
  obtain ⟨F, eF⟩ : ∃ X, w1.heap.size = X := ⟨_, rfl⟩
  obtain ⟨W2, e2⟩ : ∃ X, w1.alloc (.cells #[.int .i64 fc, .int .i64 fa] 28) = X := ⟨_, rfl⟩
  rw [eF, e2] at HF2; rw [e2] at HX2 HQ2; rw [eF] at hFl; rw [eF, e2]
  clear eF e2 HX HQ HX1 HQ1 HCK
  obtain ⟨g0, g1, gf0, gf1, gl⟩ := block2 (unhide HF2)
  obtain ⟨q0, q1, f0, f1, ql⟩ := block2 (unhide HQ2)
  go_upto_region 3 with fail
  go_region
  all_goals
    go_wp2_with fail
    exact bodyPost_ret (v := .tuple #[.slice none 0 0, .agg #[.int .i64 fc, .int .i64 fa]]) (by simp [results, Try.results13, go_sem, q0, q1]) rfl ⟨rfl, by first | exact (below_set2 (unhide HX2) (Nat.le_refl _) _ _).drew | exact below_set2 (unhide HX2).drew (Nat.le_refl _) _ _⟩

set_option maxRecDepth 100000 in
set_option maxHeartbeats 4000000 in
theorem lam_long (w : World) (a0 : Option Addr) (n0 c0 : Nat) (a1 : Option Addr) (n1 c1 : Nat) (z2 z3 z4 : Int) (h : 300 < n0) :
    Calls Try.prog 4 #[.slice a0 n0 c0, .slice a1 n1 c1, .int .i64 z2, .int .i64 z3, .int .i64 z4] w fun e w' => e = .returned (.bool true) ∧ Below w.heap.size w w' := by
  have i1 : (300 : Int) < (n0 : Int) := by omega
  go_enter Try.func4, Try.ntmps4
  go_wp2_with (go_at_call 9; (with_reducible refine Calls.mono (begun_any _) ?_); rintro e w1 ⟨rfl, hb1⟩; have HX1 := hide hb1; clear hb1)
  go_ret
  exact ⟨rfl, unhide HX1⟩

set_option maxRecDepth 100000 in
set_option maxHeartbeats 4000000 in
theorem lam_many (w : World) (a0 : Option Addr) (n0 c0 : Nat) (a1 : Option Addr) (n1 c1 : Nat) (z2 z3 z4 : Int) (h : ¬ 300 < n0) (h2 : 100 < n1) :
    Calls Try.prog 4 #[.slice a0 n0 c0, .slice a1 n1 c1, .int .i64 z2, .int .i64 z3, .int .i64 z4] w fun e w' => e = .returned (.bool true) ∧ Below w.heap.size w w' := by
  have i1 : ¬ (300 : Int) < (n0 : Int) := by omega
  have i2 : (100 : Int) < (n1 : Int) := by omega
  go_enter Try.func4, Try.ntmps4
  go_wp2_with (go_at_call 9; (with_reducible refine Calls.mono (begun_any _) ?_); rintro e w1 ⟨rfl, hb1⟩; have HX1 := hide hb1; clear hb1)
  go_ret
  exact ⟨rfl, unhide HX1⟩

set_option maxRecDepth 100000 in
set_option maxHeartbeats 4000000 in
theorem lam_fault (w : World) (a0 : Option Addr) (n0 c0 : Nat) (a1 : Option Addr) (n1 c1 : Nat) (l : List Ev) (hs : List Int) (hl : IsL KE w (.slice a0 n0 c0) l) (hh : IsL KI w (.slice a1 n1 c1) hs) (z2 z3 z4 : Int) (h : ¬ 300 < n0) (h2 : ¬ 100 < n1) (fc fa : Int) (hf : checkF hs l = (fc, fa)) (hfc : fc ≠ 0) :
    Calls Try.prog 4 #[.slice a0 n0 c0, .slice a1 n1 c1, .int .i64 z2, .int .i64 z3, .int .i64 z4] w fun e w' => e = .returned (.bool true) ∧ Below w.heap.size w w' := by
  have i1 : ¬ (300 : Int) < (n0 : Int) := by omega
  have i2 : ¬ (100 : Int) < (n1 : Int) := by omega
  have x1 : (fc != 0) = true := by simpa using hfc
  have HCF : Hid (∀ W, Below w.heap.size w W → Calls Try.prog 13 #[.slice a0 n0 c0, .slice a1 n1 c1] W fun e w' => e = .returned (.tuple #[.slice none 0 0, .agg #[.int .i64 fc, .int .i64 fa]]) ∧ Below W.heap.size W w') := fun W hW => clocks_fault W a0 n0 c0 a1 n1 c1 l hs (hl.below hW) (hh.below hW) fc fa hf hfc
  clear hl hh hf hfc
  go_enter Try.func4, Try.ntmps4
  go_upto_region 6 with (first
    | (go_at_call 9; (with_reducible refine Calls.mono (begun_any _) ?_); rintro e w1 ⟨rfl, hb1⟩; have HX1 := hide hb1; clear hb1)
    | (go_at_call 13; (with_reducible refine Calls.mono (unhide HCF _ (unhide HX1)) ?_); rintro e w2 ⟨rfl, hb2⟩; have HX2 := hide (Below.next (unhide HX1) hb2 (Nat.le_refl _)); clear hb2))
  have HX3 := hide ((unhide HX2).alloc (unhide HX2).size (.cells #[.int .i64 fc, .int .i64 fa] 28)); have HF3 := hide (new_block w2 (.cells #[.int .i64 fc, .int .i64 fa] 28))
  obtain ⟨W3, e3⟩ : ∃ X, w2.alloc (.cells #[.int .i64 fc, .int .i64 fa] 28) = X := ⟨_, rfl⟩
  rw [e3] at HX3 HF3 ⊢
  clear e3
  obtain ⟨g0, g1, gf0, gf1, gl⟩ := block2 (unhide HF3)
  go_wp2_with fail
  go_ret
  exact ⟨rfl, unhide HX3⟩

set_option maxRecDepth 100000 in
set_option maxHeartbeats 4000000 in
theorem lam_out (w : World) (a0 : Option Addr) (n0 c0 : Nat) (a1 : Option Addr) (n1 c1 : Nat) (l : List Ev) (hs : List Int) (hl : IsL KE w (.slice a0 n0 c0) l) (hh : IsL KI w (.slice a1 n1 c1) hs) (z2 z3 z4 : Int) (h : ¬ 300 < n0) (h2 : ¬ 100 < n1) (hg : GoodT hs l) (ho : z2 < 0 ∨ z3 < 0 ∨ z4 < 0 ∨ (n0 : Int) ≤ z2 ∨ (n0 : Int) ≤ z3 ∨ (n0 : Int) ≤ z4) :
    Calls Try.prog 4 #[.slice a0 n0 c0, .slice a1 n1 c1, .int .i64 z2, .int .i64 z3, .int .i64 z4] w fun e w' => e = .returned (.bool true) ∧ Below w.heap.size w w' := by
  have i1 : ¬ (300 : Int) < (n0 : Int) := by omega
  have i2 : ¬ (100 : Int) < (n1 : Int) := by omega
  obtain ⟨m, hm⟩ : ∃ m : Nat, lastL l = (m : Int) := ⟨(lastL l).toNat, by have := (hg.last l.length (Nat.le_refl _)).1; rw [List.take_length] at this; omega⟩
  have HCF : Hid (∀ W, Below w.heap.size w W → Calls Try.prog 13 #[.slice a0 n0 c0, .slice a1 n1 c1] W fun e w' => ∃ G, e = .returned (.tuple #[.slice (some ⟨G, 0, none⟩) n0 n0, .agg #[.int .i64 0, .int .i64 0]]) ∧ Rows2 (W.heap.size + 1) w' G n0 (rowL hs l m) m n0 ∧ W.heap.size + 1 ≤ G ∧ Below W.heap.size W w') := fun W hW => clocks_good W a0 n0 c0 a1 n1 c1 l hs (hl.below hW) (hh.below hW) hg m hm
  have hcase : z2 < 0 ∨ (¬ z2 < 0 ∧ z3 < 0) ∨ (¬ z2 < 0 ∧ ¬ z3 < 0 ∧ z4 < 0) ∨ (¬ z2 < 0 ∧ ¬ z3 < 0 ∧ ¬ z4 < 0 ∧ (n0 : Int) ≤ z2) ∨ (¬ z2 < 0 ∧ ¬ z3 < 0 ∧ ¬ z4 < 0 ∧ ¬ (n0 : Int) ≤ z2 ∧ (n0 : Int) ≤ z3) ∨ (¬ z2 < 0 ∧ ¬ z3 < 0 ∧ ¬ z4 < 0 ∧ ¬ (n0 : Int) ≤ z2 ∧ ¬ (n0 : Int) ≤ z3 ∧ (n0 : Int) ≤ z4) := by omega
  have HCASE := hide hcase
  clear hl hh hg ho hcase hm
  go_enter Try.func4, Try.ntmps4
  go_upto_region 6 with (first
    | (go_at_call 9; (with_reducible refine Calls.mono (begun_any _) ?_); rintro e w1 ⟨rfl, hb1⟩; have HX1 := hide hb1; clear hb1)
    | (go_at_call 13; (with_reducible refine Calls.mono (unhide HCF _ (unhide HX1)) ?_); rintro e w2 ⟨G, rfl, hr2, hg2, hb2⟩; have HX2 := hide (Below.next (unhide HX1) hb2 (Nat.le_refl _)); have HR2 := hide hr2; clear hr2 hg2 hb2))
  have HX3 := hide ((unhide HX2).alloc (unhide HX2).size (.cells #[.int .i64 0, .int .i64 0] 28)); have HF3 := hide (new_block w2 (.cells #[.int .i64 0, .int .i64 0] 28)); have HR3 := hide ((unhide HR2).below ((Below.refl _ _).alloc (Nat.le_refl _) (.cells #[.int .i64 0, .int .i64 0] 28)))
  obtain ⟨F0, eF0⟩ : ∃ X, w2.heap.size = X := ⟨_, rfl⟩
  obtain ⟨W3, e3⟩ : ∃ X, w2.alloc (.cells #[.int .i64 0, .int .i64 0] 28) = X := ⟨_, rfl⟩
  rw [e3] at HX3 HR3; rw [eF0, e3] at HF3; rw [eF0, e3]
  clear e3 eF0 HX2 HR2
  obtain ⟨g0, g1, gf0, gf1, gl⟩ := block2 (unhide HF3)
  rcases unhide HCASE with o1 | ⟨o1, o2⟩ | ⟨o1, o2, o3⟩ | ⟨o1, o2, o3, o4⟩ | ⟨o1, o2, o3, o4, o5⟩ | ⟨o1, o2, o3, o4, o5, o6⟩
  all_goals
    clear HCASE
    go_wp2_with fail
    go_ret
    exact ⟨rfl, unhide HX3⟩

end Go.Proofs.Ytbnmeeabpjmcoaa
