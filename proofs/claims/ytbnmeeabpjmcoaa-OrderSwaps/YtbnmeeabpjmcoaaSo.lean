/-
  taskmilllaw.OrderSwaps: what is easy; where nothing is swapped.
-/
import Derived.Test.YtbnmeeabpjmcoaaSn
import Derived.Test.YtbnmeeabpjmcoaaV
import Derived.Test.YtbnmeeabpjmcoaaTw
namespace Go.Proofs.Ytbnmeeabpjmcoaa
open Go.RowKit

def easyB (op : Int) : Bool := op == 8 || op == 12 || op == 13
set_option maxRecDepth 100000 in
set_option maxHeartbeats 4000000 in
theorem easy_any (w : World) (tk op ob vl : Int) : Calls Try.prog 20 #[.agg #[.int .i64 tk, .int .i64 op, .int .i64 ob, .int .i64 vl]] w fun e w' => e = .returned (.bool (easyB op)) ∧ Below w.heap.size w w' := by
  have HX := hide ((Below.refl w.heap.size w).alloc (Nat.le_refl _) (.cells #[.int .i64 tk, .int .i64 op, .int .i64 ob, .int .i64 vl] 41))
  have HQ := hide (new_block w (.cells #[.int .i64 tk, .int .i64 op, .int .i64 ob, .int .i64 vl] 41))
  obtain ⟨W0, e0⟩ : ∃ X, w.alloc (.cells #[.int .i64 tk, .int .i64 op, .int .i64 ob, .int .i64 vl] 41) = X := ⟨_, rfl⟩
  rw [e0] at HX HQ
  have HE := hide e0
  clear e0
  obtain ⟨⟨q0, q1, q2, q3⟩, ⟨f0, f1, f2, f3⟩, ql⟩ := block4 (unhide HQ)
  by_cases c1 : op = 8
  · subst c1
    go_enter Try.func20, Try.ntmps20
    go_upto_region 1 with fail
    rw [unhide HE]
    clear HE
    go_wp2_with fail
    go_ret
    exact ⟨rfl, unhide HX⟩
  · by_cases c2 : op = 12
    · subst c2
      go_enter Try.func20, Try.ntmps20
      go_upto_region 1 with fail
      rw [unhide HE]
      clear HE
      go_wp2_with fail
      go_ret
      exact ⟨rfl, unhide HX⟩
    · have x1 : (op == 8) = false := by simpa using c1
      have x2 : (op == 12) = false := by simpa using c2
      have HR : Hid (easyB op = (op == 13)) := by show _ = _; simp [easyB, x1, x2]
      go_enter Try.func20, Try.ntmps20
      go_upto_region 1 with fail
      rw [unhide HE]
      clear HE
      go_wp2_with fail
      go_ret
      exact ⟨by rw [unhide HR]; rfl, unhide HX⟩

set_option maxRecDepth 100000 in
set_option maxHeartbeats 4000000 in
theorem swp_long (w : World) (a0 : Option Addr) (n0 c0 : Nat) (a1 : Option Addr) (n1 c1 : Nat) (z2 : Int) (h : 200 < n0) :
    Calls Try.prog 6 #[.slice a0 n0 c0, .slice a1 n1 c1, .int .i64 z2] w fun e w' => e = .returned (.bool true) ∧ Below w.heap.size w w' := by
  have i1 : (200 : Int) < (n0 : Int) := by omega
  go_enter Try.func6, Try.ntmps6
  go_wp2_with (go_at_call 9; (with_reducible refine Calls.mono (begun_any _) ?_); rintro e w1 ⟨rfl, hb1⟩; have HX1 := hide hb1; clear hb1)
  go_ret
  exact ⟨rfl, unhide HX1⟩

set_option maxRecDepth 100000 in
set_option maxHeartbeats 4000000 in
theorem swp_many (w : World) (a0 : Option Addr) (n0 c0 : Nat) (a1 : Option Addr) (n1 c1 : Nat) (z2 : Int) (h : ¬ 200 < n0) (h2 : 100 < n1) :
    Calls Try.prog 6 #[.slice a0 n0 c0, .slice a1 n1 c1, .int .i64 z2] w fun e w' => e = .returned (.bool true) ∧ Below w.heap.size w w' := by
  have i1 : ¬ (200 : Int) < (n0 : Int) := by omega
  have i2 : (100 : Int) < (n1 : Int) := by omega
  go_enter Try.func6, Try.ntmps6
  go_wp2_with (go_at_call 9; (with_reducible refine Calls.mono (begun_any _) ?_); rintro e w1 ⟨rfl, hb1⟩; have HX1 := hide hb1; clear hb1)
  go_ret
  exact ⟨rfl, unhide HX1⟩

set_option maxRecDepth 100000 in
set_option maxHeartbeats 4000000 in
theorem swp_fault (w : World) (a0 : Option Addr) (n0 c0 : Nat) (a1 : Option Addr) (n1 c1 : Nat) (l : List Ev) (hs : List Int) (hl : IsL KE w (.slice a0 n0 c0) l) (hh : IsL KI w (.slice a1 n1 c1) hs) (z2 : Int) (h : ¬ 200 < n0) (h2 : ¬ 100 < n1) (fc fa : Int) (hf : checkF hs l = (fc, fa)) (hfc : fc ≠ 0) :
    Calls Try.prog 6 #[.slice a0 n0 c0, .slice a1 n1 c1, .int .i64 z2] w fun e w' => e = .returned (.bool true) ∧ Below w.heap.size w w' := by
  have i1 : ¬ (200 : Int) < (n0 : Int) := by omega
  have i2 : ¬ (100 : Int) < (n1 : Int) := by omega
  have x1 : (fc != 0) = true := by simpa using hfc
  have HTF : Hid (∀ W, Below w.heap.size w W → Calls Try.prog 15 #[.slice a0 n0 c0, .slice a1 n1 c1] W fun e w' => e = .returned (.agg #[.int .i64 fc, .int .i64 fa]) ∧ Below W.heap.size W w') := fun W hW => by
    have := tf_any W a0 n0 c0 a1 n1 c1 l hs (hl.below hW) (hh.below hW)
    rwa [hf] at this
  have hfl := fld0
  clear hl hh hf hfc
  go_enter Try.func6, Try.ntmps6
  go_wp2_with (first
    | (go_at_call 9; (with_reducible refine Calls.mono (begun_any _) ?_); rintro e w1 ⟨rfl, hb1⟩; have HX1 := hide hb1; clear hb1)
    | (go_at_call 15; (with_reducible refine Calls.mono (unhide HTF _ (unhide HX1)) ?_); rintro e w2 ⟨rfl, hb2⟩; have HX2 := hide (Below.next (unhide HX1) hb2 (Nat.le_refl _)); clear hb2))
  go_ret
  exact ⟨rfl, unhide HX2⟩

set_option maxRecDepth 100000 in
set_option maxHeartbeats 4000000 in
theorem swp_out (w : World) (a0 : Option Addr) (n0 c0 : Nat) (a1 : Option Addr) (n1 c1 : Nat) (l : List Ev) (hs : List Int) (hl : IsL KE w (.slice a0 n0 c0) l) (hh : IsL KI w (.slice a1 n1 c1) hs) (z2 : Int) (h : ¬ 200 < n0) (h2 : ¬ 100 < n1) (hg : GoodT hs l) (ho : z2 < 0 ∨ (n0 : Int) - 1 ≤ z2) :
    Calls Try.prog 6 #[.slice a0 n0 c0, .slice a1 n1 c1, .int .i64 z2] w fun e w' => e = .returned (.bool true) ∧ Below w.heap.size w w' := by
  have i1 : ¬ (200 : Int) < (n0 : Int) := by omega
  have i2 : ¬ (100 : Int) < (n1 : Int) := by omega
  have wn : IntKind.i64.wrap ((n0 : Int) - 1) = (n0 : Int) - 1 := wrapi (by omega) (by omega)
  have hf := hg.zero
  have HTF : Hid (∀ W, Below w.heap.size w W → Calls Try.prog 15 #[.slice a0 n0 c0, .slice a1 n1 c1] W fun e w' => e = .returned (.agg #[.int .i64 0, .int .i64 0]) ∧ Below W.heap.size W w') := fun W hW => by
    have := tf_any W a0 n0 c0 a1 n1 c1 l hs (hl.below hW) (hh.below hW)
    rwa [hf] at this
  have hcase : z2 < 0 ∨ (¬ z2 < 0 ∧ (n0 : Int) - 1 ≤ z2) := by omega
  have hfl := fld0
  clear hl hh hf hg ho
  rcases hcase with o1 | ⟨o1, o2⟩
  all_goals
    go_enter Try.func6, Try.ntmps6
    go_wp2_with (first
      | (go_at_call 9; (with_reducible refine Calls.mono (begun_any _) ?_); rintro e w1 ⟨rfl, hb1⟩; have HX1 := hide hb1; clear hb1)
      | (go_at_call 15; (with_reducible refine Calls.mono (unhide HTF _ (unhide HX1)) ?_); rintro e w2 ⟨rfl, hb2⟩; have HX2 := hide (Below.next (unhide HX1) hb2 (Nat.le_refl _)); clear hb2))
    go_ret
    exact ⟨rfl, unhide HX2⟩

end Go.Proofs.Ytbnmeeabpjmcoaa
