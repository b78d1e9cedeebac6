/-
  taskmilllaw.sameGroup, sameOnce, sameSema, sameGate.
-/
import Derived.Test.YtpogcfdmkeebmaaF
namespace Go.Proofs.Ytpogcfdmkeebmaa
open Go.RowKit

set_option maxRecDepth 100000 in
set_option maxHeartbeats 2000000 in
theorem sameGroup_any (w : World) (v v' : Value) (c : Int) (xs : List Int) (h : IsG KI w v c xs) (h' : IsG KI w v' c xs) (hn : xs.length ≤ maxLen) :
    Calls Try.prog 15 #[v, v'] w fun e w' => e = .returned (.bool true) ∧ Below w.heap.size w w' := by
  obtain ⟨a0, c0, rfl, hL⟩ := h.form
  obtain ⟨a1, c1, rfl, hL'⟩ := h'.form
  have HS : Hid (∀ W, Below w.heap.size w W → Calls Try.prog 17 #[.slice a0 xs.length c0, .slice a1 xs.length c1] W fun e w' => e = .returned (.bool true) ∧ Below W.heap.size W w') := fun W hW => ints_same W _ _ xs (hL.below hW) (hL'.below hW) hn
  generalize xs.length = n at *
  clear h h' hL hL'
  have x1 : (c == c) = true := by simp
  obtain ⟨W0, e0, hB, k0, k1⟩ := two_new w (.cells #[.int .i64 c, .slice a0 n c0] 24) (.cells #[.int .i64 c, .slice a1 n c1] 24)
  have HX := hide hB; have HP := hide k0; have HQ := hide k1; have HE := hide e0
  clear hB k0 k1 e0
  go_enter Try.func15, Try.ntmps15
  go_upto_region 1 with fail
  rw [unhide HE]
  clear HE
  obtain ⟨p0, p1, -, -, pl⟩ := block2 (unhide HP)
  obtain ⟨q0, q1, -, -, ql⟩ := block2 (unhide HQ)
  go_wp2_with (go_at_call 17; refine (unhide HS _ (unhide HX)).mono ?_; rintro e w1 ⟨rfl, hb1⟩; have HX1 := hide (Below.next (unhide HX) hb1 (Nat.le_refl _)); clear hb1)
  go_ret
  exact ⟨rfl, unhide HX1⟩

set_option maxRecDepth 100000 in
set_option maxHeartbeats 2000000 in
theorem sameGate_any (w : World) (v v' : Value) (c : Int) (xs : List Int) (h : IsG KI w v c xs) (h' : IsG KI w v' c xs) (hn : xs.length ≤ maxLen) :
    Calls Try.prog 33 #[v, v'] w fun e w' => e = .returned (.bool true) ∧ Below w.heap.size w w' := by
  obtain ⟨a0, c0, rfl, hL⟩ := h.form
  obtain ⟨a1, c1, rfl, hL'⟩ := h'.form
  have HS : Hid (∀ W, Below w.heap.size w W → Calls Try.prog 17 #[.slice a0 xs.length c0, .slice a1 xs.length c1] W fun e w' => e = .returned (.bool true) ∧ Below W.heap.size W w') := fun W hW => ints_same W _ _ xs (hL.below hW) (hL'.below hW) hn
  generalize xs.length = n at *
  clear h h' hL hL'
  have x1 : (c == c) = true := by simp
  obtain ⟨W0, e0, hB, k0, k1⟩ := two_new w (.cells #[.int .i64 c, .slice a0 n c0] 67) (.cells #[.int .i64 c, .slice a1 n c1] 67)
  have HX := hide hB; have HP := hide k0; have HQ := hide k1; have HE := hide e0
  clear hB k0 k1 e0
  go_enter Try.func33, Try.ntmps33
  go_upto_region 1 with fail
  rw [unhide HE]
  clear HE
  obtain ⟨p0, p1, -, -, pl⟩ := block2 (unhide HP)
  obtain ⟨q0, q1, -, -, ql⟩ := block2 (unhide HQ)
  go_wp2_with (go_at_call 17; refine (unhide HS _ (unhide HX)).mono ?_; rintro e w1 ⟨rfl, hb1⟩; have HX1 := hide (Below.next (unhide HX) hb1 (Nat.le_refl _)); clear hb1)
  go_ret
  exact ⟨rfl, unhide HX1⟩

set_option maxRecDepth 100000 in
set_option maxHeartbeats 2000000 in
theorem sameSema_any (w : World) (v v' : Value) (c : Int) (xs : List Po) (h : IsG KP w v c xs) (h' : IsG KP w v' c xs) (hn : xs.length ≤ maxLen) :
    Calls Try.prog 27 #[v, v'] w fun e w' => e = .returned (.bool true) ∧ Below w.heap.size w w' := by
  obtain ⟨a0, c0, rfl, hL⟩ := h.form
  obtain ⟨a1, c1, rfl, hL'⟩ := h'.form
  have HS : Hid (∀ W, Below w.heap.size w W → Calls Try.prog 48 #[.slice a0 xs.length c0, .slice a1 xs.length c1] W fun e w' => e = .returned (.bool true) ∧ Below W.heap.size W w') := fun W hW => posts_same W _ _ xs (hL.below hW) (hL'.below hW) hn
  generalize xs.length = n at *
  clear h h' hL hL'
  have x1 : (c == c) = true := by simp
  obtain ⟨W0, e0, hB, k0, k1⟩ := two_new w (.cells #[.int .i64 c, .slice a0 n c0] 51) (.cells #[.int .i64 c, .slice a1 n c1] 51)
  have HX := hide hB; have HP := hide k0; have HQ := hide k1; have HE := hide e0
  clear hB k0 k1 e0
  go_enter Try.func27, Try.ntmps27
  go_upto_region 1 with fail
  rw [unhide HE]
  clear HE
  obtain ⟨p0, p1, -, -, pl⟩ := block2 (unhide HP)
  obtain ⟨q0, q1, -, -, ql⟩ := block2 (unhide HQ)
  go_wp2_with (go_at_call 48; refine (unhide HS _ (unhide HX)).mono ?_; rintro e w1 ⟨rfl, hb1⟩; have HX1 := hide (Below.next (unhide HX) hb1 (Nat.le_refl _)); clear hb1)
  go_ret
  exact ⟨rfl, unhide HX1⟩

set_option maxRecDepth 100000 in
set_option maxHeartbeats 2000000 in
theorem sameOnce_any (w : World) (v v' : Value) (b : Int) (d : Bool) (xs : List Int) (h : IsO w v b d xs) (h' : IsO w v' b d xs) (hn : xs.length ≤ maxLen) :
    Calls Try.prog 22 #[v, v'] w fun e w' => e = .returned (.bool true) ∧ Below w.heap.size w w' := by
  obtain ⟨a0, c0, rfl, hL⟩ := h.form
  obtain ⟨a1, c1, rfl, hL'⟩ := h'.form
  have HS : Hid (∀ W, Below w.heap.size w W → Calls Try.prog 17 #[.slice a0 xs.length c0, .slice a1 xs.length c1] W fun e w' => e = .returned (.bool true) ∧ Below W.heap.size W w') := fun W hW => ints_same W _ _ xs (hL.below hW) (hL'.below hW) hn
  generalize xs.length = n at *
  clear h h' hL hL'
  have x1 : (b == b) = true := by simp
  have x2 : (d == d) = true := by simp
  obtain ⟨W0, e0, hB, k0, k1⟩ := two_new w (.cells #[.int .i64 b, .bool d, .slice a0 n c0] 41) (.cells #[.int .i64 b, .bool d, .slice a1 n c1] 41)
  have HX := hide hB; have HP := hide k0; have HQ := hide k1; have HE := hide e0
  clear hB k0 k1 e0
  go_enter Try.func22, Try.ntmps22
  go_upto_region 1 with fail
  rw [unhide HE]
  clear HE
  obtain ⟨⟨p0, p1, p2⟩, -, pl⟩ := block3 (unhide HP)
  obtain ⟨⟨q0, q1, q2⟩, -, ql⟩ := block3 (unhide HQ)
  go_wp2_with (go_at_call 17; refine (unhide HS _ (unhide HX)).mono ?_; rintro e w1 ⟨rfl, hb1⟩; have HX1 := hide (Below.next (unhide HX) hb1 (Nat.le_refl _)); clear hb1)
  go_ret
  exact ⟨rfl, unhide HX1⟩

end Go.Proofs.Ytpogcfdmkeebmaa
