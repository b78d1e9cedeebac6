/-
  taskmilllaw.sameGroup, sameOnce, sameSema, sameGate.
-/
import Derived.Test.YtpogcfdmkeebmabF
namespace Go.Proofs.Ytpogcfdmkeebmab
open Go.RowKit

set_option maxRecDepth 100000 in
set_option maxHeartbeats 2000000 in
theorem sameSema_any (w : World) (v v' : Value) (c : Int) (xs : List Po) (h : IsG KP w v c xs) (h' : IsG KP w v' c xs) (hn : xs.length ≤ maxLen) :
    Calls Try.prog 14 #[v, v'] w fun e w' => e = .returned (.bool true) ∧ Below w.heap.size w w' := by
  obtain ⟨a0, c0, rfl, hL⟩ := h.form
  obtain ⟨a1, c1, rfl, hL'⟩ := h'.form
  have HS : Hid (∀ W, Below w.heap.size w W → Calls Try.prog 27 #[.slice a0 xs.length c0, .slice a1 xs.length c1] W fun e w' => e = .returned (.bool true) ∧ Below W.heap.size W w') := fun W hW => posts_same W _ _ xs (hL.below hW) (hL'.below hW) hn
  generalize xs.length = n at *
  clear h h' hL hL'
  have x1 : (c == c) = true := by simp
  obtain ⟨W0, e0, hB, k0, k1⟩ := two_new w (.cells #[.int .i64 c, .slice a0 n c0] 40) (.cells #[.int .i64 c, .slice a1 n c1] 40)
  have HX := hide hB; have HP := hide k0; have HQ := hide k1; have HE := hide e0
  clear hB k0 k1 e0
  go_enter Try.func14, Try.ntmps14
  go_upto_region 1 with fail
  rw [unhide HE]
  clear HE
  obtain ⟨p0, p1, -, -, pl⟩ := block2 (unhide HP)
  obtain ⟨q0, q1, -, -, ql⟩ := block2 (unhide HQ)
  go_wp2_with (go_at_call 27; refine (unhide HS _ (unhide HX)).mono ?_; rintro e w1 ⟨rfl, hb1⟩; have HX1 := hide (Below.next (unhide HX) hb1 (Nat.le_refl _)); clear hb1)
  go_ret
  exact ⟨rfl, unhide HX1⟩

set_option maxRecDepth 100000 in
set_option maxHeartbeats 2000000 in
theorem sameOnce_any (w : World) (v v' : Value) (b : Int) (d : Bool) (xs : List Int) (h : IsO w v b d xs) (h' : IsO w v' b d xs) (hn : xs.length ≤ maxLen) :
    Calls Try.prog 9 #[v, v'] w fun e w' => e = .returned (.bool true) ∧ Below w.heap.size w w' := by
  obtain ⟨a0, c0, rfl, hL⟩ := h.form
  obtain ⟨a1, c1, rfl, hL'⟩ := h'.form
  have HS : Hid (∀ W, Below w.heap.size w W → Calls Try.prog 13 #[.slice a0 xs.length c0, .slice a1 xs.length c1] W fun e w' => e = .returned (.bool true) ∧ Below W.heap.size W w') := fun W hW => ints_same W _ _ xs (hL.below hW) (hL'.below hW) hn
  generalize xs.length = n at *
  clear h h' hL hL'
  have x1 : (b == b) = true := by simp
  have x2 : (d == d) = true := by simp
  obtain ⟨W0, e0, hB, k0, k1⟩ := two_new w (.cells #[.int .i64 b, .bool d, .slice a0 n c0] 25) (.cells #[.int .i64 b, .bool d, .slice a1 n c1] 25)
  have HX := hide hB; have HP := hide k0; have HQ := hide k1; have HE := hide e0
  clear hB k0 k1 e0
  go_enter Try.func9, Try.ntmps9
  go_upto_region 1 with fail
  rw [unhide HE]
  clear HE
  obtain ⟨⟨p0, p1, p2⟩, -, pl⟩ := block3 (unhide HP)
  obtain ⟨⟨q0, q1, q2⟩, -, ql⟩ := block3 (unhide HQ)
  go_wp2_with (go_at_call 13; refine (unhide HS _ (unhide HX)).mono ?_; rintro e w1 ⟨rfl, hb1⟩; have HX1 := hide (Below.next (unhide HX) hb1 (Nat.le_refl _)); clear hb1)
  go_ret
  exact ⟨rfl, unhide HX1⟩

end Go.Proofs.Ytpogcfdmkeebmab
