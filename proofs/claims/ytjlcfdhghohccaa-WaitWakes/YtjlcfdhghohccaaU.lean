/-
  taskmilllaw.waitBegun.
-/
import Derived.Test.YtjlcfdhghohccaaT
namespace Go.Proofs.Ytjlcfdhghohccaa
open Go.RowKit

theorem begun_add : addL [] 5 3 false = [(5, [3])] := by decide
theorem begun_first : firstL 5 9 [(5, [3])] = [3] := by decide
theorem begun_good : Good [(5, [3])] := by
  have := add_good good_nil 5 (t := 3) false (by simp [waitL]) (by decide) (by simp [waitL])
  rw [begun_add] at this
  exact this.1

set_option maxRecDepth 100000 in
set_option maxHeartbeats 2000000 in
theorem begun_any (w : World) : Calls Try.prog 8 #[] w fun e w' => e = .returned (.bool true) ∧ Below w.heap.size w w' := by
  have HAD := hide (add_ok w none 0 0 5 3 false [] (ls_nil w) (addF_good good_nil (by simp [waitL]) (by decide) (by simp [waitL])) good_nil)
  rw [begun_add] at HAD
  have HWK : Hid (∀ W a c, IsLs W (.slice a 1 c) [(5, [3])] → Calls Try.prog 23 #[.slice a 1 c, .int .i64 5, .int .i64 9] W fun e w' => ∃ a1 n1 c1 a2 c2, e = .returned (.tuple #[.slice a1 n1 c1, .slice a2 1 c2, .agg #[.int .i64 0, .int .i64 0]]) ∧ IsInts w' (.slice a2 1 c2) [3] ∧ Below W.heap.size W w') := fun W a c hi => by
    refine (wake_ok W a 1 c 5 9 _ hi begun_good).mono ?_
    rw [begun_first]
    rintro e w' ⟨a1, c1, a2, c2, rfl, _, h2, h3⟩
    exact ⟨a1, _, c1, a2, c2, rfl, h2.ints, h3⟩
  go_enter Try.func8, Try.ntmps8
  go_upto_region 2 with (go_at_call 12; refine (unhide HAD).mono ?_; rintro e w1 ⟨a1, c1, rfl, hf1, hb1⟩; have HL1 := hide hf1.ls; have HX1 := hide hb1; clear hf1 hb1)
  have TB := hide (new_block w1 (.cells #[.int .i64 0, .int .i64 0] 27))
  have HBA := hide ((Below.refl w1.heap.size w1).alloc (Nat.le_refl _) (.cells #[.int .i64 0, .int .i64 0] 27))
  have HX2 := hide (Below.next (unhide HX1) (unhide HBA) (Nat.le_refl _))
  have HL2 := hide ((unhide HL1).below (unhide HBA))
  obtain ⟨T, hT⟩ : ∃ T, w1.heap.size = T := ⟨_, rfl⟩
  obtain ⟨W2, hW2⟩ : ∃ W, w1.alloc (.cells #[.int .i64 0, .int .i64 0] 27) = W := ⟨_, rfl⟩
  rw [hT, hW2] at TB
  rw [hW2] at HX2 HL2
  rw [hT, hW2]
  clear hT hW2 HBA HX1 HL1
  go_upto_region 3 with (go_at_call 23; refine (unhide HWK _ _ _ (unhide HL2)).mono ?_; rintro e w3 ⟨a3, n3, c3, a4, c4, rfl, hi3, hb3⟩; have HI3 := hide hi3; have HB3 := hide hb3; clear hi3 hb3)
  have UB := hide (new_block w3 (.cells #[.int .i64 0, .int .i64 0] 27))
  have HBA := hide ((Below.refl w3.heap.size w3).alloc (Nat.le_refl _) (.cells #[.int .i64 0, .int .i64 0] 27))
  have TB4 := hide (keep_alloc (keep_below (unhide TB) (unhide HB3)) (.cells #[.int .i64 0, .int .i64 0] 27))
  have HX4 := hide (Below.next (Below.next (unhide HX2) (unhide HB3) (Nat.le_refl _)) (unhide HBA) (Nat.le_refl _))
  have HI4 := hide ((unhide HI3).below (unhide HBA))
  obtain ⟨U, hU⟩ : ∃ T, w3.heap.size = T := ⟨_, rfl⟩
  obtain ⟨W4, hW4⟩ : ∃ W, w3.alloc (.cells #[.int .i64 0, .int .i64 0] 27) = W := ⟨_, rfl⟩
  rw [hU, hW4] at UB
  rw [hW4] at HX4 HI4 TB4
  rw [hU, hW4]
  clear hU hW4 HBA HX2 HL2 HB3 HI3 TB
  obtain ⟨t0, t1, _, _, _⟩ := block2 (unhide TB4)
  obtain ⟨u0, u1, _, _, _⟩ := block2 (unhide UB)
  have HBL := hide ((Below.refl W4.heap.size W4).alloc (Nat.le_refl _) (.cells #[.int .i64 3] 3))
  have HSM := hide (ints_same (W4.alloc (.cells #[.int .i64 3] 3)) _ _ [3] ((unhide HI4).below (unhide HBL)) (ints_new W4 3 3) (by decide))
  go_wp2_with (go_at_call 26; refine (unhide HSM).mono ?_; rintro e w5 ⟨rfl, hb5⟩; have HX5 := hide (Below.next (Below.next (unhide HX4) (unhide HBL) (Nat.le_refl _)) hb5 (Nat.le_refl _)); clear hb5)
  go_ret
  exact ⟨rfl, unhide HX5⟩
end Go.Proofs.Ytjlcfdhghohccaa
