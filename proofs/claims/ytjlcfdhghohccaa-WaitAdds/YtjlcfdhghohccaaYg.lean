/-
  taskmilllaw.WaitAdds returns true, whatever it is given.
-/
import Derived.Test.YtjlcfdhghohccaaYc
import Derived.Test.YtjlcfdhghohccaaYd
import Derived.Test.YtjlcfdhghohccaaYe
import Derived.Test.YtjlcfdhghohccaaYf
namespace Go.Proofs.Ytjlcfdhghohccaa
open Go.RowKit

set_option maxRecDepth 100000 in
set_option maxHeartbeats 8000000 in
theorem adds_vast (w : World) (a : Option Addr) (n c : Nat) (x task : Int) (fst : Bool) (ls : List Ln) (h : Arg w a n c ls) (h6 : 6000 < n ∨ 6000 < (waitL ls).length) :
    Calls Try.prog 3 #[.slice a n c, .int .i64 x, .int .i64 task, .bool fst] w fun e w' => e = .returned (.bool true) ∧ Below w.heap.size w w' := by
  have hnot : ∀ (x : Bool) (w : World), (Op.unary .not (.bool x)).run Try.prog w = .ok (.bool (!x)) w := fun _ _ => rfl
  obtain ⟨b1, b2, b3, b4, hb0⟩ := four_alloc w (.cells #[.slice a n c] 22) (.cells #[.int .i64 x] 3) (.cells #[.int .i64 task] 3) (.cells #[.bool fst] 4)
  have HVS : Hid (∀ W, Below w.heap.size w W → Calls Try.prog 9 #[.slice a n c] W fun e w' => e = .returned (.bool true) ∧ Below W.heap.size W w') := fun W hW => by
    have := vast_bool W a n c ls h.rd.len (h.rd.below hW) h.max h.each
    rw [decide_eq_true h6] at this
    refine this.mono ?_
    rintro e w' ⟨h1, h2⟩
    exact ⟨h1, by rw [h2]; exact Below.refl _ _⟩
  have HB0 := hide hb0; have B1 := hide b1
  clear h h6 hb0 b1 b2 b3 b4
  go_enter Try.func3, Try.ntmps3
  go_upto_region 1 with fail
  obtain ⟨W0, eW0⟩ : ∃ W, (((w.alloc (.cells #[.slice a n c] 22)).alloc (.cells #[.int .i64 x] 3)).alloc (.cells #[.int .i64 task] 3)).alloc (.cells #[.bool fst] 4) = W := ⟨_, rfl⟩
  rw [eW0] at HB0 B1
  rw [eW0]
  clear eW0
  go_wp2_with (first
    | (go_at_call 8; refine (begun_any _).mono ?_; rintro e w1 ⟨rfl, hb1⟩; have HX1 := hide (Below.next (unhide HB0) hb1 (Nat.le_refl _)); have q0 := (block1 (keep_below (unhide B1) hb1)).1; clear hb1)
    | (go_at_call 9; refine (unhide HVS _ (unhide HX1)).mono ?_; rintro e w2 ⟨rfl, hb2⟩; have HX2 := hide (Below.next (unhide HX1) hb2 (Nat.le_refl _)); clear hb2))
  go_ret
  exact ⟨rfl, unhide HX2⟩

theorem adds_walk (w : World) (a : Option Addr) (n c : Nat) (x task : Int) (fst : Bool) (ls : List Ln) (h : Arg w a n c ls) :
    Calls Try.prog 3 #[.slice a n c, .int .i64 x, .int .i64 task, .bool fst] w fun e w' => e = .returned (.bool true) ∧ Below w.heap.size w w' := by
  by_cases h6 : 6000 < n ∨ 6000 < (waitL ls).length
  · exact adds_vast w a n c x task fst ls h h6
  · by_cases hf : (linesF ls).1 = 0
    · have hlf := linesF_zero hf
      by_cases ht : task < 1
      · exact adds_low w a n c x task fst ls h h6 hlf ht
      · cases hin : (waitL ls).contains task with
        | true => exact adds_twice w a n c x task fst ls h h6 hlf ht hin
        | false =>
          by_cases hq : (waitL ls).length = 5000
          · exact adds_much w a n c x task fst ls h h6 hlf ht hin hq
          · exact adds_ok w a n c x task fst ls h.rd (good_of hlf) (by unfold addF; rw [hlf, if_neg (by simp), if_neg ht, if_neg (by rw [hin]; simp), if_neg hq])
    · exact adds_fault w a n c x task fst ls h h6 _ _ rfl hf
end Go.Proofs.Ytjlcfdhghohccaa
