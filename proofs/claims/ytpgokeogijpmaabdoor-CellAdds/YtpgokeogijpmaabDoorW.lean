/-
  taskmillref.Lists of two lists of lists that read alike; taskmilllaw.cellBegun.
-/
import Derived.Test.YtpgokeogijpmaabDoorV
namespace Go.Proofs.YtpgokeogijpmaabDoor
open Go.RowKit

theorem S_two {w w2 : World} {b0 o0 b1 o1 : Nat} {x y : Value} (h : Below w.heap.size w w2) (hb0 : b0 < w.heap.size) (hb1 : b1 < w.heap.size) (e0 : w.cell? ⟨b0, o0, none⟩ = some x) (e1 : w.cell? ⟨b1, o1, none⟩ = some y) :
    w2.cell? ⟨b0, o0, none⟩ = some x ∧ w2.cell? ⟨b1, o1, none⟩ = some y ∧ Below w.heap.size w w2 :=
  ⟨(h.cell (p := ⟨b0, o0, none⟩) hb0).trans e0, (h.cell (p := ⟨b1, o1, none⟩) hb1).trans e1, h⟩

set_option maxRecDepth 100000 in
set_option maxHeartbeats 1000000 in
theorem lists_some (w : World) (n b0 o0 c0 b1 o1 c1 : Nat) (hn : n ≤ maxLen) (V V' : Nat → Value) (hb0 : b0 < w.heap.size) (hb1 : b1 < w.heap.size)
    (h0 : ∀ j, j < n → w.cell? ⟨b0, o0 + j, none⟩ = some (V j)) (h1 : ∀ j, j < n → w.cell? ⟨b1, o1 + j, none⟩ = some (V' j))
    (hs : ∀ j, j < n → ∀ W, Below w.heap.size w W → Calls Tryd.prog 7 #[V j, V' j] W fun e w' => e = .returned (.bool true) ∧ Below W.heap.size W w') :
    Calls Tryd.prog 9 #[.slice (some ⟨b0, o0, none⟩) n c0, .slice (some ⟨b1, o1, none⟩) n c1] w fun e w' => e = .returned (.bool true) ∧ Below w.heap.size w w' := by
  unfold maxLen at hn
  have H0 := hide h0; have H1 := hide h1; have HS := hide hs
  clear h0 h1 hs
  have hnot : ∀ (x : Bool) (w : World), (Op.unary .not (.bool x)).run Tryd.prog w = .ok (.bool (!x)) w := fun _ _ => rfl
  go_enter Tryd.func9, Tryd.ntmps9
  go_wp2
  go_loopw [5] (fun i wr => ∃ j : Nat, j ≤ n ∧ i = .int .i64 j ∧ Below w.heap.size w wr) (fun i _ => n - (intOf i).toNat)
  case atStart => exact ⟨0, Nat.zero_le _, rfl, Below.refl _ _⟩
  case round =>
    obtain ⟨j, hj, rfl, hnx⟩ := hrel
    by_cases hlt : j < n
    · have k0 := (hnx.cell (p := ⟨b0, o0 + j, none⟩) hb0).trans (unhide H0 j hlt)
      have k1 := (hnx.cell (p := ⟨b1, o1 + j, none⟩) hb1).trans (unhide H1 j hlt)
      have i0 : (0 : Int) ≤ (j : Int) := by omega
      have i1 : (j : Int) < (n : Int) := by omega
      have HC := hide (fun W hW => unhide HS j hlt W hW)
      have HX := hide hnx
      obtain ⟨x, hx⟩ : ∃ x, V j = x := ⟨_, rfl⟩
      obtain ⟨y, hy⟩ : ∃ y, V' j = y := ⟨_, rfl⟩
      rw [hx] at k0 HC
      rw [hy] at k1 HC
      clear hnx hx hy
      have HK0 := hide (((unhide HX).cell (p := ⟨b0, o0 + j, none⟩) hb0).symm.trans k0)
      have HK1 := hide (((unhide HX).cell (p := ⟨b1, o1 + j, none⟩) hb1).symm.trans k1)
      go_wp2
      go_region_held3 (fun w' => w'.cell? ⟨b0, o0 + j, none⟩ = some x ∧ w'.cell? ⟨b1, o1 + j, none⟩ = some y ∧ Below w.heap.size w w')
        ((go_split_ands; refine S_two ?_ hb0 hb1 (unhide HK0) (unhide HK1); first | assumption | exact Below.drew (unhide HX)))
        (first | (go_at_call 7; refine (unhide HC _ (by go_split_ands; assumption)).mono ?_; rintro e w2 ⟨rfl, hb2⟩; have hB2 : Below w.heap.size w w2 := Below.trans (by go_split_ands; assumption) (hb2.mono (Below.size (B := w.heap.size) (by go_split_ands; assumption))); have HB2 := hide hB2))
      all_goals go_wp2
      go_roundw
      case rel => exact ⟨j + 1, by omega, by go_num, unhide HB2⟩
      case measure => simp [intOf]; omega
    · have HX := hide hnx
      clear hnx
      go_wp2
      go_ret
      exact ⟨rfl, unhide HX⟩
end Go.Proofs.YtpgokeogijpmaabDoor
