/-
  taskmilllaw.orderBegun.
-/
import Derived.Test.YtbnmeeabpjmcoaaU
namespace Go.Proofs.Ytbnmeeabpjmcoaa
open Go.RowKit

def hL : List Ev := [⟨1, 13, 0, 5⟩, ⟨1, 14, 0, 0⟩, ⟨2, 15, 0, 0⟩, ⟨2, 12, 0, 5⟩]
def hB16 : Obj := .cells #[.int .i64 1, .int .i64 13, .int .i64 0, .int .i64 5, .int .i64 1, .int .i64 14, .int .i64 0, .int .i64 0, .int .i64 2, .int .i64 15, .int .i64 0, .int .i64 0, .int .i64 2, .int .i64 12, .int .i64 0, .int .i64 5] 41 (0, 0)
theorem hL_is {w : World} {b : Nat} (h : w.heap[b]? = some hB16) : IsL KE w (.slice (some ⟨b, 0, none⟩) 4 4) hL := by
  refine Lies.isl ke (fun j i u hj hu => ?_) rfl (Nat.le_refl _)
  have hj4 : j < 4 := hj
  have hi4 : i < 4 := by have := (List.getElem?_eq_some_iff.1 hu).1; simpa [KE] using this
  unfold hB16 at h
  simp only [World.cell?, h]
  rw [← hu]
  have ej : j = 0 ∨ j = 1 ∨ j = 2 ∨ j = 3 := by omega
  have ei : i = 0 ∨ i = 1 ∨ i = 2 ∨ i = 3 := by omega
  rcases ej with rfl | rfl | rfl | rfl <;> rcases ei with rfl | rfl | rfl | rfl <;> rfl
theorem hL_good : GoodT [1] hL := good_of (by decide)
theorem hL_bef : befL [1] hL 0 3 = true := by decide

set_option maxRecDepth 100000 in
set_option maxHeartbeats 4000000 in
theorem handed_any (w : World) : Calls Try.prog 30 #[] w fun e w' => e = .returned (.slice (some ⟨w.heap.size, 0, none⟩) 4 4) ∧ w' = w.alloc hB16 := by
  unfold hB16
  go_enter Try.func30, Try.ntmps30
  go_wp2
  go_ret
  exact ⟨rfl, rfl⟩
set_option maxRecDepth 100000 in
set_option maxHeartbeats 4000000 in
theorem begun_any (w : World) : Calls Try.prog 9 #[] w fun e w' => e = .returned (.bool true) ∧ Below w.heap.size w w' := by
  obtain ⟨W1, e1, hB1, hZ1, hS1⟩ := new_two w hB16
  obtain ⟨W2, e2, hB2, hZ2, hS2⟩ := new_two W1 (.cells #[.int .i64 1] 3)
  have hI : IsL KI W2 (.slice (some ⟨W1.heap.size, 0, none⟩) 1 1) [1] := by rw [← e2]; exact isl_one ki W1 1
  have HBF := hide (before_good W2 (some ⟨w.heap.size, 0, none⟩) 4 4 (some ⟨W1.heap.size, 0, none⟩) 1 1 hL [1] (hL_is (keep_below hZ1 hB2)) hI hL_good 0 3 (by decide) (by decide))
  rw [hL_bef] at HBF
  have HX2 := hide (Below.next hB1 hB2 (Nat.le_refl _))
  have HE1 := hide e1; have HE2 := hide e2
  clear e1 e2 hB1 hZ1 hS1 hB2 hZ2 hS2 hI
  go_enter Try.func9, Try.ntmps9
  go_upto_region 2 with (first
    | (go_at_call 30; (with_reducible refine Calls.mono (handed_any _) ?_); rintro e w1 ⟨rfl, ew1⟩; rw [unhide HE1] at ew1; rw [ew1]; clear ew1 w1)
    | (rw [unhide HE2]; go_at_call 14; refine (unhide HBF).mono ?_; rintro e w3 ⟨rfl, hb3⟩; have HX3 := hide (Below.next (unhide HX2) hb3 (Nat.le_refl _)); clear hb3))
  have HX4 := hide ((unhide HX3).alloc (unhide HX3).size (.cells #[.int .i64 0, .int .i64 0] 28)); have HF4 := hide (new_block w3 (.cells #[.int .i64 0, .int .i64 0] 28))
  obtain ⟨W4, e4⟩ : ∃ X, w3.alloc (.cells #[.int .i64 0, .int .i64 0] 28) = X := ⟨_, rfl⟩
  rw [e4] at HX4 HF4 ⊢
  clear e4
  obtain ⟨q0, q1, f0, f1, ql⟩ := block2 (unhide HF4)
  go_wp2_with fail
  go_ret
  exact ⟨rfl, unhide HX4⟩
end Go.Proofs.Ytbnmeeabpjmcoaa
