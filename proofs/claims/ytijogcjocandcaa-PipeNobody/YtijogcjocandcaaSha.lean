/-
  taskmilllaw.PipeShuts.
-/
import Derived.Test.YtijogcjocandcaaCl
import Derived.Test.YtijogcjocandcaaTw
namespace Go.Proofs.Ytijogcjocandcaa
open Go.RowKit

theorem shutL_short {P : Pp} (hc : countP P ≤ 6000) : countP (shutL P).1 ≤ 6001 ∧ (shutL P).2.wakes.length ≤ 6000 := by
  unfold countP at hc ⊢
  unfold shutL
  split
  · exact ⟨by simp only; omega, by simp⟩
  · exact ⟨by simp only [List.length_nil]; omega, by simp only [List.length_append, List.length_map]; omega⟩
theorem shutR_short {P : Pp} (hc : countP P ≤ 6000) : countP (shutR P).1 ≤ 6001 ∧ (shutR P).2.wakes.length ≤ 6000 := by
  unfold shutR
  split
  · exact shutL_short hc
  · exact ⟨by decide, by decide⟩
theorem leaveR_short {P : Pp} {x : Int} (hc : countP P ≤ 6000) : countP (leaveR P x) ≤ 6001 := by
  unfold leaveR
  split
  · unfold leaveL countP
    unfold countP at hc
    have h1 : (leftL (isOfP x) P.ss).length ≤ P.ss.length := List.length_filter_le _ _
    have h2 : (leftL (isOfP x) P.gs).length ≤ P.gs.length := List.length_filter_le _ _
    simp only
    omega
  · decide

/-- What has been kept since the world w0. -/
def Since (B : Nat) (w0 w : World) : Prop := Below B w0 w ∧ B ≤ w0.heap.size
theorem Since.below {B : Nat} {w0 w w' : World} (h : Since B w0 w) (hb : Below w.heap.size w w') : Since B w0 w' := ⟨Below.next h.1 hb h.2, h.2⟩
theorem Since.put2 {B R : Nat} {w0 w : World} {y0 y1 : Value} (h : Since B w0 w) (hR : B ≤ R) : Since B w0 (put2 w R y0 y1) := ⟨put2_below h.1 hR, h.2⟩

set_option maxRecDepth 100000 in
set_option maxHeartbeats 1000000 in
theorem shuts_vast (w : World) (v : Value) (P : Pp) (x : Int) (h : IsPipe w v P) (hs : Short P) (hv : vastL P = true) :
    Calls Try.prog 5 #[v, .int .i64 x] w fun e w' => e = .returned (.bool true) ∧ Below w.heap.size w w' := by
  have hnot : ∀ (x : Bool) (w : World), (Op.unary .not (.bool x)).run Try.prog w = .ok (.bool (!x)) w := fun _ _ => rfl
  have HV : Hid (∀ W, Below w.heap.size w W → Calls Try.prog 10 #[v] W fun e w' => e = .returned (.bool true) ∧ Below W.heap.size W w') := fun W hW => by
    have := vast_any W v P (h.below hW) hs
    rw [hv] at this
    exact this
  obtain ⟨a1, c1, a2, c2, a3, c3, ev, -, -, -⟩ := h.form
  generalize P.cap = cap, P.items.length = n1, P.closed = closed, P.ss.length = n2, P.gs.length = n3 at ev
  subst ev
  clear h hs hv
  have HB0 := hide ((Below.refl w.heap.size w).alloc (Nat.le_refl _) (.cells #[.int .i64 cap, .slice a1 n1 c1, .bool closed, .slice a2 n2 c2, .slice a3 n3 c3] 25))
  go_enter Try.func5, Try.ntmps5
  go_wp2_with (first
    | (go_at_call 9; refine (begun_any _).mono ?_; rintro e w1 ⟨rfl, hb1⟩; obtain ⟨⟨p0, p1, p2, p3, p4⟩, -, pl⟩ := block5 (keep_below (new_block w (.cells #[.int .i64 cap, .slice a1 n1 c1, .bool closed, .slice a2 n2 c2, .slice a3 n3 c3] 25)) hb1); have HB1 := hide (Below.next (unhide HB0) hb1 (Nat.le_refl _)); clear hb1)
    | (go_at_call 10; refine (unhide HV _ (unhide HB1)).mono ?_; rintro e w2 ⟨rfl, hb2⟩; have HB2 := hide (Below.next (unhide HB1) hb2 (Nat.le_refl _)); clear hb2))
  go_ret
  exact ⟨rfl, unhide HB2⟩

end Go.Proofs.Ytijogcjocandcaa
