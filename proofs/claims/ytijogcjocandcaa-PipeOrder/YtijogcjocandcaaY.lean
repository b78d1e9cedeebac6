/-
  taskmilllaw.PipeSends.
-/
import Derived.Test.YtijogcjocandcaaX
namespace Go.Proofs.Ytijogcjocandcaa
open Go.RowKit

theorem of_pipeF {P : Pp} (h : pipeF P = (0, 0)) : countP P ≤ 5000 := by
  have hw : wholeC P.cap P.items.length P.ss.length P.gs.length P.closed = 0 := by
    unfold pipeF at h
    split at h
    · rename_i h1; exact absurd (congrArg Prod.fst h) h1
    · rename_i h1; simpa using h1
  exact (of_whole hw).1
theorem of_taskF {P : Pp} {x : Int} (h : (taskF P x).1 = 0) : taskF P x = (0, 0) ∧ pipeF P = (0, 0) := by
  unfold taskF at h ⊢
  split at h
  · rename_i h1; exact absurd h h1
  · rename_i h1
    rw [if_neg h1]
    have hp := pipeF_zero (P := P) (by simpa using h1)
    split at h
    · cases h
    · rename_i h2
      rw [if_neg h2]
      split at h
      · cases h
      · rename_i h3
        rw [if_neg h3]
        split at h
        · cases h
        · rename_i h4
          rw [if_neg h4]
          exact ⟨rfl, hp⟩
/-- What a Send answers. -/
def sendR (P : Pp) (x u : Int) (try_ : Bool) : Pp × An := if (taskF P x).1 = 0 then sendL P (x, 0, u) try_ else (zeroP, zeroA)
theorem Send_any (w : World) (v : Value) (P : Pp) (x u : Int) (try_ : Bool) (h : IsPipe w v P) (hs : Short P) :
    Calls Try.prog 13 #[v, .int .i64 x, .int .i64 u, .bool try_] w fun e w' => ∃ v1 v2, e = .returned (.tuple #[v1, v2, faultV (taskF P x)]) ∧ NewPipe w.heap.size w' v1 (sendR P x u try_).1 ∧ NewAns w.heap.size w' v2 (sendR P x u try_).2 ∧ Below w.heap.size w w' := by
  unfold sendR
  by_cases h0 : (taskF P x).1 = 0
  · rw [if_pos h0]
    obtain ⟨ht, hp⟩ := of_taskF h0
    rw [ht]
    exact send_do w v P x u try_ h hs ht _ _ (fun W base v' ho hb => send_any W base v' P x 0 u try_ ho hb (of_pipeF hp))
  · rw [if_neg h0]
    exact send_fault w v P x u try_ h hs _ _ rfl h0
/-- What is wanted of a Send. -/
def wantS (P : Pp) (x u : Int) (try_ : Bool) : Pp := if (sentL P (x, 0, u)).2.done = false ∧ try_ = false then { (sentL P (x, 0, u)).1 with ss := (sentL P (x, 0, u)).1.ss ++ [(x, 0, u)] } else (sentL P (x, 0, u)).1
theorem sent_not {P : Pp} {p : Po} (h : (sentL P p).2.done = false) : sentL P p = (P, zeroA) := by
  unfold sentL at h ⊢
  split
  · rename_i h1; rw [if_pos h1] at h; cases h
  · rename_i h1
    rw [if_neg h1] at h
    split
    · rename_i h2; rw [if_pos h2] at h; cases h
    · rename_i h2
      rw [if_neg h2] at h
      split
      · rename_i h3; rw [if_pos h3] at h; cases h
      · rfl
theorem want_send {P : Pp} {x u : Int} {try_ : Bool} (h : (taskF P x).1 = 0) : wantS P x u try_ = (sendR P x u try_).1 ∧ (sentL P (x, 0, u)).2 = (sendR P x u try_).2 := by
  unfold sendR wantS
  rw [if_pos h]
  unfold sendL
  cases hd : (sentL P (x, 0, u)).2.done with
  | true => simp
  | false =>
    have e := sent_not hd
    rw [e]
    cases try_ <;> simp

def lenA (A : An) : Nat := A.wakes.length
theorem sentL_short {P : Pp} {p : Po} (hc : countP P ≤ 6000) : countP (sentL P p).1 ≤ 6001 ∧ (sentL P p).2.wakes.length ≤ 1 := by
  unfold countP at hc ⊢
  unfold sentL
  split
  · exact ⟨by simp only; omega, by simp⟩
  · split
    · exact ⟨by simp only [List.length_drop]; omega, by simp⟩
    · split
      · exact ⟨by simp only [List.length_append, List.length_cons, List.length_nil]; omega, by simp⟩
      · exact ⟨by simp only; omega, (Nat.zero_le 1 : (0 : Nat) ≤ 1)⟩
theorem sendR_short {P : Pp} {x u : Int} {try_ : Bool} (hc : countP P ≤ 6000) : countP (sendR P x u try_).1 ≤ 6001 ∧ (sendR P x u try_).2.wakes.length ≤ 1 := by
  unfold sendR
  split
  · unfold sendL
    split
    · exact sentL_short hc
    · unfold countP at hc ⊢
      split
      · exact ⟨by simp only; omega, (Nat.zero_le 1 : (0 : Nat) ≤ 1)⟩
      · exact ⟨by simp only [List.length_append, List.length_cons, List.length_nil]; omega, (Nat.zero_le 1 : (0 : Nat) ≤ 1)⟩
  · exact ⟨by decide, by decide⟩
theorem short_of {P : Pp} (h : countP P ≤ 6001) : Short P := by
  unfold countP at h
  exact ⟨by omega, by omega, by omega⟩

set_option maxRecDepth 100000 in
set_option maxHeartbeats 1000000 in
theorem sends_vast (w : World) (v : Value) (P : Pp) (x u : Int) (try_ : Bool) (h : IsPipe w v P) (hs : Short P) (hv : vastL P = true) :
    Calls Try.prog 3 #[v, .int .i64 x, .int .i64 u, .bool try_] w fun e w' => e = .returned (.bool true) ∧ Below w.heap.size w w' := by
  have hnot : ∀ (x : Bool) (w : World), (Op.unary .not (.bool x)).run Try.prog w = .ok (.bool (!x)) w := fun _ _ => rfl
  have HV : Hid (∀ W, Below w.heap.size w W → Calls Try.prog 10 #[v] W fun e w' => e = .returned (.bool true) ∧ Below W.heap.size W w') := fun W hW => by
    have := vast_any W v P (h.below hW) hs
    rw [hv] at this
    exact this
  obtain ⟨a1, c1, a2, c2, a3, c3, ev, -, -, -⟩ := h.form
  generalize P.cap = cap, P.items.length = n1, P.closed = closed, P.ss.length = n2, P.gs.length = n3 at ev
  subst ev
  clear h hs hv
  have HB0 := hide ((Below.refl w.heap.size w).alloc (Nat.le_refl _) (.cells #[.int .i64 cap, .slice a1 n1 c1, .bool closed, .slice a2 n2 c2, .slice a3 n3 c3] 25))
  go_enter Try.func3, Try.ntmps3
  go_wp2_with (first
    | (go_at_call 9; refine (begun_any _).mono ?_; rintro e w1 ⟨rfl, hb1⟩; obtain ⟨⟨p0, p1, p2, p3, p4⟩, -, pl⟩ := block5 (keep_below (new_block w (.cells #[.int .i64 cap, .slice a1 n1 c1, .bool closed, .slice a2 n2 c2, .slice a3 n3 c3] 25)) hb1); have HB1 := hide (Below.next (unhide HB0) hb1 (Nat.le_refl _)); clear hb1)
    | (go_at_call 10; refine (unhide HV _ (unhide HB1)).mono ?_; rintro e w2 ⟨rfl, hb2⟩; have HB2 := hide (Below.next (unhide HB1) hb2 (Nat.le_refl _)); clear hb2))
  go_ret
  exact ⟨rfl, unhide HB2⟩
end Go.Proofs.Ytijogcjocandcaa
