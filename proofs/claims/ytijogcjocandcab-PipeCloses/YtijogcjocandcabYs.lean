/-
  pipe.Send, whatever comes.
-/
import Derived.Test.YtijogcjocandcabS
namespace Go.Proofs.Ytijogcjocandcab
open Go.RowKit

theorem of_pipeF {P : Pp} (h : pipeF P = (0, 0)) : countP P ≤ 5000 := by
  have hw : wholeC P.cap P.items.length P.ss.length P.gs.length P.closed = 0 := by
    unfold pipeF at h
    split at h
    · rename_i h1; exact absurd (congrArg Prod.fst h) h1
    · rename_i h1; simpa using h1
  exact (of_whole hw).1
theorem of_taskF {P : Pp} {x : Int} (h : (taskF P x).1 = 0) : taskF P x = (0, 0) ∧ pipeF P = (0, 0) := by
  unfold taskF at h ⊢
  split at h
  · rename_i h1; exact absurd h h1
  · rename_i h1
    rw [if_neg h1]
    have hp := pipeF_zero (P := P) (by simpa using h1)
    split at h
    · cases h
    · rename_i h2
      rw [if_neg h2]
      split at h
      · cases h
      · rename_i h3
        rw [if_neg h3]
        split at h
        · cases h
        · rename_i h4
          rw [if_neg h4]
          exact ⟨rfl, hp⟩
/-- What a Send answers. -/
def sendR (P : Pp) (x u : Int) (try_ : Bool) : Pp × An := if (taskF P x).1 = 0 then sendL P (x, 0, u) try_ else (zeroP, zeroA)
theorem Send_any (w : World) (v : Value) (P : Pp) (x u : Int) (try_ : Bool) (h : IsPipe w v P) (hs : Short P) :
    Calls Try.prog 9 #[v, .int .i64 x, .int .i64 u, .bool try_] w fun e w' => ∃ v1 v2, e = .returned (.tuple #[v1, v2, faultV (taskF P x)]) ∧ NewPipe w.heap.size w' v1 (sendR P x u try_).1 ∧ NewAns w.heap.size w' v2 (sendR P x u try_).2 ∧ Below w.heap.size w w' := by
  unfold sendR
  by_cases h0 : (taskF P x).1 = 0
  · rw [if_pos h0]
    obtain ⟨ht, hp⟩ := of_taskF h0
    rw [ht]
    exact send_do w v P x u try_ h hs ht _ _ (fun W base v' ho hb => send_any W base v' P x 0 u try_ ho hb (of_pipeF hp))
  · rw [if_neg h0]
    exact send_fault w v P x u try_ h hs _ _ rfl h0
theorem short_of {P : Pp} (h : countP P ≤ 6001) : Short P := by
  unfold countP at h
  exact ⟨by omega, by omega, by omega⟩

theorem size_of {w : World} {k : Nat} {o : Obj} (h : w.heap[k]? = some o) : k < w.heap.size := (Array.getElem?_eq_some_iff.1 h).1
theorem isl_block {α : Type} {K : Kind α} (hK : K.Ok) {w : World} {S : Nat} {x : α} (h : w.heap[S]? = some (.cells (K.f x).toArray K.e)) : IsL K w (.slice (some ⟨S, 0, none⟩) 1 1) [x] := by
  refine Lies.isl hK (fun j i u hj hu => ?_) rfl (Nat.le_refl _)
  have e : j = 0 := by simp at hj; omega
  subst e
  simp only [World.cell?, h]
  simpa using hu
theorem set_block6 {w : World} {R i : Nat} {x0 x1 x2 x3 x4 x5 y : Value} {t : TypeId} (h : w.heap[R]? = some (.cells #[x0, x1, x2, x3, x4, x5] t (0, 0))) : (w.setCell ⟨R, i, none⟩ y).heap[R]? = some (.cells (#[x0, x1, x2, x3, x4, x5].setIfInBounds i y) t (0, 0)) := by
  simp [World.setCell, Array.getElem?_modify, h]

theorem not_vast {P : Pp} (h : vastL P = false) : countP P ≤ 6000 := by
  unfold vastL at h
  rw [Bool.or_eq_false_iff] at h
  have := of_decide_eq_false h.1
  omega
theorem two_new (w : World) (o0 o1 : Obj) : ∃ W, (w.alloc o0).alloc o1 = W ∧ Below w.heap.size w W ∧ W.heap[w.heap.size]? = some o0 ∧ W.heap[w.heap.size + 1]? = some o1 := by
  refine ⟨_, rfl, ((Below.refl w.heap.size w).alloc (Nat.le_refl _) o0).alloc (by simp) o1, keep_alloc (new_block w o0) _, ?_⟩
  have := new_block (w.alloc o0) o1
  rw [World.size_alloc] at this
  exact this
end Go.Proofs.Ytijogcjocandcab
