/-
  taskmilllaw.PollLosesNone: what holds behind a move.
-/
import Derived.Test.YtmghfedlpndpiaaPc
namespace Go.Proofs.Ytmghfedlpndpiaa
open Go.RowKit

theorem late_two (now : Int) : late (now + 2) now = false := decide_eq_false (by omega)
theorem ok_same {i now : Int} {r0 r1 : Bool} {t0 t1 u0 u1 f0 f1 g0 g1 : Int} (h : Ok i now r0 r1 t0 t1 u0 u1 f0 f1 g0 g1) (hi : i + 1 ≤ 300) : Ok (i + 1) now r0 r1 t0 t1 u0 u1 f0 f1 g0 g1 := by
  obtain ⟨n0, n1, i1, a0, b0, a1, b1, c0, d0, c1, d1, e, w0, w1, l0, l1, q0, q1, x0, y0, x1, y1⟩ := h
  exact ⟨n0, by omega, hi, a0, by omega, a1, by omega, c0, d0, c1, d1, e, w0, w1, l0, l1, q0, q1, x0, by omega, x1, by omega⟩
theorem ok_ready0 {i now : Int} {r1 : Bool} {t1 u0 u1 f0 f1 g0 g1 : Int} (h : Ok i now true r1 0 t1 u0 u1 f0 f1 g0 g1) (hi : i + 1 ≤ 300) : Ok (i + 1) now false r1 0 t1 u0 u1 f0 f1 (g0 + 1) g1 :=
  ⟨(h.n0), (by have := h.n1; omega), (hi), (h.a0), (by have := h.b0; omega), (h.a1), (by have := h.b1; omega), (h.c0), (h.d0), (h.c1), (h.d1), (h.e), (fun h => by cases h), (h.w1), (h.l0), (h.l1), (by have hq := h.q0; simp at hq ⊢; omega), (h.q1), (by have := h.x0; omega), (by have := h.y0; omega), (h.x1), (by have := h.y1; omega)⟩
theorem ok_waits0 {i now : Int} {r1 : Bool} {t1 u0 u1 f0 f1 g0 g1 : Int} (h : Ok i now false r1 0 t1 u0 u1 f0 f1 g0 g1) (hi : i + 1 ≤ 300) (hl : late u0 now = false) : Ok (i + 1) now false r1 (i + 1) t1 u0 u1 f0 f1 g0 g1 :=
  ⟨(h.n0), (by have := h.n1; omega), (hi), (by have := h.n0; have := h.n1; omega), (by omega), (h.a1), (by have := h.b1; omega), (h.c0), (h.d0), (h.c1), (h.d1), (by have := h.b1; omega), (fun h => by cases h), (h.w1), (fun _ => hl), (h.l1), (h.q0), (h.q1), (h.x0), (by have := h.y0; omega), (h.x1), (by have := h.y1; omega)⟩
theorem ok_fireT0 {i now : Int} {r1 : Bool} {t0 t1 u0 u1 f0 f1 g0 g1 : Int} (h : Ok i now false r1 t0 t1 u0 u1 f0 f1 g0 g1) (hi : i + 1 ≤ 300) : Ok (i + 1) now false r1 0 t1 u0 u1 (f0 + 1) f1 (g0 + 1) g1 :=
  ⟨(h.n0), (by have := h.n1; omega), (hi), (by omega), (by have := h.n0; have := h.n1; omega), (h.a1), (by have := h.b1; omega), (h.c0), (h.d0), (h.c1), (h.d1), (by omega), (fun _ => rfl), (h.w1), (fun h => by omega), (h.l1), (by have hq := h.q0; simp at hq ⊢; omega), (h.q1), (by have := h.x0; omega), (by have := h.y0; omega), (h.x1), (by have := h.y1; omega)⟩
theorem ok_fireN0 {i now : Int} {r1 : Bool} {t1 u0 u1 f0 f1 g0 g1 : Int} (h : Ok i now false r1 0 t1 u0 u1 f0 f1 g0 g1) (hi : i + 1 ≤ 300) : Ok (i + 1) now true r1 0 t1 u0 u1 (f0 + 1) f1 g0 g1 :=
  ⟨(h.n0), (by have := h.n1; omega), (hi), (h.a0), (by have := h.b0; omega), (h.a1), (by have := h.b1; omega), (h.c0), (h.d0), (h.c1), (h.d1), (h.e), (fun _ => rfl), (h.w1), (h.l0), (h.l1), (by have hq := h.q0; simp at hq ⊢; omega), (h.q1), (h.x0), (by have := h.y0; omega), (h.x1), (by have := h.y1; omega)⟩
theorem ok_until0 {i now : Int} {r0 r1 : Bool} {t0 t1 u0 u1 f0 f1 g0 g1 : Int} (h : Ok i now r0 r1 t0 t1 u0 u1 f0 f1 g0 g1) (hi : i + 1 ≤ 300) : Ok (i + 1) now r0 r1 t0 t1 (now + 2) u1 f0 f1 g0 g1 :=
  ⟨(h.n0), (by have := h.n1; omega), (hi), (h.a0), (by have := h.b0; omega), (h.a1), (by have := h.b1; omega), (by have := h.n0; omega), (by have := h.n1; omega), (h.c1), (h.d1), (h.e), (h.w0), (h.w1), (fun _ => late_two now), (h.l1), (h.q0), (h.q1), (h.x0), (by have := h.y0; omega), (h.x1), (by have := h.y1; omega)⟩
theorem ok_ready1 {i now : Int} {r0 : Bool} {t0 u0 u1 f0 f1 g0 g1 : Int} (h : Ok i now r0 true t0 0 u0 u1 f0 f1 g0 g1) (hi : i + 1 ≤ 300) : Ok (i + 1) now r0 false t0 0 u0 u1 f0 f1 g0 (g1 + 1) :=
  ⟨(h.n0), (by have := h.n1; omega), (hi), (h.a0), (by have := h.b0; omega), (h.a1), (by have := h.b1; omega), (h.c0), (h.d0), (h.c1), (h.d1), (h.e), (h.w0), (fun h => by cases h), (h.l0), (h.l1), (h.q0), (by have hq := h.q1; simp at hq ⊢; omega), (h.x0), (by have := h.y0; omega), (by have := h.x1; omega), (by have := h.y1; omega)⟩
theorem ok_waits1 {i now : Int} {r0 : Bool} {t0 u0 u1 f0 f1 g0 g1 : Int} (h : Ok i now r0 false t0 0 u0 u1 f0 f1 g0 g1) (hi : i + 1 ≤ 300) (hl : late u1 now = false) : Ok (i + 1) now r0 false t0 (i + 1) u0 u1 f0 f1 g0 g1 :=
  ⟨(h.n0), (by have := h.n1; omega), (hi), (h.a0), (by have := h.b0; omega), (by have := h.n0; have := h.n1; omega), (by omega), (h.c0), (h.d0), (h.c1), (h.d1), (by have := h.b0; omega), (h.w0), (fun h => by cases h), (h.l0), (fun _ => hl), (h.q0), (h.q1), (h.x0), (by have := h.y0; omega), (h.x1), (by have := h.y1; omega)⟩
theorem ok_fireT1 {i now : Int} {r0 : Bool} {t0 t1 u0 u1 f0 f1 g0 g1 : Int} (h : Ok i now r0 false t0 t1 u0 u1 f0 f1 g0 g1) (hi : i + 1 ≤ 300) : Ok (i + 1) now r0 false t0 0 u0 u1 f0 (f1 + 1) g0 (g1 + 1) :=
  ⟨(h.n0), (by have := h.n1; omega), (hi), (h.a0), (by have := h.b0; omega), (by omega), (by have := h.n0; have := h.n1; omega), (h.c0), (h.d0), (h.c1), (h.d1), (by rintro ⟨h1, h2⟩; omega), (h.w0), (fun _ => rfl), (h.l0), (fun h => by omega), (h.q0), (by have hq := h.q1; simp at hq ⊢; omega), (h.x0), (by have := h.y0; omega), (by have := h.x1; omega), (by have := h.y1; omega)⟩
theorem ok_fireN1 {i now : Int} {r0 : Bool} {t0 u0 u1 f0 f1 g0 g1 : Int} (h : Ok i now r0 false t0 0 u0 u1 f0 f1 g0 g1) (hi : i + 1 ≤ 300) : Ok (i + 1) now r0 true t0 0 u0 u1 f0 (f1 + 1) g0 g1 :=
  ⟨(h.n0), (by have := h.n1; omega), (hi), (h.a0), (by have := h.b0; omega), (h.a1), (by have := h.b1; omega), (h.c0), (h.d0), (h.c1), (h.d1), (h.e), (h.w0), (fun _ => rfl), (h.l0), (h.l1), (h.q0), (by have hq := h.q1; simp at hq ⊢; omega), (h.x0), (by have := h.y0; omega), (h.x1), (by have := h.y1; omega)⟩
theorem ok_until1 {i now : Int} {r0 r1 : Bool} {t0 t1 u0 u1 f0 f1 g0 g1 : Int} (h : Ok i now r0 r1 t0 t1 u0 u1 f0 f1 g0 g1) (hi : i + 1 ≤ 300) : Ok (i + 1) now r0 r1 t0 t1 u0 (now + 2) f0 f1 g0 g1 :=
  ⟨(h.n0), (by have := h.n1; omega), (hi), (h.a0), (by have := h.b0; omega), (h.a1), (by have := h.b1; omega), (h.c0), (h.d0), (by have := h.n0; omega), (by have := h.n1; omega), (h.e), (h.w0), (h.w1), (h.l0), (fun _ => late_two now), (h.q0), (h.q1), (h.x0), (by have := h.y0; omega), (h.x1), (by have := h.y1; omega)⟩
theorem ok_tick {i now : Int} {r0 r1 : Bool} {t0 t1 u0 u1 f0 f1 g0 g1 T0 T1 : Int} (h : Ok i now r0 r1 t0 t1 u0 u1 f0 f1 g0 g1) (hi : i + 1 ≤ 300) (e0 : (if gone t0 u0 (now + 1) then 0 else t0) = T0) (e1 : (if gone t1 u1 (now + 1) then 0 else t1) = T1) : Ok (i + 1) (now + 1) r0 r1 T0 T1 u0 u1 f0 f1 g0 g1 := by
  have key : ∀ {t u T : Int}, (if gone t u (now + 1) then 0 else t) = T → (T = 0 ∨ (T = t ∧ (0 < t → late u (now + 1) = false))) := by
    intro t u T e
    unfold gone at e
    by_cases ht : 0 < t
    · rw [decide_eq_true ht, Bool.true_and] at e
      cases hl : late u (now + 1) with
      | true => rw [hl] at e; exact Or.inl e.symm
      | false => rw [hl] at e; exact Or.inr ⟨e.symm, fun _ => rfl⟩
    · rw [decide_eq_false ht, Bool.false_and] at e
      exact Or.inr ⟨e.symm, fun h => absurd h ht⟩
  have k0 := key e0
  have k1 := key e1
  obtain ⟨n0, n1, i1, a0, b0, a1, b1, c0, d0, c1, d1, e, w0, w1, l0, l1, q0, q1, x0, y0, x1, y1⟩ := h
  refine ⟨by omega, by omega, hi, ?_, ?_, ?_, ?_, c0, d0, c1, d1, ?_, ?_, ?_, ?_, ?_, q0, q1, x0, by omega, x1, by omega⟩
  · rcases k0 with k | ⟨k, _⟩ <;> omega
  · rcases k0 with k | ⟨k, _⟩ <;> omega
  · rcases k1 with k | ⟨k, _⟩ <;> omega
  · rcases k1 with k | ⟨k, _⟩ <;> omega
  · rcases k0 with k | ⟨k, _⟩ <;> rcases k1 with k' | ⟨k', _⟩ <;> omega
  · intro hr
    have := w0 hr
    rcases k0 with k | ⟨k, _⟩ <;> omega
  · intro hr
    have := w1 hr
    rcases k1 with k | ⟨k, _⟩ <;> omega
  · intro hT
    rcases k0 with k | ⟨k, kl⟩
    · omega
    · exact kl (by omega)
  · intro hT
    rcases k1 with k | ⟨k, kl⟩
    · omega
    · exact kl (by omega)

end Go.Proofs.Ytmghfedlpndpiaa
