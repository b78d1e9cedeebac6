/-
  taskmillref.SamePipe, taskmillref.SameAnswer, taskmilllaw.pipeAs, taskmilllaw.vastPipe.
-/
import Derived.Test.YtijogcjocandcabJ
namespace Go.Proofs.Ytijogcjocandcab
open Go.RowKit

theorem IsAns.form {w : World} {v : Value} {A : An} (h : IsAns w v A) : ∃ a c, v = .agg #[.bool A.done, .bool A.panic, .bool A.ok, .int .i64 A.value, .int .i64 A.case, .slice a A.wakes.length c] ∧ IsL KW w (.slice a A.wakes.length c) A.wakes := by
  obtain ⟨vw, rfl, h1⟩ := h
  obtain ⟨a, c, rfl⟩ := h1.form
  exact ⟨a, c, rfl, h1⟩

def vastL (P : Pp) : Bool := decide (6000 < countP P) || decide (800 < P.ss.length + P.gs.length)

set_option maxRecDepth 100000 in
set_option maxHeartbeats 1000000 in
theorem vast_any (w : World) (v : Value) (P : Pp) (h : IsPipe w v P) (hs : Short P) :
    Calls Try.prog 5 #[v] w fun e w' => e = .returned (.bool (vastL P)) ∧ Below w.heap.size w w' := by
  obtain ⟨cap, items, closed, ss, gs⟩ := P
  obtain ⟨a1, c1, a2, c2, a3, c3, rfl, -, -, -⟩ := h.form
  obtain ⟨h1, h2, h3⟩ := hs
  have e : vastL ⟨cap, items, closed, ss, gs⟩ = (decide (6000 < items.length + ss.length + gs.length) || decide (800 < ss.length + gs.length)) := rfl
  rw [e]
  simp only at h1 h2 h3 ⊢
  generalize items.length = n1 at *
  generalize ss.length = n2 at *
  generalize gs.length = n3 at *
  clear h e items ss gs
  have w1 : IntKind.i64.wrap ((n1 : Int) + n2) = (n1 : Int) + n2 := wrapi (by omega) (by omega)
  have w2 : IntKind.i64.wrap ((n1 : Int) + n2 + n3) = (n1 : Int) + n2 + n3 := wrapi (by omega) (by omega)
  have w3 : IntKind.i64.wrap ((n2 : Int) + n3) = (n2 : Int) + n3 := wrapi (by omega) (by omega)
  obtain ⟨r, hr⟩ : ∃ r, (decide (6000 < n1 + n2 + n3) || decide (800 < n2 + n3)) = r := ⟨_, rfl⟩
  rw [hr]
  by_cases q1 : 6000 < n1 + n2 + n3
  · have p1 : (6000 : Int) < (n1 : Int) + n2 + n3 := by omega
    rw [decide_eq_true q1, Bool.true_or] at hr
    subst hr
    go_enter Try.func5, Try.ntmps5
    go_wp2
    go_ret
    exact ⟨rfl, (Below.refl _ _).alloc (Nat.le_refl _) _⟩
  · have p1 : ¬ (6000 : Int) < (n1 : Int) + n2 + n3 := by omega
    rw [decide_eq_false q1, Bool.false_or] at hr
    by_cases q2 : 800 < n2 + n3
    · have p2 : (800 : Int) < (n2 : Int) + n3 := by omega
      rw [decide_eq_true q2] at hr
      subst hr
      go_enter Try.func5, Try.ntmps5
      go_wp2
      go_ret
      exact ⟨rfl, (Below.refl _ _).alloc (Nat.le_refl _) _⟩
    · have p2 : ¬ (800 : Int) < (n2 : Int) + n3 := by omega
      rw [decide_eq_false q2] at hr
      subst hr
      go_enter Try.func5, Try.ntmps5
      go_wp2
      go_ret
      exact ⟨by first | rfl | (simp; omega), (Below.refl _ _).alloc (Nat.le_refl _) _⟩

theorem six_new (w : World) (o0 o1 o2 o3 o4 o5 : Obj) : ∃ W, (((((w.alloc o0).alloc o1).alloc o2).alloc o3).alloc o4).alloc o5 = W ∧ Below w.heap.size w W ∧ W.heap[w.heap.size]? = some o0 ∧ W.heap[w.heap.size + 1]? = some o1 ∧ W.heap[w.heap.size + 2]? = some o2 ∧ W.heap[w.heap.size + 3]? = some o3 ∧ W.heap[w.heap.size + 4]? = some o4 ∧ W.heap[w.heap.size + 5]? = some o5 := by
  refine ⟨_, rfl, (((((((Below.refl w.heap.size w).alloc (Nat.le_refl _) o0).alloc (by simp) o1).alloc (by simp; omega) o2).alloc (by simp; omega) o3).alloc (by simp; omega) o4).alloc (by simp; omega) o5), ?_, ?_, ?_, ?_, ?_, ?_⟩
  · exact keep_alloc (keep_alloc (keep_alloc (keep_alloc (keep_alloc (new_block w o0) _) _) _) _) _
  · have := new_block (w.alloc o0) o1
    rw [World.size_alloc] at this
    exact keep_alloc (keep_alloc (keep_alloc (keep_alloc this _) _) _) _
  · have := new_block ((w.alloc o0).alloc o1) o2
    rw [World.size_alloc, World.size_alloc] at this
    exact keep_alloc (keep_alloc (keep_alloc this _) _) _
  · have := new_block (((w.alloc o0).alloc o1).alloc o2) o3
    rw [World.size_alloc, World.size_alloc, World.size_alloc] at this
    exact keep_alloc (keep_alloc this _) _
  · have := new_block ((((w.alloc o0).alloc o1).alloc o2).alloc o3) o4
    rw [World.size_alloc, World.size_alloc, World.size_alloc, World.size_alloc] at this
    exact keep_alloc this _
  · have := new_block (((((w.alloc o0).alloc o1).alloc o2).alloc o3).alloc o4) o5
    rw [World.size_alloc, World.size_alloc, World.size_alloc, World.size_alloc, World.size_alloc] at this
    exact this

end Go.Proofs.Ytijogcjocandcab
