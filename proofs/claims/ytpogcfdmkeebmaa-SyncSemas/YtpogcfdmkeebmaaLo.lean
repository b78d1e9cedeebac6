/-
  taskmilllaw.long; sync.Arrive where something is wrong.
-/
import Derived.Test.YtpogcfdmkeebmaaN
namespace Go.Proofs.Ytpogcfdmkeebmaa
open Go.RowKit

theorem isl_empty {α : Type} {K : Kind α} {w : World} {v : Value} (h : IsL K w v []) : ∀ W, IsL K W v [] := fun W => by
  obtain ⟨⟨hl, ⟨h1, h2⟩ | ⟨ad, c, h1, -⟩⟩, hf⟩ := h
  · subst h1
    exact isl_nil W
  · subst h1
    exact IsL.none_left rfl

set_option maxRecDepth 100000 in
set_option maxHeartbeats 400000 in
theorem long_yes (w : World) (x : Int) (h : (700 < x ∧ x < 4999) ∨ 6000 < x) :
    Calls Try.prog 10 #[.int .i64 x] w fun e w' => e = .returned (.bool true) ∧ w' = w := by
  by_cases h1 : 700 < x
  · by_cases h2 : x < 4999
    · clear h
      go_enter Try.func10, Try.ntmps10
      go_wp2
      go_ret
      exact ⟨rfl, rfl⟩
    · have h3 : 6000 < x := by omega
      clear h
      go_enter Try.func10, Try.ntmps10
      go_wp2
      go_ret
      exact ⟨rfl, rfl⟩
  · exact absurd h (by omega)

set_option maxRecDepth 100000 in
set_option maxHeartbeats 400000 in
theorem long_no (w : World) (x : Int) (h : ¬ ((700 < x ∧ x < 4999) ∨ 6000 < x)) :
    Calls Try.prog 10 #[.int .i64 x] w fun e w' => e = .returned (.bool false) ∧ w' = w := by
  have h3 : ¬ 6000 < x := by omega
  by_cases h1 : 700 < x
  · have h2 : ¬ x < 4999 := by omega
    clear h
    go_enter Try.func10, Try.ntmps10
    go_wp2
    go_ret
    exact ⟨rfl, rfl⟩
  · clear h
    go_enter Try.func10, Try.ntmps10
    go_wp2
    go_ret
    exact ⟨rfl, rfl⟩

theorem arrive_fault (w : World) (v : Value) (c : Int) (xs : List Int) (x : Int) (h : IsG KI w v c xs) (hn : xs.length ≤ maxLen) (hf : (arrF c xs x).1 ≠ 0) :
    Calls Try.prog 31 #[v, .int .i64 x] w fun e w' => e = .returned (.tuple #[.agg #[.int .i64 0, .slice none 0 0], .slice none 0 0, faultV (arrF c xs x)]) ∧ Below w.heap.size w w' := by
  by_cases hg : (gateF c xs).1 ≠ 0
  · have e : arrF c xs x = gateF c xs := by unfold arrF; rw [if_pos hg]
    rw [e]
    exact arrive_gate w v c xs x h hn hg
  · have e : arrF c xs x = comesF xs x := by unfold arrF; rw [if_neg hg]
    rw [e] at hf ⊢
    exact arrive_comes w v c xs x h (by omega) hf
end Go.Proofs.Ytpogcfdmkeebmaa
