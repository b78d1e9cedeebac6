/-
  alarm.outOfRange, alarm.sooner, alarm.above, alarm.haveBelow, taskmillref.F, taskmillref.TimerFault.
-/
import Derived.Test.YtcfjpjojckngeaaA
namespace Go.Proofs.Ytcfjpjojckngeaa
open Go.RowKit

theorem below_new2 (w : World) (o o' : Obj) : Below w.heap.size w ((w.alloc o).alloc o') := ((Below.refl _ _).alloc (Nat.le_refl _) _).alloc (by simp) _

def tval (t : Tm) : Value := .agg #[.int .i64 t.1, .int .i64 t.2]
def faultV (x : Int × Int) : Value := .agg #[.int .i64 x.1, .int .i64 x.2]

theorem f_any (w : World) (a b : Int) :
    Calls Try.prog 15 #[.int .i64 a, .int .i64 b] w fun e w' => e = .returned (.agg #[.int .i64 a, .int .i64 b]) ∧ Below w.heap.size w w' := by
  go_enter Try.func15, Try.ntmps15
  go_wp2
  exact bodyPost_ret (v := .agg #[.int .i64 a, .int .i64 b]) (by simp [results, Try.results15, go_sem]) rfl ⟨rfl, ((Below.refl _ _).alloc (Nat.le_refl _) _)⟩

set_option maxRecDepth 100000 in
set_option maxHeartbeats 400000 in
theorem sooner_any (w : World) (x y u v : Int) :
    Calls Try.prog 24 #[.agg #[.int .i64 x, .int .i64 y], .agg #[.int .i64 u, .int .i64 v]] w fun e w' => e = .returned (.bool (decide (x < u))) ∧ Below w.heap.size w w' := by
  go_enter Try.func24, Try.ntmps24
  go_wp2
  go_ret
  exact ⟨rfl, below_new2 w _ _⟩

/-- A timer that is out of range. -/
def oor (t : Tm) : Prop := t.2 < 1 ∨ t.1 < 0
instance (t : Tm) : Decidable (oor t) := by unfold oor; infer_instance

set_option maxRecDepth 100000 in
set_option maxHeartbeats 400000 in
theorem oor_any (w : World) (x y : Int) :
    Calls Try.prog 23 #[.agg #[.int .i64 x, .int .i64 y]] w fun e w' => e = .returned (.bool (decide (oor (x, y)))) ∧ Below w.heap.size w w' := by
  by_cases h1 : y < 1
  · have e : decide (oor (x, y)) = true := by simp [oor, h1]
    rw [e]
    go_enter Try.func23, Try.ntmps23
    go_wp2
    go_ret
    exact ⟨rfl, (Below.refl _ _).alloc (Nat.le_refl _) _⟩
  · by_cases h2 : x < 0
    · have e : decide (oor (x, y)) = true := by simp [oor, h2]
      rw [e]
      go_enter Try.func23, Try.ntmps23
      go_wp2
      go_ret
      exact ⟨rfl, (Below.refl _ _).alloc (Nat.le_refl _) _⟩
    · have e : decide (oor (x, y)) = false := decide_eq_false (fun h => h.elim h1 h2)
      rw [e]
      go_enter Try.func23, Try.ntmps23
      go_wp2
      go_ret
      exact ⟨rfl, (Below.refl _ _).alloc (Nat.le_refl _) _⟩

set_option maxRecDepth 100000 in
set_option maxHeartbeats 400000 in
theorem above_any (w : World) (i : Nat) (h0 : 0 < i) (hi : i ≤ maxLen) :
    Calls Try.prog 25 #[.int .i64 i] w fun e w' => e = .returned (.int .i64 (((i - 1) / 4 : Nat) : Int)) ∧ w' = w := by
  unfold maxLen at hi
  obtain ⟨k, rfl⟩ : ∃ k, i = k + 1 := ⟨i - 1, by omega⟩
  have e : (((k + 1 - 1) / 4 : Nat) : Int) = (k : Int) / 4 := by omega
  rw [e]
  have w1 : IntKind.i64.wrap (((k + 1 : Nat) : Int) - 1) = (k : Int) := by simp [IntKind.wrap, IntKind.bits, IntKind.signed]; omega
  have w2 : IntKind.i64.wrap ((k : Int) / 4) = (k : Int) / 4 := by simp [IntKind.wrap, IntKind.bits, IntKind.signed]; omega
  go_enter Try.func25, Try.ntmps25
  go_wp2
  go_ret
  exact ⟨rfl, rfl⟩

set_option maxRecDepth 100000 in
set_option maxHeartbeats 400000 in
theorem timerFault_any (w : World) (x y p : Int) :
    Calls Try.prog 14 #[.agg #[.int .i64 x, .int .i64 y], .int .i64 p] w fun e w' => e = .returned (if oor (x, y) then .agg #[.int .i64 3, .int .i64 p] else .agg #[.int .i64 0, .int .i64 0]) ∧ Below w.heap.size w w' := by
  have hres : ∀ {W : World}, Below (w.heap.size + 2) ((w.alloc (.cells #[.int .i64 x, .int .i64 y] 24)).alloc (.cells #[.int .i64 0, .int .i64 0] 28)) W → W.cell? ⟨w.heap.size + 1, 0, none⟩ = some (.int .i64 0) ∧ W.cell? ⟨w.heap.size + 1, 1, none⟩ = some (.int .i64 0) ∧ W.frozen? ⟨w.heap.size + 1, 0, none⟩ = false ∧ W.frozen? ⟨w.heap.size + 1, 1, none⟩ = false := fun {W} h => by
    have hh := (MapKept.heap_alloc (w.alloc (.cells #[.int .i64 x, .int .i64 y] 24)) (.cells #[.int .i64 0, .int .i64 0] 28)).1
    rw [World.size_alloc] at hh
    refine ⟨?_, ?_, ?_, ?_⟩
    · rw [h.cell (p := ⟨w.heap.size + 1, 0, none⟩) (by simp)]; simp only [World.cell?, hh]; rfl
    · rw [h.cell (p := ⟨w.heap.size + 1, 1, none⟩) (by simp)]; simp only [World.cell?, hh]; rfl
    · rw [h.frozen (p := ⟨w.heap.size + 1, 0, none⟩) (by simp)]; simp only [World.frozen?, hh]; rfl
    · rw [h.frozen (p := ⟨w.heap.size + 1, 1, none⟩) (by simp)]; simp only [World.frozen?, hh]; rfl
  have HRS : Hid (∀ {W : World}, Below (w.heap.size + 2) ((w.alloc (.cells #[.int .i64 x, .int .i64 y] 24)).alloc (.cells #[.int .i64 0, .int .i64 0] 28)) W → W.cell? ⟨w.heap.size + 1, 0, none⟩ = some (.int .i64 0) ∧ W.cell? ⟨w.heap.size + 1, 1, none⟩ = some (.int .i64 0) ∧ W.frozen? ⟨w.heap.size + 1, 0, none⟩ = false ∧ W.frozen? ⟨w.heap.size + 1, 1, none⟩ = false) := hres
  have HB2 : Hid (∀ {W : World}, Below (w.heap.size + 2) ((w.alloc (.cells #[.int .i64 x, .int .i64 y] 24)).alloc (.cells #[.int .i64 0, .int .i64 0] 28)) W → Below w.heap.size w W) := fun h => (below_new2 w _ _).trans (h.mono (by omega))
  clear hres
  by_cases h1 : y < 1
  · have e : oor (x, y) := Or.inl h1
    rw [if_pos e]
    clear e
    go_enter Try.func14, Try.ntmps14
    go_wp2_with (go_at_call 15; refine (f_any _ _ _).mono ?_; rintro e w1 ⟨rfl, hb1⟩; have hb2 := hb1.mono (show w.heap.size + 2 ≤ _ by simp); obtain ⟨r0, r1, f0, f1⟩ := unhide HRS hb2; have HX := hide (unhide HB2 hb2); clear hb1 hb2)
    exact bodyPost_ret (v := .agg #[.int .i64 3, .int .i64 p]) (by simp [results, Try.results14, go_sem, r0, r1]) rfl ⟨rfl, ((unhide HX).setCell (Nat.le_succ _) _).setCell (Nat.le_succ _) _⟩
  · by_cases h2 : x < 0
    · have e : oor (x, y) := Or.inr h2
      rw [if_pos e]
      clear e
      go_enter Try.func14, Try.ntmps14
      go_wp2_with (go_at_call 15; refine (f_any _ _ _).mono ?_; rintro e w1 ⟨rfl, hb1⟩; have hb2 := hb1.mono (show w.heap.size + 2 ≤ _ by simp); obtain ⟨r0, r1, f0, f1⟩ := unhide HRS hb2; have HX := hide (unhide HB2 hb2); clear hb1 hb2)
      exact bodyPost_ret (v := .agg #[.int .i64 3, .int .i64 p]) (by simp [results, Try.results14, go_sem, r0, r1]) rfl ⟨rfl, ((unhide HX).setCell (Nat.le_succ _) _).setCell (Nat.le_succ _) _⟩
    · have e : ¬ oor (x, y) := fun h => h.elim h1 h2
      rw [if_neg e]
      clear e
      go_enter Try.func14, Try.ntmps14
      go_wp2
      exact bodyPost_ret (v := .agg #[.int .i64 0, .int .i64 0]) (by simp [results, Try.results14, go_sem]) rfl ⟨rfl, below_new2 w _ _⟩
end Go.Proofs.Ytcfjpjojckngeaa
