/-
  Readers, a writer and later readers, on lists.
-/
import Derived.Test.YtdpcbmekplcllaaBe
namespace Go.Proofs.Ytdpcbmekplcllaa
open Go.RowKit

/-- Readers that wait: the tasks a to b - 1. -/
def rline (a b : Nat) : List Po := (List.range (b - a)).map fun i => (((a + i : Nat) : Int), false, 0)
theorem rline_nil {a b : Nat} (h : b ≤ a) : rline a b = [] := by
  unfold rline
  rw [Nat.sub_eq_zero_of_le h]
  rfl
theorem rline_cons {a b : Nat} (h : a < b) : rline a b = ((a : Int), false, 0) :: rline (a + 1) b := by
  unfold rline
  obtain ⟨d, rfl⟩ : ∃ d, b = a + 1 + d := ⟨b - a - 1, by omega⟩
  rw [show a + 1 + d - a = d + 1 by omega, show a + 1 + d - (a + 1) = d by omega, List.range_succ_eq_map, List.map_cons, List.map_map]
  congr 1
  apply List.map_congr_left
  intro i _
  simp only [Function.comp]
  congr 1
  omega
theorem rline_snoc {a b : Nat} (h : a ≤ b) : rline a (b + 1) = rline a b ++ [((b : Int), false, 0)] := by
  unfold rline
  rw [show b + 1 - a = b - a + 1 by omega, List.range_succ, List.map_append]
  simp only [List.map_cons, List.map_nil]
  congr 4
  omega
theorem rline_length (a b : Nat) : (rline a b).length = b - a := by simp [rline]
theorem rline_tasks (a b : Nat) : tasks (rline a b) = (List.range (b - a)).map fun i => ((a + i : Nat) : Int) := by
  unfold tasks rline
  rw [List.map_map]
  rfl
theorem rline_mem {a b : Nat} {x : Int} : x ∈ tasks (rline a b) ↔ (a : Int) ≤ x ∧ x < b := by
  rw [rline_tasks, List.mem_map]
  constructor
  · rintro ⟨i, hi, rfl⟩
    rw [List.mem_range] at hi
    omega
  · rintro ⟨h1, h2⟩
    exact ⟨(x - a).toNat, by rw [List.mem_range]; omega, by omega⟩
theorem rline_each {a b : Nat} (ha : 1 ≤ a) : ∀ x ∈ rline a b, 1 ≤ x.1 ∧ x.2.2 = 0 := fun x hx => by
  simp only [rline, List.mem_map, List.mem_range] at hx
  obtain ⟨i, hi, rfl⟩ := hx
  exact ⟨by simp only; omega, rfl⟩
theorem rline_once (a b : Nat) : (tasks (rline a b)).Nodup := by
  rw [rline_tasks]
  refine List.Pairwise.map _ ?_ List.nodup_range
  intro i j hij h
  exact hij (by omega)
theorem admR_readers (d : Nat) : ∀ (r a : Nat), admR (r : Int) false (rline a (a + d)) = (⟨((r + d : Nat) : Int), false, []⟩, tasks (rline a (a + d))) := by
  induction d with
  | zero => intro r a; rw [rline_nil (by omega)]; rfl
  | succ d ih =>
    intro r a
    rw [rline_cons (by omega), admR_go (by rfl)]
    simp only [Bool.false_eq_true, if_false]
    have h := ih (r + 1) (a + 1)
    rw [show a + 1 + d = a + (d + 1) by omega, show ((r + 1 : Nat) : Int) = (r : Int) + 1 by omega] at h
    rw [h, show r + 1 + d = r + (d + 1) by omega]
    rfl

def shA (k : Nat) : Lk := ⟨(k : Int), false, []⟩
def shB (R t : Nat) : Lk := ⟨(R : Int), false, (((R + 1 : Nat) : Int), true, 0) :: rline (R + 2) (R + 2 + t)⟩
def shC (R L j : Nat) : Lk := if j ≤ R then ⟨((R + 1 - j : Nat) : Int), false, (((R + 1 : Nat) : Int), true, 0) :: rline (R + 2) (R + 2 + L)⟩ else ⟨0, true, rline (R + 2) (R + 2 + L)⟩
theorem shA_good {k : Nat} (hk : k ≤ 1000) : GoodP (shA k) := ⟨by simp [shA], by simp [shA], by simp [shA]; omega, fun h => (by cases h), rfl, fun x hx => (by cases hx), List.nodup_nil⟩
theorem shA_enter {k : Nat} (hk : k ≤ 100) : (enterF (shA k) ((k + 1 : Nat) : Int)).1 = 0 ∧ enterR (shA k) ((k + 1 : Nat) : Int) false false = (shA (k + 1), true) := by
  constructor
  · rw [(shA_good (by omega)).enter (by omega) (by simp [shA, tasks]) (by simp [shA]) (by simp [shA]; omega)]
  · have := enterR_in (r := (k : Int)) (b := false) (x := ((k + 1 : Nat) : Int)) (wt := false) (by rfl) false
    simpa [shA] using this
theorem beq0 {R : Nat} (h : 1 ≤ R) : ((R : Int) == 0) = false := by
  simp
  omega
theorem shA_writer {R : Nat} (h : 1 ≤ R) (hk : R ≤ 100) : (enterF (shA R) ((R + 1 : Nat) : Int)).1 = 0 ∧ enterR (shA R) ((R + 1 : Nat) : Int) true false = (shB R 0, false) := by
  constructor
  · rw [(shA_good (by omega)).enter (by omega) (by simp [shA, tasks]) (by simp [shA]) (by simp [shA]; omega)]
  · rw [enterR_wait (by simp only [shA, List.nil_append, lets]; rw [beq0 h]; rfl)]
    simp only [shA, shB, Nat.add_zero, List.nil_append]
    rw [rline_nil (Nat.le_refl _)]
theorem shX_good {r : Nat} {R t : Nat} (h : 1 ≤ r) (hr : r ≤ 100) (hR : R ≤ 100) (ht : t ≤ 1000) : GoodP ⟨(r : Int), false, (((R + 1 : Nat) : Int), true, 0) :: rline (R + 2) (R + 2 + t)⟩ := by
  refine ⟨by rw [List.length_cons, rline_length]; omega, by simp only; omega, by simp only; omega, fun h => (by cases h), ?_, fun x hx => ?_, ?_⟩
  · simp only [lets]
    rw [beq0 h]
    rfl
  · rcases List.mem_cons.1 hx with rfl | hx
    · exact ⟨by simp only; omega, rfl⟩
    · exact rline_each (by omega) x hx
  · refine List.nodup_cons.2 ⟨fun hm => ?_, rline_once _ _⟩
    have := rline_mem.1 hm
    simp only at this
    omega
theorem shB_enter {R t : Nat} (h : 1 ≤ R) (hR : R ≤ 100) (ht : t ≤ 100) : (enterF (shB R t) ((R + 2 + t : Nat) : Int)).1 = 0 ∧ enterR (shB R t) ((R + 2 + t : Nat) : Int) false false = (shB R (t + 1), false) := by
  have hg : GoodP (shB R t) := shX_good h hR hR (by omega)
  constructor
  · rw [hg.enter (by omega) ?_ ?_ ?_]
    · intro hm
      rcases List.mem_cons.1 hm with e | hm
      · simp only at e
        omega
      · have := rline_mem.1 hm
        omega
    · simp only [shB, List.length_cons, rline_length]
      omega
    · simp only [shB]
      omega
  · rw [enterR_wait (by simp only [shB, List.cons_append, lets]; rw [beq0 h]; rfl)]
    simp only [shB, List.cons_append]
    rw [← Nat.add_assoc, rline_snoc (by omega)]
theorem shB_shC (R L : Nat) (h : 1 ≤ R) : shB R L = shC R L 1 := by
  unfold shB shC
  rw [if_pos h]
  rfl
theorem shC_leave {R L j : Nat} (h1 : 1 ≤ j) (h2 : j ≤ R) (hR : R ≤ 100) (hL : L ≤ 100) : (lockF (shC R L j)).1 = 0 ∧ leaveR (shC R L j) false = ((shC R L (j + 1), if j = R then [((R + 1 : Nat) : Int)] else []), false) := by
  have e0 : shC R L j = ⟨((R + 1 - j : Nat) : Int), false, (((R + 1 : Nat) : Int), true, 0) :: rline (R + 2) (R + 2 + L)⟩ := by unfold shC; rw [if_pos h2]
  rw [e0]
  refine ⟨(shX_good (by omega) (by omega) hR (by omega)).zero, ?_⟩
  unfold leaveR
  rw [if_neg (fun h => by cases h.1), if_pos ⟨rfl, by simp only; omega⟩]
  simp only
  have e1 : ((R + 1 - j : Nat) : Int) - 1 = ((R - j : Nat) : Int) := by omega
  rw [e1]
  by_cases h : j = R
  · subst h
    rw [if_pos rfl, Nat.sub_self, admR_go (by rfl)]
    simp only [if_true]
    rw [admR_stay (lets_true _ _)]
    unfold shC
    rw [if_neg (by omega)]
    rfl
  · rw [if_neg h, admR_stay (by simp only [lets]; rw [beq0 (by omega)]; rfl)]
    unfold shC
    rw [if_pos (by omega), show R + 1 - (j + 1) = R - j by omega]
theorem shC_last {R L : Nat} (hL : L ≤ 100) : (lockF (shC R L (R + 1))).1 = 0 ∧ leaveR (shC R L (R + 1)) true = ((shA L, tasks (rline (R + 2) (R + 2 + L))), false) := by
  have e0 : shC R L (R + 1) = ⟨0, true, rline (R + 2) (R + 2 + L)⟩ := by unfold shC; rw [if_neg (by omega)]
  rw [e0]
  constructor
  · have : GoodP ⟨0, true, rline (R + 2) (R + 2 + L)⟩ := ⟨by rw [rline_length]; omega, by simp, by simp, fun _ => rfl, lets_true _ _, rline_each (by omega), rline_once _ _⟩
    exact this.zero
  · unfold leaveR
    rw [if_pos ⟨rfl, rfl⟩]
    have := admR_readers L 0 (R + 2)
    simp only at this ⊢
    rw [show ((0 : Nat) : Int) = 0 from rfl, Nat.zero_add] at this
    rw [this]
    rfl
end Go.Proofs.Ytdpcbmekplcllaa
