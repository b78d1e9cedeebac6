/-
  What alarms that are set for one time come to, on lists (ClockTurns).
-/
import Derived.Test.YtidpmcanfedbdaaUn
namespace Go.Proofs.Ytidpmcanfedbdaa
open Go.RowKit

/-- Alarms of one time, without a period, in the order of their numbers below k. -/
structure Alike (A k : Int) (xs : List Al) : Prop where
  when : ∀ b ∈ xs, b.2.1 = A
  per : ∀ b ∈ xs, b.2.2.1 = 0
  seq : ∀ b ∈ xs, b.2.2.2 < k
theorem alike_none (A k : Int) : Alike A k [] := ⟨fun b h => (by simp at h), fun b h => (by simp at h), fun b h => (by simp at h)⟩
theorem takeWhile_self {q : Al → Bool} : ∀ {xs : List Al}, (∀ b ∈ xs, q b = true) → xs.takeWhile q = xs
  | [], _ => rfl
  | x :: l, h => by rw [List.takeWhile_cons_of_pos (h x (by simp)), takeWhile_self (fun b hb => h b (by simp [hb]))]
theorem ins_alike {A k id : Int} {ys : List Al} (h : Alike A k ys) : insL (id, A, 0, k) ys = ys ++ [(id, A, 0, k)] := by
  have e : placeN (id, A, 0, k) ys = ys.length := by
    unfold placeN
    rw [takeWhile_self]
    intro b hb
    have h1 := h.when b hb
    have h2 := h.seq b hb
    have : ahead (id, A, 0, k) b = false := by rw [ahead_not]; simp only; omega
    rw [this]; rfl
  unfold insL
  rw [e, own_last]
theorem Alike.no {A k : Int} {xs : List Al} (h : Alike A k xs) (id : Int) : Alike A k (noL id xs) :=
  ⟨fun b hb => h.when b (noL_mem.1 hb).1, fun b hb => h.per b (noL_mem.1 hb).1, fun b hb => h.seq b (noL_mem.1 hb).1⟩
theorem Alike.more {A k id : Int} {xs : List Al} (h : Alike A k xs) : Alike A (k + 1) (noL id xs ++ [(id, A, 0, k)]) := by
  have h1 := h.no id
  refine ⟨fun b hb => ?_, fun b hb => ?_, fun b hb => ?_⟩ <;> rcases List.mem_append.1 hb with hb | hb
  · exact h1.when b hb
  · rw [List.mem_singleton] at hb; subst hb; rfl
  · exact h1.per b hb
  · rw [List.mem_singleton] at hb; subst hb; rfl
  · have := h1.seq b hb; omega
  · rw [List.mem_singleton] at hb; subst hb; show k < k + 1; omega
/-- Set of an alarm for the same time. -/
theorem set_alike {A k id : Int} {xs : List Al} (h : Alike A k xs) (g : Good 0 k xs) (hA : 1 ≤ A) (hA1 : A ≤ 1000) (hi : 1 ≤ id) (hk : k < 1000000000) (hl : xs.length < 5000) : setR 0 k xs id A 0 = ((0, 0), (0, k + 1, noL id xs ++ [(id, A, 0, k)]), decide ((noL id xs).length < xs.length)) ∧ Good 0 (k + 1) (noL id xs ++ [(id, A, 0, k)]) := by
  have hle := (noL_sub id xs).length_le
  have hf : setF 0 k xs id A 0 = (0, 0) := setF_fine g hi ⟨hA, by omega⟩ ⟨by omega, by omega⟩ (by omega) (by omega)
  constructor
  · unfold setR
    rw [hf, if_neg (by simp), Int.zero_add, ins_alike (h.no id)]
  · have := (g.sub (noL_sub id xs)).ins (id := id) (W := A) (P := 0) (fun b hb => (noL_mem.1 hb).2) hi (by omega) (by omega) (by omega) (by omega) hk (by omega)
    rw [ins_alike (h.no id)] at this
    exact this
/-- All of them go off. -/
theorem run_alike {A k E : Int} (hE : A ≤ E) : ∀ (f : Nat) (xs : List Al) (td : List (Int × Int)), Alike A k xs → xs.length ≤ f → runL E f k xs td = some (k, [], td ++ xs.map (fun p => (p.2.1, p.1)))
  | f, [], td, _, _ => by rw [runL_nil]; simp
  | 0, x :: l, td, _, h => by simp at h
  | f + 1, x :: l, td, h, hl => by
    have h1 := h.when x (by simp)
    have h2 := h.per x (by simp)
    have ho : offL k x l = (k, l) := by unfold offL; rw [if_pos h2]
    rw [runL_go (by omega) (fun hh => hh.1 h2), ho]
    rw [run_alike hE f l (td ++ [(x.2.1, x.1)]) ⟨fun b hb => h.when b (by simp [hb]), fun b hb => h.per b (by simp [hb]), fun b hb => h.seq b (by simp [hb])⟩ (by simpa using hl)]
    simp
/-- What is wanted, and without one alarm. -/
theorem map_no (id : Int) (xs : List Al) : (noL id xs).map (fun p => (p.2.1, p.1)) = (xs.map (fun p => (p.2.1, p.1))).filter (fun q => !(q.2 == id)) := by
  unfold noL leftL
  rw [List.filter_map]
  rfl
end Go.Proofs.Ytidpmcanfedbdaa
