/-
  sweep.firstWrong; what is wrong with a heap.
-/
import Derived.Test.YtmkehjncnaokoaaB
namespace Go.Proofs.Ytmkehjncnaokoaa
open Go.RowKit

def badIn (m o : Int) : Bool := decide (o < -1) || decide (m ≤ o)
def fwA (m : Int) : List Int → Nat → Int
  | [], _ => -1
  | o :: r, k => if badIn m o = true then (k : Int) else fwA m r (k + 1)
/-- The place of the first one that is wrong, or -1. -/
def fwL (m : Int) (rs : List Int) : Int := fwA m rs 0
theorem fwA_at (m : Int) : ∀ (rs : List Int) (k i : Nat), i < rs.length → (∀ j, j < i → badIn m (rs.getD j 0) = false) → badIn m (rs.getD i 0) = true → fwA m rs k = ((k + i : Nat) : Int)
  | [], _, _, h, _, _ => absurd h (Nat.not_lt_zero _)
  | o :: r, k, 0, _, _, h => by
    have h' : badIn m o = true := h
    unfold fwA
    rw [if_pos h']
    rfl
  | o :: r, k, i + 1, h, h1, h2 => by
    have h0 : badIn m o = false := h1 0 (Nat.succ_pos i)
    unfold fwA
    rw [h0, if_neg Bool.false_ne_true, fwA_at m r (k + 1) i (Nat.lt_of_succ_lt_succ h) (fun j hj => h1 (j + 1) (Nat.succ_lt_succ hj)) h2]
    rw [show k + 1 + i = k + (i + 1) by omega]
theorem fwA_none (m : Int) : ∀ (rs : List Int) (k : Nat), (∀ j, j < rs.length → badIn m (rs.getD j 0) = false) → fwA m rs k = -1
  | [], _, _ => rfl
  | o :: r, k, h => by
    have h0 : badIn m o = false := h 0 (Nat.succ_pos _)
    unfold fwA
    rw [h0, if_neg Bool.false_ne_true]
    exact fwA_none m r (k + 1) (fun j hj => h (j + 1) (Nat.succ_lt_succ hj))
theorem fw_at {m : Int} {rs : List Int} {i : Nat} (hi : i < rs.length) (h1 : ∀ j, j < i → badIn m (rs.getD j 0) = false) (h2 : badIn m (rs.getD i 0) = true) : fwL m rs = (i : Int) := by
  unfold fwL
  rw [fwA_at m rs 0 i hi h1 h2, Nat.zero_add]
theorem fw_none {m : Int} {rs : List Int} (h : ∀ j, j < rs.length → badIn m (rs.getD j 0) = false) : fwL m rs = -1 := fwA_none m rs 0 h
theorem fw_cases (m : Int) (rs : List Int) : fwL m rs = -1 ∧ (∀ j, j < rs.length → badIn m (rs.getD j 0) = false) ∨ ∃ i, i < rs.length ∧ fwL m rs = (i : Int) ∧ badIn m (rs.getD i 0) = true ∧ ∀ j, j < i → badIn m (rs.getD j 0) = false := by
  by_cases h : ∀ j, j < rs.length → badIn m (rs.getD j 0) = false
  · exact Or.inl ⟨fw_none h, h⟩
  · have key : ∀ n, n ≤ rs.length → (∀ j, j < n → badIn m (rs.getD j 0) = false) ∨ ∃ i, i < n ∧ badIn m (rs.getD i 0) = true ∧ ∀ j, j < i → badIn m (rs.getD j 0) = false := by
      intro n
      induction n with
      | zero => exact fun _ => Or.inl (fun j hj => absurd hj (Nat.not_lt_zero _))
      | succ n ih =>
        intro hn
        rcases ih (by omega) with q | ⟨i, q1, q2, q3⟩
        · cases e : badIn m (rs.getD n 0) with
          | true => exact Or.inr ⟨n, Nat.lt_succ_self n, e, q⟩
          | false =>
            refine Or.inl (fun j hj => ?_)
            by_cases e2 : j = n
            · rw [e2]; exact e
            · exact q j (by omega)
        · exact Or.inr ⟨i, by omega, q2, q3⟩
    rcases key rs.length (Nat.le_refl _) with q | ⟨i, q1, q2, q3⟩
    · exact absurd q h
    · exact Or.inr ⟨i, q1, fw_at q1 q3 q2, q2, q3⟩

set_option maxRecDepth 100000 in
set_option maxHeartbeats 2000000 in
theorem firstWrong_any (w : World) (a : Option Addr) (n c : Nat) (rs : List Int) (m : Int) (h : IsL KI w (.slice a n c) rs) (hn : n ≤ 1000000) :
    Calls Try.prog 24 #[.slice a n c, .int .i64 m] w fun e w' => e = .returned (.int .i64 (fwL m rs)) ∧ Below w.heap.size w w' := by
  have hln := h.len
  have HO := hide (h.opens ki hln)
  have HN := hide hln
  have HX := hide (Below.refl w.heap.size w)
  have HNO : Hid (∀ j, j < 0 → badIn m (rs.getD j 0) = false) := fun j hj => absurd hj (Nat.not_lt_zero _)
  clear h hln
  go_enter Try.func24, Try.ntmps24
  go_wp2_with fail
  go_loopw [9] (fun s wr => ∃ i : Nat, i ≤ n ∧ s = .int .i64 (i : Int) ∧ Hid (∀ j, j < i → badIn m (rs.getD j 0) = false) ∧ Hid (Below w.heap.size w wr)) (fun s _ => n - (intOf s).toNat)
  case atStart => exact ⟨0, Nat.zero_le _, rfl, HNO, HX⟩
  case round =>
    obtain ⟨i, hi, rfl, HJ, HB⟩ := hrel
    clear HX HNO
    by_cases hlt : i < n
    · have i0 : (0 : Int) ≤ (i : Int) := by omega
      have i1 : (i : Int) < (n : Int) := by omega
      have hw1 : IntKind.i64.wrap ((i : Int) + 1) = (i : Int) + 1 := wrapi (by omega) (by omega)
      obtain ⟨b, o, rfl, hb, hli⟩ := unhide HO (by omega)
      have k0 := (hli.below (unhide HB) hb).ints (j := i) (by rw [unhide HN]; exact hlt)
      obtain ⟨x, ex⟩ : ∃ X, rs.getD i 0 = X := ⟨_, rfl⟩
      rw [ex] at k0
      have HEX := hide ex
      have HIL : Hid (i < rs.length) := by show _ < _; rw [unhide HN]; exact hlt
      clear hli ex
      by_cases h1 : x < -1
      · have HR : Hid (fwL m rs = (i : Int)) := fw_at (unhide HIL) (unhide HJ) (by rw [unhide HEX]; unfold badIn; rw [decide_eq_true h1]; rfl)
        go_wp2_with fail
        go_ret
        rw [unhide HR]
        exact ⟨rfl, unhide HB⟩
      · by_cases h2 : m ≤ x
        · have HR : Hid (fwL m rs = (i : Int)) := fw_at (unhide HIL) (unhide HJ) (by rw [unhide HEX]; unfold badIn; rw [decide_eq_true h2, Bool.or_true])
          go_wp2_with fail
          go_ret
          rw [unhide HR]
          exact ⟨rfl, unhide HB⟩
        · have HJ2 : Hid (∀ j, j < i + 1 → badIn m (rs.getD j 0) = false) := fun j hj => by
            by_cases e : j = i
            · rw [e, unhide HEX]; unfold badIn; rw [decide_eq_false h1, decide_eq_false h2]; rfl
            · exact unhide HJ j (by omega)
          go_wp2_with fail
          go_roundw
          case rel => exact ⟨i + 1, by omega, by go_num, HJ2, HB⟩
          case measure => simp [intOf]; omega
    · obtain rfl : i = n := by omega
      have i1 : ¬ (i : Int) < (i : Int) := by omega
      have HR : Hid (fwL m rs = -1) := fw_none (fun j hj => unhide HJ j (by rw [← unhide HN]; exact hj))
      go_wp2_with fail
      go_ret
      rw [unhide HR]
      exact ⟨rfl, unhide HB⟩
/-- What is wrong with a row. -/
def rowF (n : Int) (r : List Int) : Int := if 20 < r.length then 8 else if 0 ≤ fwL n r then 5 else 0
def rowsA (n : Int) : List (List Int) → Nat → Int × Int
  | [], _ => (0, 0)
  | r :: rest, k => if rowF n r = 0 then rowsA n rest (k + 1) else (rowF n r, (k : Int))
/-- What is wrong with a heap. -/
def heapF (os : List (List Int)) (rs : List Int) : Int × Int :=
  if 500 < os.length ∨ 16 < rs.length then (2, 0)
  else if 0 ≤ fwL (os.length : Int) rs then (3, fwL (os.length : Int) rs)
  else rowsA (os.length : Int) os 0
theorem rowsA_at (n : Int) : ∀ (os : List (List Int)) (k i : Nat), i < os.length → (∀ j, j < i → rowF n (os.getD j []) = 0) → rowF n (os.getD i []) ≠ 0 → rowsA n os k = (rowF n (os.getD i []), ((k + i : Nat) : Int))
  | [], _, _, h, _, _ => absurd h (Nat.not_lt_zero _)
  | r :: rest, k, 0, _, _, h => by
    have h' : rowF n r ≠ 0 := h
    unfold rowsA
    rw [if_neg h']
    rfl
  | r :: rest, k, i + 1, h, h1, h2 => by
    have h0 : rowF n r = 0 := h1 0 (Nat.succ_pos i)
    unfold rowsA
    rw [if_pos h0, rowsA_at n rest (k + 1) i (Nat.lt_of_succ_lt_succ h) (fun j hj => h1 (j + 1) (Nat.succ_lt_succ hj)) h2]
    rw [show k + 1 + i = k + (i + 1) by omega]
    rfl
theorem rowsA_none (n : Int) : ∀ (os : List (List Int)) (k : Nat), (∀ j, j < os.length → rowF n (os.getD j []) = 0) → rowsA n os k = (0, 0)
  | [], _, _ => rfl
  | r :: rest, k, h => by
    have h0 : rowF n r = 0 := h 0 (Nat.succ_pos _)
    unfold rowsA
    rw [if_pos h0]
    exact rowsA_none n rest (k + 1) (fun j hj => h (j + 1) (Nat.succ_lt_succ hj))
theorem bad_no {m o : Int} (h : badIn m o = false) : -1 ≤ o ∧ o < m := by
  unfold badIn at h
  rw [Bool.or_eq_false_iff, decide_eq_false_iff_not, decide_eq_false_iff_not] at h
  omega
theorem fw_good {m : Int} {rs : List Int} (h : ¬ 0 ≤ fwL m rs) : ∀ o ∈ rs, -1 ≤ o ∧ o < m := fun o ho => by
  obtain ⟨j, hj, e⟩ := List.getElem_of_mem ho
  rcases fw_cases m rs with ⟨_, q⟩ | ⟨i, _, q, _⟩
  · have := q j hj
    rw [List.getD_eq_getElem?_getD, List.getElem?_eq_getElem hj] at this
    simp only [Option.getD_some] at this
    rw [← e]
    exact bad_no this
  · rw [q] at h
    exact absurd (Int.natCast_nonneg i) h
/-- Nothing is wrong. -/
theorem good_heap {os : List (List Int)} {rs : List Int} (h1 : ¬ (500 < os.length ∨ 16 < rs.length)) (h2 : ¬ 0 ≤ fwL (os.length : Int) rs) (h3 : ∀ j, j < os.length → rowF (os.length : Int) (os.getD j []) = 0) : GoodH os rs ∧ heapF os rs = (0, 0) := by
  refine ⟨⟨by omega, by omega, fw_good h2, fun i hi => ?_, fun i hi => ?_⟩, ?_⟩
  · have := h3 i hi
    unfold rowF at this
    split at this
    · cases this
    · omega
  · have := h3 i hi
    unfold rowF at this
    split at this
    · cases this
    · split at this
      · cases this
      · next q => exact fw_good q
  · unfold heapF
    rw [if_neg h1, if_neg h2]
    exact rowsA_none _ os 0 h3
theorem heapF_good {os : List (List Int)} {rs : List Int} (h : (heapF os rs).1 = 0) : GoodH os rs := by
  unfold heapF at h
  split at h
  · cases h
  · next h1 =>
    split at h
    · cases h
    · next h2 =>
      refine (good_heap h1 h2 (fun j hj => ?_)).1
      by_cases e : ∀ i, i < os.length → rowF (os.length : Int) (os.getD i []) = 0
      · exact e j hj
      · exfalso
        have key : ∀ n, n ≤ os.length → (∀ i, i < n → rowF (os.length : Int) (os.getD i []) = 0) ∨ ∃ i, i < n ∧ rowF (os.length : Int) (os.getD i []) ≠ 0 ∧ ∀ k, k < i → rowF (os.length : Int) (os.getD k []) = 0 := by
          intro n
          induction n with
          | zero => exact fun _ => Or.inl (fun i hi => absurd hi (Nat.not_lt_zero _))
          | succ n ih =>
            intro hn
            rcases ih (by omega) with q | ⟨i, q1, q2, q3⟩
            · by_cases e2 : rowF (os.length : Int) (os.getD n []) = 0
              · refine Or.inl (fun i hi => ?_)
                by_cases e3 : i = n
                · rw [e3]; exact e2
                · exact q i (by omega)
              · exact Or.inr ⟨n, Nat.lt_succ_self n, e2, q⟩
            · exact Or.inr ⟨i, by omega, q2, q3⟩
        rcases key os.length (Nat.le_refl _) with q | ⟨i, q1, q2, q3⟩
        · exact e q
        · rw [rowsA_at _ os 0 i q1 q3 q2] at h
          exact q2 h
end Go.Proofs.Ytmkehjncnaokoaa
