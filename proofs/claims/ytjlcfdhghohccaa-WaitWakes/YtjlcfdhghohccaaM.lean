/-
  What is wrong with lines: wait.Check.
-/
import Derived.Test.YtjlcfdhghohccaaL
namespace Go.Proofs.Ytjlcfdhghohccaa
open Go.RowKit

def faultV (x : Int × Int) : Value := .agg #[.int .i64 x.1, .int .i64 x.2]
def firstFrom (W : Nat → Int) : Nat → Nat → Int × Int
  | 0, _ => (0, 0)
  | f + 1, i => if W i = 0 then firstFrom W f (i + 1) else (W i, (i : Int))
theorem firstFrom_next {W : Nat → Int} {n j : Nat} (hj : j < n) (h : W j = 0) : firstFrom W (n - j) j = firstFrom W (n - (j + 1)) (j + 1) := by
  have e : n - j = (n - (j + 1)) + 1 := by omega
  rw [e, firstFrom, if_pos h]
theorem firstFrom_here {W : Nat → Int} {n j : Nat} (hj : j < n) (h : W j ≠ 0) : firstFrom W (n - j) j = (W j, (j : Int)) := by
  have e : n - j = (n - (j + 1)) + 1 := by omega
  rw [e, firstFrom, if_neg h]
theorem firstFrom_none {W : Nat → Int} {n j : Nat} (hj : n ≤ j) : firstFrom W (n - j) j = (0, 0) := by
  have e : n - j = 0 := by omega
  rw [e, firstFrom]
theorem firstFrom_zero {W : Nat → Int} : ∀ {f i : Nat}, (firstFrom W f i).1 = 0 → firstFrom W f i = (0, 0)
  | 0, _, _ => rfl
  | f + 1, i, h => by
    rw [firstFrom] at h ⊢
    split
    · rename_i h1; rw [if_pos h1] at h; exact firstFrom_zero h
    · rename_i h1; rw [if_neg h1] at h; exact absurd h h1
theorem firstFrom_each {W : Nat → Int} : ∀ {f i : Nat}, (firstFrom W f i).1 = 0 → ∀ j, i ≤ j → j < i + f → W j = 0
  | 0, _, _, j, h1, h2 => by omega
  | f + 1, i, h, j, h1, h2 => by
    rw [firstFrom] at h
    split at h
    · rename_i h3
      by_cases e : j = i
      · subst e; exact h3
      · exact firstFrom_each h j (by omega) (by omega)
    · rename_i h3; exact absurd h h3
theorem firstFrom_all {W : Nat → Int} : ∀ {f i : Nat}, (∀ j, i ≤ j → j < i + f → W j = 0) → firstFrom W f i = (0, 0)
  | 0, _, _ => rfl
  | f + 1, i, h => by
    rw [firstFrom, if_pos (h i (Nat.le_refl _) (by omega))]
    exact firstFrom_all fun j h1 h2 => h j (by omega) (by omega)
theorem ret_fault {a b : Int} {x : Int × Int} (h : x = (a, b)) : Ending.returned (.agg #[.int .i64 a, .int .i64 b]) = .returned (faultV x) := by rw [h]; rfl

theorem res1 {w wr : World} {x y : Value} (h : Below (w.heap.size + 1) (w.alloc (.cells #[x, y] 27)) wr) :
    wr.cell? ⟨w.heap.size, 0, none⟩ = some x ∧ wr.cell? ⟨w.heap.size, 1, none⟩ = some y ∧ wr.frozen? ⟨w.heap.size, 0, none⟩ = false ∧ wr.frozen? ⟨w.heap.size, 1, none⟩ = false := by
  have hh := (MapKept.heap_alloc w (.cells #[x, y] 27)).1
  refine ⟨?_, ?_, ?_, ?_⟩
  · rw [h.cell (p := ⟨w.heap.size, 0, none⟩) (by simp)]; simp only [World.cell?, hh]; rfl
  · rw [h.cell (p := ⟨w.heap.size, 1, none⟩) (by simp)]; simp only [World.cell?, hh]; rfl
  · rw [h.frozen (p := ⟨w.heap.size, 0, none⟩) (by simp)]; simp only [World.frozen?, hh]; rfl
  · rw [h.frozen (p := ⟨w.heap.size, 1, none⟩) (by simp)]; simp only [World.frozen?, hh]; rfl
theorem below1 {w W : World} {o : Obj} (h : Below (w.heap.size + 1) (w.alloc o) W) : Below w.heap.size w W := ((Below.refl _ _).alloc (Nat.le_refl _) o).trans (h.mono (Nat.le_succ _))
theorem next1 {w W W' : World} {o : Obj} (h : Below (w.heap.size + 1) (w.alloc o) W) (h' : Below W.heap.size W W') : Below (w.heap.size + 1) (w.alloc o) W' := h.trans (h'.mono (Nat.le_trans (by simp) h.size))
theorem next1a {w W W' : World} {o o1 : Obj} (h : Below (w.heap.size + 1) (w.alloc o) W) (h' : Below (W.alloc o1).heap.size (W.alloc o1) W') : Below (w.heap.size + 1) (w.alloc o) W' := next1 h (((Below.refl _ _).alloc (Nat.le_refl _) o1).trans (h'.mono (by simp)))
theorem end1 {w W : World} {o : Obj} {x y : Value} (h : Below (w.heap.size + 1) (w.alloc o) W) : Below w.heap.size w ((W.setCell ⟨w.heap.size, 0, none⟩ x).setCell ⟨w.heap.size, 1, none⟩ y) := ((below1 h).setCell (Nat.le_refl _) _).setCell (Nat.le_refl _) _
/-- Two cells of a new block. -/
theorem new2 {w W : World} {x y : Value} {t : TypeId} (h : Below (w.alloc (.cells #[x, y] t)).heap.size (w.alloc (.cells #[x, y] t)) W) : W.cell? ⟨w.heap.size, 0, none⟩ = some x ∧ W.cell? ⟨w.heap.size, 1, none⟩ = some y := by
  have hh := (MapKept.heap_alloc w (.cells #[x, y] t)).1
  constructor
  · rw [h.cell (p := ⟨w.heap.size, 0, none⟩) (by simp)]; simp only [World.cell?, hh]; rfl
  · rw [h.cell (p := ⟨w.heap.size, 1, none⟩) (by simp)]; simp only [World.cell?, hh]; rfl


/-- What is wrong with the tasks of a line, behind those that were there ahead. -/
def tasksC : List Int → List Int → Int
  | _, [] => 0
  | had, t :: r => if t < 1 then 3 else if had.contains t = true then 10 else tasksC (had ++ [t]) r
/-- What is wrong with the line at a place. -/
def lineC (ls : List Ln) (i : Nat) : Int :=
  if 5000 < (waitL (ls.take i)).length + (lAt ls i).2.length then 2
  else if (lAt ls i).2 = [] ∨ (0 < i ∧ (lAt ls i).1 ≤ (lAt ls (i - 1)).1) then 5
  else tasksC (waitL (ls.take i)) (lAt ls i).2
/-- What is wrong with lines. -/
def linesF (ls : List Ln) : Int × Int := if 5000 < ls.length then (2, 0) else firstFrom (lineC ls) ls.length 0

theorem drop_at {T : List Int} {j : Nat} (h : j < T.length) : T.drop j = T.getD j 0 :: T.drop (j + 1) := by
  rw [List.drop_eq_getElem_cons h]
  simp [List.getElem?_eq_getElem h]
theorem take_at {T : List Int} {j : Nat} (h : j < T.length) : T.take (j + 1) = T.take j ++ [T.getD j 0] := by
  rw [List.take_succ_eq_append_getElem h]
  simp [List.getElem?_eq_getElem h]
/-- The set holds these numbers, if nothing was wrong. -/
def SetIf (x : Int) (w : World) (B : Nat) (ks : List Int) : Prop := x = 0 → IsSet w B ks

set_option maxRecDepth 100000 in
set_option maxHeartbeats 2000000 in
theorem chktasks_any (w0 w : World) (B : Nat) (had : List Int) (a : Option Addr) (m c : Nat) (T : List Int) (h : IsInts w0 (.slice a m c) T) (h0 : Below w0.heap.size w0 w) (hB : w0.heap.size ≤ B) (hS : IsSet w B had) (hm : m ≤ 100000) :
    Calls Try.prog 30 #[.map (some B), .slice a m c] w fun e w' => e = .returned (.int .i64 (tasksC had T)) ∧ SetIf (tasksC had T) w' B (had ++ T) ∧ Below B w w' := by
  have hl := h.len
  have HA : Hid (0 < m → ∃ b off, a = some ⟨b, off, none⟩ ∧ b < w0.heap.size ∧ ∀ j, j < m → w0.cell? ⟨b, off + j, none⟩ = some (.int .i64 (T.getD j 0))) := fun hp => by
    obtain ⟨b, off, c', e, hb, hc⟩ := h.at (by omega)
    cases e
    exact ⟨b, off, rfl, hb, fun j hj => hc j (by omega)⟩
  have HL := hide hl; have H0 := hide h0; have HS0 := hide hS
  obtain ⟨R, hR⟩ : ∃ R, tasksC had T = R := ⟨_, rfl⟩
  rw [hR]
  have HRE := hide hR
  have hBw : B < w.heap.size := hS.lt
  clear h hl h0 hS hR
  go_enter Try.func30, Try.ntmps30
  go_wp2
  go_loopw [9] (fun i wr => ∃ j : Nat, j ≤ m ∧ i = .int .i64 j ∧ IsSet wr B (had ++ T.take j) ∧ R = tasksC (had ++ T.take j) (T.drop j) ∧ Below B w wr) (fun i _ => m - (intOf i).toNat)
  case atStart => exact ⟨0, Nat.zero_le _, rfl, by simpa using unhide HS0, by simpa using (unhide HRE).symm, Below.refl _ _⟩
  case round =>
    obtain ⟨j, hj, rfl, hs, hr, hnx⟩ := hrel
    by_cases hlt : j < m
    · obtain ⟨b, off, rfl, hb, hc⟩ := unhide HA (by omega)
      have k0 := ((Below.trans (unhide H0) (hnx.mono hB)).cell (p := ⟨b, off + j, none⟩) hb).trans (hc j hlt)
      have hjT : j < T.length := by rw [unhide HL]; exact hlt
      rw [drop_at hjT, tasksC] at hr
      have htk := take_at hjT
      obtain ⟨t, et⟩ : ∃ t, T.getD j 0 = t := ⟨_, rfl⟩
      obtain ⟨ks, ek⟩ : ∃ ks, had ++ T.take j = ks := ⟨_, rfl⟩
      rw [et] at k0 hr htk
      rw [ek] at hr hs
      have i0 : (0 : Int) ≤ (j : Int) := by omega
      have i1 : (j : Int) < (m : Int) := by omega
      have HX := hide hnx; have HS := hide hs; have HTK := hide htk; have HEK := hide ek
      clear hnx hs htk ek et hc hb
      by_cases h1 : t < 1
      · rw [if_pos h1] at hr
        have HR := hide hr
        clear hr
        go_wp2_with fail
        go_ret
        refine ⟨by rw [unhide HR]; rfl, fun h2 => ?_, unhide HX⟩
        rw [unhide HR] at h2
        cases h2
      · rw [if_neg h1] at hr
        cases hin : ks.contains t with
        | true =>
          rw [if_pos hin] at hr
          have HC := hide (sethas_any wr B ks t (unhide HS))
          rw [hin] at HC
          have HR := hide hr
          clear hr hin
          go_wp2_with (go_at_call 41; refine (unhide HC).mono ?_; rintro e w1 ⟨rfl, hb1⟩; have HX1 := hide (Below.trans (unhide HX) (hb1.mono (Nat.le_of_lt (unhide HS).lt))); clear hb1)
          go_ret
          refine ⟨by rw [unhide HR]; rfl, fun h2 => ?_, unhide HX1⟩
          rw [unhide HR] at h2
          cases h2
        | false =>
          rw [if_neg (by rw [hin]; simp)] at hr
          have HC := hide (sethas_any wr B ks t (unhide HS))
          rw [hin] at HC
          have HR := hide hr; have HIN := hide hin
          clear hr hin
          go_wp2_with (first
            | (go_at_call 41; refine (unhide HC).mono ?_; rintro e w1 ⟨rfl, hb1⟩; have HX1 := hide (Below.trans (unhide HX) (hb1.mono (Nat.le_of_lt (unhide HS).lt))); have HS1 := hide ((unhide HS).below hb1); clear hb1)
            | (go_at_call 42; refine (setadd_any _ B ks t (unhide HS1) (unhide HIN)).mono ?_; rintro e w2 ⟨rfl, hw2⟩; have HX2 : Hid (Below B w w2) := (by rw [hw2]; exact below_put (unhide HX1) (Nat.le_refl _) _); have HS2 : Hid (IsSet w2 B (ks ++ [t])) := (by rw [hw2]; exact IsSet.put (unhide HS1).lt); clear hw2))
          go_roundw
          case rel => exact ⟨j + 1, by omega, by go_num, by rw [unhide HTK, ← List.append_assoc, unhide HEK]; exact unhide HS2, by rw [unhide HTK, ← List.append_assoc, unhide HEK]; exact unhide HR, unhide HX2⟩
          case measure => simp [intOf]; omega
    · obtain rfl : j = m := by omega
      rw [List.take_of_length_le (by rw [unhide HL]; exact Nat.le_refl _)] at hs
      rw [List.drop_eq_nil_of_le (by rw [unhide HL]; exact Nat.le_refl _)] at hr
      have HX := hide hnx; have HS := hide hs; have HR : Hid (R = 0) := hr
      clear hnx hs hr
      go_wp2_with fail
      go_ret
      exact ⟨by rw [unhide HR]; rfl, fun _ => unhide HS, unhide HX⟩
end Go.Proofs.Ytjlcfdhghohccaa
