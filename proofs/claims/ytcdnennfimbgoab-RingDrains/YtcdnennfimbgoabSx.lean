/-
  ring.tasksOf and ring.checkGlobal.
-/
import Derived.Test.YtcdnennfimbgoabSr
namespace Go.Proofs.Ytcdnennfimbgoab
open Go.RowKit

theorem good_new {nx : Int} {zs : List Int} (h : Good nx zs) {j : Nat} (hj : j < zs.length) : (nextL nx ++ zs.take j).contains (zs.getD j 0) = false := by
  have hp := h.pos _ (getD_mem hj)
  cases e : (nextL nx ++ zs.take j).contains (zs.getD j 0) with
  | false => rfl
  | true =>
    rcases (contains_next (by omega)).1 e with h1 | h1
    · exact absurd (h1 ▸ getD_mem hj) h.other
    · obtain ⟨i, hi, he⟩ := (mem_take (by omega)).1 (List.contains_iff_mem.1 h1)
      exact absurd he (nodup_getD.1 h.once i j hi hj)

set_option maxRecDepth 100000 in
set_option maxHeartbeats 400000 in
theorem tasksOf_zero (w : World) (nx : Int) (a : Option Addr) (c : Nat) :
    Calls Try.prog 27 #[.agg #[.int .i64 nx, .slice a 0 c]] w fun e w' => ∃ B, e = .returned (.map (some B)) ∧ w.heap.size ≤ B ∧ IsSet w' B (nextL nx) ∧ Below w.heap.size w w' := by
  go_enter Try.func27, Try.ntmps27
  go_wp2_with (go_at_call 23; refine (nextOf_any _ _ _ _ _ (by omega)).mono ?_; rintro e w1 ⟨B, rfl, hB, hS, hb1⟩; have hx1 := hb1.mono (show w.heap.size + 1 ≤ _ by simp); obtain ⟨x0, x1, s1⟩ := arg1 hx1; have HB := hide (show w.heap.size ≤ B from Nat.le_trans (by simp) hB); have HS := hide hS; have HX1 := hide hx1; clear hB hS hb1 hx1)
  clear x0 x1 s1
  go_loopw [11] (fun i wr => i = .int .i64 0 ∧ wr = w1) (fun i _ => 0)
  case atStart => exact ⟨rfl, rfl⟩
  case round =>
    obtain ⟨rfl, rfl⟩ := hrel
    go_wp2
    go_ret
    exact ⟨B, rfl, unhide HB, unhide HS, below1 (unhide HX1)⟩

set_option maxRecDepth 100000 in
set_option maxHeartbeats 1000000 in
theorem tasksOf_some (w : World) (nx : Int) (b off c : Nat) (zs : List Int) (hg : Good nx zs) (hb : b < w.heap.size) (hc : ∀ j, j < zs.length → w.cell? ⟨b, off + j, none⟩ = some (.int .i64 (zs.getD j 0))) :
    Calls Try.prog 27 #[.agg #[.int .i64 nx, .slice (some ⟨b, off, none⟩) zs.length c]] w fun e w' => ∃ B, e = .returned (.map (some B)) ∧ w.heap.size ≤ B ∧ IsSet w' B (nextL nx ++ zs) ∧ Below w.heap.size w w' := by
  have hl := hg.len
  have HC := hide hc; have HG := hide hg
  clear hc hg
  obtain ⟨n, hn⟩ : ∃ n, zs.length = n := ⟨_, rfl⟩
  rw [hn] at hl ⊢
  have HN := hide hn
  clear hn
  go_enter Try.func27, Try.ntmps27
  go_wp2_with (go_at_call 23; refine (nextOf_any _ _ _ _ _ (by omega)).mono ?_; rintro e w1 ⟨B, rfl, hB, hS, hb1⟩; have hx1 := hb1.mono (show w.heap.size + 1 ≤ _ by simp); obtain ⟨x0, x1, s1⟩ := arg1 hx1; have HB := hide (show w.heap.size + 1 ≤ B from Nat.le_trans (by simp) hB); have HS := hide hS; have HX1 := hide hx1; clear hB hS hb1 hx1)
  clear x0 x1 s1
  go_loopw [11] (fun i wr => ∃ j : Nat, j ≤ n ∧ i = .int .i64 j ∧ IsSet wr B (nextL nx ++ zs.take j) ∧ Below (w.heap.size + 1) (w.alloc (.cells #[.int .i64 nx, .slice (some ⟨b, off, none⟩) n c] 25)) wr) (fun i _ => n - (intOf i).toNat)
  case atStart => exact ⟨0, Nat.zero_le _, rfl, by rw [List.take_zero, List.append_nil]; exact unhide HS, unhide HX1⟩
  case round =>
    clear HS HX1
    obtain ⟨j, hj, rfl, hS, hnx⟩ := hrel
    have HX := hide hnx
    by_cases hlt : j < n
    · have hlt' : j < zs.length := by rw [unhide HN]; exact hlt
      have hnew := good_new (unhide HG) hlt'
      have HT : Hid (nextL nx ++ zs.take (j + 1) = (nextL nx ++ zs.take j) ++ [zs.getD j 0]) := by rw [take_next hlt', List.append_assoc]; rfl
      have k0 := ((below1 hnx).cell (p := ⟨b, off + j, none⟩) hb).trans (unhide HC j hlt')
      obtain ⟨z, hz⟩ : ∃ z, zs.getD j 0 = z := ⟨_, rfl⟩
      obtain ⟨ks, hks⟩ : ∃ ks, nextL nx ++ zs.take j = ks := ⟨_, rfl⟩
      rw [hz] at k0 hnew HT
      rw [hks] at hnew HT hS
      have HA := hide (setadd_any wr B ks z hS hnew)
      have HS := hide hS
      have i0 : (0 : Int) ≤ (j : Int) := by omega
      have i1 : (j : Int) < (n : Int) := by omega
      clear hnx hS hnew hz hks
      go_wp2_with (go_at_call 25; refine (unhide HA).mono ?_; rintro e w4 ⟨rfl, rfl⟩)
      go_roundw
      case rel => exact ⟨j + 1, by omega, by go_num, by rw [unhide HT]; exact set_put (unhide HS).lt, below_put (unhide HX) (unhide HB) _⟩
      case measure => simp [intOf]; omega
    · have e : zs.take j = zs := List.take_of_length_le (by rw [unhide HN]; omega)
      rw [e] at hS
      have HS := hide hS
      clear hnx hS e
      go_wp2
      go_ret
      exact ⟨B, rfl, Nat.le_trans (Nat.le_succ _) (unhide HB), unhide HS, below1 (unhide HX)⟩

theorem tasksOf_any (w : World) (nx : Int) (v : Value) (zs : List Int) (h : IsInts w v zs) (hg : Good nx zs) :
    Calls Try.prog 27 #[.agg #[.int .i64 nx, v]] w fun e w' => ∃ B, e = .returned (.map (some B)) ∧ w.heap.size ≤ B ∧ IsSet w' B (nextL nx ++ zs) ∧ Below w.heap.size w w' := by
  by_cases h0 : 0 < zs.length
  · obtain ⟨b, off, c, rfl, hb, hc⟩ := h.at h0
    exact tasksOf_some w nx b off c zs hg hb hc
  · obtain ⟨a, c, rfl⟩ := Rd.form h
    have e0 : zs = [] := List.eq_nil_of_length_eq_zero (by omega)
    subst e0
    rw [List.append_nil]
    exact tasksOf_zero w nx a c

/-- The first place whose code is not 0, of so many from i on; (0, 0) where there is none. -/
def firstFrom (W : Nat → Int) : Nat → Nat → Int × Int
  | 0, _ => (0, 0)
  | f + 1, i => if W i = 0 then firstFrom W f (i + 1) else (W i, (i : Int))
theorem firstFrom_next {W : Nat → Int} {n j : Nat} (hj : j < n) (h : W j = 0) : firstFrom W (n - j) j = firstFrom W (n - (j + 1)) (j + 1) := by
  have e : n - j = (n - (j + 1)) + 1 := by omega
  rw [e, firstFrom, if_pos h]
theorem firstFrom_here {W : Nat → Int} {n j : Nat} (hj : j < n) (h : W j ≠ 0) : firstFrom W (n - j) j = (W j, (j : Int)) := by
  have e : n - j = (n - (j + 1)) + 1 := by omega
  rw [e, firstFrom, if_neg h]
theorem firstFrom_none {W : Nat → Int} {n j : Nat} (hj : n ≤ j) : firstFrom W (n - j) j = (0, 0) := by
  have e : n - j = 0 := by omega
  rw [e, firstFrom]

def formW (gs : List Int) (j : Nat) : Int := if gs.getD j 0 < 1 then 5 else 0
def sizeW (nx : Int) (zs gs : List Int) (j : Nat) : Int := if (nextL nx ++ zs ++ gs.take j).contains (gs.getD j 0) = true then 8 else 0
/-- What is wrong with a global queue. -/
def globalF (nx : Int) (zs gs : List Int) : Int × Int := if 5000 < gs.length then (2, -1) else if (firstFrom (formW gs) gs.length 0).1 ≠ 0 then firstFrom (formW gs) gs.length 0 else firstFrom (sizeW nx zs gs) gs.length 0

set_option maxRecDepth 100000 in
set_option maxHeartbeats 400000 in
theorem global_many (w : World) (q : Value) (x y : Value) (hq : q = .agg #[x, y]) (h1 : ∃ k, x = .int .i64 k) (h2 : ∃ a n c, y = .slice a n c) (a : Option Addr) (n c : Nat) (hn : 5000 < n) (hm : n ≤ maxLen) :
    Calls Try.prog 22 #[q, .slice a n c] w fun e w' => e = .returned (.agg #[.int .i64 2, .int .i64 (-1)]) ∧ Below w.heap.size w w' := by
  obtain ⟨k, rfl⟩ := h1
  obtain ⟨a', n', c', rfl⟩ := h2
  subst hq
  unfold maxLen at hm
  have h1 : (5000 : Int) < (n : Int) := by omega
  go_enter Try.func22, Try.ntmps22
  go_wp2
  exact bodyPost_ret (v := .agg #[.int .i64 2, .int .i64 (-1)]) (by simp [results, Try.results22, go_sem]) rfl ⟨rfl, ((Below.refl _ _).alloc (Nat.le_refl _) _).alloc (by rw [World.size_alloc]; omega) _⟩
end Go.Proofs.Ytcdnennfimbgoab
