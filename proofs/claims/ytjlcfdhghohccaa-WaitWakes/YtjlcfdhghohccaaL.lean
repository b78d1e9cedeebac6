/-
  The function that wait.Drop hands over; wait.lineOf.
-/
import Derived.Test.YtjlcfdhghohccaaK
namespace Go.Proofs.Ytjlcfdhghohccaa
open Go.RowKit

/-- The list without its first such number. -/
def lessL (x : Int) (T : List Int) : List Int := T.take (ixOf x T) ++ T.drop (ixOf x T + 1)

set_option maxRecDepth 100000 in
set_option maxHeartbeats 2000000 in
theorem drop1_some (w : World) (b off m c K : Nat) (task : Int) (T : List Int) (h : IsInts w (.slice (some ⟨b, off, none⟩) m c) T) (hK : w.heap[K]? = some (.cells #[.int .i64 task] 3 (0, 0))) (hm : m ≤ 100000) (hin : T.contains task = true) :
    Calls Try.prog 39 #[.slice (some ⟨b, off, none⟩) m c, .pointer (some ⟨K, 0, none⟩)] w fun e w' => ∃ a2 c2, e = .returned (.slice a2 (lessL task T).length c2) ∧ IsInts w' (.slice a2 (lessL task T).length c2) (lessL task T) ∧ Below w.heap.size w w' := by
  obtain ⟨t0, _, _⟩ := block1 hK
  have hl := h.len
  have hfit := h.fits
  obtain ⟨hi1, _, _⟩ := ixOf_spec task T hin
  have HIX : Hid (Calls Try.prog 40 #[.slice (some ⟨b, off, none⟩) m c, .int .i64 task] w fun e w' => e = .returned (.int .i64 (ixOf task T : Nat)) ∧ w' = w) := by
    have := index_any w _ T task h (by rw [hl]; unfold maxLen; omega)
    rw [if_pos hin] at this
    exact this
  unfold lessL
  obtain ⟨k, hk⟩ : ∃ k, ixOf task T = k := ⟨_, rfl⟩
  rw [hk] at HIX hi1 ⊢
  obtain ⟨L, hL⟩ : ∃ L, T.take k ++ T.drop (k + 1) = L := ⟨_, rfl⟩
  obtain ⟨ln, hln⟩ : ∃ n, L.length = n := ⟨_, rfl⟩
  have hlnk : ln = k + (m - (k + 1)) := by rw [← hln, ← hL, List.length_append, List.length_take, List.length_drop]; omega
  rw [hL, hln]
  obtain ⟨A, hA⟩ : ∃ A, (if c = k + 1 then some (⟨b, off, none⟩ : Addr) else some ⟨b, off + (k + 1), none⟩) = A := ⟨_, rfl⟩
  have hta := h.take (p := k) (by omega)
  have hdr := h.drop_if (p := k + 1) (by omega) hA.symm
  have HC : Hid (Calls Try.prog 34 #[.slice (some ⟨w.heap.size, 0, none⟩) 2 2] (w.drew.alloc (.cells #[.slice (some ⟨b, off, none⟩) k c, .slice A (m - (k + 1)) (c - (k + 1))] 34)) fun e w' => ∃ a' c', e = .returned (.slice a' ln c') ∧ IsInts w' (.slice a' ln c') L ∧ Below w.heap.size w w') := by
    have hb : Below w.heap.size w (w.drew.alloc (.cells #[.slice (some ⟨b, off, none⟩) k c, .slice A (m - (k + 1)) (c - (k + 1))] 34)) := (Below.refl _ _).drew.alloc (Nat.le_refl _) _
    refine (concat_any _ w.heap.size _ _ k (m - (k + 1)) c (c - (k + 1)) _ _ (hta.below hb) (hdr.below hb) (new_block w.drew _) (by omega) (by omega)).mono ?_
    rintro e w' ⟨a', c', rfl, ho, hb2⟩
    rw [hL, ← hlnk] at ho
    exact ⟨a', c', by rw [hlnk], ho.ints, Below.next hb hb2 (Nat.le_refl _)⟩
  have i0 : (0 : Int) ≤ (k : Int) := by omega
  have i1 : (k : Int) ≤ (m : Int) := by omega
  have i2 : (k : Int) ≤ (c : Int) := by omega
  have i3 : (m : Int) ≤ (c : Int) := by omega
  have j1 : IntKind.i64.wrap ((k : Int) + 1) = (k : Int) + 1 := by simp [IntKind.wrap, IntKind.bits, IntKind.signed]; omega
  have j2 : (k : Int) + 1 ≤ (m : Int) := by omega
  have j3 : (0 : Int) ≤ (k : Int) + 1 := by omega
  have j4 : (k : Int) + 1 ≤ (c : Int) := by omega
  clear h hK hin hl hi1 hk hL hln hlnk hta hdr
  go_enter Try.func39, Try.ntmps39
  go_upto_region 2 with (go_at_call 40; refine (unhide HIX).mono ?_; rintro e w ⟨rfl, rfl⟩)
  go_region_held3 (fun W => W.heap.size = w.heap.size ∨ True)
    (exact Or.inr trivial)
    (first | (go_at_call 34; refine (unhide HC).mono ?_; rintro e w2 ⟨a2, c2, rfl, hi2, hb2⟩; have HI2 := hide hi2; have HB2 := hide hb2; clear hi2 hb2))
  all_goals go_wp2_with fail
  all_goals go_ret
  all_goals exact ⟨a2, c2, rfl, unhide HI2, unhide HB2⟩

theorem drop1_any (w : World) (a : Option Addr) (m c K : Nat) (task : Int) (T : List Int) (h : IsInts w (.slice a m c) T) (hK : w.heap[K]? = some (.cells #[.int .i64 task] 3 (0, 0))) (hm : m ≤ 100000) (hin : T.contains task = true) :
    Calls Try.prog 39 #[.slice a m c, .pointer (some ⟨K, 0, none⟩)] w fun e w' => ∃ a2 c2, e = .returned (.slice a2 (lessL task T).length c2) ∧ IsInts w' (.slice a2 (lessL task T).length c2) (lessL task T) ∧ Below w.heap.size w w' := by
  have h0 : 0 < T.length := by
    cases T with
    | nil => simp at hin
    | cons x r => simp
  obtain ⟨b, off, c', e, hb, hc⟩ := h.at h0
  cases e
  exact drop1_some w b off _ c K task T h hK hm hin

/-- The place of the line in which a task waits. -/
def lineN (t : Int) : List Ln → Nat
  | [] => 0
  | l :: r => if l.2.contains t = true then 0 else lineN t r + 1
theorem waitL_mem {t : Int} : ∀ {ls : List Ln}, (waitL ls).contains t = true ↔ ∃ j, j < ls.length ∧ (lAt ls j).2.contains t = true
  | [] => by simp [waitL]
  | l :: r => by
    rw [waitL]
    have ih := waitL_mem (t := t) (ls := r)
    constructor
    · intro h
      rw [List.contains_iff_mem, List.mem_append] at h
      rcases h with h | h
      · exact ⟨0, by simp, by rw [List.contains_iff_mem]; exact h⟩
      · obtain ⟨j, h1, h2⟩ := ih.1 (by rw [List.contains_iff_mem]; exact h)
        exact ⟨j + 1, by simpa using h1, h2⟩
    · rintro ⟨j, h1, h2⟩
      rw [List.contains_iff_mem, List.mem_append]
      cases j with
      | zero => left; rw [List.contains_iff_mem] at h2; exact h2
      | succ j => right; rw [← List.contains_iff_mem]; exact ih.2 ⟨j, by simpa using h1, h2⟩
theorem lineN_of {t : Int} : ∀ {ls : List Ln} {j : Nat}, j < ls.length → (lAt ls j).2.contains t = true → (∀ i, i < j → (lAt ls i).2.contains t = false) → lineN t ls = j
  | [], _, h, _, _ => by simp at h
  | l :: r, 0, _, h, _ => by rw [lineN, if_pos (show l.2.contains t = true from h)]
  | l :: r, j + 1, hj, h, h0 => by
    rw [lineN, if_neg (show ¬ l.2.contains t = true by have := h0 0 (by omega); rw [show (lAt (l :: r) 0).2 = l.2 from rfl] at this; rw [this]; simp)]
    rw [lineN_of (ls := r) (j := j) (by simpa using hj) h fun i hi => h0 (i + 1) (by omega)]
theorem lineN_at {t : Int} : ∀ {ls : List Ln}, (waitL ls).contains t = true → lineN t ls < ls.length ∧ (lAt ls (lineN t ls)).2.contains t = true
  | [], h => by simp [waitL] at h
  | l :: r, h => by
    rw [lineN]
    split
    · rename_i h1
      exact ⟨by simp, h1⟩
    · rename_i h1
      have : (waitL r).contains t = true := by
        rw [waitL, List.contains_iff_mem, List.mem_append] at h
        rw [List.contains_iff_mem]
        rcases h with h | h
        · exact absurd (by rw [List.contains_iff_mem]; exact h) h1
        · exact h
      obtain ⟨h2, h3⟩ := lineN_at this
      exact ⟨by simpa using h2, h3⟩
/-- What wait.lineOf answers. -/
def lineR (t : Int) (ls : List Ln) : Int := if (waitL ls).contains t = true then (lineN t ls : Int) else -1

set_option maxRecDepth 100000 in
set_option maxHeartbeats 1000000 in
theorem lineof1_any (w : World) (x : Int) (a : Option Addr) (m c K : Nat) (task : Int) (T : List Int) (h : IsInts w (.slice a m c) T) (hK : w.heap[K]? = some (.cells #[.int .i64 task] 3 (0, 0))) (hm : m ≤ 100000) :
    Calls Try.prog 50 #[.agg #[.int .i64 x, .slice a m c], .pointer (some ⟨K, 0, none⟩)] w fun e w' => e = .returned (.bool (T.contains task)) ∧ Below w.heap.size w w' := by
  have hb : Below w.heap.size w (w.alloc (.cells #[.int .i64 x, .slice a m c] 55)) := (Below.refl _ _).alloc (Nat.le_refl _) _
  obtain ⟨t0, _, _⟩ := block1 (keep_alloc hK (.cells #[.int .i64 x, .slice a m c] 55))
  have HC := hide (contains_any _ _ T task (h.below hb) (by rw [h.len]; unfold maxLen; omega))
  have HB := hide hb
  obtain ⟨r, hr⟩ : ∃ r, T.contains task = r := ⟨_, rfl⟩
  rw [hr] at HC ⊢
  clear h hK hb hr
  go_enter Try.func50, Try.ntmps50
  go_wp2_with (go_at_call 51; refine (unhide HC).mono ?_; rintro e w1 ⟨rfl, hw⟩; subst hw)
  go_ret
  exact ⟨rfl, unhide HB⟩

set_option maxRecDepth 100000 in
set_option maxHeartbeats 1000000 in
theorem indexf_any (w : World) (a : Option Addr) (n c K : Nat) (task : Int) (ls : List Ln) (hl : ls.length = n) (h : IsLs w (.slice a n c) ls) (hK : w.heap[K]? = some (.cells #[.int .i64 task] 3 (0, 0))) (hm : n ≤ 100000) (ht : (waitL ls).length ≤ 100000) :
    Calls Try.prog 49 #[.slice a n c, .func (.func 50) #[] #[.pointer (some ⟨K, 0, none⟩)]] w fun e w' => e = .returned (.int .i64 (lineR task ls)) ∧ Below w.heap.size w w' := by
  have HA := hide (h.opens hl)
  have HL := hide hl; have HK := hide hK; have HT := hide ht
  obtain ⟨R, hR⟩ : ∃ R, lineR task ls = R := ⟨_, rfl⟩
  rw [hR]
  have HRE := hide hR
  clear h hl hK ht hR
  go_enter Try.func49, Try.ntmps49
  go_wp2
  go_loopw [8] (fun i wr => ∃ j : Nat, j ≤ n ∧ i = .int .i64 j ∧ Below w.heap.size w wr ∧ ∀ i, i < j → (lAt ls i).2.contains task = false) (fun i _ => n - (intOf i).toNat)
  case atStart => exact ⟨0, Nat.zero_le _, rfl, Below.refl _ _, fun i hi => by omega⟩
  case round =>
    obtain ⟨j, hj, rfl, hnx, hne⟩ := hrel
    have HN := hide hne
    clear hne
    by_cases hlt : j < n
    · obtain ⟨b, off, rfl, hb, hc⟩ := unhide HA (by omega)
      obtain ⟨k0, av, cv, k1, hi⟩ := hc.below hnx hb j (by rw [unhide HL]; exact hlt)
      have hzn := waitL_at (ls := ls) (j := j) (by rw [unhide HL]; exact hlt)
      have i0 : (0 : Int) ≤ (j : Int) := by omega
      have i1 : (j : Int) < (n : Int) := by omega
      obtain ⟨T, eT⟩ : ∃ T, (lAt ls j).2 = T := ⟨_, rfl⟩
      obtain ⟨x, ex⟩ : ∃ x, (lAt ls j).1 = x := ⟨_, rfl⟩
      rw [eT] at k1 hi hzn
      rw [ex] at k0
      obtain ⟨m, em⟩ : ∃ m, T.length = m := ⟨_, rfl⟩
      rw [em] at k1 hi hzn
      have HC := hide (lineof1_any wr x av m cv K task T hi (keep_below (unhide HK) hnx) (by have := unhide HT; omega))
      have HX := hide hnx; have HTE := hide eT
      clear hnx hc hb hi em eT ex hzn
      cases hin : T.contains task with
      | true =>
        rw [hin] at HC
        have hR1 : R = (j : Int) := by
          have hin2 : (lAt ls j).2.contains task = true := by rw [unhide HTE]; exact hin
          rw [← unhide HRE, lineR, if_pos (waitL_mem.2 ⟨j, by rw [unhide HL]; exact hlt, hin2⟩), lineN_of (by rw [unhide HL]; exact hlt) hin2 (unhide HN)]
        have HR1 := hide hR1
        clear hin hR1
        go_wp2_with (go_at_call 50; refine (unhide HC).mono ?_; rintro e w1 ⟨rfl, hb1⟩; have HX1 := hide (Below.next (unhide HX) hb1 (Nat.le_refl _)); clear hb1)
        go_ret
        refine ⟨?_, unhide HX1⟩
        rw [unhide HR1]; rfl
      | false =>
        rw [hin] at HC
        have HIN : Hid ((lAt ls j).2.contains task = false) := by rw [unhide HTE]; exact hin
        clear hin
        go_wp2_with (go_at_call 50; refine (unhide HC).mono ?_; rintro e w1 ⟨rfl, hb1⟩; have HX1 := hide (Below.next (unhide HX) hb1 (Nat.le_refl _)); clear hb1)
        go_roundw
        case rel => exact ⟨j + 1, by omega, by go_num, unhide HX1, fun i hi => by
          by_cases e : i = j
          · subst e; exact unhide HIN
          · exact unhide HN i (by omega)⟩
        case measure => simp [intOf]; omega
    · have hR1 : R = -1 := by
        rw [← unhide HRE, lineR, if_neg]
        intro h2
        obtain ⟨i, h3, h4⟩ := waitL_mem.1 h2
        have := unhide HN i (by rw [unhide HL] at h3; omega)
        rw [this] at h4
        cases h4
      have HX := hide hnx; have HR1 := hide hR1
      clear hnx hR1
      go_wp2
      go_ret
      refine ⟨?_, unhide HX⟩
      rw [unhide HR1]; rfl

set_option maxRecDepth 100000 in
set_option maxHeartbeats 1000000 in
theorem lineof_any (w : World) (a : Option Addr) (n c : Nat) (task : Int) (ls : List Ln) (hl : ls.length = n) (h : IsLs w (.slice a n c) ls) (hm : n ≤ 100000) (ht : (waitL ls).length ≤ 100000) :
    Calls Try.prog 38 #[.slice a n c, .int .i64 task] w fun e w' => e = .returned (.int .i64 (lineR task ls)) ∧ Below w.heap.size w w' := by
  have hb : Below w.heap.size w (w.alloc (.cells #[.int .i64 task] 3)) := (Below.refl _ _).alloc (Nat.le_refl _) _
  have HC := hide (indexf_any _ a n c w.heap.size task ls hl (h.below hb) (new_block w _) hm ht)
  have HB := hide hb
  obtain ⟨R, hR⟩ : ∃ R, lineR task ls = R := ⟨_, rfl⟩
  rw [hR] at HC ⊢
  clear h hl ht hb hR
  go_enter Try.func38, Try.ntmps38
  go_wp2_with (go_at_call 49; refine (unhide HC).mono ?_; rintro e w1 ⟨rfl, hb1⟩; have HX1 := hide (Below.next (unhide HB) hb1 (Nat.le_refl _)); clear hb1)
  go_ret
  exact ⟨rfl, unhide HX1⟩
end Go.Proofs.Ytjlcfdhghohccaa
