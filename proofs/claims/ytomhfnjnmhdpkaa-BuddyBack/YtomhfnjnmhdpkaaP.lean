/-
  buddy.part.
-/
import Derived.Test.YtomhfnjnmhdpkaaI
namespace Go.Proofs.Ytomhfnjnmhdpkaa
open Go.RowKit

/-- Is each of so many units, from one on, in one block of two lists? -/
def partN (u : Int) : Nat → Int → List Bl → List Bl → Bool
  | 0, _, _, _ => false
  | k + 1, next, us, fs =>
    if next < u then
      (if us.head?.map Prod.fst = some next then partN u k (next + (us.headD (0, 0)).2) us.tail fs
      else if fs.head?.map Prod.fst = some next then partN u k (next + (fs.headD (0, 0)).2) us fs.tail
      else false)
    else us.isEmpty && fs.isEmpty
def partL (u : Int) (us fs : List Bl) : Bool := partN u (us.length + fs.length + 1) 0 us fs

def lenOf : Value → Nat | .slice _ n _ => n | _ => 0
/-- What is left of a list behind its first block. -/
theorem tail_isl {w : World} {b o n c : Nat} {x : Bl} {r : List Bl} (h : IsL KB w (.slice (some ⟨b, o, none⟩) n c) (x :: r)) (hc : ¬ c = 1) : IsL KB w (.slice (some ⟨b, o + 2, none⟩) (n - 1) (c - 1)) r := by
  have hl := h.len
  have := h.drop_if kb (p := 1) (by simp at hl; omega) rfl
  rw [if_neg hc] at this
  exact this
theorem tail_isl1 {w : World} {b o n c : Nat} {x : Bl} {r : List Bl} (h : IsL KB w (.slice (some ⟨b, o, none⟩) n c) (x :: r)) (hc : c = 1) : IsL KB w (.slice (some ⟨b, o, none⟩) (n - 1) (c - 1)) r := by
  have hl := h.len
  have := h.drop_if kb (p := 1) (by simp at hl; omega) rfl
  rw [if_pos hc] at this
  exact this

set_option maxRecDepth 100000 in
set_option maxHeartbeats 4000000 in
theorem part_any (w : World) (v v' : Value) (us fs : List Bl) (u : Int) (h : IsL KB w v us) (h' : IsL KB w v' fs) (hn : us.length ≤ 100000) (hm : fs.length ≤ 100000) (hu : 0 ≤ u ∧ u ≤ 1073741824) (hf : ∀ x ∈ us, fitB u x = true) (hf' : ∀ x ∈ fs, fitB u x = true) :
    Calls Try.prog 23 #[v, v', .int .i64 u] w fun e w' => e = .returned (.bool (partL u us fs)) ∧ Below w.heap.size w w' := by
  obtain ⟨a0, c0, rfl⟩ := h.form
  obtain ⟨a1, c1, rfl⟩ := h'.form
  obtain ⟨R, eR⟩ : ∃ R, partL u us fs = R := ⟨_, rfl⟩
  rw [eR]
  have HR0 : Hid (partN u (us.length + fs.length + 1) 0 us fs = R) := eR
  have HF0 := hide hf; have HF1 := hide hf'; have HL0 := hide h; have HL1 := hide h'
  obtain ⟨N, eN⟩ : ∃ N, us.length + fs.length + 1 = N := ⟨_, rfl⟩
  rw [eN] at HR0
  have hN : us.length + fs.length + 1 ≤ N := Nat.le_of_eq eN
  obtain ⟨n, en⟩ : ∃ n, us.length = n := ⟨_, rfl⟩
  obtain ⟨m, em⟩ : ∃ m, fs.length = m := ⟨_, rfl⟩
  rw [en] at HL0 hn hN ⊢
  rw [em] at HL1 hm hN ⊢
  clear h h' hf hf' eR eN en em
  go_enter Try.func23, Try.ntmps23
  go_wp2
  go_loopw [0, 1, 7] (fun s0 s1 s7 wr => ∃ (k : Nat) (nx : Int) (a0 a1 : Option Addr) (n m c0 c1 : Nat) (us fs : List Bl), s0 = .slice a0 n c0 ∧ s1 = .slice a1 m c1 ∧ s7 = .int .i64 nx ∧ 0 ≤ nx ∧ nx ≤ u ∧ n ≤ 100000 ∧ m ≤ 100000 ∧ n + m + 1 ≤ k ∧ Hid (IsL KB wr (.slice a0 n c0) us) ∧ Hid (IsL KB wr (.slice a1 m c1) fs) ∧ Hid (∀ x ∈ us, fitB u x = true) ∧ Hid (∀ x ∈ fs, fitB u x = true) ∧ Hid (partN u k nx us fs = R) ∧ Hid (Below w.heap.size w wr)) (fun s0 s1 _ _ => lenOf s0 + lenOf s1)
  case atStart => exact ⟨N, 0, a0, a1, n, m, c0, c1, us, fs, rfl, rfl, rfl, Int.le_refl _, hu.1, hn, hm, hN, HL0, HL1, HF0, HF1, HR0, hide (Below.refl _ _)⟩
  case round =>
    clear HL0 HL1 HF0 HF1 HR0 hn hm hN
    clear a0 a1 n m c0 c1 us fs N
    obtain ⟨k, nx, a0, a1, n, m, c0, c1, us, fs, rfl, rfl, rfl, hx0, hxu, hn, hm, hk, HL0, HL1, HF0, HF1, HR, HX⟩ := hrel
    obtain ⟨k, rfl⟩ : ∃ k', k = k' + 1 := ⟨k - 1, by omega⟩
    have hR := unhide HR
    rw [partN] at hR
    have hl0 := (unhide HL0).len
    have hl1 := (unhide HL1).len
    by_cases hlt : nx < u
    · rw [if_pos hlt] at hR
      have FREE : ∀ (hno : ¬ us.head?.map Prod.fst = some nx) , True := fun _ => trivial
      by_cases hus : us.head?.map Prod.fst = some nx
      · rw [if_pos hus] at hR
        have HRR := hide hR
        clear hR HR
        obtain ⟨⟨t, c⟩, r, rfl⟩ : ∃ x r, us = x :: r := by cases us with
          | nil => simp at hus
          | cons x r => exact ⟨x, r, rfl⟩
        have ht : t = nx := by simpa using hus
        subst ht
        obtain ⟨b0, o0, rfl, hb0, l0⟩ := (unhide HL0).opens kb hl0 (by simp at hl0; omega)
        obtain ⟨k0, k1⟩ := l0.block (j := 0) (by simp) rfl
        have hfit := fit_parts (unhide HF0 (t, c) (by simp))
        simp only at hfit
        have hcp := pw_pos hfit.1
        have hcu := hfit.2.2.2
        have hw : IntKind.i64.wrap (t + c) = t + c := wrapi (by omega) (by omega)
        have hs : t + c ≤ u := by omega
        have hs0 : 0 ≤ t + c := by omega
        have hnn : (0 : Int) < (n : Int) := by simp at hl0; omega
        have htt : (t == t) = true := by simp
        have hc1 : (1 : Int) ≤ (c0 : Int) := by have := (unhide HL0).fits; omega
        have hn1 : (1 : Int) ≤ (n : Int) := by omega
        have HF0' := hide (fun x hx => unhide HF0 x (List.mem_cons_of_mem _ hx))
        have HRR' : Hid (partN u k (t + c) r fs = R) := unhide HRR
        rw [show o0 + 0 * 2 = o0 by omega] at k0 k1
        by_cases hcc : c0 = 1
        · have HT := hide (tail_isl1 (unhide HL0) hcc)
          subst hcc
          clear hus hl0 hl1 l0 hfit HL0 HF0 HRR
          go_wp2_with fail
          go_roundw
          case rel => exact ⟨k, t + c, _, a1, n - 1, m, _, c1, r, fs, rfl, rfl, rfl, hs0, hs, by omega, hm, by omega, HT, HL1, HF0', HF1, HRR', HX⟩
          case measure => simp [lenOf]; omega
        · have HT := hide (tail_isl (unhide HL0) hcc)
          clear hus hl0 hl1 l0 hfit HL0 HF0 HRR
          go_wp2_with fail
          go_roundw
          case rel => exact ⟨k, t + c, _, a1, n - 1, m, _, c1, r, fs, rfl, rfl, rfl, hs0, hs, by omega, hm, by omega, HT, HL1, HF0', HF1, HRR', HX⟩
          case measure => simp [lenOf]; omega
      · rw [if_neg hus] at hR
        cases us with
        | nil =>
          have hnn : ¬ (0 : Int) < (n : Int) := by simp at hl0; omega
          clear hus
          by_cases hfs : fs.head?.map Prod.fst = some nx
          · rw [if_pos hfs] at hR
            have HRR := hide hR
            clear hR HR
            obtain ⟨⟨t, c⟩, r, rfl⟩ : ∃ x r, fs = x :: r := by cases fs with
              | nil => simp at hfs
              | cons x r => exact ⟨x, r, rfl⟩
            have ht : t = nx := by simpa using hfs
            subst ht
            obtain ⟨b1, o1, rfl, hb1, l1⟩ := (unhide HL1).opens kb hl1 (by simp at hl1; omega)
            obtain ⟨k0, k1⟩ := l1.block (j := 0) (by simp) rfl
            have hfit := fit_parts (unhide HF1 (t, c) (by simp))
            simp only at hfit
            have hcp := pw_pos hfit.1
            have hcu := hfit.2.2.2
            have hw : IntKind.i64.wrap (t + c) = t + c := wrapi (by omega) (by omega)
            have hs : t + c ≤ u := by omega
            have hs0 : 0 ≤ t + c := by omega
            have hmm : (0 : Int) < (m : Int) := by simp at hl1; omega
            have htt : (t == t) = true := by simp
            have hc1 : (1 : Int) ≤ (c1 : Int) := by have := (unhide HL1).fits; omega
            have hm1 : (1 : Int) ≤ (m : Int) := by omega
            have HF1' := hide (fun x hx => unhide HF1 x (List.mem_cons_of_mem _ hx))
            have HRR' : Hid (partN u k (t + c) [] r = R) := unhide HRR
            rw [show o1 + 0 * 2 = o1 by omega] at k0 k1
            by_cases hcc : c1 = 1
            · have HT := hide (tail_isl1 (unhide HL1) hcc)
              subst hcc
              clear hfs hl0 hl1 l1 hfit HL1 HF1 HRR
              go_wp2_with fail
              go_roundw
              case rel => exact ⟨k, t + c, a0, _, n, m - 1, c0, _, [], r, rfl, rfl, rfl, hs0, hs, hn, by omega, by omega, HL0, HT, HF0, HF1', HRR', HX⟩
              case measure => simp [lenOf]; omega
            · have HT := hide (tail_isl (unhide HL1) hcc)
              clear hfs hl0 hl1 l1 hfit HL1 HF1 HRR
              go_wp2_with fail
              go_roundw
              case rel => exact ⟨k, t + c, a0, _, n, m - 1, c0, _, [], r, rfl, rfl, rfl, hs0, hs, hn, by omega, by omega, HL0, HT, HF0, HF1', HRR', HX⟩
              case measure => simp [lenOf]; omega
          · rw [if_neg hfs] at hR
            have HRR := hide hR
            clear hR HR
            cases fs with
            | nil =>
              have hmm : ¬ (0 : Int) < (m : Int) := by simp at hl1; omega
              clear hfs hl0 hl1 HF1 HL1
              go_wp2_with fail
              go_ret
              exact ⟨by rw [← unhide HRR] <;> rfl, unhide HX⟩
            | cons x r =>
              obtain ⟨t, c⟩ := x
              obtain ⟨b1, o1, rfl, hb1, l1⟩ := (unhide HL1).opens kb hl1 (by simp at hl1; omega)
              obtain ⟨k0, k1⟩ := l1.block (j := 0) (by simp) rfl
              have ht : (t == nx) = false := by simpa using hfs
              have ht2 : ¬ t = nx := by simpa using hfs
              have hmm : (0 : Int) < (m : Int) := by simp at hl1; omega
              rw [show o1 + 0 * 2 = o1 by omega] at k0 k1
              clear hfs hl0 hl1 l1 HF1 HL1
              go_wp2_with fail
              go_ret
              exact ⟨by rw [← unhide HRR] <;> rfl, unhide HX⟩
        | cons y q =>
          obtain ⟨t0, d0⟩ := y
          obtain ⟨b0, o0, rfl, hb0, l0⟩ := (unhide HL0).opens kb hl0 (by simp at hl0; omega)
          obtain ⟨j0, j1⟩ := l0.block (j := 0) (by simp) rfl
          have hy : (t0 == nx) = false := by simpa using hus
          have hy2 : ¬ t0 = nx := by simpa using hus
          have hnn : (0 : Int) < (n : Int) := by simp at hl0; omega
          rw [show o0 + 0 * 2 = o0 by omega] at j0 j1
          clear hus l0
          by_cases hfs : fs.head?.map Prod.fst = some nx
          · rw [if_pos hfs] at hR
            have HRR := hide hR
            clear hR HR
            obtain ⟨⟨t, c⟩, r, rfl⟩ : ∃ x r, fs = x :: r := by cases fs with
              | nil => simp at hfs
              | cons x r => exact ⟨x, r, rfl⟩
            have ht : t = nx := by simpa using hfs
            subst ht
            obtain ⟨b1, o1, rfl, hb1, l1⟩ := (unhide HL1).opens kb hl1 (by simp at hl1; omega)
            obtain ⟨k0, k1⟩ := l1.block (j := 0) (by simp) rfl
            have hfit := fit_parts (unhide HF1 (t, c) (by simp))
            simp only at hfit
            have hcp := pw_pos hfit.1
            have hcu := hfit.2.2.2
            have hw : IntKind.i64.wrap (t + c) = t + c := wrapi (by omega) (by omega)
            have hs : t + c ≤ u := by omega
            have hs0 : 0 ≤ t + c := by omega
            have hmm : (0 : Int) < (m : Int) := by simp at hl1; omega
            have htt : (t == t) = true := by simp
            have hc1 : (1 : Int) ≤ (c1 : Int) := by have := (unhide HL1).fits; omega
            have hm1 : (1 : Int) ≤ (m : Int) := by omega
            have HF1' := hide (fun x hx => unhide HF1 x (List.mem_cons_of_mem _ hx))
            have HRR' : Hid (partN u k (t + c) ((t0, d0) :: q) r = R) := unhide HRR
            rw [show o1 + 0 * 2 = o1 by omega] at k0 k1
            by_cases hcc : c1 = 1
            · have HT := hide (tail_isl1 (unhide HL1) hcc)
              subst hcc
              clear hfs hl0 hl1 l1 hfit HL1 HF1 HRR
              go_wp2_with fail
              go_roundw
              case rel => exact ⟨k, t + c, some ⟨b0, o0, none⟩, _, n, m - 1, c0, _, ((t0, d0) :: q), r, rfl, rfl, rfl, hs0, hs, hn, by omega, by omega, HL0, HT, HF0, HF1', HRR', HX⟩
              case measure => simp [lenOf]; omega
            · have HT := hide (tail_isl (unhide HL1) hcc)
              clear hfs hl0 hl1 l1 hfit HL1 HF1 HRR
              go_wp2_with fail
              go_roundw
              case rel => exact ⟨k, t + c, some ⟨b0, o0, none⟩, _, n, m - 1, c0, _, ((t0, d0) :: q), r, rfl, rfl, rfl, hs0, hs, hn, by omega, by omega, HL0, HT, HF0, HF1', HRR', HX⟩
              case measure => simp [lenOf]; omega
          · rw [if_neg hfs] at hR
            have HRR := hide hR
            clear hR HR
            cases fs with
            | nil =>
              have hmm : ¬ (0 : Int) < (m : Int) := by simp at hl1; omega
              clear hfs hl0 hl1 HF1 HL1
              go_wp2_with fail
              go_ret
              exact ⟨by rw [← unhide HRR] <;> rfl, unhide HX⟩
            | cons x r =>
              obtain ⟨t, c⟩ := x
              obtain ⟨b1, o1, rfl, hb1, l1⟩ := (unhide HL1).opens kb hl1 (by simp at hl1; omega)
              obtain ⟨k0, k1⟩ := l1.block (j := 0) (by simp) rfl
              have ht : (t == nx) = false := by simpa using hfs
              have ht2 : ¬ t = nx := by simpa using hfs
              have hmm : (0 : Int) < (m : Int) := by simp at hl1; omega
              rw [show o1 + 0 * 2 = o1 by omega] at k0 k1
              clear hfs hl0 hl1 l1 HF1 HL1
              go_wp2_with fail
              go_ret
              exact ⟨by rw [← unhide HRR] <;> rfl, unhide HX⟩
    · rw [if_neg hlt] at hR
      cases us with
      | nil =>
        cases fs with
        | nil =>
          have h0 : n = 0 := by simp at hl0; omega
          have h1 : m = 0 := by simp at hl1; omega
          subst h0 h1
          have HRR : Hid (true = R) := hR
          clear hR HR hl0 hl1 HL0 HL1 HF0 HF1
          go_wp2_with fail
          go_ret
          exact ⟨by rw [← unhide HRR] <;> rfl, unhide HX⟩
        | cons y q =>
          have h0 : n = 0 := by simp at hl0; omega
          have h1 : ((m : Int) == 0) = false := by simp at hl1 ⊢; omega
          have h2 : ¬ (m : Int) = 0 := by simp at hl1 ⊢; omega
          subst h0
          have HRR : Hid (false = R) := hR
          clear hR HR hl0 hl1 HL0 HL1 HF0 HF1
          go_wp2_with fail
          go_ret
          exact ⟨by rw [← unhide HRR] <;> rfl, unhide HX⟩
      | cons y q =>
        have h1 : ((n : Int) == 0) = false := by simp at hl0 ⊢; omega
        have h2 : ¬ (n : Int) = 0 := by simp at hl0 ⊢; omega
        have HRR : Hid (false = R) := hR
        clear hR HR hl0 hl1 HL0 HL1 HF0 HF1
        go_wp2_with fail
        go_ret
        exact ⟨by rw [← unhide HRR] <;> rfl, unhide HX⟩

end Go.Proofs.Ytomhfnjnmhdpkaa
