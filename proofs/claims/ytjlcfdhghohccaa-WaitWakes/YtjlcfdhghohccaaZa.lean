/-
  taskmilllaw.woken, and the functions that taskmilllaw.WaitWakes hands over.
-/
import Derived.Test.YtjlcfdhghohccaaYa
import Derived.Test.YtjlcfdhghohccaaWc
namespace Go.Proofs.Ytjlcfdhghohccaa
open Go.RowKit

set_option maxRecDepth 100000 in
set_option maxHeartbeats 4000000 in
theorem woken_mid (w : World) (b off m c : Nat) (T : List Int) (h : IsInts w (.slice (some ⟨b, off, none⟩) m c) T) (h0 : 0 < m) (k : Nat) (hk : k < m) :
    Calls Try.prog 25 #[.slice (some ⟨b, off, none⟩) m c, .int .i64 (k : Int)] w fun e w' => ∃ a1 c1 a2 c2, e = .returned (.tuple #[.slice a1 (k) c1, .slice a2 (m - k) c2]) ∧ IsInts w' (.slice a1 (k) c1) (T.take (k)) ∧ IsInts w' (.slice a2 (m - k) c2) (T.drop (k)) ∧ Below w.heap.size w w' := by
  have hlen := h.len
  have hfit := h.fits
  have HT := hide (h.take (p := k) (by omega))
  have HB : Hid (∀ nq, Below w.heap.size w (w.drewN nq)) := fun nq => below_drewN (Below.refl _ _) _
  have hck : ¬ c = k := by omega
  have HD0 := hide (h.drop (p := k) (by omega))
  have x0 : ¬ (k : Int) < 0 := by omega
  have x1 : ¬ (m : Int) < (k : Int) := by omega
  have i0 : (0 : Int) ≤ (k : Int) := by omega
  have i1 : (k : Int) ≤ (m : Int) := by omega
  have i2 : (k : Int) ≤ (c : Int) := by omega
  have i3 : (m : Int) ≤ (c : Int) := by omega
  clear h hlen
  go_enter Try.func25, Try.ntmps25
  go_wp2_with fail
  go_quiet (fail)
  go_wp2_with fail
  exact bodyPost_ret (v := .tuple #[.slice (some ⟨b, off, none⟩) k c, .slice (some ⟨b, off + k, none⟩) (m - k) (c - k)]) (by simp [results, Try.results25, go_sem]) rfl ⟨_, _, _, _, rfl, (unhide HT).below (unhide HB _), (unhide HD0).below (unhide HB _), unhide HB _⟩

set_option maxRecDepth 100000 in
set_option maxHeartbeats 4000000 in
theorem woken_low (w : World) (b off m c : Nat) (T : List Int) (h : IsInts w (.slice (some ⟨b, off, none⟩) m c) T) (h0 : 0 < m) (n : Int) (hn : n < 0) :
    Calls Try.prog 25 #[.slice (some ⟨b, off, none⟩) m c, .int .i64 n] w fun e w' => ∃ a1 c1 a2 c2, e = .returned (.tuple #[.slice a1 (0) c1, .slice a2 (m) c2]) ∧ IsInts w' (.slice a1 (0) c1) (T.take (0)) ∧ IsInts w' (.slice a2 (m) c2) (T.drop (0)) ∧ Below w.heap.size w w' := by
  have hlen := h.len
  have hfit := h.fits
  have HT := hide (h.take (p := 0) (by omega))
  have HB : Hid (∀ nq, Below w.heap.size w (w.drewN nq)) := fun nq => below_drewN (Below.refl _ _) _
  have hck : ¬ c = 0 := by omega
  have HD0 := hide h
  have x1 : ¬ (m : Int) < 0 := by omega
  have i0 : (0 : Int) ≤ (m : Int) := by omega
  have i3 : (m : Int) ≤ (c : Int) := by omega
  have i4 : (0 : Int) ≤ (c : Int) := by omega
  clear h hlen
  go_enter Try.func25, Try.ntmps25
  go_wp2_with fail
  go_quiet (fail)
  go_wp2_with fail
  exact bodyPost_ret (v := .tuple #[.slice (some ⟨b, off, none⟩) 0 c, .slice (some ⟨b, off, none⟩) (m) c]) (by simp [results, Try.results25, go_sem]) rfl ⟨_, _, _, _, rfl, (unhide HT).below (unhide HB _), (unhide HD0).below (unhide HB _), unhide HB _⟩

set_option maxRecDepth 100000 in
set_option maxHeartbeats 4000000 in
theorem woken_high (w : World) (b off m c : Nat) (T : List Int) (h : IsInts w (.slice (some ⟨b, off, none⟩) m c) T) (h0 : 0 < m) (n : Int) (hn : (m : Int) < n) :
    Calls Try.prog 25 #[.slice (some ⟨b, off, none⟩) m c, .int .i64 n] w fun e w' => ∃ a1 c1 a2 c2, e = .returned (.tuple #[.slice a1 (m) c1, .slice a2 (0) c2]) ∧ IsInts w' (.slice a1 (m) c1) (T.take (m)) ∧ IsInts w' (.slice a2 (0) c2) (T.drop (m)) ∧ Below w.heap.size w w' := by
  have hlen := h.len
  have hfit := h.fits
  have HT := hide (h.take (p := m) (by omega))
  have HB : Hid (∀ nq, Below w.heap.size w (w.drewN nq)) := fun nq => below_drewN (Below.refl _ _) _
  have HD0 : Hid (∀ A c', IsInts w (.slice (some A) 0 c') (T.drop m)) := fun A c' => (IsInts.none_left (ad := A) (c := c') (by omega))
  have x0 : ¬ n < 0 := by omega
  have i0 : (0 : Int) ≤ (m : Int) := by omega
  have i1 : (m : Int) ≤ (m : Int) := by omega
  have i3 : (m : Int) ≤ (c : Int) := by omega
  clear h hlen
  by_cases hc : c = m
  · obtain rfl := hc
    go_enter Try.func25, Try.ntmps25
    go_wp2_with fail
    go_quiet (fail)
    go_wp2_with fail
    exact bodyPost_ret (v := .tuple #[.slice (some ⟨b, off, none⟩) c c, .slice (some ⟨b, off, none⟩) (0) 0]) (by simp [results, Try.results25, go_sem]) rfl ⟨_, _, _, _, rfl, (unhide HT).below (unhide HB _), (unhide HD0 _ _).below (unhide HB _), unhide HB _⟩
  · go_enter Try.func25, Try.ntmps25
    go_wp2_with fail
    go_quiet (fail)
    go_wp2_with fail
    exact bodyPost_ret (v := .tuple #[.slice (some ⟨b, off, none⟩) m c, .slice (some ⟨b, off + m, none⟩) (0) (c - m)]) (by simp [results, Try.results25, go_sem]) rfl ⟨_, _, _, _, rfl, (unhide HT).below (unhide HB _), (unhide HD0 _ _).below (unhide HB _), unhide HB _⟩

set_option maxRecDepth 100000 in
set_option maxHeartbeats 4000000 in
theorem woken_eq (w : World) (b off m c : Nat) (T : List Int) (h : IsInts w (.slice (some ⟨b, off, none⟩) m c) T) (h0 : 0 < m)  :
    Calls Try.prog 25 #[.slice (some ⟨b, off, none⟩) m c, .int .i64 (m : Int)] w fun e w' => ∃ a1 c1 a2 c2, e = .returned (.tuple #[.slice a1 (m) c1, .slice a2 (0) c2]) ∧ IsInts w' (.slice a1 (m) c1) (T.take (m)) ∧ IsInts w' (.slice a2 (0) c2) (T.drop (m)) ∧ Below w.heap.size w w' := by
  have hlen := h.len
  have hfit := h.fits
  have HT := hide (h.take (p := m) (by omega))
  have HB : Hid (∀ nq, Below w.heap.size w (w.drewN nq)) := fun nq => below_drewN (Below.refl _ _) _
  have HD0 : Hid (∀ A c', IsInts w (.slice (some A) 0 c') (T.drop m)) := fun A c' => (IsInts.none_left (ad := A) (c := c') (by omega))
  have x0 : ¬ (m : Int) < 0 := by omega
  have i0 : (0 : Int) ≤ (m : Int) := by omega
  have i1 : (m : Int) ≤ (m : Int) := by omega
  have i3 : (m : Int) ≤ (c : Int) := by omega
  clear h hlen
  by_cases hc : c = m
  · obtain rfl := hc
    go_enter Try.func25, Try.ntmps25
    go_wp2_with fail
    go_quiet (fail)
    go_wp2_with fail
    exact bodyPost_ret (v := .tuple #[.slice (some ⟨b, off, none⟩) c c, .slice (some ⟨b, off, none⟩) (0) 0]) (by simp [results, Try.results25, go_sem]) rfl ⟨_, _, _, _, rfl, (unhide HT).below (unhide HB _), (unhide HD0 _ _).below (unhide HB _), unhide HB _⟩
  · go_enter Try.func25, Try.ntmps25
    go_wp2_with fail
    go_quiet (fail)
    go_wp2_with fail
    exact bodyPost_ret (v := .tuple #[.slice (some ⟨b, off, none⟩) m c, .slice (some ⟨b, off + m, none⟩) (0) (c - m)]) (by simp [results, Try.results25, go_sem]) rfl ⟨_, _, _, _, rfl, (unhide HT).below (unhide HB _), (unhide HD0 _ _).below (unhide HB _), unhide HB _⟩

set_option maxRecDepth 100000 in
set_option maxHeartbeats 4000000 in
theorem woken_none (w : World) (a : Option Addr) (c : Nat) (n : Int) (h : IsInts w (.slice a 0 c) []) :
    Calls Try.prog 25 #[.slice a 0 c, .int .i64 n] w fun e w' => ∃ a1 c1 a2 c2, e = .returned (.tuple #[.slice a1 0 c1, .slice a2 0 c2]) ∧ IsInts w' (.slice a1 0 c1) [] ∧ IsInts w' (.slice a2 0 c2) [] ∧ Below w.heap.size w w' := by
  have HB : Hid (∀ nq, Below w.heap.size w (w.drewN nq)) := fun nq => below_drewN (Below.refl _ _) _
  have HV := hide h
  have hz : ∀ x : Int, x = 0 ∨ x < 0 ∨ 0 < x := fun x => by omega
  cases a with
  | none =>
    have e : c = 0 := by
      obtain ⟨⟨_, ⟨h1, _⟩ | ⟨ad, cap, h1, _⟩⟩, _⟩ := h
      · cases h1; rfl
      · cases h1
    subst e
    clear h
    rcases hz n with rfl | hn | hn
    · go_enter Try.func25, Try.ntmps25
      go_wp2_with fail
      go_quiet (fail)
      go_wp2_with fail
      exact bodyPost_ret (v := .tuple #[.slice none 0 0, .slice none 0 0]) (by simp [results, Try.results25, go_sem]) rfl ⟨_, _, _, _, rfl, (unhide HV).below (unhide HB _), (unhide HV).below (unhide HB _), unhide HB _⟩
    · go_enter Try.func25, Try.ntmps25
      go_wp2_with fail
      go_quiet (fail)
      go_wp2_with fail
      exact bodyPost_ret (v := .tuple #[.slice none 0 0, .slice none 0 0]) (by simp [results, Try.results25, go_sem]) rfl ⟨_, _, _, _, rfl, (unhide HV).below (unhide HB _), (unhide HV).below (unhide HB _), unhide HB _⟩
    · have x0 : ¬ n < 0 := by omega
      go_enter Try.func25, Try.ntmps25
      go_wp2_with fail
      go_quiet (fail)
      go_wp2_with fail
      exact bodyPost_ret (v := .tuple #[.slice none 0 0, .slice none 0 0]) (by simp [results, Try.results25, go_sem]) rfl ⟨_, _, _, _, rfl, (unhide HV).below (unhide HB _), (unhide HV).below (unhide HB _), unhide HB _⟩
  | some ad =>
    clear h
    have i4 : (0 : Int) ≤ (c : Int) := by omega
    obtain ⟨b, off, pr⟩ := ad
    rcases hz n with rfl | hn | hn
    · go_enter Try.func25, Try.ntmps25
      go_wp2_with fail
      go_quiet (fail)
      go_wp2_with fail
      exact bodyPost_ret (v := .tuple #[.slice (some ⟨b, off, pr⟩) 0 c, .slice (some ⟨b, off, pr⟩) 0 c]) (by simp [results, Try.results25, go_sem]) rfl ⟨_, _, _, _, rfl, (unhide HV).below (unhide HB _), (unhide HV).below (unhide HB _), unhide HB _⟩
    · go_enter Try.func25, Try.ntmps25
      go_wp2_with fail
      go_quiet (fail)
      go_wp2_with fail
      exact bodyPost_ret (v := .tuple #[.slice (some ⟨b, off, pr⟩) 0 c, .slice (some ⟨b, off, pr⟩) 0 c]) (by simp [results, Try.results25, go_sem]) rfl ⟨_, _, _, _, rfl, (unhide HV).below (unhide HB _), (unhide HV).below (unhide HB _), unhide HB _⟩
    · have x0 : ¬ n < 0 := by omega
      go_enter Try.func25, Try.ntmps25
      go_wp2_with fail
      go_quiet (fail)
      go_wp2_with fail
      exact bodyPost_ret (v := .tuple #[.slice (some ⟨b, off, pr⟩) 0 c, .slice (some ⟨b, off, pr⟩) 0 c]) (by simp [results, Try.results25, go_sem]) rfl ⟨_, _, _, _, rfl, (unhide HV).below (unhide HB _), (unhide HV).below (unhide HB _), unhide HB _⟩

/-- woken, whatever it is given. -/
theorem woken_any (w : World) (a : Option Addr) (m c : Nat) (n : Int) (T : List Int) (h : IsInts w (.slice a m c) T) :
    Calls Try.prog 25 #[.slice a m c, .int .i64 n] w fun e w' => ∃ a1 c1 a2 c2, e = .returned (.tuple #[.slice a1 (takeN n m) c1, .slice a2 (m - takeN n m) c2]) ∧ IsInts w' (.slice a1 (takeN n m) c1) (T.take (takeN n m)) ∧ IsInts w' (.slice a2 (m - takeN n m) c2) (T.drop (takeN n m)) ∧ Below w.heap.size w w' := by
  have hl := h.len
  by_cases h0 : 0 < m
  · obtain ⟨b, off, c', e, hb, hc⟩ := h.at (by omega)
    rw [hl] at e
    cases e
    by_cases h1 : n < 0
    · rw [show takeN n m = 0 by unfold takeN; omega]
      exact woken_low w b off m c T h h0 n h1
    by_cases h2 : (m : Int) < n
    · rw [show takeN n m = m by unfold takeN; omega, Nat.sub_self]
      exact woken_high w b off m c T h h0 n h2
    by_cases h3 : n = m
    · subst h3
      rw [show takeN (m : Int) m = m by unfold takeN; omega, Nat.sub_self]
      exact woken_eq w b off m c T h h0
    obtain ⟨k, rfl⟩ : ∃ k : Nat, n = (k : Int) := ⟨n.toNat, by omega⟩
    rw [show takeN (k : Int) m = k by unfold takeN; omega]
    exact woken_mid w b off m c T h h0 k (by omega)
  · obtain rfl : m = 0 := by omega
    obtain rfl : T = [] := List.eq_nil_of_length_eq_zero hl
    rw [show takeN n 0 = 0 by have := takeN_le n 0; omega]
    exact woken_none w a c n h

end Go.Proofs.Ytjlcfdhghohccaa
