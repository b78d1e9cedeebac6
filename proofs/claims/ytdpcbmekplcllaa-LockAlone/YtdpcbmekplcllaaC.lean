/-
  The functions that copy, compare and search lists.
-/
import Derived.Test.YtdpcbmekplcllaaA
namespace Go.Proofs.Ytdpcbmekplcllaa
open Go.RowKit


set_option maxRecDepth 100000 in
set_option maxHeartbeats 400000 in
theorem ownPosts_any (w : World) (v : Value) (xs : List Po) (hr : IsL KP w v xs) (hn : xs.length * 24 ≤ 140737488355328) :
    Calls Try.prog 18 #[v] w fun e w' => ∃ a' c', e = .returned (.slice a' xs.length c') ∧ Own KP w.heap.size w' (.slice a' xs.length c') xs ∧ Below w.heap.size w w' := by
  obtain ⟨a, c, rfl⟩ := hr.form
  have HR := hide hr
  clear hr
  go_enter Try.func18, Try.ntmps18
  go_wp2_with (at_builtin; refine wpList_append kp rfl (.const (.slice none 0 0)) (.tmp 3) rfl w.heap.size _ [] rfl (own_nil _ _) _ xs rfl (unhide HR) xs.length (by simp) hn (Nat.le_refl _) ?_; intro a' c' w1 ho hg; have HO := hide (own_nil_append ho); have HB := hide ((Below.refl w.heap.size w).grown hg (Nat.le_refl _) (fun k hk => by cases hk)); clear ho hg)
  go_ret
  exact ⟨a', c', rfl, unhide HO, unhide HB⟩

set_option maxRecDepth 100000 in
set_option maxHeartbeats 1000000 in
theorem ints_same (w : World) (v v' : Value) (xs : List Int) (h : IsL KI w v xs) (h' : IsL KI w v' xs) (hn : xs.length ≤ maxLen) :
    Calls Try.prog 22 #[v, v'] w fun e w' => e = .returned (.bool true) ∧ Below w.heap.size w w' := by
  obtain ⟨a0, c0, rfl⟩ := h.form
  obtain ⟨a1, c1, rfl⟩ := h'.form
  have H0 := hide (h.opens ki rfl); have H1 := hide (h'.opens ki rfl)
  obtain ⟨n, en⟩ : ∃ n, xs.length = n := ⟨_, rfl⟩
  rw [en] at H0 H1 hn ⊢
  have HN := hide en
  unfold maxLen at hn
  clear h h' en
  go_enter Try.func22, Try.ntmps22
  go_wp2
  go_loopw [5] (fun i wr => ∃ j : Nat, j ≤ n ∧ i = .int .i64 j ∧ Below w.heap.size w wr) (fun i _ => n - (intOf i).toNat)
  case atStart => exact ⟨0, Nat.zero_le _, rfl, Below.refl _ _⟩
  case round =>
    obtain ⟨j, hj, rfl, hnx⟩ := hrel
    by_cases hlt : j < n
    · obtain ⟨b0, o0, rfl, hb0, l0⟩ := unhide H0 (by omega)
      obtain ⟨b1, o1, rfl, hb1, l1⟩ := unhide H1 (by omega)
      have k0 := (l0.below hnx hb0).ints (j := j) (by rw [unhide HN]; exact hlt)
      have k1 := (l1.below hnx hb1).ints (j := j) (by rw [unhide HN]; exact hlt)
      obtain ⟨x, hx⟩ : ∃ x, xs.getD j 0 = x := ⟨_, rfl⟩
      rw [hx] at k0 k1
      have i0 : (0 : Int) ≤ (j : Int) := by omega
      have i1 : (j : Int) < (n : Int) := by omega
      have x1 : (x == x) = true := by simp
      have HX := hide hnx
      clear hnx hx H0 H1 l0 l1
      go_wp2
      go_quiet (fail)
      go_wp2
      go_roundw
      case rel => exact ⟨j + 1, by omega, by go_num, below_drewN (unhide HX) _⟩
      case measure => simp [intOf]; omega
    · have HX := hide hnx
      clear hnx
      go_wp2
      go_ret
      exact ⟨rfl, unhide HX⟩

set_option maxRecDepth 100000 in
set_option maxHeartbeats 1000000 in
theorem posts_same (w : World) (v v' : Value) (xs : List Po) (h : IsL KP w v xs) (h' : IsL KP w v' xs) (hn : xs.length ≤ maxLen) :
    Calls Try.prog 32 #[v, v'] w fun e w' => e = .returned (.bool true) ∧ Below w.heap.size w w' := by
  obtain ⟨a0, c0, rfl⟩ := h.form
  obtain ⟨a1, c1, rfl⟩ := h'.form
  have H0 := hide (h.opens kp rfl); have H1 := hide (h'.opens kp rfl)
  obtain ⟨n, en⟩ : ∃ n, xs.length = n := ⟨_, rfl⟩
  rw [en] at H0 H1 hn ⊢
  have HN := hide en
  unfold maxLen at hn
  clear h h' en
  go_enter Try.func32, Try.ntmps32
  go_wp2
  go_loopw [5] (fun i wr => ∃ j : Nat, j ≤ n ∧ i = .int .i64 j ∧ Below w.heap.size w wr) (fun i _ => n - (intOf i).toNat)
  case atStart => exact ⟨0, Nat.zero_le _, rfl, Below.refl _ _⟩
  case round =>
    obtain ⟨j, hj, rfl, hnx⟩ := hrel
    by_cases hlt : j < n
    · obtain ⟨b0, o0, rfl, hb0, l0⟩ := unhide H0 (by omega)
      obtain ⟨b1, o1, rfl, hb1, l1⟩ := unhide H1 (by omega)
      obtain ⟨⟨t, c, u⟩, hx⟩ : ∃ x, xs.getD j (0, false, 0) = x := ⟨_, rfl⟩
      obtain ⟨k0, k1, k2⟩ := (l0.below hnx hb0).post (j := j) (by rw [unhide HN]; exact hlt) hx
      obtain ⟨q0, q1, q2⟩ := (l1.below hnx hb1).post (j := j) (by rw [unhide HN]; exact hlt) hx
      have i0 : (0 : Int) ≤ (j : Int) := by omega
      have i1 : (j : Int) < (n : Int) := by omega
      have x1 : (t == t) = true := by simp
      have x2 : (c == c) = true := by simp
      have x3 : (u == u) = true := by simp
      have HX := hide hnx
      clear hnx hx H0 H1 l0 l1
      go_wp2
      go_quiet (fail)
      go_wp2
      go_roundw
      case rel => exact ⟨j + 1, by omega, by go_num, below_drewN (unhide HX) _⟩
      case measure => simp [intOf]; omega
    · have HX := hide hnx
      clear hnx
      go_wp2
      go_ret
      exact ⟨rfl, unhide HX⟩


theorem contains_iff (zs : List Int) (x : Int) : (zs.contains x = true) ↔ ∃ j, j < zs.length ∧ zs.getD j 0 = x := by
  rw [List.contains_iff_mem]
  constructor
  · intro h
    obtain ⟨j, hj, rfl⟩ := List.getElem_of_mem h
    exact ⟨j, hj, by simp [List.getElem?_eq_getElem hj]⟩
  · rintro ⟨j, hj, rfl⟩
    simp [List.getElem?_eq_getElem hj]

set_option maxRecDepth 100000 in
set_option maxHeartbeats 1000000 in
theorem has_any (w : World) (v : Value) (xs : List Int) (x : Int) (h : IsL KI w v xs) (hn : xs.length ≤ maxLen) :
    Calls Try.prog 19 #[v, .int .i64 x] w fun e w' => e = .returned (.bool (xs.contains x)) ∧ Below w.heap.size w w' := by
  obtain ⟨a0, c0, rfl⟩ := h.form
  have H0 := hide (h.opens ki rfl)
  have HR := hide (contains_iff xs x)
  obtain ⟨r, er⟩ : ∃ r, xs.contains x = r := ⟨_, rfl⟩
  rw [er] at HR ⊢
  obtain ⟨n, en⟩ : ∃ n, xs.length = n := ⟨_, rfl⟩
  rw [en] at H0 HR hn ⊢
  have HN := hide en
  unfold maxLen at hn
  clear h en er
  go_enter Try.func19, Try.ntmps19
  go_wp2
  go_loopw [5] (fun i wr => ∃ j : Nat, j ≤ n ∧ i = .int .i64 j ∧ wr = w ∧ ∀ i, i < j → xs.getD i 0 ≠ x) (fun i _ => n - (intOf i).toNat)
  case atStart => exact ⟨0, Nat.zero_le _, rfl, rfl, fun i hi => by omega⟩
  case round =>
    obtain ⟨j, hj, rfl, rfl, hne⟩ := hrel
    have HNE := hide hne
    clear hne
    by_cases hlt : j < n
    · obtain ⟨b0, o0, rfl, hb0, l0⟩ := unhide H0 (by omega)
      have k0 := l0.ints (j := j) (by rw [unhide HN]; exact hlt)
      obtain ⟨z, ez⟩ : ∃ z, xs.getD j 0 = z := ⟨_, rfl⟩
      rw [ez] at k0
      have HZ := hide ez
      have i0 : (0 : Int) ≤ (j : Int) := by omega
      have i1 : (j : Int) < (n : Int) := by omega
      clear ez l0 H0
      by_cases hz : z = x
      · subst hz
        have hz1 : (z == z) = true := by simp
        go_wp2
        go_ret
        refine ⟨?_, Below.refl _ _⟩
        rw [(unhide HR).2 ⟨j, hlt, unhide HZ⟩]
        rfl
      · have hz1 : (z == x) = false := by simpa using hz
        go_wp2
        go_roundw
        case rel => exact ⟨j + 1, by omega, by go_num, by first | rfl | trivial, fun i hi => by
          by_cases e : i = j
          · subst e; rw [unhide HZ]; exact hz
          · exact unhide HNE i (by omega)⟩
        case measure => simp [intOf]; omega
    · go_wp2
      go_ret
      refine ⟨?_, Below.refl _ _⟩
      cases r with
      | false => rfl
      | true =>
        obtain ⟨i, hi, he⟩ := (unhide HR).1 rfl
        exact absurd he (unhide HNE i (by omega))
end Go.Proofs.Ytdpcbmekplcllaa
