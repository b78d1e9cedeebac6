/-
  taskmilllaw.own, ownTrace; taskmillref.Ints, Lists where they are the same.
-/
import Derived.Test.YtbnmeeabpjmcoaaCk
namespace Go.Proofs.Ytbnmeeabpjmcoaa
open Go.RowKit

set_option maxRecDepth 100000 in
set_option maxHeartbeats 400000 in
theorem own_any (w : World) (v : Value) (xs : List Int) (hr : IsL KI w v xs) (hn : xs.length * 8 ≤ 140737488355328) :
    Calls Try.prog 11 #[v] w fun e w' => ∃ a' c', e = .returned (.slice a' xs.length c') ∧ Own KI w.heap.size w' (.slice a' xs.length c') xs ∧ Below w.heap.size w w' := by
  obtain ⟨a, c, rfl⟩ := hr.form
  have HR := hide hr
  clear hr
  go_enter Try.func11, Try.ntmps11
  go_wp2_with (at_builtin; refine wpList_append ki rfl (.const (.slice none 0 0)) (.tmp 3) rfl w.heap.size _ [] rfl (own_nil _ _) _ xs rfl (unhide HR) xs.length (by simp) hn (Nat.le_refl _) ?_; intro a' c' w1 ho hg; have HO := hide (own_nil_append ho); have HB := hide ((Below.refl w.heap.size w).grown hg (Nat.le_refl _) (fun k hk => by cases hk)); clear ho hg)
  go_ret
  exact ⟨a', c', rfl, unhide HO, unhide HB⟩

set_option maxRecDepth 100000 in
set_option maxHeartbeats 400000 in
theorem ownTrace_any (w : World) (v : Value) (xs : List Ev) (hr : IsL KE w v xs) (hn : xs.length * 32 ≤ 140737488355328) :
    Calls Try.prog 10 #[v] w fun e w' => ∃ a' c', e = .returned (.slice a' xs.length c') ∧ Own KE w.heap.size w' (.slice a' xs.length c') xs ∧ Below w.heap.size w w' := by
  obtain ⟨a, c, rfl⟩ := hr.form
  have HR := hide hr
  clear hr
  go_enter Try.func10, Try.ntmps10
  go_wp2_with (at_builtin; refine wpList_append ke rfl (.const (.slice none 0 0)) (.tmp 3) rfl w.heap.size _ [] rfl (own_nil _ _) _ xs rfl (unhide HR) xs.length (by simp) hn (Nat.le_refl _) ?_; intro a' c' w1 ho hg; have HO := hide (own_nil_append ho); have HB := hide ((Below.refl w.heap.size w).grown hg (Nat.le_refl _) (fun k hk => by cases hk)); clear ho hg)
  go_ret
  exact ⟨a', c', rfl, unhide HO, unhide HB⟩

set_option maxRecDepth 100000 in
set_option maxHeartbeats 1000000 in
theorem ints_same (w : World) (v v' : Value) (xs : List Int) (h : IsL KI w v xs) (h' : IsL KI w v' xs) (hn : xs.length ≤ maxLen) :
    Calls Try.prog 17 #[v, v'] w fun e w' => e = .returned (.bool true) ∧ Below w.heap.size w w' := by
  obtain ⟨a0, c0, rfl⟩ := h.form
  obtain ⟨a1, c1, rfl⟩ := h'.form
  have H0 := hide (h.opens ki rfl); have H1 := hide (h'.opens ki rfl)
  obtain ⟨n, en⟩ : ∃ n, xs.length = n := ⟨_, rfl⟩
  rw [en] at H0 H1 hn ⊢
  have HN := hide en
  unfold maxLen at hn
  clear h h' en
  go_enter Try.func17, Try.ntmps17
  go_wp2
  go_loopw [5] (fun i wr => ∃ j : Nat, j ≤ n ∧ i = .int .i64 j ∧ Below w.heap.size w wr) (fun i _ => n - (intOf i).toNat)
  case atStart => exact ⟨0, Nat.zero_le _, rfl, Below.refl _ _⟩
  case round =>
    obtain ⟨j, hj, rfl, hnx⟩ := hrel
    by_cases hlt : j < n
    · obtain ⟨b0, o0, rfl, hb0, l0⟩ := unhide H0 (by omega)
      obtain ⟨b1, o1, rfl, hb1, l1⟩ := unhide H1 (by omega)
      have k0 := (l0.below hnx hb0).ints (j := j) (by rw [unhide HN]; exact hlt)
      have k1 := (l1.below hnx hb1).ints (j := j) (by rw [unhide HN]; exact hlt)
      obtain ⟨x, hx⟩ : ∃ x, xs.getD j 0 = x := ⟨_, rfl⟩
      rw [hx] at k0 k1
      have i0 : (0 : Int) ≤ (j : Int) := by omega
      have i1 : (j : Int) < (n : Int) := by omega
      have x1 : (x == x) = true := by simp
      have HX := hide hnx
      clear hnx hx H0 H1 l0 l1
      go_wp2
      go_quiet (fail)
      go_wp2
      go_roundw
      case rel => exact ⟨j + 1, by omega, by go_num, below_drewN (unhide HX) _⟩
      case measure => simp [intOf]; omega
    · have HX := hide hnx
      clear hnx
      go_wp2
      go_ret
      exact ⟨rfl, unhide HX⟩

set_option maxRecDepth 100000 in
set_option maxHeartbeats 2000000 in
theorem lists_same (w : World) (lo lo' G G' n m : Nat) (f : Nat → List Int) (h : Rows2 lo w G n f m n) (h' : Rows2 lo' w G' n f m n) (hn : n ≤ 2000) (hf : ∀ i, i < n → (f i).length ≤ 1000) :
    Calls Try.prog 21 #[.slice (some ⟨G, 0, none⟩) n n, .slice (some ⟨G', 0, none⟩) n n] w fun e w' => e = .returned (.bool true) ∧ Below w.heap.size w w' := by
  have HR := hide h; have HR' := hide h'; have HF := hide hf
  clear h h' hf
  go_enter Try.func21, Try.ntmps21
  go_wp2_with fail
  go_loopw [5] (fun i wr => ∃ j : Nat, j ≤ n ∧ i = .int .i64 j ∧ Hid (Below w.heap.size w wr)) (fun i _ => n - (intOf i).toNat)
  case atStart => exact ⟨0, Nat.zero_le _, rfl, hide (Below.refl _ _)⟩
  case round =>
    obtain ⟨j, hj, rfl, HX⟩ := hrel
    by_cases hlt : j < n
    · obtain ⟨b, c, h1, -, -, -, h4⟩ := ((unhide HR).below (unhide HX)).row j hlt
      obtain ⟨b', c', k1, -, -, -, k4⟩ := ((unhide HR').below (unhide HX)).row j hlt
      have i0 : (0 : Int) ≤ (j : Int) := by omega
      have i1 : (j : Int) < (n : Int) := by omega
      have hw1 : IntKind.i64.wrap ((j : Int) + 1) = (j : Int) + 1 := wrapi (by omega) (by omega)
      have HIN : Hid (∀ W, Below wr.heap.size wr W → Calls Try.prog 17 #[.slice (some ⟨b, 0, none⟩) m c, .slice (some ⟨b', 0, none⟩) m c'] W fun e w' => e = .returned (.bool true) ∧ Below W.heap.size W w') := fun W hW => ints_same W _ _ (f j) (h4.below hW) (k4.below hW) (by have := unhide HF j hlt; unfold maxLen; omega)
      have HS0 : Hid (wr.drew.cell? ⟨G, j, none⟩ = some (.slice (some ⟨b, 0, none⟩) m c) ∧ wr.drew.cell? ⟨G', j, none⟩ = some (.slice (some ⟨b', 0, none⟩) m c')) := ⟨cell_of h1 (drew_at _ _), cell_of k1 (drew_at _ _)⟩
      have HSS : Hid (∀ W, Below wr.heap.size wr W → W.cell? ⟨G, j, none⟩ = some (.slice (some ⟨b, 0, none⟩) m c) ∧ W.cell? ⟨G', j, none⟩ = some (.slice (some ⟨b', 0, none⟩) m c')) := fun W hW => ⟨cell_of h1 (hW.block G ((unhide HR).below (unhide HX)).lt), cell_of k1 (hW.block G' ((unhide HR').below (unhide HX)).lt)⟩
      clear h1 h4 k1 k4
      go_upto_region 6 with fail
      go_region_held3 (fun W' => W'.cell? ⟨G, j, none⟩ = some (.slice (some ⟨b, 0, none⟩) m c) ∧ W'.cell? ⟨G', j, none⟩ = some (.slice (some ⟨b', 0, none⟩) m c'))
        (first | exact unhide HS0 | exact unhide HS1)
        (first
          | (go_at_call 17; (with_reducible refine Calls.mono (unhide HIN _ (Below.refl _ _).drew) ?_); rintro e w1 ⟨rfl, hb1⟩; have hb2 := Below.next (Below.refl wr.heap.size wr).drew hb1 (Nat.le_refl _); have HS1 := hide (unhide HSS w1 hb2); have HX1 := hide (Below.next (unhide HX) hb2 (Nat.le_refl _)); clear hb1 hb2))
      go_wp2_with fail
      go_roundw
      case rel => exact ⟨j + 1, by omega, by go_num, HX1⟩
      case measure => simp [intOf]; omega
    · obtain rfl : j = n := by omega
      have i1 : ¬ (j : Int) < (j : Int) := by omega
      go_wp2_with fail
      go_ret
      exact ⟨rfl, unhide HX⟩
end Go.Proofs.Ytbnmeeabpjmcoaa
