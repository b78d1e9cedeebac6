/-
  slices.IndexFunc and slices.ContainsFunc of posts; pipe.isOf, pipe.waits; taskmillref.WaitsAt; pipe.checkPosts.
-/
import Derived.Test.YtdpcbmekplcllaaD
namespace Go.Proofs.Ytdpcbmekplcllaa
open Go.RowKit

def pAt (xs : List Po) (j : Nat) : Po := xs.getD j (0, false, 0)
theorem pAt_mem {xs : List Po} {j : Nat} (h : j < xs.length) : pAt xs j ∈ xs := by
  unfold pAt
  simp [List.getElem?_eq_getElem h]
theorem any_pAt (xs : List Po) (p : Po → Bool) : (xs.any p = true) ↔ ∃ j, j < xs.length ∧ p (pAt xs j) = true := by
  rw [List.any_eq_true]
  constructor
  · rintro ⟨x, hx, hp⟩
    obtain ⟨j, hj, rfl⟩ := List.getElem_of_mem hx
    exact ⟨j, hj, by simpa [pAt, List.getElem?_eq_getElem hj] using hp⟩
  · rintro ⟨j, hj, hp⟩
    exact ⟨_, pAt_mem hj, hp⟩

set_option maxRecDepth 100000 in
set_option maxHeartbeats 1000000 in
theorem indexFunc_any (w : World) (v : Value) (xs : List Po) (h : IsL KP w v xs) (hn : xs.length ≤ maxLen) (k : Nat) (hent : ∀ args w, (callFunc k args).run Try.prog w = .ok (.enter k args) w) (caps : Array Value) (p : Po → Bool)
    (hc : ∀ W x, Below w.heap.size w W → Calls Try.prog k (#[.agg #[.int .i64 x.1, .bool x.2.1, .int .i64 x.2.2]] ++ caps) W fun e w' => e = .returned (.bool (p x)) ∧ Below W.heap.size W w') :
    Calls Try.prog 38 #[v, .func (.func k) #[] caps] w fun e w' => ∃ r : Int, e = .returned (.int .i64 r) ∧ (0 ≤ r ↔ xs.any p = true) ∧ Below w.heap.size w w' := by
  obtain ⟨a0, c0, rfl⟩ := h.form
  have H0 := hide (h.opens kp rfl)
  have HA := hide (any_pAt xs p)
  have HC := hide hc
  obtain ⟨n, en⟩ : ∃ n, xs.length = n := ⟨_, rfl⟩
  rw [en] at H0 HA hn ⊢
  have HN := hide en
  unfold maxLen at hn
  clear h en hc
  go_enter Try.func38, Try.ntmps38
  go_wp2
  go_loopw [8] (fun i wr => ∃ j : Nat, j ≤ n ∧ i = .int .i64 j ∧ Below w.heap.size w wr ∧ ∀ i, i < j → p (pAt xs i) = false) (fun i _ => n - (intOf i).toNat)
  case atStart => exact ⟨0, Nat.zero_le _, rfl, Below.refl _ _, fun i hi => by omega⟩
  case round =>
    obtain ⟨j, hj, rfl, hnx, hne⟩ := hrel
    have HNE := hide hne
    clear hne
    by_cases hlt : j < n
    · obtain ⟨b0, o0, rfl, hb0, l0⟩ := unhide H0 (by omega)
      obtain ⟨⟨t, c, u⟩, hx⟩ : ∃ x, xs.getD j (0, false, 0) = x := ⟨_, rfl⟩
      obtain ⟨k0, k1, k2⟩ := (l0.below hnx hb0).post (j := j) (by rw [unhide HN]; exact hlt) hx
      have HP : Hid (p (pAt xs j) = p (t, c, u)) := congrArg p hx
      have HCW : Hid (Calls Try.prog k (#[.agg #[.int .i64 t, .bool c, .int .i64 u]] ++ caps) wr fun e w' => e = .returned (.bool (p (t, c, u))) ∧ Below wr.heap.size wr w') := unhide HC wr (t, c, u) hnx
      obtain ⟨r, hr⟩ : ∃ r, p (t, c, u) = r := ⟨_, rfl⟩
      rw [hr] at HP HCW
      have i0 : (0 : Int) ≤ (j : Int) := by omega
      have i1 : (j : Int) < (n : Int) := by omega
      have HX := hide hnx
      clear hnx hx H0 l0 hr HC
      cases r with
      | true =>
        go_wp2_with (refine (unhide HCW).mono ?_; rintro e w3 ⟨rfl, hb3⟩; have HX3 := hide (Below.next (unhide HX) hb3 (Nat.le_refl _)); clear hb3)
        go_ret
        exact ⟨_, rfl, ⟨fun _ => (unhide HA).2 ⟨j, hlt, unhide HP⟩, fun _ => i0⟩, unhide HX3⟩
      | false =>
        go_wp2_with (refine (unhide HCW).mono ?_; rintro e w3 ⟨rfl, hb3⟩; have HX3 := hide (Below.next (unhide HX) hb3 (Nat.le_refl _)); clear hb3)
        go_roundw
        case rel => exact ⟨j + 1, by omega, by go_num, unhide HX3, fun i hi => by
          by_cases e : i = j
          · subst e; exact unhide HP
          · exact unhide HNE i (by omega)⟩
        case measure => simp [intOf]; omega
    · have HX := hide hnx
      clear hnx
      go_wp2
      go_ret
      refine ⟨_, rfl, ⟨fun h => ?_, fun h => ?_⟩, unhide HX⟩
      · omega
      · obtain ⟨i, hi, he⟩ := (unhide HA).1 h
        rw [unhide HNE i (by omega)] at he
        cases he

set_option maxRecDepth 100000 in
set_option maxHeartbeats 1000000 in
theorem containsFunc_any (w : World) (v : Value) (xs : List Po) (h : IsL KP w v xs) (hn : xs.length ≤ maxLen) (k : Nat) (hent : ∀ args w, (callFunc k args).run Try.prog w = .ok (.enter k args) w) (caps : Array Value) (p : Po → Bool)
    (hc : ∀ W x, Below w.heap.size w W → Calls Try.prog k (#[.agg #[.int .i64 x.1, .bool x.2.1, .int .i64 x.2.2]] ++ caps) W fun e w' => e = .returned (.bool (p x)) ∧ Below W.heap.size W w') :
    Calls Try.prog 37 #[v, .func (.func k) #[] caps] w fun e w' => e = .returned (.bool (xs.any p)) ∧ Below w.heap.size w w' := by
  have HI := hide (indexFunc_any w v xs h hn k hent caps p hc)
  obtain ⟨a0, c0, rfl⟩ := h.form
  obtain ⟨q, hq⟩ : ∃ q, xs.any p = q := ⟨_, rfl⟩
  rw [hq] at HI ⊢
  clear h hc hq hent
  go_enter Try.func37, Try.ntmps37
  cases q with
  | true =>
    go_wp2_with (go_at_call 38; refine (unhide HI).mono ?_; rintro e w1 ⟨r, rfl, hr, hb1⟩; have hr0 : 0 ≤ r := hr.2 rfl; clear hr; have HB := hide hb1; clear hb1)
    go_ret
    exact ⟨rfl, unhide HB⟩
  | false =>
    go_wp2_with (go_at_call 38; refine (unhide HI).mono ?_; rintro e w1 ⟨r, rfl, hr, hb1⟩; have hr0 : ¬ 0 ≤ r := (fun h => Bool.false_ne_true (hr.1 h)); clear hr; have HD := hide (decide_eq_false hr0); clear hr0; have HB := hide hb1; clear hb1)
    go_ret
    exact ⟨by have hd := unhide HD; simp [hd], unhide HB⟩

theorem enters39 : ∀ args w, (callFunc 39 args).run Try.prog w = .ok (.enter 39 args) w := fun _ _ => by kernel_rfl


set_option maxRecDepth 100000 in
theorem isof39_any (w : World) (g : Nat) (x t : Int) (c : Bool) (u : Int) (hg : w.heap[g]? = some (.cells #[.int .i64 x] 3 (0, 0))) :
    Calls Try.prog 39 #[.agg #[.int .i64 t, .bool c, .int .i64 u], .pointer (some ⟨g, 0, none⟩)] w fun e w' => e = .returned (.bool (t == x)) ∧ Below w.heap.size w w' := by
  obtain ⟨g0, -, gl⟩ := block1 hg
  clear hg
  go_enter Try.func39, Try.ntmps39
  go_wp2
  go_ret
  exact ⟨rfl, (Below.refl _ _).alloc (Nat.le_refl _) _⟩

set_option maxRecDepth 100000 in
theorem isOf_any (w : World) (x : Int) :
    Calls Try.prog 34 #[.int .i64 x] w fun e w' => e = .returned (.func (.func 39) #[] #[.pointer (some ⟨w.heap.size, 0, none⟩)]) ∧ w'.heap[w.heap.size]? = some (.cells #[.int .i64 x] 3 (0, 0)) ∧ Below w.heap.size w w' := by
  go_enter Try.func34, Try.ntmps34
  go_wp2
  go_ret
  exact ⟨rfl, new_block _ _, (Below.refl _ _).alloc (Nat.le_refl _) _⟩
def tasks (xs : List Po) : List Int := xs.map (fun p => p.1)
theorem tasks_append (a b : List Po) : tasks (a ++ b) = tasks a ++ tasks b := List.map_append
theorem drop_at {xs : List Po} {j : Nat} (h : j < xs.length) : xs.drop j = pAt xs j :: xs.drop (j + 1) := by
  rw [List.drop_eq_getElem_cons h]
  simp [pAt, List.getElem?_eq_getElem h]
theorem take_at {xs : List Po} {j : Nat} (h : j < xs.length) : xs.take (j + 1) = xs.take j ++ [pAt xs j] := by
  rw [List.take_add_one, List.getElem?_eq_getElem h]
  simp [pAt, List.getElem?_eq_getElem h]
theorem tasks_take {xs : List Po} {j : Nat} (h : j < xs.length) : tasks (xs.take (j + 1)) = tasks (xs.take j) ++ [(pAt xs j).1] := by
  rw [take_at h, tasks_append]; rfl
end Go.Proofs.Ytdpcbmekplcllaa
