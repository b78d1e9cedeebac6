/-
  buddy.placeOf, holds, hasMates; with.
-/
import Derived.Test.YtomhfnjnmhdpkaaF
import Derived.Test.YtomhfnjnmhdpkaaM
namespace Go.Proofs.Ytomhfnjnmhdpkaa
open Go.RowKit

/-- Each block starts behind the one ahead. -/
def Rise (xs : List Bl) : Prop := xs.Pairwise fun a b => a.1 < b.1
/-- How many blocks of a list start ahead. -/
def placeN (s : Int) (xs : List Bl) : Nat := (xs.takeWhile (fun b => decide (b.1 < s))).length
theorem placeN_le (s : Int) (xs : List Bl) : placeN s xs ≤ xs.length := (List.takeWhile_sublist _).length_le
theorem takeWhile_len {q : Bl → Bool} : ∀ (xs : List Bl) (r : Nat), r ≤ xs.length → (∀ i, i < r → q (aAt xs i) = true) → (r < xs.length → q (aAt xs r) = false) → (xs.takeWhile q).length = r
  | [], r, h, _, _ => by simp at h; subst h; rfl
  | x :: l, 0, _, _, h => by
    have := h (by simp)
    have e : aAt (x :: l) 0 = x := rfl
    rw [e] at this
    rw [List.takeWhile_cons_of_neg (by rw [this]; simp)]
    rfl
  | x :: l, r + 1, h, h1, h2 => by
    have e0 : q x = true := h1 0 (Nat.succ_pos _)
    rw [List.takeWhile_cons_of_pos e0, List.length_cons, takeWhile_len l r (by simpa using h) (fun i hi => h1 (i + 1) (by omega)) (fun hr => h2 (by simpa using hr))]
theorem takeWhile_at {q : Bl → Bool} : ∀ (xs : List Bl) (i : Nat), i < (xs.takeWhile q).length → q (aAt xs i) = true
  | [], i, h => by simp at h
  | x :: l, i, h => by
    by_cases e : q x = true
    · rw [List.takeWhile_cons_of_pos e] at h
      cases i with
      | zero => exact e
      | succ i => exact takeWhile_at l i (by simpa using h)
    · rw [List.takeWhile_cons_of_neg e] at h
      simp at h
theorem takeWhile_end {q : Bl → Bool} : ∀ (xs : List Bl), (xs.takeWhile q).length < xs.length → q (aAt xs (xs.takeWhile q).length) = false
  | [], h => by simp at h
  | x :: l, h => by
    by_cases e : q x = true
    · rw [List.takeWhile_cons_of_pos e] at h ⊢
      exact takeWhile_end l (by simpa using h)
    · rw [List.takeWhile_cons_of_neg e]
      show q x = false
      simpa using e
theorem rise_at {xs : List Bl} (h : Rise xs) {i j : Nat} (hij : i < j) (hj : j < xs.length) : (aAt xs i).1 < (aAt xs j).1 := by
  have := List.pairwise_iff_getElem.1 h i j (by omega) hj hij
  unfold aAt
  simpa [List.getElem?_eq_getElem hj, List.getElem?_eq_getElem (show i < xs.length by omega)] using this
theorem place_lt {xs : List Bl} {s : Int} {i : Nat} (h : i < placeN s xs) : (aAt xs i).1 < s := by
  have := takeWhile_at xs i h
  simpa using this
theorem place_ge {xs : List Bl} {s : Int} (hr : Rise xs) {i : Nat} (h : placeN s xs ≤ i) (hi : i < xs.length) : s ≤ (aAt xs i).1 := by
  have h1 := takeWhile_end (q := fun b => decide (b.1 < s)) xs (Nat.lt_of_le_of_lt h hi)
  have h2 : s ≤ (aAt xs (placeN s xs)).1 := by unfold placeN; simpa using h1
  rcases Nat.lt_or_eq_of_le h with h3 | h3
  · have := rise_at hr h3 hi; omega
  · rw [← h3]; exact h2
/-- Is the block in the list? -/
def hasB (x : Bl) (xs : List Bl) : Bool := xs.any fun b => b.1 == x.1 && b.2 == x.2
theorem hasB_iff (x : Bl) (xs : List Bl) : hasB x xs = true ↔ x ∈ xs := by
  unfold hasB
  rw [List.any_eq_true]
  constructor
  · rintro ⟨⟨a, b⟩, hy, h⟩
    obtain ⟨c, d⟩ := x
    simp at h
    rw [← h.1, ← h.2]; exact hy
  · intro h
    exact ⟨x, h, by simp⟩
/-- It is just where it stands at its place. -/
theorem hasB_place {x : Bl} {xs : List Bl} (hr : Rise xs) : hasB x xs = (decide (placeN x.1 xs < xs.length) && ((aAt xs (placeN x.1 xs)).1 == x.1 && (aAt xs (placeN x.1 xs)).2 == x.2)) := by
  rw [Bool.eq_iff_iff, hasB_iff]
  constructor
  · intro h
    obtain ⟨i, hi, e⟩ := List.getElem_of_mem h
    have ei : aAt xs i = x := by unfold aAt; simpa [List.getElem?_eq_getElem hi] using e
    have h1 : placeN x.1 xs ≤ i := by
      rcases Nat.lt_or_ge i (placeN x.1 xs) with h2 | h2
      · have := place_lt h2
        rw [ei] at this; omega
      · exact h2
    have h2 : placeN x.1 xs = i := by
      rcases Nat.lt_or_eq_of_le h1 with h3 | h3
      · have h4 := rise_at hr h3 hi
        have h5 := place_ge hr (Nat.le_refl _) (by omega : placeN x.1 xs < xs.length)
        rw [ei] at h4; omega
      · exact h3
    rw [h2, ei]
    simp [hi]
  · intro h
    rw [Bool.and_eq_true, decide_eq_true_eq] at h
    obtain ⟨h1, h2⟩ := h
    obtain ⟨a, b⟩ := x
    simp only at h1 h2
    obtain ⟨⟨c, d⟩, hy⟩ : ∃ z, aAt xs (placeN a xs) = z := ⟨_, rfl⟩
    have hm := aAt_mem h1
    rw [hy] at h2 hm
    simp at h2
    rw [← h2.1, ← h2.2]
    exact hm


theorem enters_place : ∀ args w, (callFunc 47 args).run Try.prog w = .ok (.enter 47 args) w := fun _ _ => by kernel_rfl

set_option maxRecDepth 100000 in
set_option maxHeartbeats 1000000 in
theorem placeOf1_any (w : World) (G B : Nat) (s : Int) (a0 : Option Addr) (n c0 : Nat) (xs : List Bl) (i : Nat) (hB : w.heap[B]? = some (.cells #[.int .i64 s] 3 (0, 0))) (hG : w.heap[G]? = some (.cells #[.slice a0 n c0] 22 (0, 0))) (hL : IsL KB w (.slice a0 n c0) xs) (hi : i < n) :
    Calls Try.prog 47 #[.int .i64 (i : Int), .pointer (some ⟨G, 0, none⟩), .pointer (some ⟨B, 0, none⟩)] w fun e w' => e = .returned (.bool (decide (s ≤ (aAt xs i).1))) ∧ Below w.heap.size w w' := by
  have hlen : xs.length = n := hL.len
  obtain ⟨b0, o0, rfl, hb0, l0⟩ := hL.opens kb hlen (by omega)
  obtain ⟨⟨lt, lc⟩, hx⟩ : ∃ x, aAt xs i = x := ⟨_, rfl⟩
  rw [hx]
  obtain ⟨p, -, pl⟩ := block1 hB
  obtain ⟨q, -, ql⟩ := block1 hG
  obtain ⟨l0, l1⟩ := l0.block (by omega) hx
  have i1 : (0 : Int) ≤ (i : Int) := by omega
  have i2 : (i : Int) < (n : Int) := by omega
  clear hB hG hL hx hb0
  go_enter Try.func47, Try.ntmps47
  go_upto_region 1 with fail
  go_quiet (fail)
  go_wp2_with fail
  go_ret
  exact ⟨rfl, below_drewN (Below.refl _ _) nq⟩

set_option maxRecDepth 100000 in
set_option maxHeartbeats 1000000 in
theorem placeOf_any (w : World) (v : Value) (xs : List Bl) (s : Int) (h : IsL KB w v xs) (hn : xs.length ≤ 100000) (hm : Rise xs) :
    Calls Try.prog 35 #[v, .int .i64 s] w fun e w' => e = .returned (.int .i64 ((placeN s xs : Nat) : Int)) ∧ Below w.heap.size w w' := by
  obtain ⟨a0, c0, rfl⟩ := h.form
  have HM := hide hm
  obtain ⟨n, en⟩ : ∃ n, xs.length = n := ⟨_, rfl⟩
  rw [en] at h hn ⊢
  have HN := hide en; have HL := hide h
  obtain ⟨W0, e0, hB, k0, k1⟩ := two_new w (.cells #[.slice a0 n c0] 22) (.cells #[.int .i64 s] 3)
  have HX := hide hB; have HE := hide e0; have HK0 := hide k0; have HK1 := hide k1
  have HS := hide (search_any W0 n hn 47 enters_place #[.pointer (some ⟨w.heap.size, 0, none⟩), .pointer (some ⟨w.heap.size + 1, 0, none⟩)] (fun i => decide (s ≤ (aAt xs i).1)) (fun W i hW hi => placeOf1_any W w.heap.size (w.heap.size + 1) s a0 n c0 xs i (keep_below k1 hW) (keep_below k0 hW) ((h.below hB).below hW) hi))
  clear h hm en hB e0 k0 k1
  go_enter Try.func35, Try.ntmps35
  go_upto_region 1 with fail
  rw [unhide HE]
  clear HE
  obtain ⟨p0, -, pl⟩ := block1 (unhide HK0)
  go_wp2_with (go_at_call 46; refine (unhide HS).mono ?_; rintro e w1 ⟨r, rfl, hr1, hr2, hr3, hb1⟩; have HX1 := hide (Below.next (unhide HX) hb1 (Nat.le_refl _)); have HR1 := hide hr1; have HR2 := hide hr2; have HR3 := hide hr3; clear hr1 hr2 hr3 hb1 p0 pl)
  go_ret
  refine ⟨?_, unhide HX1⟩
  have e : placeN s xs = r := by
    refine takeWhile_len xs r (by rw [unhide HN]; exact unhide HR1) (fun i hi => ?_) (fun hr => ?_)
    · have h1 := unhide HR2 (by omega)
      have h2 : ¬ s ≤ (aAt xs (r - 1)).1 := by simpa using h1
      have h3 : (aAt xs i).1 ≤ (aAt xs (r - 1)).1 := by
        rcases Nat.lt_or_eq_of_le (show i ≤ r - 1 by omega) with h4 | h4
        · exact Int.le_of_lt (rise_at (unhide HM) h4 (by rw [unhide HN]; have := unhide HR1; omega))
        · rw [h4]; exact Int.le_refl _
      exact decide_eq_true (by omega)
    · have h1 := unhide HR3 (by rw [unhide HN] at hr; exact hr)
      have h2 : s ≤ (aAt xs r).1 := by simpa using h1
      exact decide_eq_false (by omega)
  rw [e]
  rfl

set_option maxRecDepth 100000 in
set_option maxHeartbeats 1000000 in
theorem holds_any (w : World) (v : Value) (xs : List Bl) (x y : Int) (h : IsL KB w v xs) (hn : xs.length ≤ 100000) (hm : Rise xs) :
    Calls Try.prog 40 #[v, .agg #[.int .i64 x, .int .i64 y]] w fun e w' => e = .returned (.bool (hasB (x, y) xs)) ∧ Below w.heap.size w w' := by
  have hb := hasB_place (x := (x, y)) hm
  simp only at hb
  obtain ⟨a0, c0, rfl⟩ := h.form
  have hple := placeN_le x xs
  obtain ⟨p, ep⟩ : ∃ p, placeN x xs = p := ⟨_, rfl⟩
  rw [ep] at hb hple
  have HL := hide h; have HB0 := hide hb
  have hlen : xs.length = xs.length := rfl
  have HNN := hide hn
  obtain ⟨n, en⟩ : ∃ n, xs.length = n := ⟨_, rfl⟩
  have HPL : Hid (∀ W, Below w.heap.size w W → Calls Try.prog 35 #[.slice a0 n c0, .int .i64 x] W fun e w' => e = .returned (.int .i64 (p : Int)) ∧ Below W.heap.size W w') := fun W hW => by
    have := placeOf_any W (.slice a0 n c0) xs x (by rw [← en]; exact h.below hW) hn hm
    rw [ep] at this
    exact this
  rw [en] at h hn hb HL HB0 hple ⊢
  have HN := hide en
  have HX := hide ((Below.refl w.heap.size w).alloc (Nat.le_refl _) (.cells #[.int .i64 x, .int .i64 y] 38))
  have HP := hide (new_block w (.cells #[.int .i64 x, .int .i64 y] 38))
  obtain ⟨R, eR⟩ : ∃ R, hasB (x, y) xs = R := ⟨_, rfl⟩
  rw [eR] at HB0 hb ⊢
  clear h hm en ep eR hlen
  obtain ⟨W0, e0⟩ : ∃ W, w.alloc (.cells #[.int .i64 x, .int .i64 y] 38) = W := ⟨_, rfl⟩
  rw [e0] at HX HP
  have HE := hide e0
  clear e0
  go_enter Try.func40, Try.ntmps40
  go_upto_region 1 with fail
  rw [unhide HE]
  clear HE
  obtain ⟨p0, p1, -, -, pl⟩ := block2 (unhide HP)
  go_upto_region 2 with (go_at_call 35; refine (unhide HPL _ (unhide HX)).mono ?_; rintro e w1 ⟨rfl, hb1⟩; have HX1 := hide (Below.next (unhide HX) hb1 (Nat.le_refl _)); have HP1 := hide (keep_below (unhide HP) hb1); clear hb1)
  clear p0 p1 pl HPL
  obtain ⟨p0, p1, -, -, pl⟩ := block2 (unhide HP1)
  by_cases hlt : p < n
  · obtain ⟨b0, o0, rfl, hb0, l0⟩ := (unhide HL).opens kb (unhide HN) (by omega)
    obtain ⟨⟨t, c⟩, hx⟩ : ∃ z, aAt xs p = z := ⟨_, rfl⟩
    obtain ⟨k0, k1⟩ := (l0.below (unhide HX1) hb0).block (j := p) (by rw [unhide HN]; exact hlt) hx
    have hq : ∀ w, (Op.equalIn 10000 38 (.agg #[.int .i64 t, .int .i64 c]) (.agg #[.int .i64 x, .int .i64 y])).run Try.prog w = .ok (t == x && c == y) w := fun w => blk_eq w _ _ _ _
    rw [hx, decide_eq_true hlt, Bool.true_and] at hb
    simp only at hb
    rw [← hb] at hq
    have i1 : (0 : Int) ≤ (p : Int) := by omega
    have i2 : (p : Int) < (n : Int) := by omega
    clear hb hx l0 hb0 HB0 HL
    go_quiet (fail)
    go_wp2_with fail
    go_ret
    exact ⟨rfl, below_drewN (unhide HX1) nq⟩
  · rw [decide_eq_false hlt, Bool.false_and] at hb
    subst hb
    have i2 : ¬ (p : Int) < (n : Int) := by omega
    clear HB0 HL
    go_quiet (fail)
    go_wp2_with fail
    go_ret
    exact ⟨rfl, below_drewN (unhide HX1) nq⟩

end Go.Proofs.Ytomhfnjnmhdpkaa
