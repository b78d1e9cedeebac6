/-
  slices.DeleteFunc of posts: what it wants of lists and worlds.
-/
import Derived.Test.YtomhfnjnmhdpkaaD
import Derived.Laws.OwnMore
import Derived.Laws.IdiomCopy
namespace Go.Proofs.Ytomhfnjnmhdpkaa
open Go.RowKit

def aAt (xs : List Bl) (j : Nat) : Bl := xs.getD j (0, 0)
theorem aAt_mem {xs : List Bl} {j : Nat} (h : j < xs.length) : aAt xs j ∈ xs := by
  unfold aAt
  simp [List.getElem?_eq_getElem h]
theorem any_aAt (xs : List Bl) (p : Bl → Bool) : (xs.any p = true) ↔ ∃ j, j < xs.length ∧ p (aAt xs j) = true := by
  rw [List.any_eq_true]
  constructor
  · rintro ⟨x, hx, hp⟩
    obtain ⟨j, hj, rfl⟩ := List.getElem_of_mem hx
    exact ⟨j, hj, by simpa [aAt, List.getElem?_eq_getElem hj] using hp⟩
  · rintro ⟨j, hj, hp⟩
    exact ⟨_, aAt_mem hj, hp⟩

theorem drop_at {xs : List Bl} {j : Nat} (h : j < xs.length) : xs.drop j = aAt xs j :: xs.drop (j + 1) := by
  rw [List.drop_eq_getElem_cons h]
  simp [aAt, List.getElem?_eq_getElem h]
theorem take_at {xs : List Bl} {j : Nat} (h : j < xs.length) : xs.take (j + 1) = xs.take j ++ [aAt xs j] := by
  rw [List.take_add_one, List.getElem?_eq_getElem h]
  simp [aAt, List.getElem?_eq_getElem h]

theorem grown_trans {a b c : World} {row : Option Nat} (h : a.grownBy b row) (h2 : b.grownBy c row) : a.grownBy c row := by
  obtain ⟨o1, t1, u1, s1, b1⟩ := h
  obtain ⟨o2, t2, u2, s2, b2⟩ := h2
  exact ⟨o2.trans o1, t2.trans t1, u2.trans u1, Nat.le_trans s1 s2, fun k hk hr => (b2 k (Nat.lt_of_lt_of_le hk s1) hr).trans (b1 k hk hr)⟩
theorem grown_of_below {a b : World} {row : Option Nat} (h : Below a.heap.size a b) : a.grownBy b row := ⟨h.os, h.tape, h.output, h.size, fun k hk _ => h.block k hk⟩
theorem grown_set (a : World) (g o : Nat) (v : Value) : a.grownBy (a.setCell ⟨g, o, none⟩ v) (some g) :=
  ⟨rfl, rfl, rfl, by simp [World.setCell], fun k _ hk => Below.heap_setCell _ _ _ _ (by intro e; exact hk (by rw [e]))⟩
theorem grown_setCells (g : Nat) : ∀ (vs : List Value) (o : Nat) (a : World), a.grownBy (a.setCells g o vs) (some g)
  | [], _, a => grownBy_refl a _
  | v :: r, o, a => grown_trans (grown_set a g o v) (grown_setCells g r (o + 1) _)
theorem cell_setCells (g j : Nat) : ∀ (vs : List Value) (o : Nat) (a : World), j < o → (a.setCells g o vs).cell? ⟨g, j, none⟩ = a.cell? ⟨g, j, none⟩
  | [], _, _, _ => rfl
  | v :: r, o, a, h => by
    refine (cell_setCells g j r (o + 1) _ (by omega)).trans ?_
    exact World.cell?_setCell_other _ _ _ _ (by simp <;> omega)

theorem flat_set2 : ∀ (xs : List Bl) (i : Nat) (t c : Int), (xs.set i (t, c)).flatMap KB.f = ((xs.flatMap KB.f).set (i * 2) (.int .i64 t)).set (i * 2 + 1) (.int .i64 c)
  | [], _, _, _ => rfl
  | x :: r, 0, t, c => rfl
  | x :: r, i + 1, t, c => by
    have h := flat_set2 r i t c
    rw [List.set_cons_succ, List.flatMap_cons, h, List.flatMap_cons]
    have e1 : (i + 1) * 2 = 2 + i * 2 := by omega
    rw [e1]
    have e : ∀ (l : List Value) (k : Nat) (z : Value), (KB.f x ++ l).set (2 + k) z = KB.f x ++ l.set k z := by
      intro l k z
      rw [List.set_append_right _ _ (by show 2 ≤ 2 + k; omega)]
      congr 2
      show 2 + k - 2 = k
      omega
    rw [e, Nat.add_assoc, e]

/-- A block that is stored in a row of its own. -/
def putB (w : World) (g o : Nat) (t c : Int) : World := (w.setCell ⟨g, o, none⟩ (.int .i64 t)).setCell ⟨g, o + 1, none⟩ (.int .i64 c)
theorem putB_grown (w : World) (g o : Nat) (t c : Int) : w.grownBy (putB w g o t c) (some g) := grown_trans (grown_set _ _ _ _) (grown_set _ _ _ _)
theorem putB_own {base : Nat} {w : World} {g n c0 : Nat} {xs : List Bl} (h : Own KB base w (.slice (some ⟨g, 0, none⟩) n c0) xs) (hn : xs.length = n) (i : Nat) (t c : Int) : Own KB base (putB w g (i * 2) t c) (.slice (some ⟨g, 0, none⟩) n c0) (xs.set i (t, c)) := by
  unfold Own at h ⊢
  rw [List.length_set, flat_set2]
  rw [hn] at h ⊢
  exact ((h.stored _ _).1.stored _ _).1
theorem own_block {base : Nat} {w : World} {g n c0 : Nat} {xs : List Bl} (h : Own KB base w (.slice (some ⟨g, 0, none⟩) n c0) xs) {j : Nat} (hj : j < xs.length) {t c : Int} (he : aAt xs j = (t, c)) :
    (w.cell? ⟨g, j * 2, none⟩ = some (.int .i64 t) ∧ w.cell? ⟨g, j * 2 + 1, none⟩ = some (.int .i64 c)) ∧ (w.frozen? ⟨g, j * 2, none⟩ = false ∧ w.frozen? ⟨g, j * 2 + 1, none⟩ = false) := by
  obtain ⟨b, off, c', ev, _, hl⟩ := h.isl.at kb (by omega)
  cases ev
  have := hl.block hj he
  simp only [Nat.zero_add] at this
  refine ⟨this, ?_⟩
  unfold Own at h
  exact ⟨h.frozenAt _, h.frozenAt _⟩

theorem Own.at0 {α : Type} {K : Kind α} {base : Nat} {w : World} {v : Value} {xs : List α} (h : Own K base w v xs) (hn : 0 < xs.length) : ∃ g c, v = .slice (some ⟨g, 0, none⟩) xs.length c ∧ base ≤ g ∧ g < w.heap.size := by
  have h0 := h
  obtain ⟨_, ⟨h1, h2⟩ | ⟨g, cap, cur, h1, hg, hh, _⟩⟩ := h
  · omega
  · subst h1
    exact ⟨g, cap, rfl, hg, (h0.lt g rfl).2⟩

theorem row_setCells {base g n cap : Nat} {e : TypeId} {size : Nat} : ∀ (vs : List Value) (o : Nat) (w : World) (xs : List Value), w.ownsRow base e size (.slice (some ⟨g, 0, none⟩) n cap) n xs → ∃ xs', (w.setCells g o vs).ownsRow base e size (.slice (some ⟨g, 0, none⟩) n cap) n xs' ∧ xs'.take o = xs.take o
  | [], _, _, xs, h => ⟨xs, h, rfl⟩
  | v :: r, o, w, xs, h => by
    obtain ⟨xs', h1, h2⟩ := row_setCells r (o + 1) _ _ (h.stored o v).1
    refine ⟨xs', h1, ?_⟩
    have := congrArg (List.take o) h2
    rw [List.take_take, List.take_take, Nat.min_eq_left (Nat.le_succ o), List.take_set_of_le (Nat.le_refl _)] at this
    exact this
theorem row_cut {base g n cap i : Nat} {e : TypeId} {size : Nat} {w : World} {xs : List Value} (h : w.ownsRow base e size (.slice (some ⟨g, 0, none⟩) n cap) n xs) (hi : i ≤ n) : w.ownsRow base e size (.slice (some ⟨g, 0, none⟩) i cap) i (xs.take (i * size)) := by
  have hle : i * size ≤ n * size := Nat.mul_le_mul_right _ hi
  obtain ⟨hl, ⟨h1, _⟩ | ⟨g', cap', cur, h1, hb, hh, hc, hm, hs, ht⟩⟩ := h
  · cases h1
  · cases h1
    refine ⟨by rw [List.length_take, hl]; omega, Or.inr ⟨g, cap, cur, rfl, hb, hh, Nat.le_trans hi hc, hm, hs, ?_⟩⟩
    rw [← ht, List.take_take, Nat.min_eq_left hle]
theorem flat_take {α : Type} {K : Kind α} (hK : K.Ok) : ∀ (xs : List α) (i : Nat), (xs.take i).flatMap K.f = (xs.flatMap K.f).take (i * K.k)
  | [], i => by simp
  | x :: r, 0 => by simp
  | x :: r, i + 1 => by
    have e1 : (K.f x).take ((i + 1) * K.k) = K.f x := List.take_of_length_le (by rw [hK.len]; exact Nat.le_mul_of_pos_left _ (Nat.succ_pos i))
    have e2 : (i + 1) * K.k - K.k = i * K.k := by rw [Nat.add_mul, Nat.one_mul]; exact Nat.add_sub_cancel _ _
    rw [List.take_succ_cons, List.flatMap_cons, List.flatMap_cons, flat_take hK r i, List.take_append, e1, hK.len, e2]

/-- Those that are left. -/
def leftL (p : Bl → Bool) (xs : List Bl) : List Bl := xs.filter (fun x => !p x)
theorem left_take {p : Bl → Bool} {xs : List Bl} {j : Nat} (hj : j < xs.length) : leftL p (xs.take (j + 1)) = leftL p (xs.take j) ++ (if p (aAt xs j) = true then [] else [aAt xs j]) := by
  unfold leftL aAt
  rw [List.take_succ_eq_append_getElem hj, List.filter_append]
  congr 1
  simp only [List.filter_cons, List.filter_nil, List.getD_eq_getElem?_getD, List.getElem?_eq_getElem hj, Option.getD_some]
  cases p xs[j] <;> rfl
theorem left_first {p : Bl → Bool} {xs : List Bl} {j : Nat} (hj : j < xs.length) (hp : p (aAt xs j) = true) (hb : ∀ i, i < j → p (aAt xs i) = false) : leftL p (xs.take (j + 1)) = xs.take j := by
  rw [left_take hj, if_pos hp, List.append_nil]
  unfold leftL
  rw [List.filter_eq_self]
  intro x hx
  obtain ⟨i, hi, rfl⟩ := List.getElem_of_mem hx
  have h1 : i < j := by rw [List.length_take] at hi; omega
  have := hb i h1
  unfold aAt at this
  rw [List.getD_eq_getElem?_getD, List.getElem?_eq_getElem (by omega), Option.getD_some] at this
  rw [List.getElem_take, this]
  rfl
theorem left_none {p : Bl → Bool} {xs : List Bl} (h : xs.any p = false) : leftL p xs = xs := by
  unfold leftL
  rw [List.filter_eq_self]
  intro x hx
  have := List.any_eq_false.1 h x hx
  simp only [Bool.not_eq_true] at this
  rw [this]
  rfl

set_option maxRecDepth 100000 in
set_option maxHeartbeats 1000000 in
theorem indexFunc_at (w : World) (v : Value) (xs : List Bl) (h : IsL KB w v xs) (hn : xs.length ≤ maxLen) (k : Nat) (hent : ∀ args w, (callFunc k args).run Try.prog w = .ok (.enter k args) w) (caps : Array Value) (p : Bl → Bool)
    (hc : ∀ W x, x ∈ xs → Below w.heap.size w W → Calls Try.prog k (#[.agg #[.int .i64 x.1, .int .i64 x.2]] ++ caps) W fun e w' => e = .returned (.bool (p x)) ∧ Below W.heap.size W w') :
    Calls Try.prog 49 #[v, .func (.func k) #[] caps] w fun e w' => (e = .returned (.int .i64 (-1)) ∧ xs.any p = false ∨ ∃ j : Nat, e = .returned (.int .i64 (j : Int)) ∧ j < xs.length ∧ p (aAt xs j) = true ∧ ∀ i, i < j → p (aAt xs i) = false) ∧ Below w.heap.size w w' := by
  obtain ⟨a0, c0, rfl⟩ := h.form
  have H0 := hide (h.opens kb rfl)
  have HA := hide (any_aAt xs p)
  have HC := hide hc
  obtain ⟨n, en⟩ : ∃ n, xs.length = n := ⟨_, rfl⟩
  rw [en] at H0 HA hn ⊢
  have HN := hide en
  unfold maxLen at hn
  clear h en hc
  go_enter Try.func49, Try.ntmps49
  go_wp2
  go_loopw [8] (fun i wr => ∃ j : Nat, j ≤ n ∧ i = .int .i64 j ∧ Below w.heap.size w wr ∧ ∀ i, i < j → p (aAt xs i) = false) (fun i _ => n - (intOf i).toNat)
  case atStart => exact ⟨0, Nat.zero_le _, rfl, Below.refl _ _, fun i hi => by omega⟩
  case round =>
    obtain ⟨j, hj, rfl, hnx, hne⟩ := hrel
    have HNE := hide hne
    clear hne
    by_cases hlt : j < n
    · obtain ⟨b0, o0, rfl, hb0, l0⟩ := unhide H0 (by omega)
      obtain ⟨⟨t, c⟩, hx⟩ : ∃ x, xs.getD j (0, 0) = x := ⟨_, rfl⟩
      obtain ⟨k0, k1⟩ := (l0.below hnx hb0).block (j := j) (by rw [unhide HN]; exact hlt) hx
      have HP : Hid (p (aAt xs j) = p (t, c)) := congrArg p hx
      have hmem : (t, c) ∈ xs := by rw [← hx]; exact aAt_mem (by rw [unhide HN]; exact hlt)
      have HCW : Hid (Calls Try.prog k (#[.agg #[.int .i64 t, .int .i64 c]] ++ caps) wr fun e w' => e = .returned (.bool (p (t, c))) ∧ Below wr.heap.size wr w') := unhide HC wr (t, c) hmem hnx
      obtain ⟨r, hr⟩ : ∃ r, p (t, c) = r := ⟨_, rfl⟩
      rw [hr] at HP HCW
      have i0 : (0 : Int) ≤ (j : Int) := by omega
      have i1 : (j : Int) < (n : Int) := by omega
      have HX := hide hnx
      clear hnx hx H0 l0 hr HC hmem
      cases r with
      | true =>
        go_wp2_with (refine (unhide HCW).mono ?_; rintro e w3 ⟨rfl, hb3⟩; have HX3 := hide (Below.next (unhide HX) hb3 (Nat.le_refl _)); clear hb3)
        go_ret
        exact ⟨Or.inr ⟨j, rfl, hlt, unhide HP, unhide HNE⟩, unhide HX3⟩
      | false =>
        go_wp2_with (refine (unhide HCW).mono ?_; rintro e w3 ⟨rfl, hb3⟩; have HX3 := hide (Below.next (unhide HX) hb3 (Nat.le_refl _)); clear hb3)
        go_roundw
        case rel => exact ⟨j + 1, by omega, by go_num, unhide HX3, fun i hi => by
          by_cases e : i = j
          · subst e; exact unhide HP
          · exact unhide HNE i (by omega)⟩
        case measure => simp [intOf]; omega
    · have HX := hide hnx
      clear hnx
      go_wp2
      go_ret
      refine ⟨Or.inl ⟨rfl, ?_⟩, unhide HX⟩
      rw [Bool.eq_false_iff]
      intro h
      obtain ⟨i, hi, he⟩ := (unhide HA).1 h
      rw [unhide HNE i (by omega)] at he
      cases he
end Go.Proofs.Ytomhfnjnmhdpkaa
