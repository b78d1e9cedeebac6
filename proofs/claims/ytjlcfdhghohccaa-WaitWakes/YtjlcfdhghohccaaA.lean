/-
  Lists as they are read, and the functions that copy, compare and search them.
-/
import Derived.Test.YtjlcfdhghohccaaProg
import Derived.WalkKit
import Derived.WalkSpells
import Derived.WalkLawsBesides
import Derived.Maps.Own
import Derived.Deep.QuietTactic
import Derived.BigQuiet
import Derived.WalkSmall
import Derived.Deep.RegionHeld3
import Derived.Deep.DrawnRows
import Derived.Deep.MidRow
import Derived.Deep.DeepCutAuto
import Derived.Deep.CutRange
import Derived.Maps.AppendAt
import Derived.Laws.AppendOwnNone
namespace Go.Proofs.Ytjlcfdhghohccaa
open Go.RowKit

theorem hide {p : Prop} (h : p) : Hid p := h
theorem unhide {p : Prop} (h : Hid p) : p := h

/-- The slice v reads as the cells xs, n elements of so many cells each. -/
def Rd (w : World) (size : Nat) (v : Value) (n : Nat) (xs : List Value) : Prop :=
  xs.length = n * size ∧ ((v = .slice none 0 0 ∧ n = 0) ∨ ∃ ad cap, v = .slice (some ad) n cap ∧ ∀ j u, xs[j]? = some u → w.cell? (ad.add j) = some u)

theorem Rd.below {w w' : World} {size n : Nat} {v : Value} {xs : List Value} (h : Rd w size v n xs) (hb : Below w.heap.size w w') : Rd w' size v n xs := by
  refine ⟨h.1, h.2.imp id ?_⟩
  rintro ⟨ad, cap, hv, hc⟩
  refine ⟨ad, cap, hv, fun j u hj => ?_⟩
  have := hc j u hj
  rw [hb.cell (World.block_lt_of_cell? w _ this)]
  exact this

theorem Rd.of_owns {w : World} {base e size n : Nat} {v : Value} {xs : List Value} (h : w.ownsRow base e size v n xs) : Rd w size v n xs := by
  refine ⟨h.1, h.2.imp id ?_⟩
  rintro ⟨g, cap, cur, hv, hg, hh, hn, hcap, hsz, hx⟩
  refine ⟨⟨g, 0, none⟩, cap, hv, fun j u hj => ?_⟩
  rw [WideShapes.add_plain]
  simp only [World.cell?, hh]
  subst hx
  rw [List.getElem?_take] at hj
  split at hj
  · simpa using hj
  · cases hj

theorem Try.info3 : (Try.prog.info? 3).map (fun i => (i.zero, i.size, i.bytes)) = some (some (.int .i64 0), 1, 8) := by kernel_rfl
theorem owns_empty (w : World) (e : TypeId) (size : Nat) : (w.alloc (.cells #[] e)).ownsRow w.heap.size e size (.slice (some ⟨w.heap.size, 0, none⟩) 0 0) 0 [] :=
  ⟨by simp, Or.inr ⟨w.heap.size, 0, #[], rfl, Nat.le_refl _, (MapKept.heap_alloc w _).1, Nat.le_refl _, Nat.zero_le _, by simp, by simp⟩⟩

theorem cells_alloc {w : World} {o : Obj} {ad : Addr} {xs : List Value} (hc : ∀ j u, xs[j]? = some u → w.cell? (ad.add j) = some u) : ∀ j u, xs[j]? = some u → (w.alloc o).cell? (ad.add j) = some u := by
  intro j u hj
  have := hc j u hj
  rw [World.cell?_alloc_lt (h := World.block_lt_of_cell? w _ this)]
  exact this

set_option maxRecDepth 100000 in
set_option maxHeartbeats 400000 in
theorem fresh_any (w : World) (v : Value) (n : Nat) (xs : List Value) (hr : Rd w 1 v n xs) (h1 : ∀ u ∈ xs, u.oneCell' = true) (hn : n * 8 ≤ 140737488355328) :
    Calls Try.prog 46 #[v] w fun e w' => ∃ v', e = .returned v' ∧ w'.ownsRow w.heap.size 3 1 v' n xs ∧ Below w.heap.size w w' := by
  obtain ⟨i0, hi, hz0, hz1, hz2⟩ := info_parts Try.info3
  obtain ⟨hl, ⟨rfl, rfl⟩ | ⟨ad, cap, rfl, hc⟩⟩ := hr
  · go_enter Try.func46, Try.ntmps46
    go_wp2_with (at_builtin; refine wpList_append_own_none rfl _ _ 34 rfl w.heap.size 3 i0 1 Try.underlying34 hi _ 0 [] rfl (owns_empty w 3 1) rfl ?_)
    go_ret
    obtain rfl : xs = [] := by simpa using hl
    exact ⟨_, rfl, owns_empty w 3 1, (Below.refl _ _).alloc (Nat.le_refl _) _⟩
  · go_enter Try.func46, Try.ntmps46
    go_wp2_with (at_builtin; refine wpList_append_own _ rfl _ _ 34 rfl w.heap.size 3 i0 (.int .i64 0) 1 8 Try.underlying34 hi hz0 hz1 hz2 rfl (by decide) _ 0 [] rfl (owns_empty w 3 1) ad n cap xs rfl hl (cells_alloc hc) h1 (by unfold maxLen; omega) (by omega) (by simp) ?_)
    intro v' w1 hown hgrow _
    go_wp2
    go_ret
    exact ⟨_, rfl, hown, ((Below.refl _ _).alloc (Nat.le_refl _) _).grown hgrow (by simp) (fun k hk => by cases hk; exact Nat.le_refl _)⟩

set_option maxRecDepth 100000 in
set_option maxHeartbeats 400000 in
theorem own_any (w : World) (v : Value) (n : Nat) (xs : List Value) (hr : Rd w 1 v n xs) (h1 : ∀ u ∈ xs, u.oneCell' = true) (hn : n * 8 ≤ 140737488355328) :
    Calls Try.prog 22 #[v] w fun e w' => ∃ v', e = .returned v' ∧ w'.ownsRow w.heap.size 3 1 v' n xs ∧ Below w.heap.size w w' := by
  obtain ⟨i0, hi, hz0, hz1, hz2⟩ := info_parts Try.info3
  obtain ⟨hl, ⟨rfl, rfl⟩ | ⟨ad, cap, rfl, hc⟩⟩ := hr
  · go_enter Try.func22, Try.ntmps22
    go_wp2_with (at_builtin; refine wpList_append_own_none rfl _ _ 34 rfl w.heap.size 3 i0 1 Try.underlying34 hi _ 0 [] rfl (World.ownsRow_nil _ _ _ _) rfl ?_)
    go_ret
    obtain rfl : xs = [] := by simpa using hl
    exact ⟨_, rfl, World.ownsRow_nil _ _ _ _, Below.refl _ _⟩
  · go_enter Try.func22, Try.ntmps22
    go_wp2_with (at_builtin; refine wpList_append_own _ rfl _ _ 34 rfl w.heap.size 3 i0 (.int .i64 0) 1 8 Try.underlying34 hi hz0 hz1 hz2 rfl (by decide) _ 0 [] rfl (World.ownsRow_nil _ _ _ _) ad n cap xs rfl hl hc h1 (by unfold maxLen; omega) (by omega) (by simp) ?_)
    intro v' w1 hown hgrow _
    go_wp2
    go_ret
    exact ⟨_, rfl, hown, (Below.refl _ _).grown hgrow (by simp) (fun k hk => by cases hk)⟩

theorem below_step {B : Nat} {a wr w3 : World} {o : Obj} (h : Below B a wr) (h3 : Below (wr.alloc o).heap.size (wr.alloc o) w3) (hB : B ≤ wr.heap.size) : Below B a w3 :=
  (h.alloc hB o).trans (h3.mono (by simp; omega))

/-- A slice's length is at most its capacity. -/
def Fits (v : Value) : Prop := ∀ a n c, v = .slice a n c → n ≤ c
theorem fits_of {a : Option Addr} {n c : Nat} (h : n ≤ c) : Fits (.slice a n c) := fun a' n' c' e => by cases e; exact h
theorem fits_owns {w : World} {base e size n : Nat} {v : Value} {xs : List Value} (h : w.ownsRow base e size v n xs) : Fits v := fun a m c e => by
  obtain ⟨_, ⟨h1, _⟩ | ⟨g, cap, cur, h1, _, _, h2, _⟩⟩ := h
  · rw [h1] at e; cases e; omega
  · rw [h1] at e; cases e; exact h2
/-- The slice v reads as the numbers zs. -/
def IsInts (w : World) (v : Value) (zs : List Int) : Prop := Rd w 1 v zs.length (zs.map (Value.int .i64)) ∧ Fits v

theorem Rd.form {w : World} {size n : Nat} {v : Value} {xs : List Value} (h : Rd w size v n xs) : ∃ a c, v = .slice a n c := by
  obtain ⟨_, ⟨rfl, rfl⟩ | ⟨ad, cap, rfl, _⟩⟩ := h
  · exact ⟨_, _, rfl⟩
  · exact ⟨_, _, rfl⟩

theorem Rd.at {w : World} {size n : Nat} {v : Value} {xs : List Value} (h : Rd w size v n xs) (hn : 0 < n) (hs : 0 < size) :
    ∃ b off c, v = .slice (some ⟨b, off, none⟩) n c ∧ b < w.heap.size ∧ ∀ j u, xs[j]? = some u → w.cell? ⟨b, off + j, none⟩ = some u := by
  obtain ⟨hl, ⟨rfl, rfl⟩ | ⟨⟨b, off, spot⟩, cap, rfl, hc⟩⟩ := h
  · omega
  · have hp : 0 < xs.length := by rw [hl]; exact Nat.mul_pos hn hs
    have h0 := hc 0 xs[0] (List.getElem?_eq_getElem hp)
    have hspot : spot = none := by simpa [Addr.add] using World.cell?_spot h0
    subst hspot
    refine ⟨b, off, cap, rfl, World.block_lt_of_cell? w _ h0, fun j u hj => ?_⟩
    rw [← WideShapes.add_plain]
    exact hc j u hj

theorem IsInts.at {w : World} {v : Value} {zs : List Int} (h : IsInts w v zs) (hn : 0 < zs.length) : ∃ b off c, v = .slice (some ⟨b, off, none⟩) zs.length c ∧ b < w.heap.size ∧
    ∀ j, j < zs.length → w.cell? ⟨b, off + j, none⟩ = some (.int .i64 (zs.getD j 0)) := by
  obtain ⟨b, off, c, hv, hb, hc⟩ := Rd.at h.1 hn (by decide)
  refine ⟨b, off, c, hv, hb, fun j hj => hc j _ ?_⟩
  rw [List.getElem?_map, List.getElem?_eq_getElem hj]
  simp [List.getElem?_eq_getElem hj]

theorem ints_one (zs : List Int) : ∀ u ∈ zs.map (Value.int .i64), u.oneCell' = true := by
  intro u hu
  obtain ⟨_, _, rfl⟩ := List.mem_map.1 hu
  rfl

set_option maxRecDepth 100000 in
set_option maxHeartbeats 1000000 in
theorem ints_zero (w : World) (a0 a1 : Option Addr) (c0 c1 : Nat) :
    Calls Try.prog 26 #[.slice a0 0 c0, .slice a1 0 c1] w fun e w' => e = .returned (.bool true) ∧ Below w.heap.size w w' := by
  go_enter Try.func26, Try.ntmps26
  go_wp2
  go_loopw [5] (fun i wr => i = .int .i64 0 ∧ wr = w) (fun i _ => 0)
  case atStart => exact ⟨rfl, rfl⟩
  case round =>
    obtain ⟨rfl, rfl⟩ := hrel
    go_wp2
    go_ret
    exact ⟨rfl, Below.refl _ _⟩

set_option maxRecDepth 100000 in
set_option maxHeartbeats 1000000 in
theorem ints_some (w : World) (n b0 o0 c0 b1 o1 c1 : Nat) (hn : n ≤ maxLen) (Z : Nat → Int) (hb0 : b0 < w.heap.size) (hb1 : b1 < w.heap.size)
    (h0 : ∀ j, j < n → w.cell? ⟨b0, o0 + j, none⟩ = some (.int .i64 (Z j))) (h1 : ∀ j, j < n → w.cell? ⟨b1, o1 + j, none⟩ = some (.int .i64 (Z j))) :
    Calls Try.prog 26 #[.slice (some ⟨b0, o0, none⟩) n c0, .slice (some ⟨b1, o1, none⟩) n c1] w fun e w' => e = .returned (.bool true) ∧ Below w.heap.size w w' := by
  unfold maxLen at hn
  have H0 := hide h0; have H1 := hide h1
  clear h0 h1
  go_enter Try.func26, Try.ntmps26
  go_wp2
  go_loopw [5] (fun i wr => ∃ j : Nat, j ≤ n ∧ i = .int .i64 j ∧ Below w.heap.size w wr) (fun i _ => n - (intOf i).toNat)
  case atStart => exact ⟨0, Nat.zero_le _, rfl, Below.refl _ _⟩
  case round =>
    obtain ⟨j, hj, rfl, hnx⟩ := hrel
    by_cases hlt : j < n
    · have k0 := (hnx.cell (p := ⟨b0, o0 + j, none⟩) hb0).trans (unhide H0 j hlt)
      have k1 := (hnx.cell (p := ⟨b1, o1 + j, none⟩) hb1).trans (unhide H1 j hlt)
      have i0 : (0 : Int) ≤ (j : Int) := by omega
      have i1 : (j : Int) < (n : Int) := by omega
      have HX := hide hnx
      clear hnx
      go_wp2
      go_quiet (fail)
      go_wp2
      go_roundw
      case rel => exact ⟨j + 1, by omega, by go_num, below_drewN (unhide HX) _⟩
      case measure => simp [intOf]; omega
    · have HX := hide hnx
      clear hnx
      go_wp2
      go_ret
      exact ⟨rfl, unhide HX⟩

theorem ints_same (w : World) (v v' : Value) (zs : List Int) (h : IsInts w v zs) (h' : IsInts w v' zs) (hn : zs.length ≤ maxLen) :
    Calls Try.prog 26 #[v, v'] w fun e w' => e = .returned (.bool true) ∧ Below w.heap.size w w' := by
  by_cases h0 : 0 < zs.length
  · obtain ⟨b, off, c, rfl, hb, hc⟩ := h.at h0
    obtain ⟨b', off', c', rfl, hb', hc'⟩ := h'.at h0
    exact ints_some w zs.length b off c b' off' c' hn _ hb hb' hc hc'
  · obtain ⟨a0, c0, rfl⟩ := Rd.form h.1
    obtain ⟨a1, c1, rfl⟩ := Rd.form h'.1
    have e0 : zs.length = 0 := by omega
    rw [e0]
    exact ints_zero w a0 a1 c0 c1

/-- A part of a list, as it is read. -/
theorem IsInts.part {w : World} {b off c n : Nat} {zs : List Int} (h : IsInts w (.slice (some ⟨b, off, none⟩) n c) zs) (i m c' : Nat) (hm : i + m ≤ zs.length) (hc' : m ≤ c') : IsInts w (.slice (some ⟨b, off + i, none⟩) m c') ((zs.drop i).take m) := by
  obtain ⟨hl, ⟨h1, _⟩ | ⟨ad, cap, h1, hc⟩⟩ := h.1
  · cases h1
  · cases h1
    have e : ((zs.drop i).take m).length = m := by rw [List.length_take, List.length_drop]; omega
    refine ⟨⟨by simp, Or.inr ⟨_, _, by rw [e], fun j u hj => ?_⟩⟩, fits_of hc'⟩
    rw [List.getElem?_map, List.getElem?_take] at hj
    split at hj
    · rw [List.getElem?_drop] at hj
      have := hc (i + j) u (by rw [List.getElem?_map]; exact hj)
      rw [WideShapes.add_plain] at this ⊢
      rw [Nat.add_assoc]
      exact this
    · cases hj

theorem contains_iff (zs : List Int) (x : Int) : (zs.contains x = true) ↔ ∃ j, j < zs.length ∧ zs.getD j 0 = x := by
  rw [List.contains_iff_mem]
  constructor
  · intro h
    obtain ⟨j, hj, rfl⟩ := List.getElem_of_mem h
    exact ⟨j, hj, by simp [List.getElem?_eq_getElem hj]⟩
  · rintro ⟨j, hj, rfl⟩
    simp [List.getElem?_eq_getElem hj]

set_option maxRecDepth 100000 in
set_option maxHeartbeats 1000000 in
theorem has_zero (w : World) (a0 : Option Addr) (c0 : Nat) (x : Int) :
    Calls Try.prog 16 #[.slice a0 0 c0, .int .i64 x] w fun e w' => e = .returned (.bool false) ∧ Below w.heap.size w w' := by
  go_enter Try.func16, Try.ntmps16
  go_wp2
  go_loopw [5] (fun i wr => i = .int .i64 0 ∧ wr = w) (fun i _ => 0)
  case atStart => exact ⟨rfl, rfl⟩
  case round =>
    obtain ⟨rfl, rfl⟩ := hrel
    go_wp2
    go_ret
    exact ⟨rfl, Below.refl _ _⟩

set_option maxRecDepth 100000 in
set_option maxHeartbeats 1000000 in
theorem has_some (w : World) (n b0 o0 c0 : Nat) (x : Int) (hn : n ≤ maxLen) (Z : Nat → Int) (r : Bool) (hr : r = true ↔ ∃ j, j < n ∧ Z j = x) (hb0 : b0 < w.heap.size)
    (h0 : ∀ j, j < n → w.cell? ⟨b0, o0 + j, none⟩ = some (.int .i64 (Z j))) :
    Calls Try.prog 16 #[.slice (some ⟨b0, o0, none⟩) n c0, .int .i64 x] w fun e w' => e = .returned (.bool r) ∧ Below w.heap.size w w' := by
  unfold maxLen at hn
  have H0 := hide h0; have HR := hide hr
  clear h0 hr
  go_enter Try.func16, Try.ntmps16
  go_wp2
  go_loopw [5] (fun i wr => ∃ j : Nat, j ≤ n ∧ i = .int .i64 j ∧ wr = w ∧ ∀ i, i < j → Z i ≠ x) (fun i _ => n - (intOf i).toNat)
  case atStart => exact ⟨0, Nat.zero_le _, rfl, rfl, fun i hi => by omega⟩
  case round =>
    obtain ⟨j, hj, rfl, rfl, hne⟩ := hrel
    have HN := hide hne
    clear hne
    by_cases hlt : j < n
    · have k0 := unhide H0 j hlt
      obtain ⟨z, ez⟩ : ∃ z, Z j = z := ⟨_, rfl⟩
      rw [ez] at k0
      have HZ := hide ez
      clear ez
      have i0 : (0 : Int) ≤ (j : Int) := by omega
      have i1 : (j : Int) < (n : Int) := by omega
      by_cases hz : z = x
      · subst hz
        have hz1 : (z == z) = true := by simp
        go_wp2
        go_ret
        refine ⟨?_, Below.refl _ _⟩
        rw [(unhide HR).2 ⟨j, hlt, unhide HZ⟩]
        rfl
      · have hz1 : (z == x) = false := by simpa using hz
        go_wp2
        go_roundw
        case rel => exact ⟨j + 1, by omega, by go_num, by first | rfl | trivial, fun i hi => by
          by_cases e : i = j
          · subst e; rw [unhide HZ]; exact hz
          · exact unhide HN i (by omega)⟩
        case measure => simp [intOf]; omega
    · go_wp2
      go_ret
      refine ⟨?_, Below.refl _ _⟩
      cases r with
      | false => rfl
      | true =>
        obtain ⟨i, hi, he⟩ := (unhide HR).1 rfl
        exact absurd he (unhide HN i (by omega))

theorem has_any (w : World) (v : Value) (zs : List Int) (x : Int) (h : IsInts w v zs) (hn : zs.length ≤ maxLen) :
    Calls Try.prog 16 #[v, .int .i64 x] w fun e w' => e = .returned (.bool (zs.contains x)) ∧ Below w.heap.size w w' := by
  by_cases h0 : 0 < zs.length
  · obtain ⟨b, off, c, rfl, hb, hc⟩ := h.at h0
    exact has_some w zs.length b off c x hn _ _ (contains_iff zs x) hb hc
  · obtain ⟨a0, c0, rfl⟩ := Rd.form h.1
    have e0 : zs.length = 0 := by omega
    have e1 : zs = [] := List.eq_nil_of_length_eq_zero e0
    subst e1
    exact has_zero w a0 c0 x

theorem IsInts.below {w w' : World} {v : Value} {zs : List Int} (h : IsInts w v zs) (hb : Below w.heap.size w w') : IsInts w' v zs := ⟨Rd.below h.1 hb, h.2⟩
theorem IsInts.form {w : World} {v : Value} {zs : List Int} (h : IsInts w v zs) : ∃ a c, v = .slice a zs.length c := Rd.form h.1
theorem ints_nil (w : World) : IsInts w (.slice none 0 0) [] := ⟨⟨rfl, Or.inl ⟨rfl, rfl⟩⟩, fits_of (Nat.le_refl _)⟩
/-- wait.fresh, of numbers. -/
theorem fresh_ints (w : World) (v : Value) (zs : List Int) (h : IsInts w v zs) (hn : zs.length * 8 ≤ 140737488355328) :
    Calls Try.prog 46 #[v] w fun e w' => ∃ a' c', e = .returned (.slice a' zs.length c') ∧ IsInts w' (.slice a' zs.length c') zs ∧ Below w.heap.size w w' := by
  refine (fresh_any w v zs.length _ h.1 (ints_one zs) hn).mono ?_
  rintro e w' ⟨v', rfl, ho, hb⟩
  obtain ⟨a', c', rfl⟩ := Rd.form (Rd.of_owns ho)
  exact ⟨a', c', rfl, ⟨Rd.of_owns ho, fits_owns ho⟩, hb⟩
/-- taskmilllaw.own, of numbers. -/
theorem own_ints (w : World) (v : Value) (zs : List Int) (h : IsInts w v zs) (hn : zs.length * 8 ≤ 140737488355328) :
    Calls Try.prog 22 #[v] w fun e w' => ∃ a' c', e = .returned (.slice a' zs.length c') ∧ w'.ownsRow w.heap.size 3 1 (.slice a' zs.length c') zs.length (zs.map (Value.int .i64)) ∧ Below w.heap.size w w' := by
  refine (own_any w v zs.length _ h.1 (ints_one zs) hn).mono ?_
  rintro e w' ⟨v', rfl, ho, hb⟩
  obtain ⟨a', c', rfl⟩ := Rd.form (Rd.of_owns ho)
  exact ⟨a', c', rfl, ho, hb⟩
theorem Below.next {B : Nat} {w w1 w2 : World} (h : Below B w w1) (h2 : Below w1.heap.size w1 w2) (hs : B ≤ w.heap.size) : Below B w w2 := h.trans (h2.mono (Nat.le_trans hs h.size))
end Go.Proofs.Ytjlcfdhghohccaa
