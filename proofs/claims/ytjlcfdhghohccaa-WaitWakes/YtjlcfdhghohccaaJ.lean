/-
  The functions that are handed to wait.changed; wait.lineOf.
-/
import Derived.Test.YtjlcfdhghohccaaI
namespace Go.Proofs.Ytjlcfdhghohccaa
open Go.RowKit

theorem block1 {w : World} {R : Nat} {x : Value} {t : TypeId} (h : w.heap[R]? = some (.cells #[x] t (0, 0))) : w.cell? ⟨R, 0, none⟩ = some x ∧ w.frozen? ⟨R, 0, none⟩ = false ∧ R < w.heap.size := by
  refine ⟨?_, ?_, (Array.getElem?_eq_some_iff.1 h).1⟩
  · simp only [World.cell?, h]; rfl
  · simp [World.frozen?, h]
theorem IsInts.len {w : World} {a : Option Addr} {n c : Nat} {zs : List Int} (h : IsInts w (.slice a n c) zs) : zs.length = n := by
  obtain ⟨a', c', e⟩ := h.form
  cases e
  rfl
theorem IsInts.fits {w : World} {a : Option Addr} {n c : Nat} {zs : List Int} (h : IsInts w (.slice a n c) zs) : n ≤ c := h.2 _ _ _ rfl
theorem ints_new (w : World) (x : Int) (t : TypeId) : IsInts (w.alloc (.cells #[.int .i64 x] t)) (.slice (some ⟨w.heap.size, 0, none⟩) 1 1) [x] := by
  refine ⟨⟨rfl, Or.inr ⟨_, _, rfl, fun j u hj => ?_⟩⟩, fits_of (Nat.le_refl _)⟩
  have hh := (MapKept.heap_alloc w (.cells #[.int .i64 x] t)).1
  rw [WideShapes.add_plain]
  simp only [World.cell?, hh]
  match j, hj with
  | 0, hj => simpa using hj
  | j + 1, hj => simp at hj
theorem enters33 : ∀ args w, (callFunc 33 args).run Try.prog w = .ok (.enter 33 args) w := fun _ _ => by kernel_rfl
theorem enters37 : ∀ args w, (callFunc 37 args).run Try.prog w = .ok (.enter 37 args) w := fun _ _ => by kernel_rfl
theorem enters39 : ∀ args w, (callFunc 39 args).run Try.prog w = .ok (.enter 39 args) w := fun _ _ => by kernel_rfl
theorem enters48 : ∀ args w, (callFunc 48 args).run Try.prog w = .ok (.enter 48 args) w := fun _ _ => by kernel_rfl

/-- A block of two slices behind a new block. -/
theorem two_there (w : World) (o : Obj) (x y : Value) : ((w.alloc o).alloc (.cells #[x, y] 34)).heap[w.heap.size + 1]? = some (.cells #[x, y] 34 (0, 0)) := by
  have := new_block (w.alloc o) (.cells #[x, y] 34)
  rw [World.size_alloc] at this
  exact this

set_option maxRecDepth 100000 in
set_option maxHeartbeats 1000000 in
theorem add1_any (w : World) (a : Option Addr) (m c F K : Nat) (fst : Bool) (task : Int) (T : List Int) (h : IsInts w (.slice a m c) T) (hF : w.heap[F]? = some (.cells #[.bool fst] 4 (0, 0))) (hK : w.heap[K]? = some (.cells #[.int .i64 task] 3 (0, 0))) (hm : m ≤ 100000) :
    Calls Try.prog 33 #[.slice a m c, .pointer (some ⟨F, 0, none⟩), .pointer (some ⟨K, 0, none⟩)] w fun e w' => ∃ a2 c2, e = .returned (.slice a2 (m + 1) c2) ∧ IsInts w' (.slice a2 (m + 1) c2) (if fst = true then task :: T else T ++ [task]) ∧ Below w.heap.size w w' := by
  obtain ⟨f0, _, _⟩ := block1 hF
  obtain ⟨t0, _, _⟩ := block1 hK
  have hb1 : Below w.heap.size w (w.alloc (.cells #[.int .i64 task] 3)) := (Below.refl _ _).alloc (Nat.le_refl _) _
  have hin := ints_new w task 3
  cases fst with
  | true =>
    have hb2 : Below (w.alloc (.cells #[.int .i64 task] 3)).heap.size _ ((w.alloc (.cells #[.int .i64 task] 3)).alloc (.cells #[.slice (some ⟨w.heap.size, 0, none⟩) 1 1, .slice a m c] 34)) := (Below.refl _ _).alloc (Nat.le_refl _) _
    have HC := hide (concat_any _ (w.heap.size + 1) (some ⟨w.heap.size, 0, none⟩) a 1 m 1 c [task] T (hin.below hb2) ((h.below hb1).below hb2) (two_there w _ _ _) (by omega) hm)
    have HB := hide (Below.next hb1 hb2 (Nat.le_refl _))
    clear hF hK h hin hb1 hb2
    go_enter Try.func33, Try.ntmps33
    go_wp2_with (go_at_call 34; refine (unhide HC).mono ?_; rintro e w1 ⟨a1, c1, rfl, ho1, hb1⟩; have HO1 := hide ho1.ints; have HB1 := hide hb1; clear ho1 hb1)
    go_ret
    refine ⟨a1, c1, ?_, ?_, Below.next (unhide HB) (unhide HB1) (Nat.le_refl _)⟩
    · rw [Nat.add_comm]; rfl
    · rw [Nat.add_comm]; exact unhide HO1
  | false =>
    have hb2 : Below (w.alloc (.cells #[.int .i64 task] 3)).heap.size _ ((w.alloc (.cells #[.int .i64 task] 3)).alloc (.cells #[.slice a m c, .slice (some ⟨w.heap.size, 0, none⟩) 1 1] 34)) := (Below.refl _ _).alloc (Nat.le_refl _) _
    have HC := hide (concat_any _ (w.heap.size + 1) a (some ⟨w.heap.size, 0, none⟩) m 1 c 1 T [task] ((h.below hb1).below hb2) (hin.below hb2) (two_there w _ _ _) hm (by omega))
    have HB := hide (Below.next hb1 hb2 (Nat.le_refl _))
    clear hF hK h hin hb1 hb2
    go_enter Try.func33, Try.ntmps33
    go_wp2_with (go_at_call 34; refine (unhide HC).mono ?_; rintro e w1 ⟨a1, c1, rfl, ho1, hb1⟩; have HO1 := hide ho1.ints; have HB1 := hide hb1; clear ho1 hb1)
    go_ret
    exact ⟨a1, c1, rfl, unhide HO1, Below.next (unhide HB) (unhide HB1) (Nat.le_refl _)⟩

set_option maxRecDepth 100000 in
set_option maxHeartbeats 1000000 in
theorem move1_any (w : World) (a a0 : Option Addr) (m c m0 c0 F : Nat) (T M : List Int) (h : IsInts w (.slice a m c) T) (h0 : IsInts w (.slice a0 m0 c0) M) (hF : w.heap[F]? = some (.cells #[.slice a0 m0 c0] 34 (0, 0))) (hm : m ≤ 100000) (hm0 : m0 ≤ 100000) :
    Calls Try.prog 37 #[.slice a m c, .pointer (some ⟨F, 0, none⟩)] w fun e w' => ∃ a2 c2, e = .returned (.slice a2 (m + m0) c2) ∧ IsInts w' (.slice a2 (m + m0) c2) (T ++ M) ∧ Below w.heap.size w w' := by
  obtain ⟨f0, _, _⟩ := block1 hF
  have hb2 : Below w.heap.size _ (w.alloc (.cells #[.slice a m c, .slice a0 m0 c0] 34)) := (Below.refl _ _).alloc (Nat.le_refl _) _
  have HC := hide (concat_any _ w.heap.size a a0 m m0 c c0 T M (h.below hb2) (h0.below hb2) (new_block w _) hm hm0)
  have HB := hide hb2
  clear hF h h0 hb2
  go_enter Try.func37, Try.ntmps37
  go_wp2_with (go_at_call 34; refine (unhide HC).mono ?_; rintro e w1 ⟨a1, c1, rfl, ho1, hb1⟩; have HO1 := hide ho1.ints; have HB1 := hide hb1; clear ho1 hb1)
  go_ret
  exact ⟨a1, c1, rfl, unhide HO1, Below.next (unhide HB) (unhide HB1) (Nat.le_refl _)⟩

theorem IsInts.none_left {w : World} {ad : Addr} {c p : Nat} {zs : List Int} (hp : zs.length ≤ p) : IsInts w (.slice (some ad) 0 c) (zs.drop p) := by
  rw [List.drop_eq_nil_of_le hp]
  exact ⟨⟨rfl, Or.inr ⟨ad, c, rfl, fun j u hj => by simp at hj⟩⟩, fits_of (Nat.zero_le _)⟩
theorem IsInts.take {w : World} {b off n c : Nat} {zs : List Int} (h : IsInts w (.slice (some ⟨b, off, none⟩) n c) zs) {p : Nat} (hp : p ≤ n) : IsInts w (.slice (some ⟨b, off, none⟩) p c) (zs.take p) := by
  have := h.part 0 p c (by rw [h.len]; omega) (by have := h.fits; omega)
  simpa using this
theorem IsInts.drop {w : World} {b off n c : Nat} {zs : List Int} (h : IsInts w (.slice (some ⟨b, off, none⟩) n c) zs) {p : Nat} (hp : p ≤ n) : IsInts w (.slice (some ⟨b, off + p, none⟩) (n - p) (c - p)) (zs.drop p) := by
  have := h.part p (n - p) (c - p) (by rw [h.len]; omega) (by have := h.fits; omega)
  rw [List.take_of_length_le (by rw [List.length_drop, h.len]; omega)] at this
  exact this
/-- The address of what is left of a slice. -/
theorem IsInts.drop_if {w : World} {b off n c : Nat} {zs : List Int} (h : IsInts w (.slice (some ⟨b, off, none⟩) n c) zs) {p : Nat} (hp : p ≤ n) {A : Option Addr} (hA : A = if c = p then some ⟨b, off, none⟩ else some ⟨b, off + p, none⟩) : IsInts w (.slice A (n - p) (c - p)) (zs.drop p) := by
  have hl := h.len
  have hc := h.fits
  by_cases e : c = p
  · rw [if_pos e] at hA
    subst hA
    have : n - p = 0 := by omega
    rw [this]
    exact IsInts.none_left (by omega)
  · rw [if_neg e] at hA
    subst hA
    exact h.drop hp
end Go.Proofs.Ytjlcfdhghohccaa
