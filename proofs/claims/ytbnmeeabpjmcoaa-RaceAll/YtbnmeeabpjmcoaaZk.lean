/-
  Rows of Booleans; what taskmillref.Reach knows, as sets.
-/
import Derived.Test.YtbnmeeabpjmcoaaZj
namespace Go.Proofs.Ytbnmeeabpjmcoaa
open Go.RowKit

theorem cell_same {w : World} {b o n : Nat} (h : w.there b 0 n) (ho : o < n) (v : Value) : (w.setCell ⟨b, o, none⟩ v).cell? ⟨b, o, none⟩ = some v := by
  have h1 : w.there b o [v].length := fun q hq => by
    have hk : q = 0 := by simpa using hq
    subst hk
    have := h o ho
    rwa [Nat.zero_add] at this
  exact World.rangeAt_setCells_same w b o [v] h1 0 _ rfl
theorem cell_other {w : World} {b o b' o' : Nat} {u : Value} (h : w.cell? ⟨b', o', none⟩ = some u) (hne : b' ≠ b ∨ o' ≠ o) (v : Value) : (w.setCell ⟨b, o, none⟩ v).cell? ⟨b', o', none⟩ = some u := by
  have := World.rangeAt_setCells_apart (w := w) (b' := b') (o' := o') (cs := [u]) (fun q x hv => by
    have hk : q = 0 := by have := (List.getElem?_eq_some_iff.1 hv).1; simpa using this
    subst hk
    simp at hv
    subst hv
    exact h) b o [v] (by
      rcases hne with h | h
      · exact Or.inl h
      · rcases Nat.lt_or_gt_of_ne h with h | h
        · exact Or.inr (Or.inl (by simp; omega))
        · exact Or.inr (Or.inr (by simp; omega))) 0 _ rfl
  exact this
theorem there_set {w : World} {b' n b o : Nat} (h : w.there b' 0 n) (v : Value) : (w.setCell ⟨b, o, none⟩ v).there b' 0 n := World.there_setCells h b o [v]
theorem size_set (w : World) (b o : Nat) (v : Value) : (w.setCell ⟨b, o, none⟩ v).heap.size = w.heap.size := by simp [World.setCell]
/-- Rows of Booleans: m of n rows, each of n; their slices lie in the block R. -/
structure RowsB (w : World) (R n m : Nat) (bf : Nat → Nat) (M : Nat → Nat → Bool) : Prop where
  there : w.there R 0 n
  lt : R < w.heap.size
  cell : ∀ k, k < m → w.cell? ⟨R, k, none⟩ = some (.slice (some ⟨bf k, 0, none⟩) n n)
  rth : ∀ k, k < m → w.there (bf k) 0 n
  row : ∀ k, k < m → ∀ j, j < n → w.cell? ⟨bf k, j, none⟩ = some (.bool (M k j))
  blk : ∀ k, k < m → R < bf k ∧ bf k < w.heap.size
  ne : ∀ k k', k < m → k' < m → k ≠ k' → bf k ≠ bf k'
theorem RowsB.below {w w' : World} {R n m : Nat} {bf : Nat → Nat} {M : Nat → Nat → Bool} (h : RowsB w R n m bf M) (hb : Below w.heap.size w w') : RowsB w' R n m bf M :=
  ⟨there_keep h.there (hb.block R h.lt), Nat.lt_of_lt_of_le h.lt hb.size, fun k hk => cell_of (h.cell k hk) (hb.block R h.lt), fun k hk => there_keep (h.rth k hk) (hb.block _ (h.blk k hk).2), fun k hk j hj => cell_of (h.row k hk j hj) (hb.block _ (h.blk k hk).2), fun k hk => ⟨(h.blk k hk).1, Nat.lt_of_lt_of_le (h.blk k hk).2 hb.size⟩, h.ne⟩
theorem RowsB.congr {w : World} {R n m : Nat} {bf : Nat → Nat} {M M' : Nat → Nat → Bool} (h : RowsB w R n m bf M) (he : ∀ k j, k < m → j < n → M k j = M' k j) : RowsB w R n m bf M' :=
  ⟨h.there, h.lt, h.cell, h.rth, fun k hk j hj => by rw [← he k j hk hj]; exact h.row k hk j hj, h.blk, h.ne⟩
theorem make_bools (n : Nat) (hn : n ≤ 2000) : ∃ A : Array Value, A.toList = List.replicate n (.bool false) ∧ ∀ w : World, (Instr.makeSlice 42 (.int .i64 (n : Int)) (.int .i64 (n : Int))).run Try.prog w = .ok (.slice (some ⟨w.heap.size, 0, none⟩) n n) (w.alloc (.cells A 4)) := by
  have hinf : (Try.prog.info? 4).map (fun i => (i.zero, i.size, i.bytes)) = some (some (.bool false), 1, 1) := by kernel_rfl
  obtain ⟨i0, hi, h0, h1, h2⟩ := info_parts hinf
  refine ⟨madeCells (Value.bool false).cells (n * i0.size), by rw [h1, Nat.mul_one]; exact toList_madeCells_one _ _, fun w => ?_⟩
  have := run_makeSlice (P := Try.prog) w 42 4 i0 (.bool false) Try.underlying42 hi h0 .i64 .i64 (n : Int) (n : Int) (by omega) (by omega) (by rw [h1]; omega) (by rw [h2]; omega) (by omega)
  simpa using this
theorem make_boolrows (n : Nat) (hn : n ≤ 2000) : ∃ A : Array Value, A.size = n ∧ ∀ w : World, (Instr.makeSlice 38 (.int .i64 (n : Int)) (.int .i64 (n : Int))).run Try.prog w = .ok (.slice (some ⟨w.heap.size, 0, none⟩) n n) (w.alloc (.cells A 42)) := by
  have hinf : (Try.prog.info? 42).map (fun i => (i.zero, i.size, i.bytes)) = some (some (.slice none 0 0), 1, 24) := by kernel_rfl
  obtain ⟨i0, hi, h0, h1, h2⟩ := info_parts hinf
  refine ⟨madeCells (Value.slice none 0 0).cells (n * i0.size), by rw [size_madeCells, h1, Nat.mul_one], fun w => ?_⟩
  have := run_makeSlice (P := Try.prog) w 38 42 i0 (.slice none 0 0) Try.underlying38 hi h0 .i64 .i64 (n : Int) (n : Int) (by omega) (by omega) (by rw [h1]; omega) (by rw [h2]; omega) (by omega)
  simpa using this
theorem RowsB.make {w : World} {R n m : Nat} {bf : Nat → Nat} {A : Array Value} (h : RowsB w R n m bf (fun _ _ => false)) (hm : m < n) (hA : A.toList = List.replicate n (.bool false)) :
    RowsB ((w.alloc (.cells A 4)).setCell ⟨R, m, none⟩ (.slice (some ⟨w.heap.size, 0, none⟩) n n)) R n (m + 1) (updF bf m w.heap.size) (fun _ _ => false) := by
  have hsz : A.size = n := by rw [← Array.length_toList, hA, List.length_replicate]
  have hb : Below w.heap.size w (w.alloc (.cells A 4)) := (Below.refl _ _).alloc (Nat.le_refl _) _
  have h1 := h.below hb
  have hN := new_block w (.cells A 4)
  have hRN : w.heap.size ≠ R := by have := h.lt; omega
  have hne : ∀ k, k < m → bf k ≠ R := fun k hk => by have := (h.blk k hk).1; omega
  have hlt : ∀ k, k < m → bf k ≠ w.heap.size := fun k hk => by have := (h.blk k hk).2; omega
  refine ⟨there_set h1.there _, by rw [size_set]; exact h1.lt, fun k hk => ?_, fun k hk => ?_, fun k hk j hj => ?_, fun k hk => ?_, fun k k' hk hk' hkk => ?_⟩
  · by_cases e : k = m
    · subst e
      rw [updF_same]
      exact cell_same h1.there hm _
    · rw [updF_ne _ _ e]
      exact cell_other (h1.cell k (by omega)) (Or.inr e) _
  · by_cases e : k = m
    · subst e
      rw [updF_same]
      exact there_set (there_block hN (by omega)) _
    · rw [updF_ne _ _ e]
      exact there_set (h1.rth k (by omega)) _
  · by_cases e : k = m
    · subst e
      rw [updF_same]
      refine cell_other ?_ (Or.inl hRN) _
      simp only [World.cell?, hN]
      have : A[j]? = some (.bool false) := by
        rw [← Array.getElem?_toList, hA, List.getElem?_replicate]
        simp [hj]
      simpa using this
    · rw [updF_ne _ _ e]
      exact cell_other (h1.row k (by omega) j hj) (Or.inl (hne k (by omega))) _
  · by_cases e : k = m
    · subst e
      rw [updF_same, size_set]
      exact ⟨h.lt, by simp⟩
    · rw [updF_ne _ _ e, size_set]
      exact h1.blk k (by omega)
  · by_cases e : k = m
    · subst e
      rw [updF_same, updF_ne _ _ (Ne.symm hkk)]
      exact Ne.symm (hlt k' (by omega))
    · by_cases e' : k' = m
      · subst e'
        rw [updF_same, updF_ne _ _ e]
        exact hlt k (by omega)
      · rw [updF_ne _ _ e, updF_ne _ _ e']
        exact h.ne k k' (by omega) (by omega) hkk
theorem RowsB.put {w : World} {R n k j : Nat} {bf : Nat → Nat} {M : Nat → Nat → Bool} (h : RowsB w R n n bf M) (hk : k < n) (hj : j < n) (b : Bool) :
    RowsB (w.setCell ⟨bf k, j, none⟩ (.bool b)) R n n bf (fun a c => if a = k ∧ c = j then b else M a c) := by
  have hR : R ≠ bf k := by have := (h.blk k hk).1; omega
  refine ⟨there_set h.there _, by rw [size_set]; exact h.lt, fun a ha => cell_other (h.cell a ha) (Or.inl hR) _, fun a ha => there_set (h.rth a ha) _, fun a ha c hc => ?_, fun a ha => by rw [size_set]; exact h.blk a ha, h.ne⟩
  by_cases e : a = k
  · subst e
    by_cases e2 : c = j
    · subst e2
      rw [if_pos ⟨rfl, rfl⟩]
      exact cell_same (h.rth a ha) hc _
    · rw [if_neg (fun q => e2 q.2)]
      exact cell_other (h.row a ha c hc) (Or.inr e2) _
  · rw [if_neg (fun q => e q.1)]
    exact cell_other (h.row a ha c hc) (Or.inl (h.ne a k ha hk e)) _

section
variable {hs : List Int} {l : List Ev}
/-- What is known of the event k when those ahead of i are gone through. -/
def RI (hs : List Int) (l : List Ev) (i k j : Nat) : Prop := ∃ y, y < i ∧ Edge hs l y k ∧ (j = y ∨ Rch hs l j y)
/-- The same when x edges of i are gone through, too. -/
def RX (hs : List Int) (l : List Ev) (L : List Int) (i x k j : Nat) : Prop := RI hs l i k j ∨ ((∃ x', x' < x ∧ L[x']? = some (k : Int)) ∧ (j = i ∨ Rch hs l j i))
/-- The same when of one more edge what is ahead of c is handed on. -/
def RJ (hs : List Int) (l : List Ev) (L : List Int) (i x k0 c k j : Nat) : Prop := RX hs l L i x k j ∨ (k = k0 ∧ (j = i ∨ (j < c ∧ Rch hs l j i)))
theorem ri_self {k j : Nat} : RI hs l k k j ↔ Rch hs l j k := by
  rw [Rch.last]
  constructor
  · rintro ⟨y, _, h1, h2⟩
    exact ⟨y, h1, h2⟩
  · rintro ⟨y, h1, h2⟩
    exact ⟨y, h1.1, h1, h2⟩
theorem ri_end {n k j : Nat} (hk : k ≤ n) : RI hs l n k j ↔ Rch hs l j k := by
  rw [Rch.last]
  constructor
  · rintro ⟨y, _, h1, h2⟩
    exact ⟨y, h1, h2⟩
  · rintro ⟨y, h1, h2⟩
    exact ⟨y, by have := h1.1; omega, h1, h2⟩
theorem rx_zero {L : List Int} {i k j : Nat} : RX hs l L i 0 k j ↔ RI hs l i k j := ⟨fun h => h.elim id (fun q => by obtain ⟨⟨x, q1, _⟩, _⟩ := q; omega), Or.inl⟩
theorem rj_self {L : List Int} {i x k0 c j : Nat} (hL : ∀ z ∈ L, (i : Int) < z) (h0 : i < k0) : RJ hs l L i x k0 c i j ↔ Rch hs l j i := by
  rw [← ri_self]
  constructor
  · rintro ((h | ⟨⟨x', _, h⟩, _⟩) | ⟨h, _⟩)
    · exact h
    · have := hL _ (List.mem_of_getElem? h)
      omega
    · omega
  · exact fun h => Or.inl (Or.inl h)
theorem rj_begin {L : List Int} {i x k0 k j : Nat} : (RX hs l L i x k j ∨ (k = k0 ∧ j = i)) ↔ RJ hs l L i x k0 0 k j := by
  constructor
  · rintro (h | ⟨h, h'⟩)
    · exact Or.inl h
    · exact Or.inr ⟨h, Or.inl h'⟩
  · rintro (h | ⟨h, h' | h'⟩)
    · exact Or.inl h
    · exact Or.inr ⟨h, h'⟩
    · omega
theorem rj_succ {L : List Int} {i x k0 c k j : Nat} : (RJ hs l L i x k0 c k j ∨ (k = k0 ∧ j = c ∧ Rch hs l c i)) ↔ RJ hs l L i x k0 (c + 1) k j := by
  constructor
  · rintro ((h | ⟨h, h' | ⟨h', h''⟩⟩) | ⟨h, h', h''⟩)
    · exact Or.inl h
    · exact Or.inr ⟨h, Or.inl h'⟩
    · exact Or.inr ⟨h, Or.inr ⟨by omega, h''⟩⟩
    · exact Or.inr ⟨h, Or.inr ⟨by omega, by rw [h']; exact h''⟩⟩
  · rintro (h | ⟨h, h' | ⟨h', h''⟩⟩)
    · exact Or.inl (Or.inl h)
    · exact Or.inl (Or.inr ⟨h, Or.inl h'⟩)
    · by_cases e : j = c
      · exact Or.inr ⟨h, e, by rw [← e]; exact h''⟩
      · exact Or.inl (Or.inr ⟨h, Or.inr ⟨by omega, h''⟩⟩)
theorem rj_end {L : List Int} {i x k0 k j : Nat} (hx : L[x]? = some (k0 : Int)) : RJ hs l L i x k0 i k j ↔ RX hs l L i (x + 1) k j := by
  constructor
  · rintro ((h | ⟨⟨x', h, h'⟩, h''⟩) | ⟨h, h' | ⟨_, h'⟩⟩)
    · exact Or.inl h
    · exact Or.inr ⟨⟨x', by omega, h'⟩, h''⟩
    · exact Or.inr ⟨⟨x, by omega, by rw [h]; exact hx⟩, Or.inl h'⟩
    · exact Or.inr ⟨⟨x, by omega, by rw [h]; exact hx⟩, Or.inr h'⟩
  · rintro (h | ⟨⟨x', h, h'⟩, h''⟩)
    · exact Or.inl (Or.inl h)
    · by_cases e : x' = x
      · subst e
        rw [hx] at h'
        have hk : k = k0 := by
          have := Option.some.inj h'
          omega
        refine Or.inr ⟨hk, ?_⟩
        rcases h'' with q | q
        · exact Or.inl q
        · exact Or.inr ⟨q.lt.1, q⟩
      · exact Or.inl (Or.inr ⟨⟨x', by omega, h'⟩, h''⟩)
theorem rx_end {n i k j T : Nat} {L : Nat → List Int} (hE : Ed n (Edge hs l) L T) (hi : i < n) (hn : l.length = n) : RX hs l (L i) i (L i).length k j ↔ RI hs l (i + 1) k j := by
  constructor
  · rintro (⟨y, h1, h2⟩ | ⟨⟨x', _, h'⟩, h''⟩)
    · exact ⟨y, by omega, h2⟩
    · obtain ⟨b, e, _, _, hb⟩ := hE.ok i hi _ (List.mem_of_getElem? h')
      obtain rfl : k = b := by omega
      exact ⟨i, by omega, hb, h''⟩
  · rintro ⟨y, h1, h2, h3⟩
    by_cases e : y = i
    · subst e
      have hm := hE.all y hi k h2.1 (by have := h2.2.1; omega) h2
      obtain ⟨x', hx, hg⟩ := List.getElem_of_mem hm
      exact Or.inr ⟨⟨x', hx, by rw [List.getElem?_eq_getElem hx, hg]⟩, h3⟩
    · exact Or.inl ⟨y, by omega, h2, h3⟩
/-- The rows tell of P. -/
def Tells (n : Nat) (M : Nat → Nat → Bool) (P : Nat → Nat → Prop) : Prop := ∀ k j, k < n → j < n → (M k j = true ↔ P k j)
theorem Tells.congr {n : Nat} {M : Nat → Nat → Bool} {P P' : Nat → Nat → Prop} (h : Tells n M P) (hp : ∀ k j, k < n → j < n → (P k j ↔ P' k j)) : Tells n M P' := fun k j hk hj => (h k j hk hj).trans (hp k j hk hj)
theorem Tells.put {n : Nat} {M : Nat → Nat → Bool} {P : Nat → Nat → Prop} (h : Tells n M P) (k0 j0 : Nat) : Tells n (fun a c => if a = k0 ∧ c = j0 then true else M a c) (fun k j => P k j ∨ (k = k0 ∧ j = j0)) := fun k j hk hj => by
  have hm := h k j hk hj
  by_cases e : k = k0 ∧ j = j0
  · show (if k = k0 ∧ j = j0 then true else M k j) = true ↔ _
    rw [if_pos e]
    exact ⟨fun _ => Or.inr e, fun _ => rfl⟩
  · show (if k = k0 ∧ j = j0 then true else M k j) = true ↔ _
    rw [if_neg e, hm]
    exact ⟨Or.inl, fun q => q.elim id (fun q => absurd q e)⟩
theorem Tells.put2 {n : Nat} {M : Nat → Nat → Bool} {P : Nat → Nat → Prop} (h : Tells n M P) {k0 j0 : Nat} {R : Prop} {b : Bool} (hb : b = true ↔ R) : Tells n (fun a c => if a = k0 ∧ c = j0 then (M k0 j0 || b) else M a c) (fun k j => P k j ∨ (k = k0 ∧ j = j0 ∧ R)) := fun k j hk hj => by
  have hm := h k j hk hj
  by_cases e : k = k0 ∧ j = j0
  · show (if k = k0 ∧ j = j0 then (M k0 j0 || b) else M k j) = true ↔ _
    rw [if_pos e, Bool.or_eq_true, hb, ← e.1, ← e.2, hm]
    constructor
    · intro q
      rcases q with q | q
      · exact Or.inl q
      · exact Or.inr ⟨rfl, rfl, q⟩
    · intro q
      rcases q with q | q
      · exact Or.inl q
      · exact Or.inr q.2.2
  · show (if k = k0 ∧ j = j0 then (M k0 j0 || b) else M k j) = true ↔ _
    rw [if_neg e, hm]
    exact ⟨Or.inl, fun q => q.elim id (fun q => absurd ⟨q.1, q.2.1⟩ e)⟩
end
end Go.Proofs.Ytbnmeeabpjmcoaa
