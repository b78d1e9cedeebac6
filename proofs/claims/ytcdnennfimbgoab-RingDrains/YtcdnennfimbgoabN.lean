/-
  Rings with which nothing is wrong; a ring in a variable.
-/
import Derived.Test.YtcdnennfimbgoabM
namespace Go.Proofs.Ytcdnennfimbgoab
open Go.RowKit

/-- Nothing is wrong with this ring. -/
structure Good (nx : Int) (zs : List Int) : Prop where
  len : zs.length ≤ 256
  next : 0 ≤ nx
  pos : ∀ z, z ∈ zs → 1 ≤ z
  other : ¬ nx ∈ zs
  once : zs.Nodup

theorem faultFrom_all {W : Nat → Int} : ∀ {f i : Nat}, (∀ j, i ≤ j → j < i + f → W j = 0) → faultFrom W f i = (0, 0)
  | 0, _, _ => rfl
  | f + 1, i, h => by rw [faultFrom, if_pos (h i (Nat.le_refl _) (by omega))]; exact faultFrom_all fun j h1 h2 => h j (by omega) (by omega)
theorem faultFrom_each {W : Nat → Int} : ∀ {f i : Nat}, faultFrom W f i = (0, 0) → ∀ j, i ≤ j → j < i + f → W j = 0
  | 0, _, _, j, h1, h2 => by omega
  | f + 1, i, h, j, h1, h2 => by
    rw [faultFrom] at h
    split at h
    · rename_i h0
      by_cases e : j = i
      · subst e; exact h0
      · exact faultFrom_each h j (by omega) (by omega)
    · rename_i h0
      have := congrArg Prod.fst h
      exact absurd this h0

theorem getD_mem {zs : List Int} {j : Nat} (h : j < zs.length) : zs.getD j 0 ∈ zs := by simp [List.getElem?_eq_getElem h]
theorem mem_getD {zs : List Int} {z : Int} (h : z ∈ zs) : ∃ j, j < zs.length ∧ zs.getD j 0 = z := by
  obtain ⟨j, hj, rfl⟩ := List.getElem_of_mem h
  exact ⟨j, hj, by simp [List.getElem?_eq_getElem hj]⟩
theorem mem_take {zs : List Int} {z : Int} {j : Nat} (hj : j ≤ zs.length) : z ∈ zs.take j ↔ ∃ i, i < j ∧ zs.getD i 0 = z := by
  constructor
  · intro h
    obtain ⟨i, hi, he⟩ := mem_getD h
    rw [List.length_take] at hi
    refine ⟨i, by omega, ?_⟩
    rw [← he, List.getD_eq_getElem?_getD, List.getD_eq_getElem?_getD, List.getElem?_take, if_pos (by omega)]
  · rintro ⟨i, hi, rfl⟩
    have : (zs.take j).getD i 0 = zs.getD i 0 := by rw [List.getD_eq_getElem?_getD, List.getD_eq_getElem?_getD, List.getElem?_take, if_pos hi]
    rw [← this]
    exact getD_mem (by rw [List.length_take]; omega)
theorem nodup_getD {zs : List Int} : zs.Nodup ↔ ∀ i j, i < j → j < zs.length → zs.getD i 0 ≠ zs.getD j 0 := by
  rw [List.Nodup, List.pairwise_iff_getElem]
  constructor
  · intro h i j hij hj
    have := h i j (by omega) hj hij
    simpa [List.getElem?_eq_getElem hj, List.getElem?_eq_getElem (by omega : i < zs.length)] using this
  · intro h i j hi hj hij
    have := h i j hij hj
    simpa [List.getElem?_eq_getElem hj, List.getElem?_eq_getElem hi] using this

theorem good_iff {nx : Int} {zs : List Int} : ringF nx zs = (0, 0) ↔ Good nx zs := by
  constructor
  · intro h
    have hl := ringF_len h
    have hn := ringF_next h
    have hall : ∀ j, j < zs.length → ringW nx zs j = 0 := by
      unfold ringF at h
      rw [if_neg (by omega), if_neg hn] at h
      exact fun j hj => faultFrom_each h j (Nat.zero_le _) (by omega)
    have hone : ∀ j, j < zs.length → ¬ zs.getD j 0 < 1 ∧ ¬ (zs.getD j 0 = nx ∨ (zs.take j).contains (zs.getD j 0) = true) := by
      intro j hj
      have := hall j hj
      unfold ringW at this
      split at this
      · cases this
      · rename_i h1
        split at this
        · cases this
        · rename_i h2; exact ⟨h1, h2⟩
    refine ⟨hl, by omega, fun z hz => ?_, fun hz => ?_, nodup_getD.2 fun i j hij hj he => ?_⟩
    · obtain ⟨j, hj, rfl⟩ := mem_getD hz
      have := (hone j hj).1
      omega
    · obtain ⟨j, hj, he⟩ := mem_getD hz
      exact (hone j hj).2 (Or.inl he)
    · refine (hone j hj).2 (Or.inr (List.contains_iff_mem.2 ((mem_take (by omega)).2 ⟨i, hij, he⟩)))
  · intro h
    have hl := h.len
    have hn := h.next
    unfold ringF
    rw [if_neg (by omega), if_neg (by omega)]
    refine faultFrom_all fun j _ hj => ?_
    have hj' : j < zs.length := by omega
    have h1 := h.pos _ (getD_mem hj')
    unfold ringW
    rw [if_neg (by omega), if_neg]
    rintro (he | he)
    · exact h.other (he ▸ getD_mem hj')
    · obtain ⟨i, hi, he⟩ := (mem_take (by omega)).1 (List.contains_iff_mem.1 he)
      exact nodup_getD.1 h.once i j hi hj' he

theorem put_good {nx : Int} {zs : List Int} {t : Int} (h : Good nx zs) (h1 : 1 ≤ t) (h2 : t ≠ nx) (h3 : ¬ t ∈ zs) : putF nx zs t = (0, 0) := by
  unfold putF
  rw [good_iff.2 h]
  rw [if_neg (by simp), if_neg (by omega), if_neg]
  rintro (e | e)
  · exact h2 e
  · exact h3 (List.contains_iff_mem.1 e)

/-- The numbers from 1 on, so many. -/
def upL (n : Nat) : List Int := (List.range n).map fun (i : Nat) => (i : Int) + 1
theorem upL_length (n : Nat) : (upL n).length = n := by simp [upL]
theorem upL_succ (n : Nat) : upL (n + 1) = upL n ++ [(n : Int) + 1] := by unfold upL; rw [List.range_succ, List.map_append]; rfl
theorem upL_mem {n : Nat} {z : Int} : z ∈ upL n ↔ 1 ≤ z ∧ z ≤ n := by
  unfold upL
  rw [List.mem_map]
  constructor
  · rintro ⟨i, hi, rfl⟩
    have := List.mem_range.1 hi
    omega
  · rintro ⟨h1, h2⟩
    exact ⟨z.toNat - 1, List.mem_range.2 (by omega), by omega⟩
theorem upL_get {n j : Nat} (h : j < n) : (upL n).getD j 0 = (j : Int) + 1 := by
  unfold upL
  simp [List.getElem?_range h]
theorem upL_nodup (n : Nat) : (upL n).Nodup := nodup_getD.2 fun i j hij hj => by
  rw [upL_length] at hj
  rw [upL_get (by omega), upL_get hj]
  omega
theorem upL_drop {n j : Nat} (h : j < n) : (upL n).drop j = ((j : Int) + 1) :: (upL n).drop (j + 1) := by
  rw [List.drop_eq_getElem_cons (by rw [upL_length]; exact h)]
  congr 1
  have := upL_get h
  simpa [List.getElem?_eq_getElem (by rw [upL_length]; exact h : j < (upL n).length)] using this
theorem good_up {n : Nat} (h : n ≤ 256) : Good 0 (upL n) := ⟨by rw [upL_length]; exact h, by omega, fun z hz => (upL_mem.1 hz).1, fun hz => by have := (upL_mem.1 hz).1; omega, upL_nodup n⟩
theorem Good.drop {nx : Int} {zs : List Int} (h : Good nx zs) (j : Nat) : Good nx (zs.drop j) :=
  ⟨by rw [List.length_drop]; have := h.len; omega, h.next, fun z hz => h.pos z (List.mem_of_mem_drop hz), fun hz => h.other (List.mem_of_mem_drop hz), h.once.sublist (List.drop_sublist j zs)⟩

/-- A ring in the variable at the block R. -/
def RingAt (w : World) (R : Nat) (nx : Int) (zs : List Int) : Prop := ∃ a c, w.heap[R]? = some (.cells #[.int .i64 nx, .slice a zs.length c] 25 (0, 0)) ∧ IsList w (.slice a zs.length c) zs

theorem block2 {w : World} {R : Nat} {x y : Value} {t : TypeId} (h : w.heap[R]? = some (.cells #[x, y] t (0, 0))) : w.cell? ⟨R, 0, none⟩ = some x ∧ w.cell? ⟨R, 1, none⟩ = some y ∧ w.frozen? ⟨R, 0, none⟩ = false ∧ w.frozen? ⟨R, 1, none⟩ = false ∧ R < w.heap.size := by
  refine ⟨?_, ?_, ?_, ?_, (Array.getElem?_eq_some_iff.1 h).1⟩
  · simp only [World.cell?, h]; rfl
  · simp only [World.cell?, h]; rfl
  · simp only [World.frozen?, h]; rfl
  · simp only [World.frozen?, h]; rfl
theorem block2_set {w : World} {R : Nat} {x y x' y' : Value} {t : TypeId} (h : w.heap[R]? = some (.cells #[x, y] t (0, 0))) : ((w.setCell ⟨R, 0, none⟩ x').setCell ⟨R, 1, none⟩ y').heap[R]? = some (.cells #[x', y'] t (0, 0)) := by
  simp [World.setCell, Array.getElem?_modify, h]

/-- The variable is given a ring whose list lies behind it. -/
theorem RingAt.set {w : World} {R base : Nat} {x y : Value} {nx : Int} {zs : List Int} {a : Option Addr} {c : Nat} (h : w.heap[R]? = some (.cells #[x, y] 25 (0, 0))) (ho : Own base w (.slice a zs.length c) zs) (hR : R < base) :
    RingAt ((w.setCell ⟨R, 0, none⟩ (.int .i64 nx)).setCell ⟨R, 1, none⟩ (.slice a zs.length c)) R nx zs := ⟨a, c, block2_set h, (ho.set2 hR _ _).list⟩
end Go.Proofs.Ytcdnennfimbgoab
