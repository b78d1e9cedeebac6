/-
  RingDrains, on lists: what is wrong with a global queue of the numbers from 1 on; how many rounds drain it.
-/
import Derived.Test.YtcdnennfimbgoabSe
namespace Go.Proofs.Ytcdnennfimbgoab
open Go.RowKit

theorem firstFrom_all {W : Nat → Int} : ∀ {f i : Nat}, (∀ j, i ≤ j → j < i + f → W j = 0) → firstFrom W f i = (0, 0)
  | 0, _, _ => rfl
  | f + 1, i, h => by
    rw [firstFrom, if_pos (h i (Nat.le_refl _) (by omega))]
    exact firstFrom_all fun j h1 h2 => h j (by omega) (by omega)

theorem global_good {gs : List Int} (hl : gs.length ≤ 5000) (hp : ∀ z ∈ gs, 1 ≤ z) (hn : gs.Nodup) : globalF 0 [] gs = (0, 0) := by
  have h1 : firstFrom (formW gs) gs.length 0 = (0, 0) := firstFrom_all fun j _ hj => by
    have := hp _ (getD_mem (show j < gs.length by omega))
    unfold formW
    rw [if_neg (by omega)]
  have h2 : firstFrom (sizeW 0 [] gs) gs.length 0 = (0, 0) := firstFrom_all fun j _ hj => by
    have hj' : j < gs.length := by omega
    unfold sizeW
    rw [if_neg]
    intro h
    have h3 : gs.getD j 0 ∈ gs.take j := by
      have := List.contains_iff_mem.1 h
      simpa [nextL] using this
    obtain ⟨i, hi, he⟩ := (mem_take (by omega)).1 h3
    exact nodup_getD.1 hn i j hi hj' he
  unfold globalF
  rw [if_neg (by omega), h1, if_neg (by simp), h2]

theorem refill_up {n j : Nat} {p : Int} (hn : n ≤ 300) (h1 : 1 ≤ p) (h2 : p ≤ 64) : refillF 0 [] ((upL n).drop j) p = (0, 0) := by
  have hg : globalF 0 [] ((upL n).drop j) = (0, 0) := global_good (by rw [List.length_drop, upL_length]; omega) (fun z hz => (upL_mem.1 (List.mem_of_mem_drop hz)).1) ((upL_nodup n).sublist (List.drop_sublist j _))
  unfold refillF
  rw [show ringF 0 [] = (0, 0) from rfl, if_neg (by simp), hg, if_neg (by simp), if_neg (by omega)]

/-- How many go at once. -/
def goesN (m p : Nat) : Nat := min (min (m / p + 1) m) 128
theorem goes_eq {m : Nat} {p : Nat} {gs : List Int} (hl : gs.length = m) : refillK [] gs (p : Int) = goesN m p := by
  have e : ((m / p : Nat) : Int) = (m : Int) / (p : Int) := by simp
  unfold refillK goesN
  rw [hl, List.length_nil, ← e]
  generalize m / p = q
  omega
theorem goes_le {m p : Nat} : goesN m p ≤ m ∧ goesN m p ≤ 128 := by unfold goesN; generalize m / p = q; omega
theorem goes_pos {m p : Nat} (h : 0 < m) : 0 < goesN m p := by unfold goesN; generalize m / p = q; omega

/-- How many rounds it takes. -/
def roundsF : Nat → Nat → Nat → Nat
  | 0, _, _ => 0
  | f + 1, m, p => if m = 0 then 0 else 1 + roundsF f (m - goesN m p) p
theorem rounds_go {f m p : Nat} (hf : 0 < f) (hm : 0 < m) : roundsF f m p = 1 + roundsF (f - 1) (m - goesN m p) p := by
  obtain ⟨f, rfl⟩ : ∃ f', f = f' + 1 := ⟨f - 1, by omega⟩
  rw [roundsF, if_neg (by omega)]
  rfl
theorem rounds_all : (List.range 301).all (fun m => (List.range 8).all fun p => decide (roundsF 301 m (p + 1) ≤ 10 * (p + 1) + 20)) = true := by decide +kernel
theorem rounds_le {m p : Nat} (hm : m ≤ 300) (h1 : 1 ≤ p) (h2 : p ≤ 8) : roundsF 301 m p ≤ 10 * p + 20 := by
  have h := List.all_eq_true.1 rounds_all m (List.mem_range.2 (by omega))
  have h' := of_decide_eq_true (List.all_eq_true.1 h (p - 1) (List.mem_range.2 (by omega)))
  rw [show p - 1 + 1 = p by omega] at h'
  exact h'

theorem up_part {n j k : Nat} : ((upL n).drop j).drop k = (upL n).drop (j + k) := by rw [List.drop_drop]
theorem up_take {n j k i : Nat} (h : j + k ≤ n) (hi : i < k) : (((upL n).drop j).take k).drop i = (((j + i : Nat) : Int) + 1) :: (((upL n).drop j).take k).drop (i + 1) := by
  have hl : (((upL n).drop j).take k).length = k := by rw [List.length_take, List.length_drop, upL_length]; omega
  rw [List.drop_eq_getElem_cons (by omega)]
  congr 1
  have := upL_get (n := n) (j := j + i) (by omega)
  simp [List.getElem?_eq_getElem (show j + i < (upL n).length by rw [upL_length]; omega)] at this
  simpa using this
theorem up_good {n j k i : Nat} (hk : k ≤ 256) : Good 0 ((((upL n).drop j).take k).drop i) := by
  have hm : ∀ z, z ∈ (((upL n).drop j).take k).drop i → z ∈ upL n := fun z hz => List.mem_of_mem_drop (List.mem_of_mem_take (List.mem_of_mem_drop hz))
  refine ⟨by rw [List.length_drop, List.length_take]; omega, by omega, fun z hz => (upL_mem.1 (hm z hz)).1, fun hz => by have := (upL_mem.1 (hm 0 hz)).1; omega, ?_⟩
  exact (upL_nodup n).sublist ((List.drop_sublist _ _).trans ((List.take_sublist _ _).trans (List.drop_sublist _ _)))
end Go.Proofs.Ytcdnennfimbgoab
