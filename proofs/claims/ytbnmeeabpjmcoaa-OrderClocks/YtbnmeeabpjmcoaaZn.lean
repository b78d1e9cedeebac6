/-
  taskmilllaw.OrderClocks: what a clock is held against.
-/
import Derived.Test.YtbnmeeabpjmcoaaZl
import Derived.Test.YtbnmeeabpjmcoaaZm
import Derived.Test.YtbnmeeabpjmcoaaLv
import Derived.Test.YtbnmeeabpjmcoaaBe
import Derived.Test.YtbnmeeabpjmcoaaV
import Derived.Test.YtbnmeeabpjmcoaaTw
namespace Go.Proofs.Ytbnmeeabpjmcoaa
open Go.RowKit

def wantF (M : Nat → Nat → Bool) (l : List Ev) (a b p : Nat) : Int := (if plOf (l.getD a ev0) = p then 1 else 0) + (((List.range b).filter fun c => M a c && (plOf (l.getD c ev0) == p)).length : Int)
theorem want_zero (M : Nat → Nat → Bool) (l : List Ev) (a p : Nat) : wantF M l a 0 p = if plOf (l.getD a ev0) = p then 1 else 0 := by
  unfold wantF
  simp
theorem want_yes {M : Nat → Nat → Bool} {l : List Ev} {a b : Nat} (h : M a b = true) (p : Nat) : wantF M l a (b + 1) p = if p = plOf (l.getD b ev0) then wantF M l a b p + 1 else wantF M l a b p := by
  unfold wantF
  rw [List.range_succ, List.filter_append, List.length_append, List.filter_cons, List.filter_nil, h, Bool.true_and]
  by_cases e : p = plOf (l.getD b ev0)
  · have ef : (plOf (l.getD b ev0) == p) = true := by rw [e]; exact beq_self_eq_true _
    rw [if_pos e, ef, if_pos rfl, List.length_cons, List.length_nil]
    omega
  · have ef : (plOf (l.getD b ev0) == p) = false := beq_eq_false_iff_ne.2 (Ne.symm e)
    rw [if_neg e, ef, if_neg Bool.false_ne_true, List.length_nil]
    omega
theorem want_no {M : Nat → Nat → Bool} {l : List Ev} {a b : Nat} (h : M a b = false) (p : Nat) : wantF M l a (b + 1) p = wantF M l a b p := by
  unfold wantF
  rw [List.range_succ, List.filter_append, List.length_append, List.filter_cons, List.filter_nil, h, Bool.false_and]
  simp
theorem want_bound (M : Nat → Nat → Bool) (l : List Ev) (a b p : Nat) : 0 ≤ wantF M l a b p ∧ wantF M l a b p ≤ (b : Int) + 1 := by
  unfold wantF
  have h := List.length_filter_le (fun c => M a c && (plOf (l.getD c ev0) == p)) (List.range b)
  rw [List.length_range] at h
  split <;> omega
theorem filter_same {α : Type} (f g : α → Bool) : ∀ l : List α, (∀ x ∈ l, f x = g x) → l.filter f = l.filter g
  | [], _ => rfl
  | x :: r, h => by
    rw [List.filter_cons, List.filter_cons, h x (List.mem_cons_self ..), filter_same f g r (fun y hy => h y (List.mem_cons_of_mem _ hy))]
theorem want_ck {hs : List Int} {l : List Ev} {n : Nat} {M : Nat → Nat → Bool} (hg : GoodT hs l) (hn : l.length = n) (hM : Tells n M (fun k j => Rch hs l j k)) {a : Nat} (ha : a < n) (p : Nat) : wantF M l a a p = ckAt hs l a p := by
  have hal : a < l.length := by omega
  have hv := now_cnt hs l hal p
  have hk := know_cnt (hs := hs) hg.tasks p (ckAt hs l a p) (a + 1) (by omega) hv.1 hv.2
  have hkn := (inv_all hg.tasks (fun i => (hg.h i).1) (a + 1) (by omega)).2 a (by omega)
  rw [List.range_succ, List.filter_append, List.length_append, List.filter_cons, List.filter_nil] at hk
  have e : (List.range a).filter (fun b => plOf (l.getD b ev0) == p && decide (ckAt hs l b p ≤ ckAt hs l a p)) = (List.range a).filter (fun c => M a c && (plOf (l.getD c ev0) == p)) := by
    refine filter_same _ _ _ (fun b hb => ?_)
    have hba : b < a := List.mem_range.1 hb
    by_cases e2 : plOf (l.getD b ev0) = p
    · have h1 := hkn b (by omega)
      rw [e2] at h1
      have h2 := hM a b ha (by omega)
      have h3 : decide (ckAt hs l b p ≤ ckAt hs l a p) = M a b := by
        by_cases h4 : Rch hs l b a
        · rw [h2.2 h4]
          exact decide_eq_true (h1.2 ⟨a, rfl, Or.inr h4⟩)
        · have h5 : M a b = false := by
            cases q : M a b with
            | false => rfl
            | true => exact absurd (h2.1 q) h4
          rw [h5]
          refine decide_eq_false (fun q => ?_)
          obtain ⟨x, ex, h6⟩ := h1.1 q
          subst ex
          rcases h6 with h6 | h6
          · omega
          · exact h4 h6
      rw [h3, e2]
      simp
    · have e3 : (plOf (l.getD b ev0) == p) = false := by simpa using e2
      rw [e3]
      simp
  rw [e] at hk
  unfold wantF
  have e4 : decide (ckAt hs l a p ≤ ckAt hs l a p) = true := decide_eq_true (Int.le_refl _)
  rw [e4, Bool.and_true] at hk
  by_cases e5 : plOf (l.getD a ev0) = p
  · have ef : (plOf (l.getD a ev0) == p) = true := beq_iff_eq.2 e5
    rw [if_pos e5]
    rw [ef, if_pos rfl, List.length_cons, List.length_nil] at hk
    omega
  · have ef : (plOf (l.getD a ev0) == p) = false := beq_eq_false_iff_ne.2 e5
    rw [if_neg e5]
    rw [ef, if_neg Bool.false_ne_true, List.length_nil] at hk
    omega
/-- A block of numbers. -/
structure IntsAt (w : World) (B m : Nat) (f : Nat → Int) : Prop where
  there : w.there B 0 m
  lt : B < w.heap.size
  cell : ∀ p, p < m → w.cell? ⟨B, p, none⟩ = some (.int .i64 (f p))
theorem IntsAt.below {w w' : World} {B m : Nat} {f : Nat → Int} (h : IntsAt w B m f) (hb : Below w.heap.size w w') : IntsAt w' B m f := ⟨there_keep h.there (hb.block B h.lt), Nat.lt_of_lt_of_le h.lt hb.size, fun p hp => cell_of (h.cell p hp) (hb.block B h.lt)⟩
theorem IntsAt.put {w : World} {B m p : Nat} {f : Nat → Int} (h : IntsAt w B m f) (hp : p < m) (v : Int) : IntsAt (w.setCell ⟨B, p, none⟩ (.int .i64 v)) B m (fun q => if q = p then v else f q) := by
  refine ⟨there_set h.there _, by rw [size_set]; exact h.lt, fun q hq => ?_⟩
  by_cases e : q = p
  · subst e
    rw [if_pos rfl]
    exact cell_same h.there hq _
  · rw [if_neg e]
    exact cell_other (h.cell q hq) (Or.inr e) _
theorem IntsAt.congr {w : World} {B m : Nat} {f g : Nat → Int} (h : IntsAt w B m f) (hfg : ∀ p, p < m → f p = g p) : IntsAt w B m g := ⟨h.there, h.lt, fun p hp => by rw [← hfg p hp]; exact h.cell p hp⟩
theorem IntsAt.isl {w : World} {B m : Nat} {f : Nat → Int} (h : IntsAt w B m f) : IsL KI w (.slice (some ⟨B, 0, none⟩) m m) ((List.range m).map f) := by
  refine Lies.isl ki (fun j i u hj hu => ?_) (by simp) (Nat.le_refl _)
  have hjm : j < m := by simpa using hj
  have hc := h.cell j hjm
  have hi : i < KI.k := by
    have := (List.getElem?_eq_some_iff.1 hu).1
    rwa [ki.len] at this
  have hk : KI.k = 1 := rfl
  have hi0 : i = 0 := by omega
  subst hi0
  rw [hk, show 0 + j * 1 + 0 = j by omega, hc]
  have e : ((List.range m).map f).getD j KI.d = f j := by simp [List.getD_eq_getElem?_getD, hjm]
  rw [e] at hu
  have e2 : (KI.f (f j))[0]? = some (.int .i64 (f j)) := rfl
  rw [e2] at hu
  exact hu
theorem make_ints (m : Nat) (hm : m ≤ 64) : ∃ A : Array Value, A.toList = List.replicate m (.int .i64 0) ∧ ∀ w : World, (Instr.makeSlice 23 (.int .i64 (m : Int)) (.int .i64 (m : Int))).run Try.prog w = .ok (.slice (some ⟨w.heap.size, 0, none⟩) m m) (w.alloc (.cells A 3)) := by
  have hinf : (Try.prog.info? 3).map (fun i => (i.zero, i.size, i.bytes)) = some (some (.int .i64 0), 1, 8) := by kernel_rfl
  obtain ⟨i0, hi, h0, h1, h2⟩ := info_parts hinf
  refine ⟨madeCells (Value.int .i64 0).cells (m * i0.size), by rw [h1, Nat.mul_one]; exact toList_madeCells_one _ _, fun w => ?_⟩
  have := run_makeSlice (P := Try.prog) w 23 3 i0 (.int .i64 0) Try.underlying23 hi h0 .i64 .i64 (m : Int) (m : Int) (by omega) (by omega) (by rw [h1]; omega) (by rw [h2]; omega) (by omega)
  simpa using this
theorem ints_made {w : World} {m : Nat} {A : Array Value} (hA : A.toList = List.replicate m (.int .i64 0)) : IntsAt (w.alloc (.cells A 3)) w.heap.size m (fun _ => 0) := by
  have hsz : A.size = m := by rw [← Array.length_toList, hA, List.length_replicate]
  have hN := new_block w (.cells A 3)
  refine ⟨there_block hN (by omega), by simp, fun p hp => ?_⟩
  simp only [World.cell?, hN]
  have : A[p]? = some (.int .i64 0) := by
    rw [← Array.getElem?_toList, hA, List.getElem?_replicate]
    simp [hp]
  simpa using this
end Go.Proofs.Ytbnmeeabpjmcoaa
