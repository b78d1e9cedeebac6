/-
  sync.Acquire in one contract; semaphores and lines of which nothing is wrong.
-/
import Derived.Test.YtpogcfdmkeebmaaQa
import Derived.Test.YtpogcfdmkeebmaaN
namespace Go.Proofs.Ytpogcfdmkeebmaa
open Go.RowKit

theorem acquire_ok (w : World) (v : Value) (f : Int) (line : List Po) (x u : Int) (try_ : Bool) (h : IsG KP w v f line) (hf : (acqF f line x u).1 = 0) :
    Calls Try.prog 24 #[v, .int .i64 x, .int .i64 u, .bool try_] w fun e w' => ∃ v1, e = .returned (.tuple #[v1, .bool (acqR f line x u try_).2, .agg #[.int .i64 0, .int .i64 0]]) ∧ NewG KP w.heap.size w' v1 (acqR f line x u try_).1.1 (acqR f line x u try_).1.2 ∧ Below w.heap.size w w' := by
  cases hl : lets f (line ++ [(x, false, u)]) with
  | true =>
    have e : acqR f line x u try_ = ((f - u, []), true) := by unfold acqR; rw [if_pos hl]
    rw [e]
    exact acquire_got w v f line x u try_ h hf hl
  | false =>
    cases try_ with
    | true =>
      have e : acqR f line x u true = ((f, line), false) := by unfold acqR; rw [if_neg (by rw [hl]; simp), if_pos rfl]
      rw [e]
      exact acquire_tries w v f line x u h hf hl
    | false =>
      have e : acqR f line x u false = ((f, line ++ [(x, false, u)]), false) := by unfold acqR; rw [if_neg (by rw [hl]; simp), if_neg (by simp)]
      rw [e]
      exact acquire_waits w v f line x u h hf hl

theorem wantP_ok {pre l : List Po} {i : Int} (h : ∀ x ∈ l, 1 ≤ x.1 ∧ x.2.1 = false ∧ 1 ≤ x.2.2 ∧ x.2.2 ≤ 1000000000 ∧ x.1 ∉ tasks pre) (hd : (tasks l).Nodup) : firstC wantP pre l i = (0, 0) := by
  induction l generalizing pre i with
  | nil => rfl
  | cons x l ih =>
    obtain ⟨h1, h2, h3, h4, h5⟩ := h x List.mem_cons_self
    have hw : wantP pre x = 0 := by
      unfold wantP
      rw [if_neg (by omega), if_neg (by simpa using h5), if_neg (by rw [h2]; simp)]
    rw [firstC_go hw]
    have hd' : x.1 ∉ tasks l ∧ (tasks l).Nodup := List.nodup_cons.1 hd
    have et : tasks (pre ++ [x]) = tasks pre ++ [x.1] := by rw [tasks_append]; rfl
    refine ih (fun y hy => ?_) hd'.2
    obtain ⟨g1, g2, g3, g4, g5⟩ := h y (List.mem_cons_of_mem _ hy)
    refine ⟨g1, g2, g3, g4, fun hm => ?_⟩
    rw [et, List.mem_append] at hm
    rcases hm with hm | hm
    · exact g5 hm
    · rw [List.mem_singleton] at hm
      exact hd'.1 (by rw [← hm]; exact List.mem_map_of_mem hy)

/-- Nothing is wrong with the semaphore. -/
structure GoodS (f : Int) (l : List Po) : Prop where
  len : l.length ≤ 5000
  f0 : 0 ≤ f
  f1 : f ≤ 1000000000
  no : lets f l = false
  each : ∀ x ∈ l, 1 ≤ x.1 ∧ x.2.1 = false ∧ 1 ≤ x.2.2 ∧ x.2.2 ≤ 1000000000
  once : (tasks l).Nodup
theorem goodS_of {f : Int} {l : List Po} (h : (semaF f l).1 = 0) : GoodS f l := by
  obtain ⟨-, h1, h2, h3, h4, h5⟩ := semaF_good h
  obtain ⟨g1, g2⟩ := wantP_good h5
  exact ⟨h1, h2, h3, h4, fun x hx => ⟨(g1 x hx).1, (g1 x hx).2.1, (g1 x hx).2.2.1, (g1 x hx).2.2.2.1⟩, g2⟩
theorem GoodS.fault {f : Int} {l : List Po} (h : GoodS f l) : semaF f l = (0, 0) := by
  have h1 := h.len; have h2 := h.f0; have h3 := h.f1
  unfold semaF
  rw [if_neg (by omega), if_neg (by omega), if_neg (by rw [h.no]; simp)]
  exact wantP_ok (fun x hx => ⟨(h.each x hx).1, (h.each x hx).2.1, (h.each x hx).2.2.1, (h.each x hx).2.2.2, by simp [tasks]⟩) h.once
theorem GoodS.acq {f : Int} {l : List Po} (h : GoodS f l) {x u : Int} (hx : 1 ≤ x) (hu : 1 ≤ u) (hu2 : u ≤ 1000000000) (hm : x ∉ tasks l) (hl : l.length < 5000) : (acqF f l x u).1 = 0 := by
  unfold acqF
  rw [if_neg (by simp [h.fault]), if_neg (by omega), if_neg (fun hc => hm ((any_isOf _ _).1 hc)), if_neg (by omega)]
theorem GoodS.rel {f : Int} {l : List Po} (h : GoodS f l) {x : Int} (hx : 0 ≤ x) (hx2 : x ≤ 1000000000) (hf : f + x ≤ 1000000000) : (relF f l x).1 = 0 := by
  unfold relF
  rw [if_neg (by simp [h.fault]), if_neg (by omega), if_neg (by omega)]
theorem GoodS.stays {f : Int} {l : List Po} (h : GoodS f l) {x u : Int} (hx : 1 ≤ x) (hu : 1 ≤ u) (hu2 : u ≤ 1000000000) (hm : x ∉ tasks l) (hl : l.length < 5000) (hlet : lets f (l ++ [(x, false, u)]) = false) : GoodS f (l ++ [(x, false, u)]) := by
  refine ⟨?_, h.f0, h.f1, hlet, fun y hy => ?_, ?_⟩
  · simp only [List.length_append, List.length_cons, List.length_nil]
    omega
  · rcases List.mem_append.1 hy with hy | hy
    · exact h.each y hy
    · rw [List.mem_singleton] at hy
      subst hy
      exact ⟨hx, rfl, hu, hu2⟩
  · have e : tasks (l ++ [(x, false, u)]) = tasks l ++ [x] := by rw [tasks_append]; rfl
    rw [e, List.nodup_append]
    refine ⟨h.once, by simp, fun a ha b hb => ?_⟩
    rw [List.mem_singleton] at hb
    subst hb
    rintro rfl
    exact hm ha

theorem lineP_ok {pre l : List Int} {i : Int} (h : ∀ x ∈ l, 1 ≤ x ∧ x ∉ pre) (hd : l.Nodup) : firstC lineP pre l i = (0, 0) := by
  induction l generalizing pre i with
  | nil => rfl
  | cons x l ih =>
    obtain ⟨h1, h2⟩ := h x List.mem_cons_self
    have hw : lineP pre x = 0 := by
      unfold lineP
      rw [if_neg (by omega), if_neg (by simpa using h2)]
    rw [firstC_go hw]
    have hd' := List.nodup_cons.1 hd
    refine ih (fun y hy => ?_) hd'.2
    obtain ⟨g1, g2⟩ := h y (List.mem_cons_of_mem _ hy)
    refine ⟨g1, fun hm => ?_⟩
    rw [List.mem_append] at hm
    rcases hm with hm | hm
    · exact g2 hm
    · rw [List.mem_singleton] at hm
      subst hm
      exact hd'.1 hy
theorem lineF_ok {l : List Int} (hl : l.length ≤ 5000) (h : ∀ x ∈ l, 1 ≤ x) (hd : l.Nodup) : lineF l = (0, 0) := by
  unfold lineF
  rw [if_neg (by omega)]
  exact lineP_ok (fun x hx => ⟨h x hx, by simp⟩) hd

/-- The numbers from a to b - 1. -/
def upTo (a b : Nat) : List Int := (List.range (b - a)).map fun i => ((a + i : Nat) : Int)
theorem upTo_nil {a b : Nat} (h : b ≤ a) : upTo a b = [] := by
  unfold upTo
  rw [Nat.sub_eq_zero_of_le h]
  rfl
theorem upTo_snoc {a b : Nat} (h : a ≤ b) : upTo a (b + 1) = upTo a b ++ [(b : Int)] := by
  unfold upTo
  rw [show b + 1 - a = b - a + 1 by omega, List.range_succ, List.map_append]
  simp only [List.map_cons, List.map_nil]
  congr 2
  omega
theorem upTo_length (a b : Nat) : (upTo a b).length = b - a := by simp [upTo]
theorem upTo_mem {a b : Nat} {x : Int} : x ∈ upTo a b ↔ (a : Int) ≤ x ∧ x < b := by
  unfold upTo
  rw [List.mem_map]
  constructor
  · rintro ⟨i, hi, rfl⟩
    rw [List.mem_range] at hi
    omega
  · rintro ⟨h1, h2⟩
    exact ⟨(x - a).toNat, by rw [List.mem_range]; omega, by omega⟩
theorem upTo_nodup (a b : Nat) : (upTo a b).Nodup := by
  refine List.Pairwise.map _ ?_ List.nodup_range
  intro i j hij h
  exact hij (by omega)
theorem upTo_get {a b i : Nat} (h : a + i < b) : (upTo a b).getD i 0 = ((a + i : Nat) : Int) := by
  unfold upTo
  simp [List.getElem?_range (show i < b - a by omega)]
theorem upTo_line {a b : Nat} (ha : 1 ≤ a) (hb : b ≤ 5000) : lineF (upTo a b) = (0, 0) := lineF_ok (by rw [upTo_length]; omega) (fun x hx => by have := upTo_mem.1 hx; omega) (upTo_nodup a b)
theorem upTo_comes {a b : Nat} {x : Int} (hx : 1 ≤ x) (hb : (b : Int) ≤ x) (h5 : b < 5000) : (comesF (upTo a b) x).1 = 0 := by
  unfold comesF
  have hc : ¬ (upTo a b).contains x = true := fun h => by
    rw [List.contains_iff_mem, upTo_mem] at h
    omega
  rw [if_neg (by omega), if_neg hc, if_neg (by rw [upTo_length]; omega)]
end Go.Proofs.Ytpogcfdmkeebmaa
