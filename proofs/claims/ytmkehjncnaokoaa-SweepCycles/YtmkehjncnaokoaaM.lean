/-
  A marker on lists: what it meets, and what registers lead to.
-/
import Derived.Test.YtmkehjncnaokoaaA
namespace Go.Proofs.Ytmkehjncnaokoaa
open Go.RowKit

/-- What the registers lead to. -/
inductive Rc (os : List (List Int)) (rs : List Int) : Nat → Prop
  | root {x : Nat} : (x : Int) ∈ rs → Rc os rs x
  | step {a b : Nat} : Rc os rs a → (b : Int) ∈ os.getD a [] → Rc os rs b
/-- White objects, and the line of grey ones. -/
structure Mk where
  wh : Nat → Bool
  ln : List Nat
def shade1 (s : Mk) (o : Int) : Mk := if o ≠ -1 ∧ s.wh o.toNat = true then ⟨fun x => if x = o.toNat then false else s.wh x, s.ln ++ [o.toNat]⟩ else s
def shadeL (s : Mk) (os : List Int) : Mk := os.foldl shade1 s
def markM (os : List (List Int)) (s : Mk) : Mk := match s.ln with
  | [] => s
  | f :: r => shadeL ⟨s.wh, r⟩ (os.getD f [])
theorem shadeL_cons (s : Mk) (o : Int) (r : List Int) : shadeL s (o :: r) = shadeL (shade1 s o) r := rfl
theorem shadeL_take (s : Mk) (os : List Int) {i : Nat} (h : i < os.length) : shadeL s (os.take (i + 1)) = shade1 (shadeL s (os.take i)) (os.getD i 0) := by
  have e : os.take (i + 1) = os.take i ++ [os.getD i 0] := by
    rw [List.take_add_one, List.getElem?_eq_getElem h]
    simp [List.getElem?_eq_getElem h]
  unfold shadeL
  rw [e, List.foldl_append]
  rfl
theorem shade1_wh {s : Mk} {o : Int} (h : -1 ≤ o) (x : Nat) : (shade1 s o).wh x = false ↔ s.wh x = false ∨ (x : Int) = o := by
  unfold shade1
  split
  · next h1 =>
    by_cases e : x = o.toNat
    · simp [e]
      omega
    · simp [e]
      omega
  · next h1 =>
    constructor
    · exact Or.inl
    · rintro (q | q)
      · exact q
      · cases hw : s.wh x with
        | false => rfl
        | true =>
          exfalso
          apply h1
          refine ⟨by omega, ?_⟩
          rw [show o.toNat = x by omega]
          exact hw
theorem shade1_ln {s : Mk} {o : Int} (h : -1 ≤ o) (x : Nat) : x ∈ (shade1 s o).ln ↔ x ∈ s.ln ∨ (s.wh x = true ∧ (x : Int) = o) := by
  unfold shade1
  split
  · next h1 =>
    simp only [List.mem_append, List.mem_singleton]
    constructor
    · rintro (q | q)
      · exact Or.inl q
      · subst q; exact Or.inr ⟨h1.2, by omega⟩
    · rintro (q | ⟨_, q⟩)
      · exact Or.inl q
      · exact Or.inr (by omega)
  · next h1 =>
    constructor
    · exact Or.inl
    · rintro (q | ⟨q1, q2⟩)
      · exact q
      · exfalso
        apply h1
        refine ⟨by omega, ?_⟩
        rw [show o.toNat = x by omega]
        exact q1
theorem shadeL_wh : ∀ (os : List Int) (s : Mk), (∀ o ∈ os, -1 ≤ o) → ∀ x : Nat, (shadeL s os).wh x = false ↔ s.wh x = false ∨ (x : Int) ∈ os
  | [], s, _, x => by simp [shadeL]
  | o :: r, s, h, x => by
    rw [shadeL_cons, shadeL_wh r _ (fun y hy => h y (List.mem_cons_of_mem _ hy)), shade1_wh (h o (List.mem_cons_self ..)), List.mem_cons, or_assoc]
theorem shadeL_ln : ∀ (os : List Int) (s : Mk), (∀ o ∈ os, -1 ≤ o) → ∀ x : Nat, x ∈ (shadeL s os).ln ↔ x ∈ s.ln ∨ (s.wh x = true ∧ (x : Int) ∈ os)
  | [], s, _, x => by simp [shadeL]
  | o :: r, s, h, x => by
    have h0 := h o (List.mem_cons_self ..)
    rw [shadeL_cons, shadeL_ln r _ (fun y hy => h y (List.mem_cons_of_mem _ hy)), shade1_ln h0, List.mem_cons]
    have hw := shade1_wh (s := s) h0 x
    constructor
    · rintro ((q | ⟨q1, q2⟩) | ⟨q1, q2⟩)
      · exact Or.inl q
      · exact Or.inr ⟨q1, Or.inl q2⟩
      · refine Or.inr ⟨?_, Or.inr q2⟩
        cases e : s.wh x with
        | true => rfl
        | false => rw [hw.2 (Or.inl e)] at q1; cases q1
    · rintro (q | ⟨q1, q2 | q2⟩)
      · exact Or.inl (Or.inl q)
      · exact Or.inl (Or.inr ⟨q1, q2⟩)
      · by_cases e : (x : Int) = o
        · exact Or.inl (Or.inr ⟨q1, e⟩)
        · refine Or.inr ⟨?_, q2⟩
          cases e2 : (shade1 s o).wh x with
          | true => rfl
          | false =>
            rcases hw.1 e2 with q | q
            · rw [q] at q1; cases q1
            · exact absurd q e
/-- How many are white. -/
def cntW (n : Nat) (s : Mk) : Nat := ((List.range n).filter s.wh).length
theorem filter_upd (f : Nat → Bool) {k : Nat} (hk : f k = true) : ∀ n, ((List.range n).filter fun x => if x = k then false else f x).length + (if k < n then 1 else 0) = ((List.range n).filter f).length
  | 0 => by simp
  | n + 1 => by
    have ih := filter_upd f hk n
    rw [List.range_succ, List.filter_append, List.filter_append, List.length_append, List.length_append, List.filter_cons, List.filter_cons, List.filter_nil, List.filter_nil]
    by_cases e : n = k
    · subst e
      have e1 : (if n < n then 1 else 0 : Nat) = 0 := if_neg (Nat.lt_irrefl n)
      have e2 : (if n < n + 1 then 1 else 0 : Nat) = 1 := if_pos (Nat.lt_succ_self n)
      have e3 : ((if (if n = n then false else f n) = true then [n] else [] : List Nat)).length = 0 := by simp
      have e4 : ((if f n = true then [n] else [] : List Nat)).length = 1 := by rw [hk]; rfl
      rw [e1] at ih
      rw [e2, e3, e4]
      omega
    · have e3 : ((if (if n = k then false else f n) = true then [n] else [] : List Nat)).length = ((if f n = true then [n] else [] : List Nat)).length := by rw [if_neg e]
      rw [e3]
      by_cases e2 : k < n
      · have e5 : (if k < n then 1 else 0 : Nat) = 1 := if_pos e2
        have e6 : (if k < n + 1 then 1 else 0 : Nat) = 1 := if_pos (by omega)
        rw [e5] at ih
        rw [e6]
        omega
      · have e5 : (if k < n then 1 else 0 : Nat) = 0 := if_neg e2
        have e6 : (if k < n + 1 then 1 else 0 : Nat) = 0 := if_neg (by omega)
        rw [e5] at ih
        rw [e6]
        omega
theorem shade1_cnt {n : Nat} {s : Mk} {o : Int} (h1 : o < (n : Int)) (h0 : -1 ≤ o) : cntW n (shade1 s o) + (shade1 s o).ln.length = cntW n s + s.ln.length := by
  unfold shade1
  split
  · next h =>
    have := filter_upd s.wh h.2 n
    rw [if_pos (by omega)] at this
    unfold cntW
    rw [List.length_append, List.length_cons, List.length_nil]
    show ((List.range n).filter fun x => if x = o.toNat then false else s.wh x).length + _ = _
    omega
  · rfl
theorem shadeL_cnt {n : Nat} : ∀ (os : List Int) (s : Mk), (∀ o ∈ os, -1 ≤ o ∧ o < (n : Int)) → cntW n (shadeL s os) + (shadeL s os).ln.length = cntW n s + s.ln.length
  | [], _, _ => rfl
  | o :: r, s, h => by
    have h0 := h o (List.mem_cons_self ..)
    rw [shadeL_cons, shadeL_cnt r _ (fun y hy => h y (List.mem_cons_of_mem _ hy)), shade1_cnt h0.2 h0.1]
/-- A heap of which nothing is wrong. -/
structure GoodH (os : List (List Int)) (rs : List Int) : Prop where
  no : os.length ≤ 500
  nr : rs.length ≤ 16
  ro : ∀ o ∈ rs, -1 ≤ o ∧ o < (os.length : Int)
  ns : ∀ i, i < os.length → (os.getD i []).length ≤ 20
  so : ∀ i, i < os.length → ∀ o ∈ os.getD i [], -1 ≤ o ∧ o < (os.length : Int)
/-- What holds of a marker at its work in a heap that nobody changes. -/
structure Inv (os : List (List Int)) (rs : List Int) (s : Mk) : Prop where
  rc : ∀ x, x < os.length → s.wh x = false → Rc os rs x
  rt : ∀ x : Nat, (x : Int) ∈ rs → s.wh x = false
  ln : ∀ x, x ∈ s.ln → x < os.length ∧ s.wh x = false
  cl : ∀ x, x < os.length → s.wh x = false → x ∉ s.ln → ∀ b : Nat, (b : Int) ∈ os.getD x [] → s.wh b = false
theorem inv_begin {os : List (List Int)} {rs : List Int} (hg : GoodH os rs) : Inv os rs (shadeL ⟨fun _ => true, []⟩ rs) := by
  have hr : ∀ o ∈ rs, -1 ≤ o := fun o ho => (hg.ro o ho).1
  refine ⟨fun x _ h => ?_, fun x h => ?_, fun x h => ?_, fun x _ h h2 => ?_⟩
  · rcases (shadeL_wh rs _ hr x).1 h with q | q
    · cases q
    · exact .root q
  · exact (shadeL_wh rs _ hr x).2 (Or.inr h)
  · rcases (shadeL_ln rs _ hr x).1 h with q | ⟨_, q⟩
    · cases q
    · exact ⟨by have := (hg.ro _ q).2; omega, (shadeL_wh rs _ hr x).2 (Or.inr q)⟩
  · exfalso
    apply h2
    rcases (shadeL_wh rs _ hr x).1 h with q | q
    · cases q
    · exact (shadeL_ln rs _ hr x).2 (Or.inr ⟨rfl, q⟩)
theorem inv_mark {os : List (List Int)} {rs : List Int} (hg : GoodH os rs) {s : Mk} (h : Inv os rs s) : Inv os rs (markM os s) := by
  obtain ⟨wh, ln⟩ := s
  cases ln with
  | nil => exact h
  | cons f r =>
    show Inv os rs (shadeL ⟨wh, r⟩ (os.getD f []))
    obtain ⟨hf1, hf2⟩ := h.ln f (List.mem_cons_self ..)
    have hs : ∀ o ∈ os.getD f [], -1 ≤ o := fun o ho => (hg.so f hf1 o ho).1
    have hw := shadeL_wh (os.getD f []) ⟨wh, r⟩ hs
    have hl := shadeL_ln (os.getD f []) ⟨wh, r⟩ hs
    refine ⟨fun x hx q => ?_, fun x q => ?_, fun x q => ?_, fun x hx q q2 b hb => ?_⟩
    · rcases (hw x).1 q with q | q
      · exact h.rc x hx q
      · exact .step (h.rc f hf1 hf2) q
    · exact (hw x).2 (Or.inl (h.rt x q))
    · rcases (hl x).1 q with q | ⟨_, q⟩
      · obtain ⟨q1, q2⟩ := h.ln x (List.mem_cons_of_mem _ q)
        exact ⟨q1, (hw x).2 (Or.inl q2)⟩
      · exact ⟨by have := (hg.so f hf1 _ q).2; omega, (hw x).2 (Or.inr q)⟩
    · have hxr : x ∉ r := fun q3 => q2 ((hl x).2 (Or.inl q3))
      cases e : wh x with
      | false =>
        by_cases ef : x = f
        · subst ef
          exact (hw b).2 (Or.inr hb)
        · exact (hw b).2 (Or.inl (h.cl x hx e (by
            intro q3
            rcases List.mem_cons.1 q3 with q3 | q3
            · exact ef q3
            · exact hxr q3) b hb))
      | true =>
        exfalso
        rcases (hw x).1 q with q3 | q3
        · have : wh x = false := q3
          rw [e] at this; cases this
        · exact q2 ((hl x).2 (Or.inr ⟨e, q3⟩))
theorem inv_end {os : List (List Int)} {rs : List Int} (hg : GoodH os rs) {s : Mk} (h : Inv os rs s) (he : s.ln = []) {x : Nat} (hx : x < os.length) : s.wh x = false ↔ Rc os rs x := by
  refine ⟨h.rc x hx, fun q => ?_⟩
  have key : ∀ y, Rc os rs y → y < os.length ∧ s.wh y = false := by
    intro y hy
    induction hy with
    | root h1 => exact ⟨by have := (hg.ro _ h1).2; omega, h.rt _ h1⟩
    | step h1 h2 ih => exact ⟨by have := (hg.so _ ih.1 _ h2).2; omega, h.cl _ ih.1 ih.2 (by rw [he]; simp) _ h2⟩
  exact (key x q).2
end Go.Proofs.Ytmkehjncnaokoaa
