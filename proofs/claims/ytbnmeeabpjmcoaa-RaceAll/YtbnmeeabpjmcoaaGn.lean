/-
  What clocks know is what edges lead to.
-/
import Derived.Test.YtbnmeeabpjmcoaaGm
namespace Go.Proofs.Ytbnmeeabpjmcoaa
open Go.RowKit

/-- c knows of the first n events just those of X, and what leads to them. -/
def Kn (hs : List Int) (l : List Ev) (n : Nat) (c : Nat → Int) (X : Nat → Prop) : Prop := ∀ j, j < n → (ckAt hs l j (plOf (l.getD j ev0)) ≤ c (plOf (l.getD j ev0)) ↔ ∃ x, X x ∧ (j = x ∨ Rch hs l j x))
section
variable {hs : List Int} {l : List Ev} (h1 : Tasks1 l)
include h1
theorem kn_zero {n : Nat} (hn : n ≤ l.length) : Kn hs l n ck0 (fun _ => False) := fun j hj => by
  have := own_pos hs l h1 (j := j) (by omega)
  constructor
  · intro h
    have h0 : ck0 (plOf (l.getD j ev0)) = 0 := rfl
    omega
  · rintro ⟨x, hx, _⟩
    exact hx.elim
omit h1
theorem kn_join {n : Nat} {c d : Nat → Int} {X Y : Nat → Prop} (hc : Kn hs l n c X) (hd : Kn hs l n d Y) : Kn hs l n (joinC c d) (fun x => X x ∨ Y x) := fun j hj => by
  have e1 := hc j hj
  have e2 := hd j hj
  unfold joinC
  constructor
  · intro h
    by_cases hh : ckAt hs l j (plOf (l.getD j ev0)) ≤ c (plOf (l.getD j ev0))
    · obtain ⟨x, hx, h3⟩ := e1.1 hh
      exact ⟨x, Or.inl hx, h3⟩
    · obtain ⟨x, hx, h3⟩ := e2.1 (by omega)
      exact ⟨x, Or.inr hx, h3⟩
  · rintro ⟨x, hx | hx, h3⟩
    · have := e1.2 ⟨x, hx, h3⟩
      omega
    · have := e2.2 ⟨x, hx, h3⟩
      omega
theorem kn_congr {n : Nat} {c : Nat → Int} {X Y : Nat → Prop} (hc : Kn hs l n c X) (h : ∀ x, X x ↔ Y x) : Kn hs l n c Y := fun j hj => by
  rw [hc j hj]
  constructor
  · rintro ⟨x, hx, h3⟩; exact ⟨x, (h x).1 hx, h3⟩
  · rintro ⟨x, hx, h3⟩; exact ⟨x, (h x).2 hx, h3⟩
include h1
theorem kn_succ {n : Nat} (hn : n < l.length) {c : Nat → Int} {X : Nat → Prop} (hc : Kn hs l n c X) (hb : ∀ a, c a ≤ cnt l n a) (hX : ∀ x, X x → x < n) : Kn hs l (n + 1) c X := fun j hj => by
  by_cases e : j = n
  · subst e
    have h2 := now_own hs l h1 hn
    have h3 := hb (plOf (l.getD j ev0))
    have h4 := cnt_succ l hn (plOf (l.getD j ev0))
    rw [if_pos rfl] at h4
    constructor
    · intro h; omega
    · rintro ⟨x, hx, h5 | h5⟩
      · have := hX x hx; omega
      · have := hX x hx; have := h5.lt.1; omega
  · exact hc j (by omega)
theorem kn_up {n m : Nat} (hm : m ≤ l.length) {x : Nat} (hx : x < n) (hnm : n ≤ m) (hc : Kn hs l n (ckAt hs l x) (fun y => y = x)) : Kn hs l m (ckAt hs l x) (fun y => y = x) := by
  induction m with
  | zero => omega
  | succ m ih =>
    by_cases e : n = m + 1
    · subst e; exact hc
    · refine kn_succ h1 (by omega) (ih (by omega) (by omega)) (fun a => ?_) (fun y hy => by omega)
      have := (now_cnt hs l (n := x) (by omega) a).2
      have := cnt_mono l a (show x + 1 ≤ m by omega) (by omega)
      omega

/-- What a past is made of. -/
structure Inv (hs : List Int) (l : List Ev) (n : Nat) (M : PastM) : Prop where
  t : ∀ t, Kn hs l n (M.tasks t) (fun x => x < n ∧ To hs l t x)
  s : ∀ p, (M.pipes p).sends = (pix l p n).sends.map fun x => ((l.getD x ev0).task, ckAt hs l x)
  g : ∀ p, (M.pipes p).gets = (pix l p n).gets.map (ckAt hs l)
  h : ∀ p, (M.pipes p).shut = match (pix l p n).shut with | none => ck0 | some x => ckAt hs l x
  a : ∀ o, Kn hs l n (M.locks o).all (fun x => x < n ∧ (l.getD x ev0).op = 18 ∧ (l.getD x ev0).obj = o)
  w : ∀ o, Kn hs l n (M.locks o).writers (fun x => x < n ∧ (l.getD x ev0).op = 18 ∧ (l.getD x ev0).obj = o ∧ (l.getD x ev0).val = 1)
  c : ∀ o, Kn hs l n (M.groups o) (fun x => x < n ∧ (l.getD x ev0).op = 19 ∧ (l.getD x ev0).obj = o)

theorem ahead_kn {n : Nat} (hn : n < l.length) (_hh : ∀ i, 0 ≤ hs.getD i 0) {M : PastM} (h : Inv hs l n M) (hk : ∀ x, x < n → Kn hs l n (ckAt hs l x) (fun y => y = x)) : Kn hs l n (aheadM hs M (l.getD n ev0)) (fun x => x < n ∧ Ah hs l x n) := by
  obtain ⟨e, he⟩ : ∃ e, l.getD n ev0 = e := ⟨_, rfl⟩
  unfold aheadM
  rw [he]
  by_cases h14 : e.op = 14
  · rw [if_pos h14]
    unfold aheadS
    rw [h.g, h.s, List.length_map, List.length_map]
    have hle := pix_len l e.obj n
    have hsz : ((List.map (fun x => ((l.getD x ev0).task, ckAt hs l x)) (pix l e.obj n).sends).length : Int) = ((pix l e.obj n).sends.length : Int) := by simp
    by_cases hc : ((pix l e.obj n).sends.length : Int) - hs.getD e.obj.toNat 0 < 0 ∨ ((pix l e.obj n).gets.length : Int) ≤ ((pix l e.obj n).sends.length : Int) - hs.getD e.obj.toNat 0
    · rw [if_pos hc]
      refine kn_congr (kn_zero h1 (by omega)) fun x => ⟨False.elim, ?_⟩
      rintro ⟨hx, hA⟩
      unfold Ah at hA
      rw [he] at hA
      rcases hA with hA | hA | hA | hA | ⟨_, k, hk1, hk2⟩
      · have := hA.2.1; omega
      · have := hA.2.1; omega
      · have := hA.1; omega
      · have := hA.1; omega
      · have h3 := (List.getElem?_eq_some_iff.1 hk2).1
        unfold holdOf at hk1
        rw [he] at hk1
        omega
    · rw [if_neg hc]
      obtain ⟨k, hk0⟩ : ∃ k : Nat, (k : Int) = ((pix l e.obj n).sends.length : Int) - hs.getD e.obj.toNat 0 := ⟨(((pix l e.obj n).sends.length : Int) - hs.getD e.obj.toNat 0).toNat, by omega⟩
      rw [← hk0, Int.toNat_natCast]
      have hkl : k < (pix l e.obj n).gets.length := by omega
      have hx : (pix l e.obj n).gets[k]? = some (pix l e.obj n).gets[k] := List.getElem?_eq_getElem hkl
      obtain ⟨x, ex⟩ : ∃ x, (pix l e.obj n).gets[k] = x := ⟨_, rfl⟩
      rw [ex] at hx
      have e1 : (List.map (ckAt hs l) (pix l e.obj n).gets).getD k ck0 = ckAt hs l x := by
        rw [List.getD_eq_getElem?_getD, List.getElem?_map, hx]; rfl
      rw [e1]
      have hxn := (pix_get hx).1
      refine kn_congr (hk x hxn) fun y => ⟨?_, ?_⟩
      · rintro rfl
        refine ⟨hxn, Or.inr (Or.inr (Or.inr (Or.inr ⟨by rw [he]; exact h14, k, ?_, by rw [he]; exact hx⟩)))⟩
        unfold holdOf
        rw [he]
        omega
      · rintro ⟨_, hA⟩
        unfold Ah at hA
        rw [he] at hA
        rcases hA with hA | hA | hA | hA | ⟨_, k2, hk1, hk2⟩
        · have := hA.2.1; omega
        · have := hA.2.1; omega
        · have := hA.1; omega
        · have := hA.1; omega
        · unfold holdOf at hk1
          rw [he] at hk1
          obtain rfl : k2 = k := by omega
          rw [hx] at hk2
          cases hk2
          rfl
  rw [if_neg h14]
  by_cases h15 : e.op = 15
  · rw [if_pos h15]
    unfold aheadG
    rw [h.g, h.s, h.h, List.length_map, List.length_map]
    have hle := pix_len l e.obj n
    by_cases hc : (pix l e.obj n).gets.length = (pix l e.obj n).sends.length
    · rw [if_pos hc]
      cases hsh : (pix l e.obj n).shut with
      | none =>
        dsimp only
        refine kn_congr (kn_zero h1 (by omega)) fun x => ⟨False.elim, ?_⟩
        rintro ⟨hx, hA⟩
        unfold Ah sentOf at hA
        rw [he] at hA
        rcases hA with hA | hA | hA | hA | hA
        · have := hA.2.1; omega
        · have := hA.2.1; omega
        · rw [hsh] at hA; cases hA.2.2
        · have := (List.getElem?_eq_some_iff.1 hA.2).1; omega
        · have := hA.1; omega
      | some x =>
        dsimp only
        have hxn := (pix_shut hsh).1
        refine kn_congr (hk x hxn) fun y => ⟨?_, ?_⟩
        · rintro rfl
          exact ⟨hxn, Or.inr (Or.inr (Or.inl ⟨by rw [he]; exact h15, by rw [he]; exact hc, by rw [he]; exact hsh⟩))⟩
        · rintro ⟨_, hA⟩
          unfold Ah sentOf at hA
          rw [he] at hA
          rcases hA with hA | hA | hA | hA | hA
          · have := hA.2.1; omega
          · have := hA.2.1; omega
          · have := hA.2.2; rw [hsh] at this; cases this; rfl
          · have := (List.getElem?_eq_some_iff.1 hA.2).1; omega
          · have := hA.1; omega
    · rw [if_neg hc]
      have hkl : (pix l e.obj n).gets.length < (pix l e.obj n).sends.length := by omega
      have hx : (pix l e.obj n).sends[(pix l e.obj n).gets.length]? = some (pix l e.obj n).sends[(pix l e.obj n).gets.length] := List.getElem?_eq_getElem hkl
      obtain ⟨x, ex⟩ : ∃ x, (pix l e.obj n).sends[(pix l e.obj n).gets.length] = x := ⟨_, rfl⟩
      rw [ex] at hx
      have e1 : ((List.map (fun x => ((l.getD x ev0).task, ckAt hs l x)) (pix l e.obj n).sends).getD (pix l e.obj n).gets.length (0, ck0)).2 = ckAt hs l x := by
        rw [List.getD_eq_getElem?_getD, List.getElem?_map, hx]; rfl
      rw [e1]
      have hxn := (pix_send hx).1
      refine kn_congr (hk x hxn) fun y => ⟨?_, ?_⟩
      · rintro rfl
        exact ⟨hxn, Or.inr (Or.inr (Or.inr (Or.inl ⟨by rw [he]; exact h15, by unfold sentOf; rw [he]; exact hx⟩)))⟩
      · rintro ⟨_, hA⟩
        unfold Ah sentOf at hA
        rw [he] at hA
        rcases hA with hA | hA | hA | hA | hA
        · have := hA.2.1; omega
        · have := hA.2.1; omega
        · exact absurd hA.2.1 hc
        · have := hA.2; rw [hx] at this; cases this; rfl
        · have := hA.1; omega
  rw [if_neg h15]
  by_cases h17 : e.op = 17
  · rw [if_pos h17]
    by_cases hv : e.val = 1
    · rw [if_pos hv]
      refine kn_congr (h.a e.obj) fun x => ⟨?_, ?_⟩
      · rintro ⟨h2, h3, h4⟩
        exact ⟨h2, Or.inl ⟨h3, by rw [he]; exact h17, by rw [he]; exact h4, by rw [he]; exact Or.inl hv⟩⟩
      · rintro ⟨h2, hA⟩
        unfold Ah at hA
        rw [he] at hA
        rcases hA with hA | hA | hA | hA | hA
        · exact ⟨h2, hA.1, hA.2.2.1⟩
        · have := hA.2.1; omega
        · have := hA.1; omega
        · have := hA.1; omega
        · have := hA.1; omega
    · rw [if_neg hv]
      refine kn_congr (h.w e.obj) fun x => ⟨?_, ?_⟩
      · rintro ⟨h2, h3, h4, h5⟩
        exact ⟨h2, Or.inl ⟨h3, by rw [he]; exact h17, by rw [he]; exact h4, Or.inr h5⟩⟩
      · rintro ⟨h2, hA⟩
        unfold Ah at hA
        rw [he] at hA
        rcases hA with hA | hA | hA | hA | hA
        · exact ⟨h2, hA.1, hA.2.2.1, hA.2.2.2.resolve_left hv⟩
        · have := hA.2.1; omega
        · have := hA.1; omega
        · have := hA.1; omega
        · have := hA.1; omega
  rw [if_neg h17]
  by_cases h20 : e.op = 20
  · rw [if_pos h20]
    refine kn_congr (h.c e.obj) fun x => ⟨?_, ?_⟩
    · rintro ⟨h2, h3, h4⟩
      exact ⟨h2, Or.inr (Or.inl ⟨h3, by rw [he]; exact h20, by rw [he]; exact h4⟩)⟩
    · rintro ⟨h2, hA⟩
      unfold Ah at hA
      rw [he] at hA
      rcases hA with hA | hA | hA | hA | hA
      · have := hA.2.1; omega
      · exact ⟨h2, hA.1, hA.2.2⟩
      · have := hA.1; omega
      · have := hA.1; omega
      · have := hA.1; omega
  rw [if_neg h20]
  refine kn_congr (kn_zero h1 (by omega)) fun x => ⟨False.elim, ?_⟩
  rintro ⟨hx, hA⟩
  unfold Ah at hA
  rw [he] at hA
  rcases hA with hA | hA | hA | hA | hA
  · have := hA.2.1; omega
  · have := hA.2.1; omega
  · have := hA.1; omega
  · have := hA.1; omega
  · have := hA.1; omega

theorem self_kn {n : Nat} (hn : n < l.length) (hh : ∀ i, 0 ≤ hs.getD i 0) (h : Inv hs l n (runM hs (l.take n))) (hk : ∀ x, x < n → Kn hs l n (ckAt hs l x) (fun y => y = x)) : Kn hs l (n + 1) (ckAt hs l n) (fun y => y = n) := fun j hj => by
  have hJ : Kn hs l n (joinC ((runM hs (l.take n)).tasks (l.getD n ev0).task) (aheadM hs (runM hs (l.take n)) (l.getD n ev0))) (Into hs l n) := by
    refine kn_congr (kn_join (h.t (l.getD n ev0).task) (ahead_kn h1 hn hh h hk)) fun x => ?_
    unfold Into
    constructor
    · rintro (⟨a, b⟩ | ⟨a, b⟩)
      · exact ⟨a, Or.inl b⟩
      · exact ⟨a, Or.inr b⟩
    · rintro ⟨a, b | b⟩
      · exact Or.inl ⟨a, b⟩
      · exact Or.inr ⟨a, b⟩
  have hiff : (∃ x, x = n ∧ (j = x ∨ Rch hs l j x)) ↔ j = n ∨ Rch hs l j n := by simp
  rw [hiff]
  by_cases e : j = n
  · subst e
    exact ⟨fun _ => Or.inl rfl, fun _ => Int.le_refl _⟩
  · have hjn : j < n := by omega
    by_cases hp : plOf (l.getD j ev0) = plOf (l.getD n ev0)
    · have ht : (l.getD j ev0).task = (l.getD n ev0).task := by
        have a1 := h1 j (by omega)
        have a2 := h1 n hn
        unfold plOf at hp
        omega
      refine ⟨fun _ => Or.inr (task_rch (n - (j + 1)) j n (by omega) hn ht), fun _ => ?_⟩
      have h2 := (now_cnt hs l (n := j) (by omega) (plOf (l.getD j ev0))).2
      have h3 := now_own hs l h1 hn
      have h4 := cnt_mono l (plOf (l.getD n ev0)) (show j + 1 ≤ n + 1 by omega) (by omega)
      rw [← hp] at h3 h4
      omega
    · have e1 : ckAt hs l n (plOf (l.getD j ev0)) = joinC ((runM hs (l.take n)).tasks (l.getD n ev0).task) (aheadM hs (runM hs (l.take n)) (l.getD n ev0)) (plOf (l.getD j ev0)) := by
        show nowM _ _ _ _ = _
        unfold nowM
        rw [updN_ne _ _ hp]
      rw [e1, hJ j hjn, ← rch_into hn j]
      exact ⟨Or.inr, fun h => h.resolve_left e⟩

theorem inv_set {n : Nat} (hn : n < l.length) {M : PastM} (hb : AllC (fun c => ∀ a, 0 ≤ c a ∧ c a ≤ cnt l n a) M) (h : Inv hs l n M) (hs1 : Kn hs l (n + 1) (ckAt hs l n) (fun y => y = n)) :
    (∀ t, Kn hs l (n + 1) ((setTM M (l.getD n ev0).task (ckAt hs l n)).tasks t) (fun x => x < n + 1 ∧ ((x < n ∧ To hs l t x) ∨ (x = n ∧ (l.getD n ev0).task = t)))) ∧
    (∀ o, Kn hs l (n + 1) (M.locks o).all (fun x => x < n ∧ (l.getD x ev0).op = 18 ∧ (l.getD x ev0).obj = o)) ∧
    (∀ o, Kn hs l (n + 1) (M.locks o).writers (fun x => x < n ∧ (l.getD x ev0).op = 18 ∧ (l.getD x ev0).obj = o ∧ (l.getD x ev0).val = 1)) ∧
    (∀ o, Kn hs l (n + 1) (M.groups o) (fun x => x < n ∧ (l.getD x ev0).op = 19 ∧ (l.getD x ev0).obj = o)) := by
  refine ⟨fun t => ?_, fun o => kn_succ h1 hn (h.a o) (fun a => (hb.a o a).2) (fun x hx => hx.1), fun o => kn_succ h1 hn (h.w o) (fun a => (hb.w o a).2) (fun x hx => hx.1), fun o => kn_succ h1 hn (h.c o) (fun a => (hb.c o a).2) (fun x hx => hx.1)⟩
  show Kn hs l (n + 1) (updI M.tasks (l.getD n ev0).task (ckAt hs l n) t) _
  by_cases e : t = (l.getD n ev0).task
  · subst e
    rw [updI_same]
    intro j hj
    rw [hs1 j hj]
    constructor
    · rintro ⟨x, rfl, h3⟩
      exact ⟨x, ⟨Nat.lt_succ_self _, Or.inr ⟨rfl, rfl⟩⟩, h3⟩
    · rintro ⟨x, ⟨_, ⟨hx, hT⟩ | ⟨rfl, _⟩⟩, h3⟩
      · have hr := to_rch hT hx hn rfl
        refine ⟨n, rfl, Or.inr ?_⟩
        rcases h3 with rfl | h3
        · exact hr
        · exact h3.trans hr
      · exact ⟨x, rfl, h3⟩
  · rw [updI_ne _ _ _ _ e]
    refine kn_congr (kn_succ h1 hn (h.t t) (fun a => (hb.t t a).2) (fun x hx => hx.1)) fun x => ⟨?_, ?_⟩
    · rintro ⟨hx, hT⟩
      exact ⟨by omega, Or.inl ⟨hx, hT⟩⟩
    · rintro ⟨_, h | ⟨_, h⟩⟩
      · exact h
      · exact absurd h.symm e
end
end Go.Proofs.Ytbnmeeabpjmcoaa
