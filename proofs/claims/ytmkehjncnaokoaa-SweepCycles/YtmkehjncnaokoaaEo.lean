/-
  taskmillref.Cycled: a marking while its rows are laid.
  taskmillref.Cycled: what acts leave of a line; how long a line lasts; Not.
  taskmillref.Cycled: what it answers at its end; how a marking is read.
-/
import Derived.Test.YtmkehjncnaokoaaEl
namespace Go.Proofs.Ytmkehjncnaokoaa
open Go.RowKit

/-- A marking of which the first rows are laid. -/
structure RfP (lo : Nat) (w : World) (lab : Nat → Nat) (b : Nat) (oa : Option Addr) (i co : Nat) (ar : Option Addr) (nr cr wb no : Nat) (A : Array Value) (os : List (List Int)) (rs : List Int) : Prop where
  hr : rs.length = nr
  blk : w.heap[b]? = some (.cells #[.slice oa i co, .slice ar nr cr, .slice (some ⟨wb, 0, none⟩) no no, .slice none 0 0] 65 (0, 0))
  obj : (oa = none ∧ i = 0 ∧ co = 0) ∨ ∃ bo, oa = some ⟨bo, 0, none⟩ ∧ w.there bo 0 co ∧ i ≤ co ∧ bo < w.heap.size ∧ lo ≤ bo ∧ lab bo = 6
  row : ∀ f, f < i → ∃ bo a c, oa = some ⟨bo, 0, none⟩ ∧ w.cell? ⟨bo, f, none⟩ = some (.slice a (os.getD f []).length c) ∧ OwnO lo w (.slice a (os.getD f []).length c) (os.getD f []) ∧ ∀ k, (Value.slice a (os.getD f []).length c).ownBlock = some k → lab k = 7 + f
  reg : OwnO lo w (.slice ar nr cr) rs
  rlb : ∀ k, (Value.slice ar nr cr).ownBlock = some k → lab k = 5
  bla : w.heap[wb]? = some (.cells A 4 (0, 0))
  lbs : lab b = 2 ∧ lab wb = 3
  low : lo ≤ b ∧ lo ≤ wb
theorem RfP.olo {lo : Nat} {w : World} {lab : Nat → Nat} {b : Nat} {oa : Option Addr} {i co : Nat} {ar : Option Addr} {nr cr wb no : Nat} {A : Array Value} {os : List (List Int)} {rs : List Int} (h : RfP lo w lab b oa i co ar nr cr wb no A os rs) {bo : Nat} (e : oa = some ⟨bo, 0, none⟩) : w.there bo 0 co ∧ i ≤ co ∧ bo < w.heap.size ∧ lo ≤ bo ∧ lab bo = 6 := by
  rcases h.obj with ⟨q, _⟩ | ⟨bo', q, q2⟩
  · rw [e] at q; cases q
  · rw [e] at q; cases q; exact q2
/-- The cells that are laid. -/
theorem RfP.cells {lo : Nat} {w : World} {lab : Nat → Nat} {b : Nat} {oa : Option Addr} {i co : Nat} {ar : Option Addr} {nr cr wb no : Nat} {A : Array Value} {os : List (List Int)} {rs : List Int} (h : RfP lo w lab b oa i co ar nr cr wb no A os rs) : ∀ g, oa = some ⟨g, 0, none⟩ → ∀ j u, (rowsV w oa i)[j]? = some u → w.cell? ⟨g, j, none⟩ = some u := fun g e j u hu => by
  subst e
  have hj : j < i := by have := (List.getElem?_eq_some_iff.1 hu).1; unfold rowsV at this; simpa using this
  rw [rowsV_at hj] at hu
  obtain ⟨bo, a0, c0, p0, p1, _, _⟩ := h.row j hj
  cases p0
  rw [p1] at hu
  rw [← Option.some.inj hu]
  exact p1
theorem RfP.more {lo : Nat} {w w' : World} {lab : Nat → Nat} {b : Nat} {oa : Option Addr} {i co : Nat} {ar : Option Addr} {nr cr wb no : Nat} {A : Array Value} {os : List (List Int)} {rs : List Int} (h : RfP lo w lab b oa i co ar nr cr wb no A os rs) {a : Option Addr} {m c g4 c4 : Nat} (hm : (os.getD i []).length = m) (hA : RowA w w' b oa i a m c g4 c4 (.slice ar nr cr) (.slice (some ⟨wb, 0, none⟩) no no) (.slice none 0 0) (rowsV w oa i) (os.getD i [])) :
    (∃ lab', RfP lo w' lab' b (some ⟨g4, 0, none⟩) (i + 1) c4 ar nr cr wb no A os rs) ∧ Below lo w w' := by
  have hl := h.lbs
  have hbl := size_of h.blk; have hwl := size_of h.bla
  have hlow := h.low
  have hs := hA.pa.size
  have hoa : ∀ q, oa = some ⟨q, 0, none⟩ → q < w.heap.size ∧ lo ≤ q ∧ lab q = 6 := fun q e => by
    obtain ⟨_, _, r1, r2, r3⟩ := h.olo e
    exact ⟨r1, r2, r3⟩
  have hk : ∀ q, q < w.heap.size → lab q ≠ 2 → lab q ≠ 6 → w'.heap[q]? = w.heap[q]? := fun q q1 q2 q3 => hA.pa.keep q q1 (fun e => q2 (by rw [e]; exact hl.1)) (fun g0 e e2 => q3 (by rw [e2]; exact (hoa g0 e).2.2))
  have how : ∀ k, (Value.slice a m c).ownBlock = some k → w.heap.size ≤ k ∧ k ≠ g4 := fun k e => ⟨(hA.own.lt k e).1, hA.ne k e⟩
  obtain ⟨L, hL1, hL2, hL3⟩ : ∃ L : Nat → Nat, (∀ q, q < w.heap.size → L q = lab q) ∧ (∀ q, (Value.slice a m c).ownBlock = some q → L q = 7 + i) ∧ (w.heap.size ≤ g4 → L g4 = 6) :=
    ⟨fun q => if (Value.slice a m c).ownBlock = some q then 7 + i else if q < w.heap.size then lab q else 6, fun q q1 => (if_neg (fun e => by have := (how q e).1; omega)).trans (if_pos q1), fun q q1 => if_pos q1, fun q1 => (if_neg (fun e => (how g4 e).2 rfl)).trans (if_neg (by omega))⟩
  have hg4 : lo ≤ g4 ∧ L g4 = 6 := by
    rcases hA.pa.src with q | q
    · have r := hoa g4 q
      exact ⟨r.2.1, by rw [hL1 g4 r.1]; exact r.2.2⟩
    · exact ⟨by omega, hL3 q⟩
  have hrv : (rowsV w oa i).length = i := by unfold rowsV; simp
  refine ⟨⟨L, h.hr, hA.blk, Or.inr ⟨g4, rfl, hA.pa.th, hA.pa.le, hA.pa.lt, hg4.1, hg4.2⟩, fun f hf => ?_, h.reg.keep hs (fun q e => by have := h.rlb q e; exact hk q (h.reg.lt q e).2 (by omega) (by omega)), fun q e => by rw [hL1 q (h.reg.lt q e).2]; exact h.rlb q e, (hk wb hwl (by omega) (by omega)).trans h.bla, ⟨by rw [hL1 b hbl]; exact hl.1, by rw [hL1 wb hwl]; exact hl.2⟩, hlow⟩, hA.pa.below lo hlow.1 (fun g e => (hoa g e).2.1) (by omega)⟩
  by_cases e : f = i
  · subst e
    rw [hm]
    refine ⟨g4, a, c, rfl, hA.pa.cells f _ ?_, hA.own.low (by omega), fun k e => hL2 k e⟩
    rw [List.getElem?_append_right (by omega), hrv, Nat.sub_self]
    rfl
  · have hfn : f < i := by omega
    obtain ⟨bo, a0, c0, p0, p1, p2, p3⟩ := h.row f hfn
    subst p0
    refine ⟨g4, a0, c0, rfl, hA.pa.cells f _ ?_, p2.keep hs (fun q hq => by have := p3 q hq; exact hk q (p2.lt q hq).2 (by omega) (by omega)), fun q hq => by rw [hL1 q (p2.lt q hq).2]; exact p3 q hq⟩
    rw [List.getElem?_append_left (by rw [hrv]; exact hfn), rowsV_at hfn, p1]
    rfl
/-- All rows are laid. -/
theorem RfP.done {lo : Nat} {w : World} {lab : Nat → Nat} {b : Nat} {oa : Option Addr} {co : Nat} {ar : Option Addr} {nr cr wb no : Nat} {A : Array Value} {os : List (List Int)} {rs : List Int} (h : RfP lo w lab b oa no co ar nr cr wb no A os rs) (hn : os.length = no) (hA : A.toList = List.replicate no (.bool false)) : RfL lo w lab b oa no co ar nr cr wb no (.slice none 0 0) ⟨os, rs, ⟨fun _ => true, []⟩⟩ := by
  have hsz : A.size = no := by rw [← Array.length_toList, hA, List.length_replicate]
  refine ⟨hn, h.hr, h.blk, h.obj, h.row, h.reg, h.rlb, there_block h.bla (by omega), size_of h.bla, Nat.le_refl _, fun x hx => ?_, OwnO.nil _ _, (fun k q => by cases q), h.lbs, h.low⟩
  have : A[x]? = some (.bool false) := by rw [← Array.getElem?_toList, hA, List.getElem?_replicate, if_pos hx]
  simp only [World.cell?, h.bla]
  exact this
theorem RfP.below {lo : Nat} {w w' : World} {lab : Nat → Nat} {b : Nat} {oa : Option Addr} {i co : Nat} {ar : Option Addr} {nr cr wb no : Nat} {A : Array Value} {os : List (List Int)} {rs : List Int} (h : RfP lo w lab b oa i co ar nr cr wb no A os rs) (hb : Below w.heap.size w w') : RfP lo w' lab b oa i co ar nr cr wb no A os rs := by
  refine ⟨h.hr, keep_below h.blk hb, ?_, fun f hf => ?_, h.reg.keep hb.size (fun k q => hb.block k (h.reg.lt k q).2), h.rlb, keep_below h.bla hb, h.lbs, h.low⟩
  · rcases h.obj with q | ⟨bo, q1, q2, q3, q4, q5, q6⟩
    · exact Or.inl q
    · exact Or.inr ⟨bo, q1, there_keep q2 (hb.block bo q4), q3, Nat.lt_of_lt_of_le q4 hb.size, q5, q6⟩
  · obtain ⟨bo, a, c, p1, p2, p3, p4⟩ := h.row f hf
    obtain ⟨_, _, o1, _, o2⟩ := h.olo p1
    exact ⟨bo, a, c, p1, cell_of p2 (hb.block bo o1), p3.keep hb.size (fun k q => hb.block k (p3.lt k q).2), p4⟩
/-- The marking at its beginning. -/
theorem RfP.first {lo : Nat} {w : World} {b wb no : Nat} {ar : Option Addr} {nr cr : Nat} {A : Array Value} {os : List (List Int)} {rs : List Int} (hr : rs.length = nr) (hb : w.heap[b]? = some (.cells #[.slice none 0 0, .slice ar nr cr, .slice (some ⟨wb, 0, none⟩) no no, .slice none 0 0] 65 (0, 0))) (hw : w.heap[wb]? = some (.cells A 4 (0, 0))) (ho : OwnO lo w (.slice ar nr cr) rs) (hl : lo ≤ b ∧ lo ≤ wb) (hne : b ≠ wb) (hor : ∀ k, (Value.slice ar nr cr).ownBlock = some k → k ≠ b ∧ k ≠ wb) : RfP lo w (fun k => if k = b then 2 else if k = wb then 3 else if (Value.slice ar nr cr).ownBlock = some k then 5 else 0) b none 0 0 ar nr cr wb no A os rs :=
  ⟨hr, hb, Or.inl ⟨rfl, rfl, rfl⟩, fun _ hf => absurd hf (Nat.not_lt_zero _), ho, fun k e => (if_neg (hor k e).1).trans ((if_neg (hor k e).2).trans (if_pos e)), hw, ⟨if_pos rfl, (if_neg (Ne.symm hne)).trans (if_pos rfl)⟩, hl⟩


theorem NodG.born {m : Mk} (h : NodG m) (n : Nat) : NodG (bornM n m) := by
  refine ⟨h.nd, fun x hx => ?_⟩
  unfold bornM
  dsimp only
  split
  · rfl
  · exact h.nw x hx
theorem nodG_do {z : Int} {g : Gm} (hnd : NodG g.mm) (x : Ac) : NodG (doG z g x).mm := by
  unfold doG
  split
  · show NodG (shB z g.mm _ _)
    unfold shB
    split
    · exact hnd.shade1 _
    · split
      · exact (hnd.shade1 _).shade1 _
      · split
        · exact hnd.shade1 _
        · exact hnd
  · split
    · exact hnd
    · split
      · exact hnd
      · split
        · exact hnd.born g.os.length
        · exact hnd.markM g.os
theorem nodG_st {z : Int} {g : Gm} {acts : List Ac} (h : NodG g.mm) : ∀ i, i ≤ acts.length → NodG (stG z g acts i).mm
  | 0, _ => h
  | i + 1, hi => by
    rw [stG_succ hi]
    exact nodG_do (nodG_st h i (Nat.le_of_succ_le hi)) _
theorem blkB_any {m : Mk} (h : NodG m) (o : Int) (y : Nat) : blkB (shade1 m o) y = blkB m y := by
  by_cases e : o ≠ -1 ∧ m.wh o.toNat = true
  · by_cases h0 : 0 ≤ o
    · obtain ⟨x, rfl⟩ : ∃ x : Nat, o = (x : Int) := ⟨o.toNat, by omega⟩
      have hw : m.wh x = true := by have := e.2; rwa [Int.toNat_natCast] at this
      refine blkB_shade1 hw ?_ y
      rw [← Bool.not_eq_true, List.contains_iff_mem]
      intro q
      have := h.nw x q
      rw [hw] at this; cases this
    · have e0 : o.toNat = ((0 : Nat) : Int).toNat := by omega
      have hw : m.wh 0 = true := by have := e.2; rw [e0] at this; exact this
      have e1 : shade1 m o = shade1 m ((0 : Nat) : Int) := by
        unfold shade1
        rw [e0, if_pos (⟨e.1, by rw [Int.toNat_natCast]; exact hw⟩ : o ≠ -1 ∧ _), if_pos (⟨by decide, by rw [Int.toNat_natCast]; exact hw⟩ : ((0 : Nat) : Int) ≠ -1 ∧ _)]
      rw [e1]
      refine blkB_shade1 hw ?_ y
      rw [← Bool.not_eq_true, List.contains_iff_mem]
      intro q
      have := h.nw 0 q
      rw [hw] at this; cases this
  · unfold shade1
    rw [if_neg e]
theorem blkB_shadeL : ∀ (os : List Int) {m : Mk}, NodG m → ∀ y, blkB (shadeL m os) y = blkB m y
  | [], _, _, _ => rfl
  | o :: r, m, h, y => by
    rw [shadeL_cons, blkB_shadeL r (h.shade1 o) y]
    exact blkB_any h o y
theorem filter_less {p q : Nat → Bool} : ∀ (l : List Nat), (∀ x ∈ l, p x = true → q x = true) → (l.filter p).length ≤ (l.filter q).length
  | [], _ => Nat.le_refl _
  | x :: r, h => by
    have ih := filter_less r (fun y hy => h y (List.mem_cons_of_mem _ hy))
    have hx := h x (List.mem_cons_self ..)
    rw [List.filter_cons, List.filter_cons]
    cases e1 : p x <;> cases e2 : q x <;> simp_all <;> omega
theorem filter_lt {p q : Nat → Bool} : ∀ (l : List Nat), (∀ x ∈ l, p x = true → q x = true) → ∀ f ∈ l, p f = false → q f = true → (l.filter p).length < (l.filter q).length
  | [], _, f, hf, _, _ => by cases hf
  | x :: r, h, f, hf, h1, h2 => by
    have hr := fun y hy => h y (List.mem_cons_of_mem x hy)
    have hx := h x (List.mem_cons_self ..)
    rw [List.filter_cons, List.filter_cons]
    rcases List.mem_cons.1 hf with e | e
    · subst e
      have := filter_less r hr
      rw [h1, h2, if_neg (by decide), if_pos rfl]
      exact Nat.lt_succ_of_le this
    · have ih := filter_lt r hr f e h1 h2
      cases e1 : p x <;> cases e2 : q x
      · rw [if_neg (by decide), if_neg (by decide)]; exact ih
      · rw [if_neg (by decide), if_pos rfl]; exact Nat.lt_succ_of_lt ih
      · rw [e2] at hx; cases hx e1
      · rw [if_pos rfl, if_pos rfl]; exact Nat.succ_lt_succ ih
/-- How many are not black? -/
def cntK (n : Nat) (m : Mk) : Nat := ((List.range n).filter fun x => !blkB m x).length
theorem cntK_mark {n : Nat} {m : Mk} (h : NodG m) (os : List (List Int)) (hk : LnOk n m) (hne : m.ln ≠ []) : cntK n (markM os m) < cntK n m := by
  obtain ⟨wh, ln⟩ := m
  cases ln with
  | nil => exact absurd rfl hne
  | cons f r =>
    have hr : NodG ⟨wh, r⟩ := ⟨(List.nodup_cons.1 h.nd).2, fun x hx => h.nw x (List.mem_cons_of_mem _ hx)⟩
    have e : ∀ y, blkB (markM os ⟨wh, f :: r⟩) y = blkB ⟨wh, r⟩ y := fun y => blkB_shadeL (os.getD f []) hr y
    have hfr : r.contains f = false := by
      rw [← Bool.not_eq_true, List.contains_iff_mem]
      exact (List.nodup_cons.1 h.nd).1
    have hwf : wh f = false := h.nw f (List.mem_cons_self ..)
    unfold cntK
    refine filter_lt _ (fun x _ hx => ?_) f (List.mem_range.2 (hk.lt f (List.mem_cons_self ..))) ?_ ?_
    · rw [e] at hx
      unfold blkB at hx ⊢
      dsimp only at hx ⊢
      rw [List.contains_cons]
      revert hx
      generalize wh x = A
      generalize r.contains x = C
      generalize (x == f) = D
      revert A C D
      decide
    · rw [e]
      unfold blkB
      dsimp only
      rw [hwf, hfr]
      rfl
    · unfold blkB
      dsimp only
      rw [List.contains_cons]
      simp
/-- The same, read off a world. -/
def muN (wb n : Nat) (w : World) : Nat := ((List.range n).filter fun x => match w.cell? ⟨wb, x, none⟩ with | some (.bool B) => !B | _ => false).length
theorem RfL.mu {lo : Nat} {w : World} {lab : Nat → Nat} {b : Nat} {oa : Option Addr} {n co : Nat} {ar : Option Addr} {nr cr wb cw : Nat} {vl : Value} {g : Gm} (h : RfL lo w lab b oa n co ar nr cr wb cw vl g) : muN wb n w = cntK n g.mm := by
  unfold muN cntK
  congr 1
  apply List.filter_congr
  intro x hx
  rw [h.bla x (List.mem_range.1 hx)]
theorem Stp.only {os : List (List Int)} {s s1 s2 : Mk} (h1 : Stp os s s1) (h2 : Stp os s s2) (e1 : s1.ln = []) (e2 : s2.ln = []) : s1 = s2 := by
  have hpow : ∀ {s s' : Mk}, Stp os s s' → ∃ k, s' = Nat.repeat (markM os) k s ∧ ∀ j, j < k → (Nat.repeat (markM os) j s).ln ≠ [] := fun {s s'} h => by
    induction h with
    | refl => exact ⟨0, rfl, fun j hj => absurd hj (Nat.not_lt_zero _)⟩
    | step _ hn ih =>
      obtain ⟨k, rfl, hk⟩ := ih
      refine ⟨k + 1, rfl, fun j hj => ?_⟩
      by_cases e : j = k
      · rw [e]; exact hn
      · exact hk j (by omega)
  obtain ⟨k1, r1, q1⟩ := hpow h1
  obtain ⟨k2, r2, q2⟩ := hpow h2
  have : k1 = k2 := by
    rcases Nat.lt_trichotomy k1 k2 with q | q | q
    · exact absurd (by rw [← r1]; exact e1) (q2 k1 q)
    · exact q
    · exact absurd (by rw [← r2]; exact e2) (q1 k2 q)
  rw [r1, r2, this]
theorem endR_only {z : Int} {os : List (List Int)} {rs : List Int} {s s1 s2 : Mk} (h1 : EndR z os rs s s1) (h2 : EndR z os rs s s2) : s1 = s2 := by
  obtain ⟨e1, h1⟩ := h1
  obtain ⟨e2, h2⟩ := h2
  rcases h1 with ⟨q1, t1, a1, a2, a3⟩ | ⟨q1, a1⟩
  · rcases h2 with ⟨q2, t2, b1, b2, b3⟩ | ⟨q2, _⟩
    · have := a1.only b1 a2 b2
      subst this
      exact a3.only b3 e1 e2
    · exact absurd q1 q2
  · rcases h2 with ⟨q2, _⟩ | ⟨q2, b1⟩
    · exact absurd q2 q1
    · exact a1.only b1 e1 e2

set_option maxRecDepth 100000 in
set_option maxHeartbeats 4000000 in
theorem not_cap (w : World) (B no cw : Nat) (f : Nat → Bool) (h : BoolsAt w B no f) (hn : no ≤ 100000) :
    Calls Try.prog 17 #[.slice (some ⟨B, 0, none⟩) no cw] w fun e w' => ∃ a c, e = .returned (.slice a ((List.range no).filter fun x => !f x).length c) ∧ OwnO w.heap.size w' (.slice a ((List.range no).filter fun x => !f x).length c) (ixL ((List.range no).filter fun x => !f x)) ∧ Below w.heap.size w w' := by
  have HM := hide h
  have HX := hide (Below.refl w.heap.size w)
  have HO0 : Hid (OwnO w.heap.size w (.slice none 0 0) (ixL ((List.range 0).filter fun x => !f x))) := OwnO.nil _ _
  clear h
  go_enter Try.func17, Try.ntmps17
  go_wp2_with fail
  go_loopw [3, 4] (fun s3 s4 wr => ∃ (i : Nat) (a : Option Addr) (r c : Nat), i ≤ no ∧ s4 = .int .i64 (i : Int) ∧ s3 = .slice a r c ∧ r ≤ i ∧ Hid (((List.range i).filter fun x => !f x).length = r) ∧ Hid (OwnO w.heap.size wr (.slice a r c) (ixL ((List.range i).filter fun x => !f x))) ∧ Hid (Below w.heap.size w wr)) (fun _ s _ => no - (intOf s).toNat)
  case atStart => exact ⟨0, none, 0, 0, Nat.zero_le _, rfl, rfl, Nat.le_refl _, hide rfl, HO0, HX⟩
  case round =>
    obtain ⟨i, a, r, c, hi, rfl, rfl, hr, HRL, HO, HB⟩ := hrel
    clear HX HO0
    by_cases hlt : i < no
    · have i0 : (0 : Int) ≤ (i : Int) := by omega
      have i1 : (i : Int) < (no : Int) := by omega
      have hw1 : IntKind.i64.wrap ((i : Int) + 1) = (i : Int) + 1 := wrapi (by omega) (by omega)
      have q0 := cell_of ((unhide HM).cell i hlt) ((unhide HB).block B (unhide HM).lt)
      obtain ⟨F, eF⟩ : ∃ X, f i = X := ⟨_, rfl⟩
      rw [eF] at q0
      cases F
      · have HF : Hid (((List.range (i + 1)).filter fun x => !f x) = ((List.range i).filter fun x => !f x) ++ [i]) := by
          show _ = _
          rw [List.range_succ, List.filter_append, List.filter_cons, List.filter_nil, eF]
          rfl
        have hb3 : Below wr.heap.size wr (wr.alloc (.cells #[.int .i64 (i : Int)] 3)) := (Below.refl _ _).alloc (Nat.le_refl _) _
        have HNB := hide (block1 (new_block wr (.cells #[.int .i64 (i : Int)] 3))).1
        have HOP := hide ((unhide HO).keep hb3.size (fun k hk => hb3.block k ((unhide HO).lt k hk).2))
        have HBP := hide ((unhide HB).alloc (unhide HB).size (.cells #[.int .i64 (i : Int)] 3))
        clear eF hb3
        go_wp2_with (at_builtin; refine wpList_append_o rfl (.tmp 16) (.tmp 18) rfl w.heap.size _ (ixL ((List.range i).filter fun x => !f x)) rfl (unhide HOP) _ (i : Int) rfl (unhide HNB) r (by rw [ixL_len]; exact unhide HRL) (by omega) (unhide HBP).size ?_; intro a7 c7 w7 ho7 hg7; have HO7 := hide ho7; have HB7 := hide ((unhide HBP).trans hg7.below); clear ho7 hg7)
        go_roundw
        case rel => exact ⟨i + 1, a7, r + 1, c7, by omega, by go_num, rfl, by omega, hide (by rw [unhide HF, List.length_append, unhide HRL]; rfl), hide (by rw [unhide HF, ixL_add]; exact unhide HO7), HB7⟩
        case measure => simp [intOf]; omega
      · have HF : Hid (((List.range (i + 1)).filter fun x => !f x) = ((List.range i).filter fun x => !f x)) := by
          show _ = _
          rw [List.range_succ, List.filter_append, List.filter_cons, List.filter_nil, eF]
          exact List.append_nil _
        clear eF
        go_wp2_with fail
        go_roundw
        case rel => exact ⟨i + 1, a, r, c, by omega, by go_num, rfl, by omega, by rw [unhide HF]; exact HRL, by rw [unhide HF]; exact HO, HB⟩
        case measure => simp [intOf]; omega
    · obtain rfl : i = no := by omega
      have i1 : ¬ (i : Int) < (i : Int) := by omega
      go_wp2_with fail
      go_ret
      rw [unhide HRL]
      exact ⟨a, c, rfl, unhide HO, unhide HB⟩


theorem RfL.read {lo : Nat} {w w' : World} {lab : Nat → Nat} {b : Nat} {oa : Option Addr} {n co : Nat} {ar : Option Addr} {nr cr wb cw : Nat} {vl : Value} {g : Gm} (h : RfL lo w lab b oa n co ar nr cr wb cw vl g) (hs : w.heap.size ≤ w'.heap.size) (hk : ∀ k, lo ≤ k → k < w.heap.size → w'.heap[k]? = w.heap[k]?) : ∃ us, IsLL w' (.slice oa n co) us g.os ∧ IsL KI w' (.slice ar nr cr) g.rs := by
  have hn := h.hn
  have hR : IsL KI w' (.slice ar nr cr) g.rs := (h.reg.keep hs (fun k q => hk k (h.reg.lt k q).1 (h.reg.lt k q).2)).isl
  rcases h.obj with ⟨rfl, rfl, rfl⟩ | ⟨bo, rfl, q1, q2, q3, q4, q5⟩
  · have e : g.os = [] := List.eq_nil_of_length_eq_zero hn
    rw [e]
    exact ⟨[], ⟨isl_nil w', rfl, fun i hi => absurd hi (Nat.not_lt_zero _)⟩, hR⟩
  have hc : ∀ i : Nat, ∃ u : Sl, i < n → w'.cell? ⟨bo, i, none⟩ = some (sl u) ∧ IsL KI w' (sl u) (g.os.getD i []) := fun i => by
    by_cases e : i < n
    · obtain ⟨bo', a, k, h0, h1, h2, _⟩ := h.row i e
      cases h0
      exact ⟨(a, (g.os.getD i []).length, k), fun _ => ⟨cell_of h1 (hk bo q4 q3), (h2.keep hs (fun k q => hk k (h2.lt k q).1 (h2.lt k q).2)).isl⟩⟩
    · exact ⟨(none, 0, 0), fun q => absurd q e⟩
  obtain ⟨cf, hcf⟩ := Classical.axiomOfChoice hc
  have hu : ∀ i, i < n → uAt ((List.range n).map cf) i = cf i := fun i hi => by
    unfold uAt
    rw [List.getD_eq_getElem?_getD, List.getElem?_map, List.getElem?_range hi]
    rfl
  refine ⟨(List.range n).map cf, ⟨?_, by simp [hn], fun i hi => ?_⟩, hR⟩
  · refine Lies.isl kl (fun j i u hj hu2 => ?_) (by simp) q2
    have hjn : j < n := by simpa using hj
    have hi0 : i = 0 := by have := (List.getElem?_eq_some_iff.1 hu2).1; simpa [KL] using this
    subst hi0
    have e1 := (hcf j hjn).1
    rw [← hu j hjn] at e1
    have e2 : u = sl (uAt ((List.range n).map cf) j) := by
      have : (KL.f (((List.range n).map cf).getD j KL.d))[0]? = some (sl (uAt ((List.range n).map cf) j)) := rfl
      rw [this] at hu2
      exact (Option.some.inj hu2).symm
    rw [e2, show 0 + j * KL.k + 0 = j by show 0 + j * 1 + 0 = _; omega]
    exact e1
  · rw [hu i (by omega)]
    exact (hcf i (by omega)).2

set_option maxRecDepth 100000 in
set_option maxHeartbeats 4000000 in
theorem cycled_19 (Wt : World) (B b RH RF wb cw : Nat) (oa : Option Addr) (n co : Nat) (ar : Option Addr) (nr cr : Nat) (x3 : Value) (m : Nat) (xs : List Int) (hM : Wt.heap[b]? = some (.cells #[.slice oa n co, .slice ar nr cr, .slice (some ⟨wb, 0, none⟩) n cw, x3] 65 (0, 0))) (hH : Wt.heap[RH]? = some (.cells #[.slice none 0 0, .slice none 0 0] 25 (0, 0))) (hF : Wt.heap[RF]? = some (.cells #[.int .i64 0, .int .i64 0] 30 (0, 0)))
    (hne : RH ≠ RF ∧ RH ≠ b ∧ RF ≠ b) (hlo : B ≤ RH ∧ B ≤ RF ∧ B ≤ Wt.heap.size)
    (hW : ∀ W, Below Wt.heap.size Wt W → Calls Try.prog 17 #[.slice (some ⟨wb, 0, none⟩) n cw] W fun e w' => ∃ a c, e = .returned (.slice a m c) ∧ OwnO W.heap.size w' (.slice a m c) xs ∧ Below W.heap.size W w')
    {s0 s1 s2 s3 s4 s5 s7 s10 s11 s12 s13 s14 s15 s16 s17 s18 s19 s20 s21 s22 s23 s24 s25 s26 s27 s28 s29 s30 s31 s32 s33 s34 s35 s36 s37 s38 s39 s40 s41 s42 s43 s44 s45 s46 s47 s48 s49 s50 s51 s52 s53 s54 s55 s56 s57 s58 s59 s60 s61 s62 s63 s64 s65 s66 s67 s68 s69 s70 s71 s72 s73 s74 s75 s76 s77 s78 s79 s80 s81 s82 s83 s84 s85 s86 s87 s88 s89 s90 s91 s92 s93 s94 s95 s96 s97 : Value} (K : Act → World → Prop) (R : Exit → Act → World → Prop) (x : Code) (hcut : (Try.f21.body.bind (cutAt 19)).map Prod.fst = some x)
    (hK : ∀ (s88 s89 s90 s91 s92 s93 s94 s95 s96 s97 : Value) (a : Option Addr) (c : Nat) (W' : World), Below B Wt W' → W'.heap[RH]? = some (.cells #[.slice oa n co, .slice ar nr cr] 25 (0, 0)) → W'.heap[RF]? = some (.cells #[.int .i64 0, .int .i64 0] 30 (0, 0)) → OwnO Wt.heap.size W' (.slice a m c) xs → (∀ k, k < Wt.heap.size → k ≠ RH → k ≠ RF → W'.heap[k]? = Wt.heap[k]?) → Exit.then K R Exit.normal { tmps := (s0 :: s1 :: s2 :: s3 :: s4 :: s5 :: .pointer (some ⟨RH, 0, none⟩) :: .slice a m c :: .pointer (some ⟨RF, 0, none⟩) :: .pointer (some ⟨b, 0, none⟩) :: s10 :: s11 :: s12 :: s13 :: s14 :: s15 :: s16 :: s17 :: s18 :: s19 :: s20 :: s21 :: s22 :: s23 :: s24 :: s25 :: s26 :: s27 :: s28 :: s29 :: s30 :: s31 :: s32 :: s33 :: s34 :: s35 :: s36 :: s37 :: s38 :: s39 :: s40 :: s41 :: s42 :: s43 :: s44 :: s45 :: s46 :: s47 :: s48 :: s49 :: s50 :: s51 :: s52 :: s53 :: s54 :: s55 :: s56 :: s57 :: s58 :: s59 :: s60 :: s61 :: s62 :: s63 :: s64 :: s65 :: s66 :: s67 :: s68 :: s69 :: s70 :: s71 :: s72 :: s73 :: s74 :: s75 :: s76 :: s77 :: s78 :: s79 :: s80 :: s81 :: s82 :: s83 :: s84 :: s85 :: s86 :: s87 :: s88 :: s89 :: s90 :: s91 :: s92 :: s93 :: s94 :: s95 :: s96 :: s97 :: []).toArray, defers := [] } W') :
    x.wp Try.prog (Exit.then K R) { tmps := (s0 :: s1 :: s2 :: s3 :: s4 :: s5 :: .pointer (some ⟨RH, 0, none⟩) :: s7 :: .pointer (some ⟨RF, 0, none⟩) :: .pointer (some ⟨b, 0, none⟩) :: s10 :: s11 :: s12 :: s13 :: s14 :: s15 :: s16 :: s17 :: s18 :: s19 :: s20 :: s21 :: s22 :: s23 :: s24 :: s25 :: s26 :: s27 :: s28 :: s29 :: s30 :: s31 :: s32 :: s33 :: s34 :: s35 :: s36 :: s37 :: s38 :: s39 :: s40 :: s41 :: s42 :: s43 :: s44 :: s45 :: s46 :: s47 :: s48 :: s49 :: s50 :: s51 :: s52 :: s53 :: s54 :: s55 :: s56 :: s57 :: s58 :: s59 :: s60 :: s61 :: s62 :: s63 :: s64 :: s65 :: s66 :: s67 :: s68 :: s69 :: s70 :: s71 :: s72 :: s73 :: s74 :: s75 :: s76 :: s77 :: s78 :: s79 :: s80 :: s81 :: s82 :: s83 :: s84 :: s85 :: s86 :: s87 :: s88 :: s89 :: s90 :: s91 :: s92 :: s93 :: s94 :: s95 :: s96 :: s97 :: []).toArray, defers := [] } Wt := by
  have hcc : (Try.f21.body.bind (cutAt 19)).map Prod.fst = some (.region _ _ _) := rfl
  rw [hcc] at hcut
  cases hcut
  clear hcc
  have HH := hide hH; have HF := hide hF; have HK := hide hK; have HW := hide hW
  have HSS : Hid (∀ W, Below Wt.heap.size Wt W → (W.cell? ⟨b, 0, none⟩ = some (.slice oa n co) ∧ W.cell? ⟨b, 1, none⟩ = some (.slice ar nr cr) ∧ W.cell? ⟨b, 2, none⟩ = some (.slice (some ⟨wb, 0, none⟩) n cw)) ∧ Below B Wt W) := fun W h => ⟨⟨(block4 (keep_below hM h)).1.1, (block4 (keep_below hM h)).1.2.1, (block4 (keep_below hM h)).1.2.2.1⟩, h.mono hlo.2.2⟩
  have HSH : Hid (∀ (W : World) (o : Nat) (v : Value), ((W.cell? ⟨b, 0, none⟩ = some (.slice oa n co) ∧ W.cell? ⟨b, 1, none⟩ = some (.slice ar nr cr) ∧ W.cell? ⟨b, 2, none⟩ = some (.slice (some ⟨wb, 0, none⟩) n cw)) ∧ Below B Wt W) → (((W.setCell ⟨RH, o, none⟩ v).cell? ⟨b, 0, none⟩ = some (.slice oa n co) ∧ (W.setCell ⟨RH, o, none⟩ v).cell? ⟨b, 1, none⟩ = some (.slice ar nr cr) ∧ (W.setCell ⟨RH, o, none⟩ v).cell? ⟨b, 2, none⟩ = some (.slice (some ⟨wb, 0, none⟩) n cw)) ∧ Below B Wt (W.setCell ⟨RH, o, none⟩ v))) := fun W o v h => ⟨⟨cell_other h.1.1 (Or.inl (Ne.symm hne.2.1)) v, cell_other h.1.2.1 (Or.inl (Ne.symm hne.2.1)) v, cell_other h.1.2.2 (Or.inl (Ne.symm hne.2.1)) v⟩, h.2.setCell hlo.1 v⟩
  have HSF : Hid (∀ (W : World) (o : Nat) (v : Value), ((W.cell? ⟨b, 0, none⟩ = some (.slice oa n co) ∧ W.cell? ⟨b, 1, none⟩ = some (.slice ar nr cr) ∧ W.cell? ⟨b, 2, none⟩ = some (.slice (some ⟨wb, 0, none⟩) n cw)) ∧ Below B Wt W) → (((W.setCell ⟨RF, o, none⟩ v).cell? ⟨b, 0, none⟩ = some (.slice oa n co) ∧ (W.setCell ⟨RF, o, none⟩ v).cell? ⟨b, 1, none⟩ = some (.slice ar nr cr) ∧ (W.setCell ⟨RF, o, none⟩ v).cell? ⟨b, 2, none⟩ = some (.slice (some ⟨wb, 0, none⟩) n cw)) ∧ Below B Wt (W.setCell ⟨RF, o, none⟩ v))) := fun W o v h => ⟨⟨cell_other h.1.1 (Or.inl (Ne.symm hne.2.2)) v, cell_other h.1.2.1 (Or.inl (Ne.symm hne.2.2)) v, cell_other h.1.2.2 (Or.inl (Ne.symm hne.2.2)) v⟩, h.2.setCell hlo.2.1 v⟩
  have HNE := hide hne; have HLO := hide hlo
  have ne1 : RF ≠ RH := Ne.symm hne.1
  have ne2 : RH ≠ RF := hne.1
  clear hM hH hF hK hW hne hlo
  go_region_held3 (fun W => (W.cell? ⟨b, 0, none⟩ = some (.slice oa n co) ∧ W.cell? ⟨b, 1, none⟩ = some (.slice ar nr cr) ∧ W.cell? ⟨b, 2, none⟩ = some (.slice (some ⟨wb, 0, none⟩) n cw)) ∧ Below B Wt W)
    (first | with_reducible exact unhide HSS _ (Below.refl _ _) | with_reducible exact unhide HSS _ (unhide HY7) | (repeat (first | with_reducible exact unhide HSS _ (Below.refl _ _) | with_reducible exact unhide HSS _ (Below.refl _ _).drew | with_reducible exact unhide HSS _ (unhide HY7) | with_reducible exact unhide HSS _ (unhide HY7).drew | with_reducible refine unhide HSH _ _ _ ?_ | with_reducible refine unhide HSF _ _ _ ?_)))
    (first | (go_at_call 17; (with_reducible refine Calls.mono (unhide HW _ (Below.refl _ _).drew) ?_); rintro e w5 ⟨a5, c5, rfl, ho5, hb5⟩; have HY7 : Hid (Below Wt.heap.size Wt w5) := Below.next (Below.refl _ _).drew hb5 (Nat.le_refl _); have HO5 := hide ho5; have HH5 := hide (keep_below (unhide HH) (unhide HY7)); have HF5 := hide (keep_below (unhide HF) (unhide HY7)); obtain ⟨h0, h1, hf0, hf1, hl⟩ := block2 (unhide HH5); obtain ⟨g0, g1, gf0, gf1, gl⟩ := block2 (unhide HF5); clear ho5 hb5))
  all_goals
    have hne := unhide HNE
    have hlo := unhide HLO
    have o7 := (unhide HO5)
    have hsz : Wt.heap.size ≤ w5.heap.size := (unhide HY7).size
    have hrh := size_of (unhide HH)
    have hrf := size_of (unhide HF)
    have o8 : OwnO Wt.heap.size (put2 (put2 w5 RH (.slice oa n co) (.slice ar nr cr)) RF (.int .i64 0) (.int .i64 0)) (.slice a5 m c5) xs := (show OwnO Wt.heap.size w5 (.slice a5 m c5) xs from o7).keep (by simp [put2, World.setCell]) (fun k hk => by
      have h_ := ((show OwnO Wt.heap.size w5 (.slice a5 m c5) xs from o7).lt k hk).1
      exact (put2_keep (by omega)).trans (put2_keep (by omega)))
    exact unhide HK _ _ _ _ _ _ _ _ _ _ a5 c5 (put2 (put2 w5 RH (.slice oa n co) (.slice ar nr cr)) RF (.int .i64 0) (.int .i64 0)) (put2_below (put2_below ((unhide HY7).mono hlo.2.2) hlo.1) hlo.2.1) ((put2_keep ne2).trans (put2_new (unhide HH5))) (put2_new ((put2_keep ne1).trans (unhide HF5))) o8 (fun k hk h1 h2 => ((put2_keep h2).trans (put2_keep h1)).trans ((unhide HY7).block k hk))
end Go.Proofs.Ytmkehjncnaokoaa
