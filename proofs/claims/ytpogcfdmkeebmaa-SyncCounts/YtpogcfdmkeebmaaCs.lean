/-
  What SyncCounts wants of lists and of rows that are made.
-/
import Derived.Test.YtpogcfdmkeebmaaR
import Derived.Laws.OwnMore
namespace Go.Proofs.Ytpogcfdmkeebmaa
open Go.RowKit

theorem flat_rep (N : Nat) : (List.replicate N (0 : Int)).flatMap KI.f = List.replicate N (.int .i64 0) := by
  induction N with
  | zero => rfl
  | succ N ih => rw [List.replicate_succ, List.flatMap_cons, ih, List.replicate_succ]; rfl
theorem make_row (w : World) (N : Nat) (hN : N ≤ 1000) : ∃ w', (Instr.makeSlice 22 (.int .i64 (N : Int)) (.int .i64 (N : Int))).run Try.prog w = .ok (.slice (some ⟨w.heap.size, 0, none⟩) N N) w' ∧ Own KI w.heap.size w' (.slice (some ⟨w.heap.size, 0, none⟩) N N) (List.replicate N 0) ∧ Below w.heap.size w w' := by
  obtain ⟨i0, hi, h0, h1, h2⟩ := info_parts Try.info3
  obtain ⟨w', hr, ho, hg⟩ := run_make_full (P := Try.prog) w w.heap.size 22 3 i0 (.int .i64 0) 1 Try.underlying22 hi h0 h1 .i64 .i64 N (by rw [h2]; omega) (by unfold maxLen; omega) (Nat.le_refl _)
  refine ⟨w', hr, ?_, (Below.refl _ _).grown hg (Nat.le_refl _) (fun k hk => by cases hk)⟩
  unfold Own
  rw [List.length_replicate, flat_rep]
  rw [show (Value.int .i64 0).cells = #[Value.int .i64 0] from rfl, Nat.mul_one, toList_madeCells_one] at ho
  exact ho
theorem flat_seti : ∀ (xs : List Int) (i : Nat) (v : Int), (xs.set i v).flatMap KI.f = (xs.flatMap KI.f).set i (.int .i64 v)
  | [], _, _ => rfl
  | x :: r, 0, v => rfl
  | x :: r, i + 1, v => by
    have h := flat_seti r i v
    rw [List.set_cons_succ, List.flatMap_cons, h]
    rfl
theorem own_seti {base : Nat} {w : World} {g n c0 : Nat} {xs : List Int} (h : Own KI base w (.slice (some ⟨g, 0, none⟩) n c0) xs) (hn : xs.length = n) (i : Nat) (v : Int) : Own KI base (w.setCell ⟨g, i, none⟩ (.int .i64 v)) (.slice (some ⟨g, 0, none⟩) n c0) (xs.set i v) := by
  unfold Own at h ⊢
  rw [List.length_set, flat_seti]
  rw [hn] at h ⊢
  exact (h.stored _ _).1
theorem own_inti {base : Nat} {w : World} {g n c0 : Nat} {xs : List Int} (h : Own KI base w (.slice (some ⟨g, 0, none⟩) n c0) xs) {j : Nat} (hj : j < xs.length) : w.cell? ⟨g, j, none⟩ = some (.int .i64 (xs.getD j 0)) ∧ w.frozen? ⟨g, j, none⟩ = false := by
  obtain ⟨b, off, c', ev, _, hl⟩ := h.isl.at ki (by omega)
  cases ev
  have := hl.ints hj
  rw [Nat.zero_add] at this
  refine ⟨this, ?_⟩
  unfold Own at h
  exact h.frozenAt _

theorem giveR_split (f : Int) (l : List Po) (hf : 0 ≤ f) : ∃ pre, l = pre ++ (giveR f l).1.2 ∧ (giveR f l).2 = tasks pre ∧ (giveR f l).1.1 + (pre.map (fun p => p.2.2)).sum = f ∧ lets (giveR f l).1.1 (giveR f l).1.2 = false ∧ 0 ≤ (giveR f l).1.1 := by
  induction l generalizing f with
  | nil => exact ⟨[], rfl, rfl, by simp [giveR], rfl, hf⟩
  | cons x l ih =>
    obtain ⟨t, c, u⟩ := x
    cases hl : lets f ((t, c, u) :: l) with
    | false =>
      rw [giveR_stay hl]
      exact ⟨[], rfl, rfl, by simp, hl, hf⟩
    | true =>
      rw [giveR_go hl]
      have hu : u ≤ f := by simpa [lets] using hl
      obtain ⟨pre, h1, h2, h3, h4, h5⟩ := ih (f - u) (by omega)
      refine ⟨(t, c, u) :: pre, by rw [List.cons_append, ← h1], by rw [h2]; rfl, ?_, h4, h5⟩
      simp only [List.map_cons, List.sum_cons]
      omega

/-- What one task wanted. -/
def wantOf (ws : List Int) (t : Int) : Int := ws.getD t.toNat 0
/-- The semaphore and what was reckoned of it, while the tasks wh are still to be counted. -/
structure CM (n J : Nat) (free got rel last f : Int) (l : List Po) (wh ws : List Int) : Prop where
  good : GoodS f l
  free0 : 0 ≤ free ∧ free ≤ 1000
  rel0 : 0 ≤ rel ∧ rel ≤ 1000 * J
  got0 : 0 ≤ got
  last0 : 0 ≤ last ∧ last ≤ J
  JN : J ≤ n ∧ n ≤ 200
  sum : f + got + (wh.map (wantOf ws)).sum = free + rel
  pos : ∀ t ∈ wh, 1 ≤ wantOf ws t
  each : ∀ x ∈ l, wantOf ws x.1 = x.2.2
  chain : (wh ++ tasks l).Pairwise (· < ·)
  ends : ∀ t ∈ wh ++ tasks l, last < t ∧ t ≤ J
  len : ws.length = n + 1
  few : l.length ≤ J
  many : wh.length ≤ 1000
theorem CM.begin {n : Nat} {free : Int} (h0 : 0 ≤ free) (h1 : free ≤ 1000) (hn : n ≤ 200) : CM n 0 free 0 0 0 free [] [] (List.replicate (n + 1) 0) :=
  ⟨⟨by decide, h0, by omega, rfl, fun x hx => (by cases hx), List.nodup_nil⟩, ⟨h0, h1⟩, ⟨by omega, by omega⟩, by omega, ⟨by omega, by omega⟩, ⟨by omega, hn⟩, by simp, fun t ht => (by cases ht), fun x hx => (by cases hx), List.Pairwise.nil, fun t ht => (by cases ht), by simp, by simp, by simp⟩
theorem sum_nonneg {ws : List Int} : ∀ (l : List Int), (∀ t ∈ l, 1 ≤ wantOf ws t) → 0 ≤ (l.map (wantOf ws)).sum
  | [], _ => by simp
  | t :: l, h => by
    have h1 := sum_nonneg l (fun y hy => h y (List.mem_cons_of_mem _ hy))
    have h2 := h t List.mem_cons_self
    simp only [List.map_cons, List.sum_cons]
    omega
theorem CM.bound {n J : Nat} {free got rel last f : Int} {l : List Po} {wh ws : List Int} (h : CM n J free got rel last f l wh ws) : 0 ≤ f ∧ f ≤ 300000 ∧ got ≤ 300000 ∧ rel ≤ 200000 := by
  have h1 := sum_nonneg wh h.pos
  have h2 := h.sum; have h3 := h.free0; have h4 := h.rel0; have h5 := h.good.f0; have h6 := h.JN; have h7 := h.got0
  omega
/-- One of those who got theirs is counted. -/
theorem CM.step {n J : Nat} {free got rel last f : Int} {l : List Po} {t : Int} {wh ws : List Int} (h : CM n J free got rel last f l (t :: wh) ws) : last < t ∧ t ≤ n ∧ 1 ≤ wantOf ws t ∧ wantOf ws t ≤ 300000 ∧ CM n J free (got + wantOf ws t) rel t f l wh ws := by
  have hb := h.bound
  have h1 := h.ends t (by simp)
  have h2 := h.pos t (by simp)
  have hs := h.sum
  simp only [List.map_cons, List.sum_cons] at hs
  have hp : ∀ y ∈ wh, 1 ≤ wantOf ws y := fun y hy => h.pos y (List.mem_cons_of_mem _ hy)
  have hn := sum_nonneg wh hp
  have hg := h.got0; have hJ := h.JN; have hf := h.free0; have hr := h.rel0; have hl := h.last0
  have hch := List.pairwise_cons.1 (show (t :: (wh ++ tasks l)).Pairwise (· < ·) from h.chain)
  refine ⟨h1.1, by omega, h2, by omega, h.good, hf, hr, by omega, ⟨by omega, h1.2⟩, hJ, by omega, hp, h.each, hch.2, fun y hy => ⟨hch.1 y hy, (h.ends y (by simpa using Or.inr (by simpa using hy))).2⟩, h.len, h.few, by have := h.many; simp only [List.length_cons] at this; omega⟩
/-- A task acquires m. -/
theorem CM.acq {n j : Nat} {free got rel last f : Int} {l : List Po} {ws : List Int} (h : CM n j free got rel last f l [] ws) (hj : j < n) {m : Int} (hm : 1 ≤ m) (hm2 : m ≤ 1000) : (acqF f l ((j : Int) + 1) m).1 = 0 ∧ ((acqR f l ((j : Int) + 1) m false).2 = true → CM n (j + 1) free got rel last (acqR f l ((j : Int) + 1) m false).1.1 (acqR f l ((j : Int) + 1) m false).1.2 [(j : Int) + 1] (ws.set (j + 1) m)) ∧ ((acqR f l ((j : Int) + 1) m false).2 = false → CM n (j + 1) free got rel last (acqR f l ((j : Int) + 1) m false).1.1 (acqR f l ((j : Int) + 1) m false).1.2 [] (ws.set (j + 1) m)) := by
  have hb := h.bound; have hg := h.got0; have hJ := h.JN; have hfr := h.free0; have hr := h.rel0; have hl := h.last0; have hfew := h.few
  have hend : ∀ t ∈ tasks l, last < t ∧ t ≤ j := fun t ht => h.ends t (by simpa using ht)
  have hni : (j : Int) + 1 ∉ tasks l := fun hm => by have := hend _ hm; omega
  have hlen : l.length < 5000 := by omega
  have hset : wantOf (ws.set (j + 1) m) ((j : Int) + 1) = m := by
    unfold wantOf
    rw [show ((j : Int) + 1).toNat = j + 1 by omega, List.getD_eq_getElem?_getD, List.getElem?_set_self (by rw [h.len]; omega)]
    rfl
  have hold : ∀ t ∈ tasks l, wantOf (ws.set (j + 1) m) t = wantOf ws t := fun t ht => by
    have := hend t ht
    unfold wantOf
    rw [List.getD_eq_getElem?_getD, List.getElem?_set_ne (by omega), List.getD_eq_getElem?_getD]
  have hsum := h.sum
  simp only [List.map_nil, List.sum_nil] at hsum
  have hlen2 : (ws.set (j + 1) m).length = n + 1 := by rw [List.length_set]; exact h.len
  refine ⟨h.good.acq (by omega) hm (by omega) hni hlen, fun hgot => ?_, fun hgot => ?_⟩
  · cases hlet : lets f (l ++ [((j : Int) + 1, false, m)]) with
    | false =>
      have e : acqR f l ((j : Int) + 1) m false = ((f, l ++ [((j : Int) + 1, false, m)]), false) := by unfold acqR; rw [if_neg (by rw [hlet]; simp), if_neg (by simp)]
      rw [e] at hgot
      cases hgot
    | true =>
      have e : acqR f l ((j : Int) + 1) m false = ((f - m, []), true) := by unfold acqR; rw [if_pos hlet]
      have e0 := lets_snoc h.good.no hlet
      subst e0
      have hmf : m ≤ f := by simpa [lets] using hlet
      rw [e]
      refine ⟨⟨by simp, by simp only; omega, by simp only; omega, rfl, fun x hx => (by cases hx), List.nodup_nil⟩, hfr, ⟨hr.1, by omega⟩, hg, ⟨hl.1, by omega⟩, ⟨by omega, hJ.2⟩, ?_, fun t ht => ?_, fun x hx => (by cases hx), by simp [tasks], fun t ht => ?_, hlen2, by simp, by simp⟩
      · simp only [List.map_cons, List.map_nil, List.sum_cons, List.sum_nil, hset]
        omega
      · rw [List.mem_singleton] at ht
        subst ht
        rw [hset]
        exact hm
      · have ht2 : t = (j : Int) + 1 := by simpa [tasks] using ht
        subst ht2
        exact ⟨by omega, by omega⟩
  · cases hlet : lets f (l ++ [((j : Int) + 1, false, m)]) with
    | true =>
      have e : acqR f l ((j : Int) + 1) m false = ((f - m, []), true) := by unfold acqR; rw [if_pos hlet]
      rw [e] at hgot
      cases hgot
    | false =>
      have e : acqR f l ((j : Int) + 1) m false = ((f, l ++ [((j : Int) + 1, false, m)]), false) := by unfold acqR; rw [if_neg (by rw [hlet]; simp), if_neg (by simp)]
      have et : tasks (l ++ [((j : Int) + 1, false, m)]) = tasks l ++ [(j : Int) + 1] := by rw [tasks_append]; rfl
      rw [e]
      refine ⟨h.good.stays (by omega) hm (by omega) hni hlen hlet, hfr, ⟨hr.1, by omega⟩, hg, ⟨hl.1, by omega⟩, ⟨by omega, hJ.2⟩, by simpa using hsum, fun t ht => (by cases ht), fun x hx => ?_, ?_, fun t ht => ?_, hlen2, by simp; omega, by simp⟩
      · rcases List.mem_append.1 hx with hx | hx
        · rw [hold _ (List.mem_map_of_mem hx)]
          exact h.each x hx
        · rw [List.mem_singleton] at hx
          subst hx
          exact hset
      · simp only [List.nil_append]
        rw [et, List.pairwise_append]
        refine ⟨by simpa using h.chain, by simp, fun a ha b hb => ?_⟩
        rw [List.mem_singleton] at hb
        have := hend a ha
        omega
      · have ht2 : t ∈ tasks l ∨ t = (j : Int) + 1 := by
          simp only [List.nil_append] at ht
          rw [et] at ht
          simpa using ht
        rcases ht2 with ht2 | ht2
        · have := hend t ht2
          exact ⟨this.1, by omega⟩
        · exact ⟨by omega, by omega⟩
/-- So much is released. -/
theorem CM.rel {n j : Nat} {free got rel last f : Int} {l : List Po} {ws : List Int} (h : CM n j free got rel last f l [] ws) (hj : j < n) {x : Int} (hx : 0 ≤ x) (hx2 : x ≤ 1000) : (relF f l x).1 = 0 ∧ CM n (j + 1) free got (rel + x) last (giveR (f + x) l).1.1 (giveR (f + x) l).1.2 (giveR (f + x) l).2 ws := by
  have hb := h.bound; have hg := h.got0; have hJ := h.JN; have hfr := h.free0; have hr := h.rel0; have hl := h.last0; have hfew := h.few
  refine ⟨h.good.rel hx (by omega) (by omega), ?_⟩
  obtain ⟨pre, h1, h2, h3, h4, h5⟩ := giveR_split (f + x) l (by omega)
  obtain ⟨⟨⟨f2, l2⟩, wh⟩, hR⟩ : ∃ R, giveR (f + x) l = R := ⟨_, rfl⟩
  rw [hR] at h1 h2 h3 h4 h5 ⊢
  simp only at h1 h2 h3 h4 h5 ⊢
  have hsum := h.sum
  simp only [List.map_nil, List.sum_nil] at hsum
  have ht : tasks l = tasks pre ++ tasks l2 := by rw [h1, tasks_append]
  have hpw : ∀ q : List Po, (∀ p ∈ q, wantOf ws p.1 = p.2.2) → ((tasks q).map (wantOf ws)).sum = (q.map (fun p => p.2.2)).sum := fun q => by
    induction q with
    | nil => intro _; rfl
    | cons p q ih =>
      intro hq
      have hi := ih (fun y hy => hq y (List.mem_cons_of_mem _ hy))
      have hp := hq p List.mem_cons_self
      show wantOf ws p.1 + ((tasks q).map (wantOf ws)).sum = p.2.2 + (q.map (fun p => p.2.2)).sum
      rw [hi, hp]
  have hpe : ∀ p ∈ pre, wantOf ws p.1 = p.2.2 := fun p hp => h.each p (by rw [h1]; exact List.mem_append.2 (Or.inl hp))
  have hle : l2.length ≤ l.length := by rw [h1, List.length_append]; omega
  have htl : (tasks pre).length = pre.length := by unfold tasks; rw [List.length_map]
  have hpl : pre.length ≤ l.length := by rw [h1, List.length_append]; omega
  have hch : (tasks pre ++ tasks l2).Pairwise (· < ·) := by rw [← ht]; simpa using h.chain
  have hpsum : 0 ≤ (pre.map (fun p => p.2.2)).sum := by
    rw [← hpw pre hpe]
    exact sum_nonneg _ (fun t htm => by
      obtain ⟨p, hp, rfl⟩ := List.mem_map.1 htm
      rw [hpe p hp]
      exact (h.good.each p (by rw [h1]; exact List.mem_append.2 (Or.inl hp))).2.2.1)
  refine ⟨⟨by have := h.good.len; omega, h5, by omega, h4, fun y hy => h.good.each y (by rw [h1]; exact List.mem_append.2 (Or.inr hy)), ?_⟩, hfr, ⟨by omega, by omega⟩, hg, ⟨hl.1, by omega⟩, ⟨by omega, hJ.2⟩, ?_, fun t htm => ?_, fun y hy => h.each y (by rw [h1]; exact List.mem_append.2 (Or.inr hy)), by rw [h2]; exact hch, fun t htm => ?_, h.len, by omega, by rw [h2, htl]; omega⟩
  · have := h.good.once
    rw [ht] at this
    exact (List.nodup_append.1 this).2.1
  · rw [h2, hpw pre hpe]
    omega
  · rw [h2] at htm
    obtain ⟨p, hp, rfl⟩ := List.mem_map.1 htm
    rw [hpe p hp]
    exact (h.good.each p (by rw [h1]; exact List.mem_append.2 (Or.inl hp))).2.2.1
  · rw [h2, ← ht] at htm
    have := h.ends t (by simpa using htm)
    exact ⟨this.1, by omega⟩
end Go.Proofs.Ytpogcfdmkeebmaa
