/-
  What the barriers keep: Dijkstra's, and Yuasa's.
-/
import Derived.Test.YtmkehjncnaokoaaCo
namespace Go.Proofs.Ytmkehjncnaokoaa
open Go.RowKit

/-- What shading leaves. -/
structure Sh (s s' : Mk) : Prop where
  mono : ∀ x, s.wh x = false → s'.wh x = false
  sub : ∀ x, x ∈ s.ln → x ∈ s'.ln
  new : ∀ x, s'.wh x = false → s.wh x = false ∨ x ∈ s'.ln
  lnw : (∀ x, x ∈ s.ln → s.wh x = false) → ∀ x, x ∈ s'.ln → s'.wh x = false
theorem Sh.refl (s : Mk) : Sh s s := ⟨fun _ h => h, fun _ h => h, fun _ h => Or.inl h, fun h => h⟩
theorem Sh.trans {s s1 s2 : Mk} (h : Sh s s1) (k : Sh s1 s2) : Sh s s2 :=
  ⟨fun x hx => k.mono x (h.mono x hx), fun x hx => k.sub x (h.sub x hx), fun x hx => by
    rcases k.new x hx with q | q
    · rcases h.new x q with q2 | q2
      · exact Or.inl q2
      · exact Or.inr (k.sub x q2)
    · exact Or.inr q, fun hl => k.lnw (h.lnw hl)⟩
theorem sh_L {s : Mk} {os : List Int} (ho : ∀ o ∈ os, -1 ≤ o) : Sh s (shadeL s os) := by
  refine ⟨fun x hx => (shadeL_wh os s ho x).2 (Or.inl hx), fun x hx => (shadeL_ln os s ho x).2 (Or.inl hx), fun x hx => ?_, fun hl x hx => ?_⟩
  · rcases (shadeL_wh os s ho x).1 hx with q | q
    · exact Or.inl q
    · cases e : s.wh x with
      | false => exact Or.inl rfl
      | true => exact Or.inr ((shadeL_ln os s ho x).2 (Or.inr ⟨e, q⟩))
  · rcases (shadeL_ln os s ho x).1 hx with q | ⟨_, q⟩
    · exact (shadeL_wh os s ho x).2 (Or.inl (hl x q))
    · exact (shadeL_wh os s ho x).2 (Or.inr q)
theorem sh_1 {s : Mk} {o : Int} (ho : -1 ≤ o) : Sh s (shade1 s o) := sh_L (os := [o]) (fun x hx => by rw [List.mem_singleton.1 hx]; exact ho)
theorem shade1_met {s : Mk} {x : Nat} : (shade1 s (x : Int)).wh x = false := (shade1_wh (by omega) x).2 (Or.inr rfl)
theorem sh_B (z : Int) {s : Mk} {old new : Int} (h1 : -1 ≤ old) (h2 : -1 ≤ new) : Sh s (shB z s old new) := by
  unfold shB
  split
  · exact sh_1 h1
  · split
    · exact (sh_1 h1).trans (sh_1 h2)
    · split
      · exact sh_1 h2
      · exact Sh.refl s
theorem shB_old {z : Int} (hz : z = 2 ∨ z = 3) {s : Mk} {x : Nat} {new : Int} (h2 : -1 ≤ new) : (shB z s (x : Int) new).wh x = false := by
  unfold shB
  rcases hz with rfl | rfl
  · exact shade1_met
  · exact (sh_1 h2).mono x shade1_met
theorem shB_new {s : Mk} {x : Nat} {old : Int} : (shB 1 s old (x : Int)).wh x = false := by
  unfold shB
  exact shade1_met

/-- A marker that has met none of what is behind what it has left. -/
structure Dij (g : Gm) : Prop where
  ln : ∀ x, x ∈ g.mm.ln → g.mm.wh x = false
  cl : ∀ x, x < g.os.length → g.mm.wh x = false → x ∉ g.mm.ln → ∀ b : Nat, (b : Int) ∈ g.os.getD x [] → g.mm.wh b = false
theorem Dij.shade {os : List (List Int)} {rs : List Int} {s s' : Mk} (h : Dij ⟨os, rs, s⟩) (hs : Sh s s') : Dij ⟨os, rs, s'⟩ := by
  refine ⟨hs.lnw h.ln, fun x hx h1 h2 b hb => ?_⟩
  rcases hs.new x h1 with q | q
  · exact hs.mono b (h.cl x hx q (fun q2 => h2 (hs.sub x q2)) b hb)
  · exact absurd q h2
theorem Dij.markM {os : List (List Int)} {rs : List Int} {s : Mk} (hg : GoodR os os.length) (hl : LnOk os.length s) (h : Dij ⟨os, rs, s⟩) : Dij ⟨os, rs, markM os s⟩ := by
  obtain ⟨wh, ln⟩ := s
  cases ln with
  | nil => exact h
  | cons f r =>
    have hf : f < os.length := hl.lt f (List.mem_cons_self ..)
    have ho : ∀ o ∈ os.getD f [], -1 ≤ o := fun o q => (hg.so f hf o q).1
    have hs : Sh ⟨wh, r⟩ (shadeL ⟨wh, r⟩ (os.getD f [])) := sh_L ho
    refine ⟨hs.lnw (fun x hx => h.ln x (List.mem_cons_of_mem _ hx)), fun x hx h1 h2 b hb => ?_⟩
    have h1' : (shadeL ⟨wh, r⟩ (os.getD f [])).wh x = false := h1
    show (shadeL ⟨wh, r⟩ (os.getD f [])).wh b = false
    by_cases e : x = f
    · subst e
      exact (shadeL_wh _ _ ho b).2 (Or.inr hb)
    · rcases hs.new x h1' with q | q
      · refine hs.mono b (h.cl x hx q (fun q2 => ?_) b hb)
        rcases List.mem_cons.1 q2 with q3 | q3
        · exact e q3
        · exact h2 (hs.sub x q3)
      · exact absurd q h2
theorem dij_do {g : Gm} (hg : GoodG g) (hd : Dij g) {x : Ac} (hx : wrongG g x = 0) : Dij (doG 1 g x) := by
  rcases wrong_ops hx with ⟨h1, h2, h3⟩ | ⟨h1, _⟩ | ⟨h1, _⟩ | ⟨h1, h2, h3, h4, h5, h6⟩ | h1
  · obtain ⟨op, a, b', c⟩ := x
    dsimp only at h1 h2 h3
    obtain ⟨i, f, t, rfl, hi, hq, hf, rfl, ht⟩ := hasSlB_yes hg h2
    subst h1
    have hv := hg.src h3
    have hold := hg.slot hf ht
    unfold doG
    dsimp only
    rw [if_pos rfl, rowG_at hq, hq, Int.toNat_natCast, Int.toNat_natCast]
    have hs : Sh g.mm (shB 1 g.mm ((g.os.getD f []).getD t 0) (srcG g c)) := sh_B 1 hold.1 hv.1
    refine ⟨hs.lnw hd.ln, fun y hy k1 k2 d hdm => ?_⟩
    have hy' : y < g.os.length := by have : (g.os.set f ((g.os.getD f []).set t (srcG g c))).length = g.os.length := List.length_set; rw [this] at hy; exact hy
    rcases mem_rowset hdm with q | q
    · show (shB 1 g.mm ((g.os.getD f []).getD t 0) (srcG g c)).wh d = false
      rw [← q]
      exact shB_new
    · rcases hs.new y k1 with p | p
      · exact hs.mono d (hd.cl y hy' p (fun q2 => k2 (hs.sub y q2)) d q)
      · exact absurd p k2
  · obtain ⟨op, a, b', c⟩ := x
    dsimp only at h1
    subst h1
    unfold doG
    dsimp only
    rw [if_neg (by decide), if_pos rfl]
    exact ⟨hd.ln, hd.cl⟩
  · obtain ⟨op, a, b', c⟩ := x
    dsimp only at h1
    subst h1
    unfold doG
    dsimp only
    rw [if_neg (by decide), if_neg (by decide), if_pos rfl]
    exact ⟨hd.ln, hd.cl⟩
  · obtain ⟨op, a, b', c⟩ := x
    dsimp only at h1 h3
    subst h1
    unfold doG
    dsimp only
    rw [if_neg (by decide), if_neg (by decide), if_neg (by decide), if_pos rfl]
    refine ⟨fun y hy => ?_, fun y hy k1 k2 d hdm => ?_⟩
    · show (if y = g.os.length then false else g.mm.wh y) = false
      split
      · rfl
      · exact hd.ln y hy
    · have hy' : y < (g.os ++ [List.replicate b'.toNat (-1)]).length := hy
      rw [List.length_append] at hy'
      have hdm' : (d : Int) ∈ (g.os ++ [List.replicate b'.toNat (-1)]).getD y [] := hdm
      rw [getD_app] at hdm'
      show (if d = g.os.length then false else g.mm.wh d) = false
      by_cases e : y = g.os.length
      · rw [if_pos e] at hdm'
        have := (List.mem_replicate.1 hdm').2
        omega
      · rw [if_neg e] at hdm'
        have k1' : (if y = g.os.length then false else g.mm.wh y) = false := k1
        rw [if_neg e] at k1'
        split
        · rfl
        · exact hd.cl y (by have : [List.replicate b'.toNat (-1)].length = 1 := rfl; omega) k1' k2 d hdm'
  · subst h1
    exact hd.markM hg.gh.rows hg.ln
theorem dij_st {g : Gm} {acts : List Ac} (hg : GoodG g) (hd : Dij g) : ∀ i, i ≤ acts.length → PreOk 1 g acts i → Dij (stG 1 g acts i)
  | 0, _, _ => hd
  | i + 1, hi, hp => by
    have hp' : PreOk 1 g acts i := fun j hj => hp j (Nat.lt_succ_of_lt hj)
    rw [stG_succ hi]
    exact dij_do (good_st hg i (Nat.le_of_succ_le hi) hp') (dij_st hg hd i (Nat.le_of_succ_le hi) hp') (hp i (Nat.lt_succ_self i))
theorem dij_stp {os : List (List Int)} {rs : List Int} {s s' : Mk} (hg : GoodR os os.length) (h : Stp os s s') (hl : LnOk os.length s) (hd : Dij ⟨os, rs, s⟩) : Dij ⟨os, rs, s'⟩ ∧ LnOk os.length s' ∧ ∀ x, s.wh x = false → s'.wh x = false := by
  induction h with
  | refl => exact ⟨hd, hl, fun _ q => q⟩
  | step hs hne ih =>
    obtain ⟨i1, i2, i3⟩ := ih
    refine ⟨i1.markM hg i2, i2.markM hg, fun x hx => ?_⟩
    rename_i s1
    obtain ⟨wh, ln⟩ := s1
    cases ln with
    | nil => exact absurd rfl hne
    | cons f r =>
      have hf : f < os.length := i2.lt f (List.mem_cons_self ..)
      exact (shadeL_wh _ _ (fun o q => (hg.so f hf o q).1) x).2 (Or.inl (i3 x hx))
theorem dij_end {g : Gm} {s' : Mk} (hg : GoodG g) (hd : Dij g) (he : EndR 1 g.os g.rs g.mm s') : ∀ x, Rc g.os g.rs x → s'.wh x = false := by
  obtain ⟨hln, ⟨_, s1, h1, h2, h3⟩ | ⟨q, _⟩⟩ := he
  · obtain ⟨d1, l1, _⟩ := dij_stp (rs := g.rs) hg.gh.rows h1 hg.ln hd
    have hro : ∀ o ∈ g.rs, -1 ≤ o := fun o q => (hg.gh.ro o q).1
    have d2 : Dij ⟨g.os, g.rs, shadeL s1 g.rs⟩ := d1.shade (sh_L hro)
    obtain ⟨d3, l3, m3⟩ := dij_stp (rs := g.rs) hg.gh.rows h3 (l1.shade hg.gh.ro) d2
    have hlt : ∀ x, Rc g.os g.rs x → x < g.os.length := fun x hx => by
      induction hx with
      | root h => have := (hg.gh.ro _ h).2; omega
      | step _ h ih => have := (hg.gh.so _ ih _ h).2; omega
    intro x hx
    induction hx with
    | root h => exact m3 _ ((shadeL_wh _ _ hro _).2 (Or.inr h))
    | step ha h ih => exact d3.cl _ (hlt _ ha) ih (by rw [hln]; exact List.not_mem_nil) _ h
  · exact absurd rfl q

/-- What a path of white ones leads to, from a grey one. -/
inductive Gp (os : List (List Int)) (s : Mk) : Nat → Prop
  | grey {x : Nat} : x ∈ s.ln → Gp os s x
  | step {a b : Nat} : Gp os s a → (b : Int) ∈ os.getD a [] → s.wh b = true → Gp os s b
theorem gp_nil {os : List (List Int)} {s : Mk} (h : s.ln = []) {x : Nat} (hx : Gp os s x) : False := by
  induction hx with
  | grey q => rw [h] at q; cases q
  | step _ _ _ ih => exact ih
theorem gp_sh {os os' : List (List Int)} {s s' : Mk} (hs : Sh s s') (he : ∀ a b : Nat, (b : Int) ∈ os.getD a [] → s'.wh b = true → (b : Int) ∈ os'.getD a []) {x : Nat} (hx : Gp os s x) : s'.wh x = false ∨ Gp os' s' x := by
  induction hx with
  | grey q => exact Or.inr (.grey (hs.sub _ q))
  | @step a b ha hb hw ih =>
    cases e : s'.wh b with
    | false => exact Or.inl rfl
    | true =>
      have hb' := he a b hb e
      rcases ih with q | q
      · rcases hs.new a q with p | p
        · cases ha with
          | grey r => exact Or.inr (.step (.grey (hs.sub _ r)) hb' e)
          | step _ _ r => rw [p] at r; cases r
        · exact Or.inr (.step (.grey p) hb' e)
      · exact Or.inr (.step q hb' e)
theorem gp_mark {os : List (List Int)} {wh : Nat → Bool} {f : Nat} {r : List Nat} (hf : wh f = false) (ho : ∀ o ∈ os.getD f [], -1 ≤ o) {x : Nat} (hx : Gp os ⟨wh, f :: r⟩ x) : (shadeL ⟨wh, r⟩ (os.getD f [])).wh x = false ∨ Gp os (shadeL ⟨wh, r⟩ (os.getD f [])) x := by
  have hs : Sh ⟨wh, r⟩ (shadeL ⟨wh, r⟩ (os.getD f [])) := sh_L ho
  induction hx with
  | grey q =>
    rcases List.mem_cons.1 q with p | p
    · rw [p]; exact Or.inl (hs.mono f hf)
    · exact Or.inr (.grey (hs.sub _ p))
  | @step a b ha hb hw ih =>
    cases e : (shadeL ⟨wh, r⟩ (os.getD f [])).wh b with
    | false => exact Or.inl rfl
    | true =>
      rcases ih with q | q
      · rcases hs.new a q with p | p
        · cases ha with
          | grey t =>
            rcases List.mem_cons.1 t with u | u
            · subst u
              have := (shadeL_wh _ ⟨wh, r⟩ ho b).2 (Or.inr hb)
              rw [e] at this; cases this
            · exact Or.inr (.step (.grey (hs.sub _ u)) hb e)
          | step _ _ t => have p' : wh a = false := p; have t' : wh a = true := t; rw [p'] at t'; cases t'
        · exact Or.inr (.step (.grey p) hb e)
      · exact Or.inr (.step q hb e)
/-- What was there, and what is new, is met or will be. -/
structure Yua (g : Gm) (A : Nat → Prop) : Prop where
  ln : ∀ x, x ∈ g.mm.ln → g.mm.wh x = false
  gp : ∀ a, A a → g.mm.wh a = false ∨ Gp g.os g.mm a
  rt : ∀ x : Nat, (x : Int) ∈ g.rs → A x
  ch : ∀ a, A a → ∀ b : Nat, (b : Int) ∈ g.os.getD a [] → A b
theorem yua_begin {os : List (List Int)} {rs : List Int} (hg : GoodH os rs) : Yua ⟨os, rs, shadeL ⟨fun _ => true, []⟩ rs⟩ (Rc os rs) := by
  have hro : ∀ o ∈ rs, -1 ≤ o := fun o q => (hg.ro o q).1
  have hs : Sh ⟨fun _ => true, []⟩ (shadeL ⟨fun _ => true, []⟩ rs) := sh_L hro
  refine ⟨hs.lnw (fun x hx => by cases hx), fun a ha => ?_, fun x hx => .root hx, fun a ha b hb => .step ha hb⟩
  show (shadeL ⟨fun _ => true, []⟩ rs).wh a = false ∨ Gp os (shadeL ⟨fun _ => true, []⟩ rs) a
  induction ha with
  | root h => exact Or.inl ((shadeL_wh _ _ hro _).2 (Or.inr h))
  | @step a b _ h ih =>
    cases e : (shadeL ⟨fun _ => true, []⟩ rs).wh b with
    | false => exact Or.inl rfl
    | true =>
      rcases ih with q | q
      · rcases hs.new a q with p | p
        · cases p
        · exact Or.inr (.step (.grey p) h e)
      · exact Or.inr (.step q h e)
theorem Yua.markM {os : List (List Int)} {rs : List Int} {s : Mk} {A : Nat → Prop} (hg : GoodR os os.length) (hl : LnOk os.length s) (h : Yua ⟨os, rs, s⟩ A) : Yua ⟨os, rs, markM os s⟩ A := by
  obtain ⟨wh, ln⟩ := s
  cases ln with
  | nil => exact h
  | cons f r =>
    have hf : f < os.length := hl.lt f (List.mem_cons_self ..)
    have ho : ∀ o ∈ os.getD f [], -1 ≤ o := fun o q => (hg.so f hf o q).1
    have hs : Sh ⟨wh, r⟩ (shadeL ⟨wh, r⟩ (os.getD f [])) := sh_L ho
    refine ⟨hs.lnw (fun x hx => h.ln x (List.mem_cons_of_mem _ hx)), fun a ha => ?_, h.rt, h.ch⟩
    rcases h.gp a ha with q | q
    · exact Or.inl (hs.mono a q)
    · exact gp_mark (h.ln f (List.mem_cons_self ..)) ho q
theorem Yua.src {g : Gm} {A : Nat → Prop} (h : Yua g A) {c : Int} (hc : hasSrcB g.rs.length c = true) : ∀ x : Nat, srcG g c = (x : Int) → A x := fun x hx => by
  unfold srcG at hx
  by_cases e : c = -1
  · rw [if_pos e] at hx; omega
  · rw [if_neg e] at hx
    unfold hasSrcB at hc
    rw [decide_eq_false e] at hc
    obtain ⟨i, rfl, hi⟩ := hasRB_yes hc
    rw [regG_at] at hx
    exact h.rt x (by rw [← hx]; exact getD_mem hi)
theorem Yua.setR {g : Gm} {A : Nat → Prop} (h : Yua g A) (ta : Nat) {v : Int} (hv : ∀ x : Nat, v = (x : Int) → A x) : Yua ⟨g.os, g.rs.set ta v, g.mm⟩ A := by
  refine ⟨h.ln, h.gp, fun x hx => ?_, h.ch⟩
  rcases List.mem_or_eq_of_mem_set hx with q | q
  · exact h.rt x q
  · exact hv x q.symm
theorem mem_rowset_keep {os : List (List Int)} {f t : Nat} {v : Int} {a : Nat} {o : Int} (_hf : f < os.length) (_ht : t < (os.getD f []).length) (h : o ∈ os.getD a []) (hne : a = f → o ≠ (os.getD f []).getD t 0) : o ∈ (os.set f ((os.getD f []).set t v)).getD a [] := by
  rw [getD_set]
  by_cases e : f = a ∧ f < os.length
  · rw [if_pos e]
    obtain ⟨rfl, _⟩ := e
    obtain ⟨j, hj, hj2⟩ := mem_getD h
    have hjt : t ≠ j := fun q => hne rfl (by rw [← hj2, q])
    have e2 : ((os.getD f []).set t v).getD j 0 = o := by rw [getD_set, if_neg (fun q => hjt q.1)]; exact hj2
    rw [← e2]
    exact getD_mem (by rw [List.length_set]; exact hj)
  · rw [if_neg e]; exact h
theorem yua_do {g : Gm} {z : Int} (hz : z = 2 ∨ z = 3) (hg : GoodG g) {A : Nat → Prop} (hd : Yua g A) {x : Ac} (hx : wrongG g x = 0) : ∃ A' : Nat → Prop, Yua (doG z g x) A' ∧ (∀ a, A a → A' a) ∧ g.os.length ≤ (doG z g x).os.length ∧ ∀ a, g.os.length ≤ a → a < (doG z g x).os.length → A' a := by
  rcases wrong_ops hx with ⟨h1, h2, h3⟩ | ⟨h1, h2, h3⟩ | ⟨h1, h2, h3, h4⟩ | ⟨h1, h2, h3, h4, h5, h6⟩ | h1
  · obtain ⟨op, a, b', c⟩ := x
    dsimp only at h1 h2 h3
    obtain ⟨i, f, t, rfl, hi, hq, hf, rfl, ht⟩ := hasSlB_yes hg h2
    subst h1
    have hv := hg.src h3
    have hold := hg.slot hf ht
    unfold doG
    dsimp only
    rw [if_pos rfl, rowG_at hq, hq, Int.toNat_natCast, Int.toNat_natCast]
    have hs : Sh g.mm (shB z g.mm ((g.os.getD f []).getD t 0) (srcG g c)) := sh_B z hold.1 hv.1
    have hlen : (g.os.set f ((g.os.getD f []).set t (srcG g c))).length = g.os.length := List.length_set
    refine ⟨A, ⟨hs.lnw hd.ln, fun y hy => ?_, hd.rt, fun y hy d hdm => ?_⟩, fun _ h => h, by rw [hlen]; exact Nat.le_refl _, fun y k1 k2 => by rw [hlen] at k2; omega⟩
    · rcases hd.gp y hy with q | q
      · exact Or.inl (hs.mono y q)
      · refine gp_sh hs (fun p d hd1 hd2 => mem_rowset_keep hf ht hd1 (fun _ e => ?_)) q
        rw [← e, shB_old hz hv.1] at hd2
        cases hd2
    · rcases mem_rowset hdm with q | q
      · exact hd.src h3 d q.symm
      · exact hd.ch y hy d q
  · obtain ⟨op, a, b', c⟩ := x
    dsimp only at h1 h2 h3
    obtain ⟨ta, rfl, hta⟩ := hasRB_yes h2
    obtain ⟨i, f, t, rfl, hi, hq, hf, rfl, ht⟩ := hasSlB_yes hg h3
    subst h1
    unfold doG
    dsimp only
    rw [if_neg (by decide), if_pos rfl, rowG_at hq, Int.toNat_natCast, Int.toNat_natCast]
    have hA : A f := hd.rt f (by rw [← hq, regG_at]; exact getD_mem hi)
    exact ⟨A, hd.setR ta (fun x e => hd.ch f hA x (by rw [← e]; exact getD_mem ht)), fun _ h => h, Nat.le_refl _, fun y k1 k2 => absurd k2 (Nat.not_lt_of_le k1)⟩
  · obtain ⟨op, a, b', c⟩ := x
    dsimp only at h1 h2 h3 h4
    obtain ⟨ta, rfl, hta⟩ := hasRB_yes h2
    subst h1
    unfold doG
    dsimp only
    rw [if_neg (by decide), if_neg (by decide), if_pos rfl, Int.toNat_natCast]
    exact ⟨A, hd.setR ta (hd.src h3), fun _ h => h, Nat.le_refl _, fun y k1 k2 => absurd k2 (Nat.not_lt_of_le k1)⟩
  · obtain ⟨op, a, b', c⟩ := x
    dsimp only at h1 h2 h3
    obtain ⟨ta, rfl, hta⟩ := hasRB_yes h2
    subst h1
    unfold doG
    dsimp only
    rw [if_neg (by decide), if_neg (by decide), if_neg (by decide), if_pos rfl, Int.toNat_natCast]
    have hlen : (g.os ++ [List.replicate b'.toNat (-1)]).length = g.os.length + 1 := by rw [List.length_append]; rfl
    have hrow : ∀ y, y < g.os.length → (g.os ++ [List.replicate b'.toNat (-1)]).getD y [] = g.os.getD y [] := fun y hy => by rw [getD_app, if_neg (by omega)]
    have hin : ∀ y (d : Nat), (d : Int) ∈ g.os.getD y [] → y < g.os.length ∧ d < g.os.length := fun y d h => by
      by_cases e : y < g.os.length
      · have := (hg.gh.so y e _ h).2
        exact ⟨e, by omega⟩
      · rw [List.getD_eq_getElem?_getD, List.getElem?_eq_none (by omega)] at h
        cases h
    have hgp : ∀ y, Gp g.os g.mm y → y < g.os.length ∧ Gp (g.os ++ [List.replicate b'.toNat (-1)]) ⟨fun y => if y = g.os.length then false else g.mm.wh y, g.mm.ln⟩ y := fun y h => by
      induction h with
      | grey q => exact ⟨hg.ln.lt _ q, .grey q⟩
      | step _ hb hw ih =>
        have := hin _ _ hb
        refine ⟨this.2, .step ih.2 (by rw [hrow _ this.1]; exact hb) ?_⟩
        show (if _ = g.os.length then false else g.mm.wh _) = true
        rw [if_neg (by omega)]
        exact hw
    refine ⟨fun y => A y ∨ y = g.os.length, ⟨fun y hy => ?_, fun y hy => ?_, fun y hy => ?_, fun y hy d hdm => ?_⟩, fun _ h => Or.inl h, by show g.os.length ≤ (g.os ++ [_]).length; rw [hlen]; omega, fun y k1 k2 => ?_⟩
    · show (if y = g.os.length then false else g.mm.wh y) = false
      split
      · rfl
      · exact hd.ln y hy
    · show (if y = g.os.length then false else g.mm.wh y) = false ∨ _
      by_cases e : y = g.os.length
      · exact Or.inl (if_pos e)
      · rw [if_neg e]
        rcases hy with q | q
        · rcases hd.gp y q with p | p
          · exact Or.inl p
          · exact Or.inr (hgp y p).2
        · exact absurd q e
    · rcases List.mem_or_eq_of_mem_set hy with q | q
      · exact Or.inl (hd.rt y q)
      · exact Or.inr (by omega)
    · have hdm' : (d : Int) ∈ (g.os ++ [List.replicate b'.toNat (-1)]).getD y [] := hdm
      rw [getD_app] at hdm'
      by_cases e : y = g.os.length
      · rw [if_pos e] at hdm'
        have := (List.mem_replicate.1 hdm').2
        omega
      · rw [if_neg e] at hdm'
        rcases hy with q | q
        · exact Or.inl (hd.ch y q d hdm')
        · exact absurd q e
    · have k2' : y < (g.os ++ [List.replicate b'.toNat (-1)]).length := k2
      rw [hlen] at k2'
      exact Or.inr (by omega)
  · subst h1
    exact ⟨A, hd.markM hg.gh.rows hg.ln, fun _ h => h, Nat.le_refl _, fun y k1 k2 => absurd k2 (Nat.not_lt_of_le k1)⟩
theorem yua_st {g : Gm} {z : Int} (hz : z = 2 ∨ z = 3) {acts : List Ac} (hg : GoodG g) {A : Nat → Prop} (hd : Yua g A) : ∀ i, i ≤ acts.length → PreOk z g acts i → ∃ A' : Nat → Prop, Yua (stG z g acts i) A' ∧ (∀ a, A a → A' a) ∧ g.os.length ≤ (stG z g acts i).os.length ∧ ∀ a, g.os.length ≤ a → a < (stG z g acts i).os.length → A' a
  | 0, _, _ => ⟨A, hd, fun _ h => h, Nat.le_refl _, fun y k1 k2 => absurd k2 (Nat.not_lt_of_le k1)⟩
  | i + 1, hi, hp => by
    have hp' : PreOk z g acts i := fun j hj => hp j (Nat.lt_succ_of_lt hj)
    obtain ⟨A1, y1, s1, l1, n1⟩ := yua_st hz hg hd i (Nat.le_of_succ_le hi) hp'
    obtain ⟨A2, y2, s2, l2, n2⟩ := yua_do hz (good_st hg i (Nat.le_of_succ_le hi) hp') y1 (hp i (Nat.lt_succ_self i))
    rw [stG_succ hi]
    refine ⟨A2, y2, fun a h => s2 a (s1 a h), Nat.le_trans l1 l2, fun a k1 k2 => ?_⟩
    by_cases e : a < (stG z g acts i).os.length
    · exact s2 a (n1 a k1 e)
    · exact n2 a (by omega) k2
theorem yua_stp {os : List (List Int)} {rs : List Int} {s s' : Mk} {A : Nat → Prop} (hg : GoodR os os.length) (h : Stp os s s') (hl : LnOk os.length s) (hd : Yua ⟨os, rs, s⟩ A) : Yua ⟨os, rs, s'⟩ A ∧ LnOk os.length s' := by
  induction h with
  | refl => exact ⟨hd, hl⟩
  | step _ _ ih => exact ⟨ih.1.markM hg ih.2, ih.2.markM hg⟩
theorem yua_end {g : Gm} {s' : Mk} {z : Int} (hz : z = 2 ∨ z = 3) (hg : GoodG g) {A : Nat → Prop} (hd : Yua g A) (he : EndR z g.os g.rs g.mm s') : ∀ x, A x → s'.wh x = false := by
  obtain ⟨hln, ⟨q, _⟩ | ⟨_, h1⟩⟩ := he
  · rcases hz with rfl | rfl <;> exact absurd q (by decide)
  · intro x hx
    rcases (yua_stp (rs := g.rs) hg.gh.rows h1 hg.ln hd).1.gp x hx with p | p
    · exact p
    · exact absurd p (fun p => gp_nil hln p)
theorem Yua.reach {g : Gm} {A : Nat → Prop} (hd : Yua g A) {x : Nat} (hx : Rc g.os g.rs x) : A x := by
  induction hx with
  | root h => exact hd.rt _ h
  | step _ h ih => exact hd.ch _ ih _ h
theorem dij_begin {os : List (List Int)} {rs : List Int} (hg : GoodH os rs) : Dij ⟨os, rs, shadeL ⟨fun _ => true, []⟩ rs⟩ :=
  ⟨fun x hx => ((inv_begin hg).ln x hx).2, fun x hx h1 h2 b hb => (inv_begin hg).cl x hx h1 h2 b hb⟩
theorem lnok_begin {os : List (List Int)} {rs : List Int} (hg : GoodH os rs) : LnOk os.length (shadeL ⟨fun _ => true, []⟩ rs) := LnOk.shade ⟨fun x hx => (by cases hx), by
    have h_ : cntW os.length ⟨fun _ => true, []⟩ ≤ os.length := by
      unfold cntW
      have := List.length_filter_le (fun _ => true) (List.range os.length)
      rwa [List.length_range] at this
    have := hg.no
    show _ + 0 ≤ 2000
    omega⟩ hg.ro
/-- DIJKSTRA; YUASA: what is reached is not found white. -/
theorem safe_all {os : List (List Int)} {rs : List Int} {z : Int} (hz1 : 1 ≤ z) (hz3 : z ≤ 3) (hg : GoodH os rs) {acts : List Ac} {s' : Mk} (hp : PreOk z ⟨os, rs, shadeL ⟨fun _ => true, []⟩ rs⟩ acts acts.length) (he : EndR z (stG z ⟨os, rs, shadeL ⟨fun _ => true, []⟩ rs⟩ acts acts.length).os (stG z ⟨os, rs, shadeL ⟨fun _ => true, []⟩ rs⟩ acts acts.length).rs (stG z ⟨os, rs, shadeL ⟨fun _ => true, []⟩ rs⟩ acts acts.length).mm s') : ∀ x, Rc (stG z ⟨os, rs, shadeL ⟨fun _ => true, []⟩ rs⟩ acts acts.length).os (stG z ⟨os, rs, shadeL ⟨fun _ => true, []⟩ rs⟩ acts acts.length).rs x → s'.wh x = false := by
  have h0 : GoodG ⟨os, rs, shadeL ⟨fun _ => true, []⟩ rs⟩ := ⟨hg, lnok_begin hg⟩
  have hst := good_st h0 acts.length (Nat.le_refl _) hp
  by_cases e : z = 1
  · subst e
    exact dij_end hst (dij_st h0 (dij_begin hg) acts.length (Nat.le_refl _) hp) he
  · have hz : z = 2 ∨ z = 3 := by omega
    obtain ⟨A, y, _, _, _⟩ := yua_st hz h0 (yua_begin hg) acts.length (Nat.le_refl _) hp
    exact fun x hx => yua_end hz hst y he x (y.reach hx)
/-- What was reached at first, and what is new, is not found white. -/
theorem snap_all {os : List (List Int)} {rs : List Int} {z : Int} (hz : z = 2 ∨ z = 3) (hg : GoodH os rs) {acts : List Ac} {s' : Mk} (hp : PreOk z ⟨os, rs, shadeL ⟨fun _ => true, []⟩ rs⟩ acts acts.length) (he : EndR z (stG z ⟨os, rs, shadeL ⟨fun _ => true, []⟩ rs⟩ acts acts.length).os (stG z ⟨os, rs, shadeL ⟨fun _ => true, []⟩ rs⟩ acts acts.length).rs (stG z ⟨os, rs, shadeL ⟨fun _ => true, []⟩ rs⟩ acts acts.length).mm s') : (∀ x, Rc os rs x → s'.wh x = false) ∧ ∀ x, os.length ≤ x → x < (stG z ⟨os, rs, shadeL ⟨fun _ => true, []⟩ rs⟩ acts acts.length).os.length → s'.wh x = false := by
  have h0 : GoodG ⟨os, rs, shadeL ⟨fun _ => true, []⟩ rs⟩ := ⟨hg, lnok_begin hg⟩
  have hst := good_st h0 acts.length (Nat.le_refl _) hp
  obtain ⟨A, y, s, _, n⟩ := yua_st hz h0 (yua_begin hg) acts.length (Nat.le_refl _) hp
  exact ⟨fun x hx => yua_end hz hst y he x (s x hx), fun x h1 h2 => yua_end hz hst y he x (n x h1 h2)⟩
theorem heapF_of_good {os : List (List Int)} {rs : List Int} (hg : GoodH os rs) : heapF os rs = (0, 0) := by
  refine heapF_zero ?_
  unfold heapF
  rw [if_neg (by have := hg.no; have := hg.nr; omega)]
  rcases fw_cases (os.length : Int) rs with ⟨q, _⟩ | ⟨t, ht, q, hb, _⟩
  · rw [q, if_neg (by decide)]
    rw [rowsA_none _ os 0 (fun j hj => ?_)]
    have a1 := hg.ns j hj
    have a2 := hg.so j hj
    unfold rowF
    rw [if_neg (by omega)]
    rcases fw_cases (os.length : Int) (os.getD j []) with ⟨q, _⟩ | ⟨t, ht, q, hb, _⟩
    · rw [q, if_neg (by decide)]
    · exfalso
      have hm := a2 _ (getD_mem ht)
      unfold badIn at hb
      rw [decide_eq_false (by omega), decide_eq_false (by omega)] at hb
      cases hb
  · exfalso
    have hm := hg.ro _ (getD_mem ht)
    unfold badIn at hb
    rw [decide_eq_false (by omega), decide_eq_false (by omega)] at hb
    cases hb
end Go.Proofs.Ytmkehjncnaokoaa
