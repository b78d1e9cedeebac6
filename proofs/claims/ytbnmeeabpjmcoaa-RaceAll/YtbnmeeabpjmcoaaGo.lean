/-
  What clocks know is what edges lead to: a step, and all.
-/
import Derived.Test.YtbnmeeabpjmcoaaGn
namespace Go.Proofs.Ytbnmeeabpjmcoaa
open Go.RowKit

theorem pix_other {l : List Ev} {p : Int} {n : Nat} (h : (l.getD n ev0).obj ≠ p) : pix l p (n + 1) = pix l p n := by
  rw [pix_succ]
  unfold pixStep
  rw [if_neg h]
theorem pix_same {l : List Ev} {p : Int} {n : Nat} (h14 : (l.getD n ev0).op ≠ 14) (h15 : (l.getD n ev0).op ≠ 15) (h16 : (l.getD n ev0).op ≠ 16) : pix l p (n + 1) = pix l p n := by
  rw [pix_succ]
  unfold pixStep
  rw [if_neg h14, if_neg h15, if_neg h16]
  split <;> rfl
section
variable {hs : List Int} {l : List Ev}
theorem t_plain {n : Nat} {M : PastM} (h : ∀ t, Kn hs l (n + 1) (M.tasks t) (fun x => x < n + 1 ∧ ((x < n ∧ To hs l t x) ∨ (x = n ∧ (l.getD n ev0).task = t)))) (hT : ∀ t, To hs l t n → (l.getD n ev0).task = t) (t : Int) : Kn hs l (n + 1) (M.tasks t) (fun x => x < n + 1 ∧ To hs l t x) := by
  refine kn_congr (h t) fun x => ⟨?_, ?_⟩
  · rintro ⟨hx, ⟨_, h2⟩ | ⟨rfl, h2⟩⟩
    · exact ⟨hx, h2⟩
    · exact ⟨hx, Or.inl h2⟩
  · rintro ⟨hx, h2⟩
    by_cases e : x = n
    · subst e; exact ⟨hx, Or.inr ⟨rfl, hT t h2⟩⟩
    · exact ⟨hx, Or.inl ⟨by omega, h2⟩⟩
theorem t_join {n : Nat} {M : PastM} (h : ∀ t, Kn hs l (n + 1) (M.tasks t) (fun x => x < n + 1 ∧ ((x < n ∧ To hs l t x) ∨ (x = n ∧ (l.getD n ev0).task = t)))) (hs1 : Kn hs l (n + 1) (ckAt hs l n) (fun y => y = n)) (k : Int) (hT : ∀ t, To hs l t n ↔ (l.getD n ev0).task = t ∨ t = k) (t : Int) : Kn hs l (n + 1) ((joinT M k (ckAt hs l n)).tasks t) (fun x => x < n + 1 ∧ To hs l t x) := by
  show Kn hs l (n + 1) (updI M.tasks k (joinC (M.tasks k) (ckAt hs l n)) t) _
  by_cases e : t = k
  · subst e
    rw [updI_same]
    refine kn_congr (kn_join (h t) hs1) fun x => ⟨?_, ?_⟩
    · rintro (⟨hx, ⟨_, h2⟩ | ⟨rfl, h2⟩⟩ | rfl)
      · exact ⟨hx, h2⟩
      · exact ⟨hx, Or.inl h2⟩
      · exact ⟨Nat.lt_succ_self _, (hT t).2 (Or.inr rfl)⟩
    · rintro ⟨hx, h2⟩
      by_cases e : x = n
      · exact Or.inr e
      · exact Or.inl ⟨hx, Or.inl ⟨by omega, h2⟩⟩
  · rw [updI_ne _ _ _ _ e]
    refine kn_congr (h t) fun x => ⟨?_, ?_⟩
    · rintro ⟨hx, ⟨_, h2⟩ | ⟨rfl, h2⟩⟩
      · exact ⟨hx, h2⟩
      · exact ⟨hx, Or.inl h2⟩
    · rintro ⟨hx, h2⟩
      by_cases e2 : x = n
      · subst e2; exact ⟨hx, Or.inr ⟨rfl, ((hT t).1 h2).resolve_right e⟩⟩
      · exact ⟨hx, Or.inl ⟨by omega, h2⟩⟩
theorem less_x {n : Nat} {c : Nat → Int} {P : Nat → Prop} (h : Kn hs l (n + 1) c (fun x => x < n ∧ P x)) (hP : ¬ P n) : Kn hs l (n + 1) c (fun x => x < n + 1 ∧ P x) := kn_congr h fun x => ⟨fun ⟨a, b⟩ => ⟨by omega, b⟩, fun ⟨a, b⟩ => ⟨by
  have : x ≠ n := fun e => hP (e ▸ b)
  omega, b⟩⟩
theorem more_x {n : Nat} {c : Nat → Int} {P : Nat → Prop} (h : Kn hs l (n + 1) c (fun x => x < n ∧ P x)) (hs1 : Kn hs l (n + 1) (ckAt hs l n) (fun y => y = n)) (hP : P n) : Kn hs l (n + 1) (joinC c (ckAt hs l n)) (fun x => x < n + 1 ∧ P x) := kn_congr (kn_join h hs1) fun x => ⟨by
  rintro (⟨a, b⟩ | rfl)
  · exact ⟨by omega, b⟩
  · exact ⟨Nat.lt_succ_self _, hP⟩, by
  rintro ⟨a, b⟩
  by_cases e : x = n
  · exact Or.inr e
  · exact Or.inl ⟨by omega, b⟩⟩
theorem inv_step (h1 : Tasks1 l) {n : Nat} (hn : n < l.length) {M : PastM} (hb : AllC (fun c => ∀ a, 0 ≤ c a ∧ c a ≤ cnt l n a) M) (h : Inv hs l n M) (hs1 : Kn hs l (n + 1) (ckAt hs l n) (fun y => y = n)) :
    Inv hs l (n + 1) (keepM hs (setTM M (l.getD n ev0).task (ckAt hs l n)) (l.getD n ev0) (ckAt hs l n)) := by
  obtain ⟨iT, iA, iW, iC⟩ := inv_set h1 hn hb h hs1
  obtain ⟨e, he⟩ : ∃ e, l.getD n ev0 = e := ⟨_, rfl⟩
  have hTo : ∀ t, To hs l t n ↔ (e.task = t ∨ (e.op = 11 ∧ e.val = t) ∨ (e.op = 15 ∧ holdOf hs l n = 0 ∧ ∃ s, sentOf l n = some s ∧ (l.getD s ev0).task = t)) := fun t => by unfold To; rw [he]
  have hplain : e.op ≠ 11 → e.op ≠ 15 → ∀ t, To hs l t n → (l.getD n ev0).task = t := fun a b t h => by
    rcases (hTo t).1 h with h | h | h
    · rw [he]; exact h
    · exact absurd h.1 a
    · exact absurd h.1 b
  have nA : e.op ≠ 18 → ∀ o, ¬ ((l.getD n ev0).op = 18 ∧ (l.getD n ev0).obj = o) := fun a o h => a (by rw [← he]; exact h.1)
  have nW : e.op ≠ 18 → ∀ o, ¬ ((l.getD n ev0).op = 18 ∧ (l.getD n ev0).obj = o ∧ (l.getD n ev0).val = 1) := fun a o h => a (by rw [← he]; exact h.1)
  have nC : e.op ≠ 19 → ∀ o, ¬ ((l.getD n ev0).op = 19 ∧ (l.getD n ev0).obj = o) := fun a o h => a (by rw [← he]; exact h.1)
  have pS : e.op ≠ 14 → e.op ≠ 15 → e.op ≠ 16 → ∀ p, pix l p (n + 1) = pix l p n := fun a b c p => pix_same (by rw [he]; exact a) (by rw [he]; exact b) (by rw [he]; exact c)
  have pO : ∀ p, p ≠ e.obj → pix l p (n + 1) = pix l p n := fun p hp => pix_other (by rw [he]; exact fun q => hp q.symm)
  unfold keepM
  rw [he]
  rw [he] at iT
  by_cases h11 : e.op = 11
  · rw [if_pos h11]
    refine ⟨fun t => t_join (by rw [he]; exact iT) hs1 e.val (fun t => ?_) t, fun p => ?_, fun p => ?_, fun p => ?_, fun o => less_x (iA o) (nA (by omega) o), fun o => less_x (iW o) (nW (by omega) o), fun o => less_x (iC o) (nC (by omega) o)⟩
    · rw [hTo t, he]
      constructor
      · rintro (h | h | h)
        · exact Or.inl h
        · exact Or.inr h.2.symm
        · omega
      · rintro (h | h)
        · exact Or.inl h
        · exact Or.inr (Or.inl ⟨h11, h.symm⟩)
    · rw [pS (by omega) (by omega) (by omega)]; exact h.s p
    · rw [pS (by omega) (by omega) (by omega)]; exact h.g p
    · rw [pS (by omega) (by omega) (by omega)]; exact h.h p
  rw [if_neg h11]
  by_cases h14 : e.op = 14
  · rw [if_pos h14]
    have hpx : pix l e.obj (n + 1) = { pix l e.obj n with sends := (pix l e.obj n).sends ++ [n] } := by
      rw [pix_succ]; unfold pixStep; rw [if_pos (by rw [he]), if_pos (by rw [he]; exact h14)]
    refine ⟨t_plain (by rw [he]; exact iT) (hplain h11 (by omega)), fun p => ?_, fun p => ?_, fun p => ?_, fun o => less_x (iA o) (nA (by omega) o), fun o => less_x (iW o) (nW (by omega) o), fun o => less_x (iC o) (nC (by omega) o)⟩
    · show (updI M.pipes e.obj _ p).sends = _
      by_cases hp : p = e.obj
      · subst hp
        rw [updI_same, hpx]
        dsimp only
        rw [List.map_append]
        show (M.pipes e.obj).sends ++ _ = _
        rw [h.s, List.map_cons, List.map_nil, he]
      · rw [updI_ne _ _ _ _ hp, pO p hp]; exact h.s p
    · show (updI M.pipes e.obj _ p).gets = _
      by_cases hp : p = e.obj
      · subst hp
        rw [updI_same, hpx]
        exact h.g e.obj
      · rw [updI_ne _ _ _ _ hp, pO p hp]; exact h.g p
    · show (updI M.pipes e.obj _ p).shut = _
      by_cases hp : p = e.obj
      · subst hp
        rw [updI_same, hpx]
        exact h.h e.obj
      · rw [updI_ne _ _ _ _ hp, pO p hp]; exact h.h p
  rw [if_neg h14]
  by_cases h15 : e.op = 15
  · rw [if_pos h15]
    have hgl : (M.pipes e.obj).gets.length = (pix l e.obj n).gets.length := by rw [h.g, List.length_map]
    have hsl : (M.pipes e.obj).sends.length = (pix l e.obj n).sends.length := by rw [h.s, List.length_map]
    by_cases hc : (M.pipes e.obj).gets.length = (M.pipes e.obj).sends.length
    · have hpx : pix l e.obj (n + 1) = pix l e.obj n := by
        rw [pix_succ]; unfold pixStep; rw [if_pos (by rw [he]), if_neg (by rw [he]; exact h14), if_pos (by rw [he]; exact h15), if_pos (by omega)]
      have hpa : ∀ p, pix l p (n + 1) = pix l p n := fun p => by
        by_cases hp : p = e.obj
        · subst hp; exact hpx
        · exact pO p hp
      rw [show (setTM M e.task (ckAt hs l n)).pipes = M.pipes from rfl, if_pos hc]
      refine ⟨t_plain (by rw [he]; exact iT) (fun t ht => ?_), fun p => ?_, fun p => ?_, fun p => ?_, fun o => less_x (iA o) (nA (by omega) o), fun o => less_x (iW o) (nW (by omega) o), fun o => less_x (iC o) (nC (by omega) o)⟩
      · rw [he]
        rcases (hTo t).1 ht with h2 | h2 | ⟨_, _, s, h2, _⟩
        · exact h2
        · omega
        · unfold sentOf at h2
          rw [he] at h2
          have := (List.getElem?_eq_some_iff.1 h2).1
          omega
      · rw [hpa]; exact h.s p
      · rw [hpa]; exact h.g p
      · rw [hpa]; exact h.h p
    · have hpx : pix l e.obj (n + 1) = { pix l e.obj n with gets := (pix l e.obj n).gets ++ [n] } := by
        rw [pix_succ]; unfold pixStep; rw [if_pos (by rw [he]), if_neg (by rw [he]; exact h14), if_pos (by rw [he]; exact h15), if_neg (by omega)]
      have hle := pix_len l e.obj n
      have hkl : (pix l e.obj n).gets.length < (pix l e.obj n).sends.length := by omega
      obtain ⟨s, hse⟩ : ∃ s, (pix l e.obj n).sends[(pix l e.obj n).gets.length]? = some s := ⟨_, List.getElem?_eq_getElem hkl⟩
      have hso : sentOf l n = some s := by unfold sentOf; rw [he]; exact hse
      have hby : byM (M.pipes e.obj) = (l.getD s ev0).task := by
        unfold byM
        rw [hgl, h.s, List.getD_eq_getElem?_getD, List.getElem?_map, hse]
        rfl
      have hsn := (pix_send hse).1
      have hst := h1 s (by omega)
      have gS : ∀ p, (updI M.pipes e.obj (getM (M.pipes e.obj) (ckAt hs l n)) p).sends = (pix l p (n + 1)).sends.map fun x => ((l.getD x ev0).task, ckAt hs l x) := fun p => by
        by_cases hp : p = e.obj
        · subst hp
          rw [updI_same, hpx]
          exact h.s e.obj
        · rw [updI_ne _ _ _ _ hp, pO p hp]; exact h.s p
      have gG : ∀ p, (updI M.pipes e.obj (getM (M.pipes e.obj) (ckAt hs l n)) p).gets = (pix l p (n + 1)).gets.map (ckAt hs l) := fun p => by
        by_cases hp : p = e.obj
        · subst hp
          rw [updI_same, hpx]
          dsimp only
          rw [List.map_append]
          show (M.pipes e.obj).gets ++ _ = _
          rw [h.g, List.map_cons, List.map_nil]
        · rw [updI_ne _ _ _ _ hp, pO p hp]; exact h.g p
      have gH : ∀ p, (updI M.pipes e.obj (getM (M.pipes e.obj) (ckAt hs l n)) p).shut = match (pix l p (n + 1)).shut with | none => ck0 | some x => ckAt hs l x := fun p => by
        by_cases hp : p = e.obj
        · subst hp
          rw [updI_same, hpx]
          exact h.h e.obj
        · rw [updI_ne _ _ _ _ hp, pO p hp]; exact h.h p
      have hho : holdOf hs l n = hs.getD e.obj.toNat 0 := by unfold holdOf; rw [he]
      rw [show (setTM M e.task (ckAt hs l n)).pipes = M.pipes from rfl, if_neg hc]
      by_cases hz : byM (M.pipes e.obj) ≠ 0 ∧ hs.getD e.obj.toNat 0 = 0
      · rw [if_pos hz]
        refine ⟨fun t => ?_, gS, gG, gH, fun o => less_x (iA o) (nA (by omega) o), fun o => less_x (iW o) (nW (by omega) o), fun o => less_x (iC o) (nC (by omega) o)⟩
        refine t_join (M := { setTM M e.task (ckAt hs l n) with pipes := updI M.pipes e.obj (getM (M.pipes e.obj) (ckAt hs l n)) }) (by rw [he]; exact iT) hs1 (byM (M.pipes e.obj)) (fun t => ?_) t
        rw [hTo t, he]
        constructor
        · rintro (h2 | h2 | ⟨_, _, s2, h2, h3⟩)
          · exact Or.inl h2
          · omega
          · rw [hso] at h2; cases h2; exact Or.inr (by rw [hby]; exact h3.symm)
        · rintro (h2 | h2)
          · exact Or.inl h2
          · exact Or.inr (Or.inr ⟨h15, by rw [hho]; exact hz.2, s, hso, by rw [h2, hby]⟩)
      · rw [if_neg hz]
        refine ⟨fun t => ?_, gS, gG, gH, fun o => less_x (iA o) (nA (by omega) o), fun o => less_x (iW o) (nW (by omega) o), fun o => less_x (iC o) (nC (by omega) o)⟩
        refine t_plain (M := { setTM M e.task (ckAt hs l n) with pipes := updI M.pipes e.obj (getM (M.pipes e.obj) (ckAt hs l n)) }) (by rw [he]; exact iT) (fun t ht => ?_) t
        rw [he]
        rcases (hTo t).1 ht with h2 | h2 | ⟨_, h3, _⟩
        · exact h2
        · omega
        · exact absurd ⟨by rw [hby]; omega, by rw [← hho]; exact h3⟩ hz
  rw [if_neg h15]
  by_cases h16 : e.op = 16
  · rw [if_pos h16]
    have hpx : pix l e.obj (n + 1) = { pix l e.obj n with shut := some n } := by
      rw [pix_succ]; unfold pixStep; rw [if_pos (by rw [he]), if_neg (by rw [he]; exact h14), if_neg (by rw [he]; exact h15), if_pos (by rw [he]; exact h16)]
    refine ⟨t_plain (by rw [he]; exact iT) (hplain h11 h15), fun p => ?_, fun p => ?_, fun p => ?_, fun o => less_x (iA o) (nA (by omega) o), fun o => less_x (iW o) (nW (by omega) o), fun o => less_x (iC o) (nC (by omega) o)⟩
    · show (updI M.pipes e.obj _ p).sends = _
      by_cases hp : p = e.obj
      · subst hp
        rw [updI_same, hpx]
        exact h.s e.obj
      · rw [updI_ne _ _ _ _ hp, pO p hp]; exact h.s p
    · show (updI M.pipes e.obj _ p).gets = _
      by_cases hp : p = e.obj
      · subst hp
        rw [updI_same, hpx]
        exact h.g e.obj
      · rw [updI_ne _ _ _ _ hp, pO p hp]; exact h.g p
    · show (updI M.pipes e.obj _ p).shut = _
      by_cases hp : p = e.obj
      · subst hp
        rw [updI_same, hpx]
      · rw [updI_ne _ _ _ _ hp, pO p hp]; exact h.h p
  rw [if_neg h16]
  by_cases h18 : e.op = 18
  · rw [if_pos h18]
    refine ⟨t_plain (by rw [he]; exact iT) (hplain h11 h15), fun p => ?_, fun p => ?_, fun p => ?_, fun o => ?_, fun o => ?_, fun o => less_x (iC o) (nC (by omega) o)⟩
    · rw [pS h14 h15 h16]; exact h.s p
    · rw [pS h14 h15 h16]; exact h.g p
    · rw [pS h14 h15 h16]; exact h.h p
    · show Kn hs l (n + 1) (updI M.locks e.obj (unlockM (M.locks e.obj) e.val (ckAt hs l n)) o).all _
      by_cases ho : o = e.obj
      · subst ho
        rw [updI_same]
        exact more_x (iA e.obj) hs1 (by rw [he]; exact ⟨h18, rfl⟩)
      · rw [updI_ne _ _ _ _ ho]
        exact less_x (iA o) (by rw [he]; exact fun q => ho q.2.symm)
    · show Kn hs l (n + 1) (updI M.locks e.obj (unlockM (M.locks e.obj) e.val (ckAt hs l n)) o).writers _
      by_cases ho : o = e.obj
      · subst ho
        rw [updI_same]
        unfold unlockM
        dsimp only
        by_cases hv : e.val = 1
        · rw [if_pos hv]
          exact more_x (iW e.obj) hs1 (by rw [he]; exact ⟨h18, rfl, hv⟩)
        · rw [if_neg hv]
          exact less_x (iW e.obj) (by rw [he]; exact fun q => hv q.2.2)
      · rw [updI_ne _ _ _ _ ho]
        exact less_x (iW o) (by rw [he]; exact fun q => ho q.2.1.symm)
  rw [if_neg h18]
  by_cases h19 : e.op = 19
  · rw [if_pos h19]
    refine ⟨t_plain (by rw [he]; exact iT) (hplain h11 h15), fun p => ?_, fun p => ?_, fun p => ?_, fun o => less_x (iA o) (nA h18 o), fun o => less_x (iW o) (nW h18 o), fun o => ?_⟩
    · rw [pS h14 h15 h16]; exact h.s p
    · rw [pS h14 h15 h16]; exact h.g p
    · rw [pS h14 h15 h16]; exact h.h p
    · show Kn hs l (n + 1) (updI M.groups e.obj (joinC (M.groups e.obj) (ckAt hs l n)) o) _
      by_cases ho : o = e.obj
      · subst ho
        rw [updI_same]
        exact more_x (iC e.obj) hs1 (by rw [he]; exact ⟨h19, rfl⟩)
      · rw [updI_ne _ _ _ _ ho]
        exact less_x (iC o) (by rw [he]; exact fun q => ho q.2.symm)
  rw [if_neg h19]
  refine ⟨t_plain (by rw [he]; exact iT) (hplain h11 h15), fun p => ?_, fun p => ?_, fun p => ?_, fun o => less_x (iA o) (nA h18 o), fun o => less_x (iW o) (nW h18 o), fun o => less_x (iC o) (nC h19 o)⟩
  · rw [pS h14 h15 h16]; exact h.s p
  · rw [pS h14 h15 h16]; exact h.g p
  · rw [pS h14 h15 h16]; exact h.h p

theorem inv_all (h1 : Tasks1 l) (hh : ∀ i, 0 ≤ hs.getD i 0) : ∀ n, n ≤ l.length → Inv hs l n (runM hs (l.take n)) ∧ ∀ x, x < n → Kn hs l n (ckAt hs l x) (fun y => y = x)
  | 0, _ => by
    refine ⟨?_, fun x hx => absurd hx (Nat.not_lt_zero x)⟩
    have hz : ∀ (c : Nat → Int) (X : Nat → Prop), Kn hs l 0 c X := fun c X j hj => absurd hj (Nat.not_lt_zero j)
    exact ⟨fun _ => hz _ _, fun _ => rfl, fun _ => rfl, fun _ => rfl, fun _ => hz _ _, fun _ => hz _ _, fun _ => hz _ _⟩
  | n + 1, hn => by
    obtain ⟨hI, hk⟩ := inv_all h1 hh n (by omega)
    have hs1 := self_kn h1 (show n < l.length by omega) hh hI hk
    constructor
    · rw [runM_succ hs l (by omega)]
      exact inv_step h1 (by omega) (all_cnt hs l n (by omega)) hI hs1
    · intro x hx
      by_cases e : x = n
      · subst e; exact hs1
      · exact kn_up h1 hn (show x < n by omega) (by omega) (hk x (by omega))
/-- An event happens before a later one just where edges lead to it. -/
theorem bef_rch (h1 : Tasks1 l) (hh : ∀ i, 0 ≤ hs.getD i 0) {i k : Nat} (hk : k < l.length) : befL hs l i k = true ↔ Rch hs l i k := by
  have h := (inv_all h1 hh (k + 1) (by omega)).2 k (by omega)
  unfold befL
  rw [Bool.and_eq_true, decide_eq_true_eq, decide_eq_true_eq]
  constructor
  · rintro ⟨h2, h3⟩
    obtain ⟨x, rfl, h4⟩ := (h i (by omega)).1 h3
    rcases h4 with rfl | h4
    · omega
    · exact h4
  · intro h2
    exact ⟨h2.lt.1, (h i (by have := h2.lt.1; omega)).2 ⟨k, rfl, Or.inr h2⟩⟩
end
/-- How many events of a task a clock tells of: those that lead to it, and itself. -/
theorem know_cnt {hs : List Int} {l : List Ev} (h1 : Tasks1 l) (p : Nat) (v : Int) : ∀ n, n ≤ l.length → 0 ≤ v → v ≤ cnt l n p → (((List.range n).filter fun b => plOf (l.getD b ev0) == p && decide (ckAt hs l b p ≤ v)).length : Int) = v
  | 0, _, h0, hv => by
    rw [cnt_zero] at hv
    simp
    omega
  | n + 1, hn, h0, hv => by
    have hc := cnt_succ l (show n < l.length by omega) p
    rw [List.range_succ, List.filter_append, List.length_append, List.filter_cons, List.filter_nil]
    by_cases hp : plOf (l.getD n ev0) = p
    · rw [if_pos hp] at hc
      have ho := now_own hs l h1 (show n < l.length by omega)
      rw [hp] at ho
      by_cases hle : v ≤ cnt l n p
      · have ih := know_cnt (hs := hs) h1 p v n (by omega) h0 hle
        have hf : (plOf (l.getD n ev0) == p && decide (ckAt hs l n p ≤ v)) = false := by
          rw [decide_eq_false (by omega), Bool.and_false]
        rw [if_neg (by rw [hf]; exact Bool.false_ne_true)]
        simpa using ih
      · have hv2 : v = cnt l n p + 1 := by omega
        have ih := know_cnt (hs := hs) h1 p (cnt l n p) n (by omega) (cnt_nn l n p) (Int.le_refl _)
        have hf : (plOf (l.getD n ev0) == p && decide (ckAt hs l n p ≤ v)) = true := by
          rw [decide_eq_true (by omega), Bool.and_true]
          simpa using hp
        rw [if_pos hf]
        have he : (List.range n).filter (fun b => plOf (l.getD b ev0) == p && decide (ckAt hs l b p ≤ v)) = (List.range n).filter (fun b => plOf (l.getD b ev0) == p && decide (ckAt hs l b p ≤ cnt l n p)) := by
          apply List.filter_congr
          intro b hb
          have hbn := List.mem_range.1 hb
          have h2 := (now_cnt hs l (n := b) (by omega) p).2
          have h3 := cnt_mono l p (show b + 1 ≤ n by omega) (by omega)
          rw [decide_eq_true (show ckAt hs l b p ≤ v by omega), decide_eq_true (show ckAt hs l b p ≤ cnt l n p by omega)]
        rw [he]
        simp only [List.length_cons, List.length_nil]
        omega
    · rw [if_neg hp] at hc
      have ih := know_cnt (hs := hs) h1 p v n (by omega) h0 (by omega)
      have hf : (plOf (l.getD n ev0) == p && decide (ckAt hs l n p ≤ v)) = false := by
        have : (plOf (l.getD n ev0) == p) = false := by simpa using hp
        rw [this, Bool.false_and]
      rw [if_neg (by rw [hf]; exact Bool.false_ne_true)]
      simpa using ih
end Go.Proofs.Ytbnmeeabpjmcoaa
