/-
  CellAdds on lists: ops that only add leave the same, in whichever order.
-/
import Derived.Test.YtpgokeogijpmaabDoorMf
namespace Go.Proofs.YtpgokeogijpmaabDoor.Mx
open Go.RowKit

def addOp (m : Nat) (xs : List Int) (k : Nat) : Op4 := ⟨3, ((k % m : Nat) : Int), xs.getD k 0, 0⟩
def addsUp (m : Nat) (xs : List Int) (k : Nat) : List Op4 := (List.range k).map (addOp m xs)
def addT (m : Nat) (ass : List (List Int)) (i : Nat) : List Op4 := addsUp m (ass.getD i []) (ass.getD i []).length
def addTs (m : Nat) (ass : List (List Int)) (n : Nat) : List (List Op4) := (List.range n).map (addT m ass)
def allT (m : Nat) (ass : List (List Int)) (n : Nat) : List Op4 := (List.range n).flatMap (addT m ass)
def ordL (ass : List (List Int)) (n : Nat) : List Int := (List.range n).flatMap fun i => List.replicate (ass.getD i []).length (i : Int)

theorem addsUp_succ (m : Nat) (xs : List Int) (k : Nat) : addsUp m xs (k + 1) = addsUp m xs k ++ [addOp m xs k] := by
  unfold addsUp
  rw [List.range_succ, List.map_append]
  rfl
theorem addsUp_len (m : Nat) (xs : List Int) (k : Nat) : (addsUp m xs k).length = k := by simp [addsUp]
theorem allT_succ (m : Nat) (ass : List (List Int)) (n : Nat) : allT m ass (n + 1) = allT m ass n ++ addT m ass n := by
  unfold allT
  rw [List.range_succ, List.flatMap_append]
  simp
theorem ordL_succ (ass : List (List Int)) (n : Nat) : ordL ass (n + 1) = ordL ass n ++ List.replicate (ass.getD n []).length (n : Int) := by
  unfold ordL
  rw [List.range_succ, List.flatMap_append]
  simp
theorem addTs_len (m : Nat) (ass : List (List Int)) (n : Nat) : (addTs m ass n).length = n := by simp [addTs]
theorem addTs_at {m : Nat} {ass : List (List Int)} {n i : Nat} (hi : i < n) : (addTs m ass n).getD i [] = addT m ass i := by
  unfold addTs
  rw [List.getD_eq_getElem?_getD, List.getElem?_map, List.getElem?_range hi]
  rfl
theorem addT_len (m : Nat) (ass : List (List Int)) (i : Nat) : (addT m ass i).length = (ass.getD i []).length := addsUp_len _ _ _
theorem adds_k {m : Nat} {xs : List Int} {k : Nat} : ∀ o ∈ addsUp m xs k, o.k = 3 := fun o ho => by
  unfold addsUp at ho
  obtain ⟨j, _, rfl⟩ := List.mem_map.1 ho
  rfl
theorem adds_at {m : Nat} {xs : List Int} {k j : Nat} (hj : j < k) : opAtD (addsUp m xs k) j = addOp m xs j := by
  unfold opAtD addsUp
  rw [List.getD_eq_getElem?_getD, List.getElem?_map, List.getElem?_range hj]
  rfl

theorem faultFrom_all {W : Nat → Int} : ∀ (f i : Nat), (∀ j, i ≤ j → j < i + f → W j = 0) → faultFrom W f i = (0, 0)
  | 0, _, _ => rfl
  | f + 1, i, h => by
    unfold faultFrom
    rw [if_pos (h i (Nat.le_refl _) (by omega))]
    exact faultFrom_all f (i + 1) fun j h1 h2 => h j (by omega) (by omega)
theorem adds_fault {m : Nat} {ass : List (List Int)} {i : Nat} (hm : 0 < m) (hm2 : m ≤ 32) (hl : (ass.getD i []).length ≤ 20) : fault m (addT m ass i) = (0, 0) := by
  unfold fault faultOf
  rw [addT_len, if_neg (by omega)]
  refine faultFrom_all _ _ fun j _ hj => ?_
  unfold wAt
  have e : opAtD (addT m ass i) j = addOp m (ass.getD i []) j := adds_at (by omega)
  rw [e]
  have h1 := Nat.mod_lt j hm
  exact wrong_not (by show (1 : Int) ≤ 3; omega) (by show (3 : Int) ≤ 5; omega) (fun h => h.elim (fun h => absurd h.1 (by show ¬ (3 : Int) = 1; omega)) (fun h => h.2 rfl)) (by show ¬ (((j % m : Nat) : Int) < 0 ∨ (m : Int) ≤ ((j % m : Nat) : Int)); omega)

theorem wrap_add2 (c x y : Int) : wrap64 (wrap64 (c + x) + y) = wrap64 (wrap64 (c + y) + x) := by
  unfold wrap64
  omega

theorem stepMem_add {zs : List Int} {o : Op4} (h : o.k = 3) : stepMem zs o = zs.set o.p.toNat (wrap64 (zs.getD o.p.toNat 0 + o.a)) := by
  unfold stepMem thenOf
  rw [h]
  rfl
theorem step_comm {zs : List Int} {o q : Op4} (h : o.k = 3) (h' : q.k = 3) : stepMem (stepMem zs o) q = stepMem (stepMem zs q) o := by
  rw [stepMem_add h, stepMem_add h', stepMem_add h, stepMem_add h']
  by_cases e : o.p.toNat = q.p.toNat
  · rw [e]
    by_cases hl : q.p.toNat < zs.length
    · rw [List.set_set, List.set_set]
      simp only [List.getD_eq_getElem?_getD, List.getElem?_set, hl, if_true, Option.getD_some]
      congr 1
      exact wrap_add2 _ _ _
    · have e1 : ∀ x : Int, zs.set q.p.toNat x = zs := fun x => List.set_eq_of_length_le (by omega)
      simp only [e1]
  · rw [List.set_comm _ _ e]
    congr 1
    · congr 1
      simp only [List.getD_eq_getElem?_getD, List.getElem?_set, if_neg e]
    · simp only [List.getD_eq_getElem?_getD, List.getElem?_set, if_neg (Ne.symm e)]
theorem ran_perm {l l' : List Op4} (h : l.Perm l') : ∀ zs : List Int, (∀ o ∈ l, o.k = 3) → ranMem zs l = ranMem zs l' := by
  induction h with
  | nil => intro zs _; rfl
  | cons x _ ih => intro zs hk; exact ih (stepMem zs x) fun o ho => hk o (List.mem_cons_of_mem _ ho)
  | swap x y l =>
    intro zs hk
    show ranMem (stepMem (stepMem zs y) x) l = ranMem (stepMem (stepMem zs x) y) l
    rw [step_comm (hk y List.mem_cons_self) (hk x (List.mem_cons_of_mem _ List.mem_cons_self))]
  | trans h1 _ ih1 ih2 => intro zs hk; exact (ih1 zs hk).trans (ih2 zs fun o ho => hk o (h1.mem_iff.2 ho))

def remOf (tss : List (List Op4)) (ts : List (List Int)) (i : Nat) : List Op4 := (tss.getD i []).drop (ts.getD i []).length
def remAll (n : Nat) (tss : List (List Op4)) (ts : List (List Int)) : List Op4 := (List.range n).flatMap (remOf tss ts)
theorem flat_congr {f g : Nat → List Op4} : ∀ (n : Nat), (∀ i, i < n → f i = g i) → (List.range n).flatMap f = (List.range n).flatMap g
  | 0, _ => rfl
  | n + 1, h => by
    rw [List.range_succ, List.flatMap_append, List.flatMap_append, flat_congr n fun i hi => h i (by omega)]
    simp [h n (by omega)]
theorem perm_one {f g : Nat → List Op4} {o : Op4} {t : Nat} (h : f t = o :: g t) (hne : ∀ i, i ≠ t → f i = g i) : ∀ n, t < n → ((List.range n).flatMap f).Perm (o :: (List.range n).flatMap g)
  | 0, ht => by omega
  | n + 1, ht => by
    rw [List.range_succ, List.flatMap_append, List.flatMap_append]
    have e1 : [n].flatMap f = f n := by simp
    have e2 : [n].flatMap g = g n := by simp
    rw [e1, e2]
    by_cases e : t = n
    · rw [← e, h, flat_congr t fun i hi => hne i (by omega)]
      exact List.perm_middle
    · rw [hne n (Ne.symm e)]
      exact (perm_one h hne n (by omega)).append_right _
theorem getD_set {ts : List (List Int)} {t i : Nat} {x : List Int} (ht : t < ts.length) : (ts.set t x).getD i [] = if i = t then x else ts.getD i [] := by
  simp only [List.getD_eq_getElem?_getD, List.getElem?_set]
  by_cases e : t = i
  · subst e
    rw [if_pos rfl, if_pos rfl, if_pos ht]
    rfl
  · rw [if_neg e, if_neg (Ne.symm e)]
/-- What is left to be done is the same, in sum, behind a pick. -/
theorem step_rem {tss : List (List Op4)} {n : Nat} {Z : List Int} {ts : List (List Int)} (hk : ∀ i o, o ∈ tss.getD i [] → o.k = 3) (hl : ts.length = n) {t : Nat} (ht : t < n) :
    ranMem (mixStep tss (Z, ts) t).1 (remAll n tss (mixStep tss (Z, ts) t).2) = ranMem Z (remAll n tss ts) ∧ (mixStep tss (Z, ts) t).2.length = n ∧ ∀ (c : Nat → Nat), (∀ i, i < n → (tss.getD i []).length ≤ (ts.getD i []).length + (c i + if i = t then 1 else 0)) → ∀ i, i < n → (tss.getD i []).length ≤ ((mixStep tss (Z, ts) t).2.getD i []).length + c i := by
  unfold mixStep
  by_cases hd : (ts.getD t []).length < (tss.getD t []).length
  · rw [if_pos hd]
    simp only
    have ht' : t < ts.length := by omega
    refine ⟨?_, by rw [List.length_set]; exact hl, fun c hc i hi => ?_⟩
    · have hp : (remAll n tss ts).Perm (opAtD (tss.getD t []) (ts.getD t []).length :: remAll n tss (ts.set t (ts.getD t [] ++ [stepTold Z (opAtD (tss.getD t []) (ts.getD t []).length)]))) := by
        refine perm_one (t := t) ?_ (fun i hi => ?_) n ht
        · unfold remOf
          rw [getD_set ht', if_pos rfl, List.length_append, List.drop_eq_getElem_cons hd]
          congr 1
          unfold opAtD
          rw [List.getD_eq_getElem?_getD (l := tss.getD t []) (i := (ts.getD t []).length), List.getElem?_eq_getElem hd]
          rfl
        · unfold remOf
          rw [getD_set ht', if_neg hi]
      rw [ran_perm hp Z fun o ho => ?_]
      · rfl
      · unfold remAll at ho
        obtain ⟨i, _, hi⟩ := List.mem_flatMap.1 ho
        exact hk i o (List.mem_of_mem_drop hi)
    · have := hc i hi
      rw [getD_set ht']
      by_cases e : i = t
      · rw [if_pos e] at this ⊢
        rw [List.length_append, ← e]
        simp only [List.length_cons, List.length_nil]
        omega
      · rw [if_neg e] at this ⊢
        omega
  · rw [if_neg hd]
    refine ⟨rfl, hl, fun c hc i hi => ?_⟩
    have := hc i hi
    by_cases e : i = t
    · subst e
      show _ ≤ (ts.getD i []).length + _
      omega
    · rw [if_neg e] at this
      exact this
theorem all_rem {tss : List (List Op4)} {n : Nat} (hk : ∀ i o, o ∈ tss.getD i [] → o.k = 3) : ∀ (ps : List Int) (Z : List Int) (ts : List (List Int)), ts.length = n → (∀ x ∈ ps, 0 ≤ x ∧ x < n) → (∀ i, i < n → (tss.getD i []).length ≤ (ts.getD i []).length + ps.count (i : Int)) → (mixAll tss ps (Z, ts)).1 = ranMem Z (remAll n tss ts)
  | [], Z, ts, _, _, hc => by
    show Z = _
    have e : remAll n tss ts = [] := by
      unfold remAll
      rw [flat_congr (g := fun _ => []) n fun i hi => ?_]
      · simp
      · unfold remOf
        exact List.drop_of_length_le (by simpa using hc i hi)
    rw [e]
    rfl
  | p :: ps, Z, ts, hl, hp, hc => by
    show (mixAll tss ps (mixStep tss (Z, ts) p.toNat)).1 = _
    have hp0 := hp p List.mem_cons_self
    obtain ⟨h1, h2, h3⟩ := step_rem (Z := Z) hk hl (t := p.toNat) (by omega)
    rw [← h1]
    refine all_rem hk ps (mixStep tss (Z, ts) p.toNat).1 (mixStep tss (Z, ts) p.toNat).2 h2 (fun x hx => hp x (List.mem_cons_of_mem _ hx)) (h3 (fun i => ps.count (i : Int)) fun i hi => ?_)
    have := hc i hi
    rw [List.count_cons] at this
    by_cases e : i = p.toNat
    · rw [if_pos e]
      split at this <;> omega
    · rw [if_neg e]
      rw [if_neg (by simp; omega)] at this
      exact this
theorem ord_count {ass : List (List Int)} {i : Nat} : ∀ n, i < n → (ass.getD i []).length ≤ (ordL ass n).count (i : Int)
  | 0, h => by omega
  | n + 1, h => by
    rw [ordL_succ, List.count_append]
    by_cases e : i = n
    · subst e
      rw [List.count_replicate_self]
      omega
    · have := ord_count (ass := ass) n (i := i) (by omega)
      omega
theorem ord_in {ass : List (List Int)} : ∀ n x, x ∈ ordL ass n → 0 ≤ x ∧ x < (n : Int) := fun n x hx => by
  unfold ordL at hx
  obtain ⟨i, hi, h⟩ := List.mem_flatMap.1 hx
  have h1 := List.mem_range.1 hi
  have h2 := (List.mem_replicate.1 h).2
  subst h2
  omega
/-- Whatever is picked, and then each task as often as it has ops: all is added. -/
theorem adds_mix {m n : Nat} {ass : List (List Int)} {zs ps : List Int} (hp : ∀ x ∈ ps, 0 ≤ x ∧ x < (n : Int)) : (mixAll (addTs m ass n) (ps ++ ordL ass n) (zs, List.replicate n [])).1 = ranMem zs (allT m ass n) := by
  have hk : ∀ i o, o ∈ (addTs m ass n).getD i [] → o.k = 3 := fun i o ho => by
    by_cases hi : i < n
    · rw [addTs_at hi] at ho
      exact adds_k o ho
    · rw [List.getD_eq_getElem?_getD, List.getElem?_eq_none (by rw [addTs_len]; omega)] at ho
      cases ho
  rw [all_rem hk _ zs (List.replicate n []) List.length_replicate (fun x hx => ?_) fun i hi => ?_]
  · congr 1
    unfold remAll allT
    refine flat_congr n fun i hi => ?_
    unfold remOf
    rw [rep_nil, addTs_at hi]
    rfl
  · rcases List.mem_append.1 hx with h | h
    · exact hp x h
    · exact ord_in n x h
  · rw [addTs_at hi, addT_len, rep_nil, List.count_append]
    have := ord_count (ass := ass) n hi
    show _ ≤ 0 + _
    omega

end Go.Proofs.YtpgokeogijpmaabDoor.Mx
