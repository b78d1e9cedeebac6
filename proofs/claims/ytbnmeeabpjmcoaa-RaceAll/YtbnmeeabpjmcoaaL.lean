/-
  What pasts do, on lists: clocks, how many events they tell of, and that who knows an event knows all that it knows.
-/
import Derived.Test.YtbnmeeabpjmcoaaK
namespace Go.Proofs.Ytbnmeeabpjmcoaa
open Go.RowKit

/-- An event. -/
structure Ev where
  task : Int
  op : Int
  obj : Int
  val : Int
def ev0 : Ev := ⟨0, 0, 0, 0⟩

def aheadS (p : PipeM) (h : Int) : Nat → Int := if (p.sends.length : Int) - h < 0 ∨ (p.gets.length : Int) ≤ (p.sends.length : Int) - h then ck0 else p.gets.getD ((p.sends.length : Int) - h).toNat ck0
def aheadG (p : PipeM) : Nat → Int := if p.gets.length = p.sends.length then p.shut else (p.sends.getD p.gets.length (0, ck0)).2
/-- What happens before an event by way of its thing. -/
def aheadM (hs : List Int) (M : PastM) (e : Ev) : Nat → Int :=
  if e.op = 14 then aheadS (M.pipes e.obj) (hs.getD e.obj.toNat 0)
  else if e.op = 15 then aheadG (M.pipes e.obj)
  else if e.op = 17 then (if e.val = 1 then (M.locks e.obj).all else (M.locks e.obj).writers)
  else if e.op = 20 then M.groups e.obj
  else ck0
def joinT (M : PastM) (k : Int) (c : Nat → Int) : PastM := { M with tasks := updI M.tasks k (joinC (M.tasks k) c) }
def getM (p : PipeM) (c : Nat → Int) : PipeM := { p with gets := p.gets ++ [c] }
def byM (p : PipeM) : Int := (p.sends.getD p.gets.length (0, ck0)).1
/-- What is kept of an event. -/
def keepM (hs : List Int) (M : PastM) (e : Ev) (c : Nat → Int) : PastM :=
  if e.op = 11 then joinT M e.val c
  else if e.op = 14 then { M with pipes := updI M.pipes e.obj { M.pipes e.obj with sends := (M.pipes e.obj).sends ++ [(e.task, c)] } }
  else if e.op = 15 then
    if (M.pipes e.obj).gets.length = (M.pipes e.obj).sends.length then M
    else if byM (M.pipes e.obj) ≠ 0 ∧ hs.getD e.obj.toNat 0 = 0 then joinT { M with pipes := updI M.pipes e.obj (getM (M.pipes e.obj) c) } (byM (M.pipes e.obj)) c
    else { M with pipes := updI M.pipes e.obj (getM (M.pipes e.obj) c) }
  else if e.op = 16 then { M with pipes := updI M.pipes e.obj { M.pipes e.obj with shut := c } }
  else if e.op = 18 then { M with locks := updI M.locks e.obj (unlockM (M.locks e.obj) e.val c) }
  else if e.op = 19 then { M with groups := updI M.groups e.obj (joinC (M.groups e.obj) c) }
  else M
def plOf (e : Ev) : Nat := (e.task - 1).toNat
def nowM (hs : List Int) (M : PastM) (e : Ev) : Nat → Int := updN (joinC (M.tasks e.task) (aheadM hs M e)) (plOf e) (joinC (M.tasks e.task) (aheadM hs M e) (plOf e) + 1)
def setTM (M : PastM) (k : Int) (c : Nat → Int) : PastM := { M with tasks := updI M.tasks k c }
def addM (hs : List Int) (M : PastM) (e : Ev) : PastM := keepM hs (setTM M e.task (nowM hs M e)) e (nowM hs M e)
def runM (hs : List Int) (l : List Ev) : PastM := l.foldl (fun M e => addM hs M e) past0
def ckAt (hs : List Int) (l : List Ev) (i : Nat) : Nat → Int := nowM hs (runM hs (l.take i)) (l.getD i ev0)
def clocksL (hs : List Int) (l : List Ev) : List (Nat → Int) := (List.range l.length).map (ckAt hs l)

theorem runM_succ (hs : List Int) (l : List Ev) {n : Nat} (h : n < l.length) : runM hs (l.take (n + 1)) = addM hs (runM hs (l.take n)) (l.getD n ev0) := by
  have e : l.take (n + 1) = l.take n ++ [l.getD n ev0] := by
    rw [List.take_add_one, List.getElem?_eq_getElem h]
    simp [List.getElem?_eq_getElem h]
  rw [runM, e, List.foldl_append]
  rfl
theorem ckAt_take (hs : List Int) (l : List Ev) {i m : Nat} (h : i < m) : ckAt hs (l.take m) i = ckAt hs l i := by
  unfold ckAt
  rw [List.take_take, Nat.min_eq_left (by omega)]
  congr 1
  simp [h]

/-- All clocks of a past are so. -/
structure AllC (Q : (Nat → Int) → Prop) (M : PastM) : Prop where
  t : ∀ k, Q (M.tasks k)
  s : ∀ k, ∀ x ∈ (M.pipes k).sends, Q x.2
  g : ∀ k, ∀ x ∈ (M.pipes k).gets, Q x
  h : ∀ k, Q (M.pipes k).shut
  w : ∀ k, Q (M.locks k).writers
  a : ∀ k, Q (M.locks k).all
  c : ∀ k, Q (M.groups k)
theorem AllC.imp {Q R : (Nat → Int) → Prop} {M : PastM} (h : AllC Q M) (f : ∀ c, Q c → R c) : AllC R M :=
  ⟨fun k => f _ (h.t k), fun k x hx => f _ (h.s k x hx), fun k x hx => f _ (h.g k x hx), fun k => f _ (h.h k), fun k => f _ (h.w k), fun k => f _ (h.a k), fun k => f _ (h.c k)⟩
theorem getD_mem {α : Type} {l : List α} {i : Nat} {d : α} (h : i < l.length) : l.getD i d ∈ l := by
  simp [List.getElem?_eq_getElem h]
theorem AllC.ahead {Q : (Nat → Int) → Prop} {M : PastM} (h : AllC Q M) (h0 : Q ck0) (hs : List Int) (e : Ev) : Q (aheadM hs M e) := by
  unfold aheadM
  split
  · unfold aheadS
    split
    · exact h0
    · next hn =>
      refine h.g e.obj _ (getD_mem ?_)
      omega
  · split
    · unfold aheadG
      split
      · exact h.h e.obj
      · next hn =>
        by_cases hlt : (M.pipes e.obj).gets.length < (M.pipes e.obj).sends.length
        · exact h.s e.obj _ (getD_mem hlt)
        · rw [List.getD_eq_getElem?_getD, List.getElem?_eq_none (by omega)]
          exact h0
    · split
      · split
        · exact h.a _
        · exact h.w _
      · split
        · exact h.c _
        · exact h0
theorem upd_all {α : Type} {R : α → Prop} {f : Int → α} {k : Int} {v : α} (hf : ∀ j, R (f j)) (hv : R v) : ∀ j, R (updI f k v j) := fun j => by
  unfold updI
  split
  · exact hv
  · exact hf j
theorem AllC.joinT {Q : (Nat → Int) → Prop} {M : PastM} (h : AllC Q M) (hj : ∀ c d, Q c → Q d → Q (joinC c d)) {c : Nat → Int} (hc : Q c) (k : Int) : AllC Q (joinT M k c) :=
  ⟨upd_all h.t (hj _ _ (h.t k) hc), h.s, h.g, h.h, h.w, h.a, h.c⟩
theorem AllC.pipe {Q : (Nat → Int) → Prop} {M : PastM} (h : AllC Q M) (k : Int) {p : PipeM} (h1 : ∀ x ∈ p.sends, Q x.2) (h2 : ∀ x ∈ p.gets, Q x) (h3 : Q p.shut) : AllC Q { M with pipes := updI M.pipes k p } :=
  ⟨h.t, upd_all (R := fun p : PipeM => ∀ x ∈ p.sends, Q x.2) h.s h1, upd_all (R := fun p : PipeM => ∀ x ∈ p.gets, Q x) h.g h2, upd_all (R := fun p : PipeM => Q p.shut) h.h h3, h.w, h.a, h.c⟩
theorem AllC.keep {Q : (Nat → Int) → Prop} {M : PastM} (h : AllC Q M) (hj : ∀ c d, Q c → Q d → Q (joinC c d)) {c : Nat → Int} (hc : Q c) (hs : List Int) (e : Ev) : AllC Q (keepM hs M e c) := by
  have hg : AllC Q { M with pipes := updI M.pipes e.obj (getM (M.pipes e.obj) c) } := h.pipe _ (h.s _) (fun x hx => by
    rcases List.mem_append.1 hx with hx | hx
    · exact h.g _ x hx
    · rw [List.mem_singleton.1 hx]; exact hc) (h.h _)
  unfold keepM
  split
  · exact h.joinT hj hc _
  · split
    · exact h.pipe _ (fun x hx => by
        rcases List.mem_append.1 hx with hx | hx
        · exact h.s _ x hx
        · rw [List.mem_singleton.1 hx]; exact hc) (h.g _) (h.h _)
    · split
      · split
        · exact h
        · split
          · exact hg.joinT hj hc _
          · exact hg
      · split
        · exact h.pipe _ (h.s _) (h.g _) hc
        · split
          · refine ⟨h.t, h.s, h.g, h.h, upd_all (R := fun p : LockM => Q p.writers) h.w ?_, upd_all (R := fun p : LockM => Q p.all) h.a (hj _ _ (h.a _) hc), h.c⟩
            unfold unlockM
            dsimp only
            split
            · exact hj _ _ (h.w _) hc
            · exact h.w _
          · split
            · exact ⟨h.t, h.s, h.g, h.h, h.w, h.a, upd_all h.c (hj _ _ (h.c _) hc)⟩
            · exact h
theorem AllC.add {Q Q' : (Nat → Int) → Prop} {M : PastM} (h : AllC Q M) (hQ : ∀ c, Q c → Q' c) (hj : ∀ c d, Q' c → Q' d → Q' (joinC c d)) (hs : List Int) (e : Ev) (hc : Q' (nowM hs M e)) : AllC Q' (addM hs M e) := by
  have h2 := h.imp hQ
  exact AllC.keep (M := setTM M e.task (nowM hs M e)) ⟨upd_all h2.t hc, h2.s, h2.g, h2.h, h2.w, h2.a, h2.c⟩ hj hc hs e
theorem past0_all {Q : (Nat → Int) → Prop} (h : Q ck0) : AllC Q past0 := ⟨fun _ => h, (fun _ x hx => by cases hx), (fun _ x hx => by cases hx), fun _ => h, fun _ => h, fun _ => h, fun _ => h⟩

theorem joinT_le (M : PastM) (k : Int) (c : Nat → Int) (j : Int) (a : Nat) : M.tasks j a ≤ (joinT M k c).tasks j a := by
  unfold joinT updI
  dsimp only
  split
  · next e => subst e; unfold joinC; omega
  · exact Int.le_refl _
theorem keep_le (hs : List Int) (M : PastM) (e : Ev) (c : Nat → Int) (j : Int) (a : Nat) : M.tasks j a ≤ (keepM hs M e c).tasks j a := by
  unfold keepM
  split
  · exact joinT_le ..
  · split
    · exact Int.le_refl _
    · split
      · split
        · exact Int.le_refl _
        · split
          · exact joinT_le { M with pipes := updI M.pipes e.obj (getM (M.pipes e.obj) c) } _ _ _ _
          · exact Int.le_refl _
      · split
        · exact Int.le_refl _
        · split
          · exact Int.le_refl _
          · split
            · exact Int.le_refl _
            · exact Int.le_refl _
theorem updN_same (c : Nat → Int) (k : Nat) (v : Int) : updN c k v k = v := by simp [updN]
theorem updN_ne (c : Nat → Int) {k j : Nat} (v : Int) (h : j ≠ k) : updN c k v j = c j := by simp [updN, h]
theorem now_ge (hs : List Int) (M : PastM) (e : Ev) (a : Nat) : M.tasks e.task a ≤ nowM hs M e a := by
  unfold nowM
  by_cases h : a = plOf e
  · subst h; rw [updN_same]; unfold joinC; omega
  · rw [updN_ne _ _ h]; unfold joinC; omega
theorem add_ge (hs : List Int) (M : PastM) (e : Ev) (j : Int) (a : Nat) : M.tasks j a ≤ (addM hs M e).tasks j a := by
  refine Int.le_trans ?_ (keep_le ..)
  unfold setTM updI
  dsimp only
  split
  · next h => subst h; exact now_ge ..
  · exact Int.le_refl _
theorem add_own (hs : List Int) (M : PastM) (e : Ev) (a : Nat) : nowM hs M e a ≤ (addM hs M e).tasks e.task a := by
  refine Int.le_trans ?_ (keep_le ..)
  unfold setTM
  dsimp only
  rw [updI_same]
  exact Int.le_refl _
theorem add_go (hs : List Int) (M : PastM) (e : Ev) (he : e.op = 11) (a : Nat) : nowM hs M e a ≤ (addM hs M e).tasks e.val a := by
  unfold addM keepM
  rw [if_pos he]
  unfold joinT
  dsimp only
  rw [updI_same]
  unfold joinC
  omega
theorem run_mono (hs : List Int) (l : List Ev) {i n : Nat} (h : i ≤ n) (hn : n ≤ l.length) (j : Int) (a : Nat) : (runM hs (l.take i)).tasks j a ≤ (runM hs (l.take n)).tasks j a := by
  induction n with
  | zero =>
    obtain rfl : i = 0 := by omega
    exact Int.le_refl _
  | succ n ih =>
    by_cases e : i = n + 1
    · subst e; exact Int.le_refl _
    · refine Int.le_trans (ih (by omega) (by omega)) ?_
      rw [runM_succ hs l (by omega)]
      exact add_ge ..

/-- How many of the first n events are of the task at the place a. -/
def cnt (l : List Ev) (n a : Nat) : Int := (((l.take n).filter fun e => plOf e == a).length : Int)
theorem cnt_succ (l : List Ev) {n : Nat} (h : n < l.length) (a : Nat) : cnt l (n + 1) a = cnt l n a + if plOf (l.getD n ev0) = a then 1 else 0 := by
  unfold cnt
  have e : l.take (n + 1) = l.take n ++ [l.getD n ev0] := by
    rw [List.take_add_one, List.getElem?_eq_getElem h]
    simp [List.getElem?_eq_getElem h]
  rw [e, List.filter_append, List.length_append]
  by_cases hp : plOf (l.getD n ev0) = a
  · rw [List.filter_cons_of_pos (by simpa using hp), List.filter_nil, if_pos hp]
    simp
  · rw [List.filter_cons_of_neg (by simpa using hp), List.filter_nil, if_neg hp]
    simp
theorem cnt_mono (l : List Ev) (a : Nat) : ∀ {i n : Nat}, i ≤ n → n ≤ l.length → cnt l i a ≤ cnt l n a := by
  intro i n h hn
  induction n with
  | zero =>
    obtain rfl : i = 0 := by omega
    exact Int.le_refl _
  | succ n ih =>
    by_cases e : i = n + 1
    · subst e; exact Int.le_refl _
    · refine Int.le_trans (ih (by omega) (by omega)) ?_
      rw [cnt_succ l (by omega)]
      split <;> omega
theorem cnt_le (l : List Ev) (n a : Nat) : cnt l n a ≤ n := by
  unfold cnt
  have h1 := List.length_filter_le (fun e => plOf e == a) (l.take n)
  have h2 : (l.take n).length ≤ n := by rw [List.length_take]; omega
  omega
theorem cnt_zero (l : List Ev) (a : Nat) : cnt l 0 a = 0 := by simp [cnt]
theorem cnt_nn (l : List Ev) (n a : Nat) : 0 ≤ cnt l n a := by unfold cnt; omega

/-- All tasks are above 0. -/
def Tasks1 (l : List Ev) : Prop := ∀ i, i < l.length → 1 ≤ (l.getD i ev0).task

theorem all_cnt (hs : List Int) (l : List Ev) : ∀ n, n ≤ l.length → AllC (fun c => ∀ a, 0 ≤ c a ∧ c a ≤ cnt l n a) (runM hs (l.take n)) := by
  intro n
  induction n with
  | zero =>
    intro _
    rw [List.take_zero]
    exact past0_all fun a => ⟨Int.le_refl _, cnt_nn _ _ _⟩
  | succ n ih =>
    intro hn
    have h := ih (by omega)
    rw [runM_succ hs l (by omega)]
    have hj : ∀ (m : Nat) (c d : Nat → Int), (∀ a, 0 ≤ c a ∧ c a ≤ cnt l m a) → (∀ a, 0 ≤ d a ∧ d a ≤ cnt l m a) → (∀ a, 0 ≤ joinC c d a ∧ joinC c d a ≤ cnt l m a) := fun m c d hc hd a => by
      have h1 := hc a; have h2 := hd a
      unfold joinC; omega
    have h0 := hj n _ _ (h.t (l.getD n ev0).task) (h.ahead (fun a => ⟨Int.le_refl _, cnt_nn _ _ _⟩) hs (l.getD n ev0))
    refine h.add (fun c hc a => ?_) (hj (n + 1)) hs _ (fun a => ?_)
    · have h1 := hc a; have h2 := cnt_mono l a (show n ≤ n + 1 by omega) hn
      omega
    · unfold nowM
      have hc := cnt_succ l (show n < l.length by omega) a
      have h1 := h0 a
      by_cases e : a = plOf (l.getD n ev0)
      · rw [if_pos e.symm] at hc
        subst e
        rw [updN_same]
        omega
      · rw [if_neg (fun h => e h.symm)] at hc
        rw [updN_ne _ _ e]
        omega
theorem now_cnt (hs : List Int) (l : List Ev) {n : Nat} (hn : n < l.length) (a : Nat) : 0 ≤ ckAt hs l n a ∧ ckAt hs l n a ≤ cnt l (n + 1) a := by
  have h := all_cnt hs l n (by omega)
  have h1 := h.t (l.getD n ev0).task a
  have h2 := h.ahead (Q := fun c => ∀ a, 0 ≤ c a ∧ c a ≤ cnt l n a) (fun a => ⟨Int.le_refl _, cnt_nn _ _ _⟩) hs (l.getD n ev0) a
  have hc := cnt_succ l hn a
  unfold ckAt nowM
  by_cases e : a = plOf (l.getD n ev0)
  · rw [if_pos e.symm] at hc
    subst e
    rw [updN_same]
    unfold joinC
    omega
  · rw [if_neg (fun h => e h.symm)] at hc
    rw [updN_ne _ _ e]
    unfold joinC
    omega

theorem own_cnt (hs : List Int) (l : List Ev) (h1 : Tasks1 l) : ∀ n, n ≤ l.length → ∀ t : Int, 1 ≤ t → (runM hs (l.take n)).tasks t (t - 1).toNat = cnt l n (t - 1).toNat := by
  intro n
  induction n with
  | zero =>
    intro _ t _
    rw [cnt_zero]
    rfl
  | succ n ih =>
    intro hn t ht
    have hU := (all_cnt hs l (n + 1) hn).t t (t - 1).toNat
    refine Int.le_antisymm hU.2 ?_
    rw [runM_succ hs l (by omega), cnt_succ l (by omega)]
    have hT := h1 n (by omega)
    by_cases e : plOf (l.getD n ev0) = (t - 1).toNat
    · have e2 : (l.getD n ev0).task = t := by unfold plOf at e; omega
      rw [if_pos e, ← ih (by omega) t ht]
      have h2 := add_own hs (runM hs (l.take n)) (l.getD n ev0) (plOf (l.getD n ev0))
      unfold nowM at h2
      rw [updN_same, e2, e] at h2
      unfold joinC at h2
      omega
    · rw [if_neg e, ← ih (by omega) t ht]
      have := add_ge hs (runM hs (l.take n)) (l.getD n ev0) t (t - 1).toNat
      omega
theorem now_own (hs : List Int) (l : List Ev) (h1 : Tasks1 l) {n : Nat} (hn : n < l.length) : ckAt hs l n (plOf (l.getD n ev0)) = cnt l (n + 1) (plOf (l.getD n ev0)) := by
  refine Int.le_antisymm (now_cnt hs l hn _).2 ?_
  rw [cnt_succ l hn, if_pos rfl]
  have h2 := own_cnt hs l h1 n (by omega) (l.getD n ev0).task (h1 n hn)
  unfold ckAt nowM
  rw [updN_same]
  unfold joinC
  unfold plOf
  omega

/-- Who knows the event j knows all that it knows. -/
def Knows (hs : List Int) (l : List Ev) (n : Nat) (c : Nat → Int) : Prop := ∀ j, j < n → ckAt hs l j (plOf (l.getD j ev0)) ≤ c (plOf (l.getD j ev0)) → ∀ a, ckAt hs l j a ≤ c a
theorem Knows.join {hs : List Int} {l : List Ev} {n : Nat} {c d : Nat → Int} (hc : Knows hs l n c) (hd : Knows hs l n d) : Knows hs l n (joinC c d) := fun j hj h a => by
  unfold joinC at h ⊢
  by_cases hx : ckAt hs l j (plOf (l.getD j ev0)) ≤ c (plOf (l.getD j ev0))
  · have := hc j hj hx a; omega
  · have := hd j hj (by omega) a; omega
theorem own_pos (hs : List Int) (l : List Ev) (h1 : Tasks1 l) {j : Nat} (hj : j < l.length) : 1 ≤ ckAt hs l j (plOf (l.getD j ev0)) := by
  rw [now_own hs l h1 hj, cnt_succ l hj, if_pos rfl]
  have := cnt_nn l j (plOf (l.getD j ev0))
  omega
theorem knows_now (hs : List Int) (l : List Ev) (h1 : Tasks1 l) {n : Nat} (hn : n < l.length) (h : AllC (Knows hs l n) (runM hs (l.take n))) : Knows hs l (n + 1) (ckAt hs l n) := by
  have h0 : Knows hs l n ck0 := fun j hj hx => by
    have := own_pos hs l h1 (show j < l.length by omega)
    unfold ck0 at hx
    omega
  have hK := (h.t (l.getD n ev0).task).join (h.ahead h0 hs (l.getD n ev0))
  intro j hj hx a
  by_cases e : j = n
  · subst e; exact Int.le_refl _
  · have hle : ∀ a, joinC ((runM hs (l.take n)).tasks (l.getD n ev0).task) (aheadM hs (runM hs (l.take n)) (l.getD n ev0)) a ≤ ckAt hs l n a := fun a => by
      unfold ckAt nowM
      by_cases e : a = plOf (l.getD n ev0)
      · subst e; rw [updN_same]; omega
      · rw [updN_ne _ _ e]; omega
    refine Int.le_trans (hK j (by omega) ?_ a) (hle a)
    by_cases e2 : plOf (l.getD j ev0) = plOf (l.getD n ev0)
    · have hb := (now_cnt hs l (show j < l.length by omega) (plOf (l.getD j ev0))).2
      have hc := cnt_mono l (plOf (l.getD j ev0)) (show j + 1 ≤ n by omega) (by omega)
      have hd := own_cnt hs l h1 n (by omega) (l.getD n ev0).task (h1 n hn)
      have hp : ((l.getD n ev0).task - 1).toNat = plOf (l.getD n ev0) := rfl
      rw [hp] at hd
      rw [e2] at hb hc ⊢
      unfold joinC
      omega
    · unfold ckAt nowM at hx
      rw [updN_ne _ _ e2] at hx
      exact hx
theorem all_knows (hs : List Int) (l : List Ev) (h1 : Tasks1 l) : ∀ n, n ≤ l.length → AllC (Knows hs l n) (runM hs (l.take n)) := by
  intro n
  induction n with
  | zero =>
    intro _
    rw [List.take_zero]
    exact past0_all fun j hj => by omega
  | succ n ih =>
    intro hn
    have h := ih (by omega)
    have hU := all_cnt hs l n (by omega)
    have hnow := knows_now hs l h1 (show n < l.length by omega) h
    rw [runM_succ hs l (by omega)]
    have hboth : AllC (fun c => Knows hs l n c ∧ ∀ a, 0 ≤ c a ∧ c a ≤ cnt l n a) (runM hs (l.take n)) := ⟨fun k => ⟨h.t k, hU.t k⟩, fun k x hx => ⟨h.s k x hx, hU.s k x hx⟩, fun k x hx => ⟨h.g k x hx, hU.g k x hx⟩, fun k => ⟨h.h k, hU.h k⟩, fun k => ⟨h.w k, hU.w k⟩, fun k => ⟨h.a k, hU.a k⟩, fun k => ⟨h.c k, hU.c k⟩⟩
    refine hboth.add (fun c hc j hj hx a => ?_) (fun c d => Knows.join) hs _ hnow
    by_cases e : j = n
    · subst e
      have h2 := now_own hs l h1 (show j < l.length by omega)
      have h3 := cnt_succ l (show j < l.length by omega) (plOf (l.getD j ev0))
      rw [if_pos rfl] at h3
      have h4 := (hc.2 (plOf (l.getD j ev0))).2
      omega
    · exact hc.1 j (by omega) hx a

/-- Does i happen before k? -/
def befL (hs : List Int) (l : List Ev) (i k : Nat) : Bool := decide (i < k) && decide (ckAt hs l i (plOf (l.getD i ev0)) ≤ ckAt hs l k (plOf (l.getD i ev0)))
theorem bef_trans (hs : List Int) (l : List Ev) (h1 : Tasks1 l) {i j k : Nat} (hk : k < l.length) (hij : befL hs l i j = true) (hjk : befL hs l j k = true) : befL hs l i k = true := by
  simp only [befL, Bool.and_eq_true, decide_eq_true_eq] at hij hjk ⊢
  refine ⟨by omega, ?_⟩
  have hK := knows_now hs l h1 hk (all_knows hs l h1 k (by omega))
  exact Int.le_trans hij.2 (hK j (by omega) hjk.2 _)
theorem bef_iff (hs : List Int) (l : List Ev) (h1 : Tasks1 l) {i j : Nat} (hi : i < l.length) (hj : j < l.length) (hne : i ≠ j) : befL hs l i j = decide (ckAt hs l i (plOf (l.getD i ev0)) ≤ ckAt hs l j (plOf (l.getD i ev0))) := by
  unfold befL
  by_cases h : i < j
  · simp [h]
  · rw [decide_eq_false h, Bool.false_and]
    symm
    rw [decide_eq_false_iff_not, now_own hs l h1 hi, cnt_succ l hi, if_pos rfl]
    have h2 := (now_cnt hs l hj (plOf (l.getD i ev0))).2
    have h3 := cnt_mono l (plOf (l.getD i ev0)) (show j + 1 ≤ i by omega) (by omega)
    omega
theorem bef_task (hs : List Int) (l : List Ev) (h1 : Tasks1 l) {i k : Nat} (hk : k < l.length) (h : i < k) (ht : (l.getD i ev0).task = (l.getD k ev0).task) : befL hs l i k = true := by
  simp only [befL, Bool.and_eq_true, decide_eq_true_eq]
  refine ⟨h, ?_⟩
  have e : plOf (l.getD i ev0) = plOf (l.getD k ev0) := by unfold plOf; rw [ht]
  rw [now_own hs l h1 (show i < l.length by omega), e, now_own hs l h1 hk]
  exact cnt_mono l _ (by omega) (by omega)
theorem bef_go (hs : List Int) (l : List Ev) {i k : Nat} (hk : k < l.length) (h : i < k) (ho : (l.getD i ev0).op = 11) (ht : (l.getD i ev0).val = (l.getD k ev0).task) : befL hs l i k = true := by
  simp only [befL, Bool.and_eq_true, decide_eq_true_eq]
  refine ⟨h, ?_⟩
  have h2 := add_go hs (runM hs (l.take i)) (l.getD i ev0) ho (plOf (l.getD i ev0))
  rw [← runM_succ hs l (show i < l.length by omega), ht] at h2
  have h3 := run_mono hs l (show i + 1 ≤ k by omega) (by omega) (l.getD k ev0).task (plOf (l.getD i ev0))
  have h4 := now_ge hs (runM hs (l.take k)) (l.getD k ev0) (plOf (l.getD i ev0))
  exact Int.le_trans h2 (Int.le_trans h3 h4)
end Go.Proofs.Ytbnmeeabpjmcoaa
