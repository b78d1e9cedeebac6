/-
  Two neighbours of two tasks that print, load or store change places: clocks on lists.
-/
import Derived.Test.YtbnmeeabpjmcoaaCk
namespace Go.Proofs.Ytbnmeeabpjmcoaa
open Go.RowKit

def swapL (l : List Ev) (i : Nat) : List Ev := (l.set i (l.getD (i + 1) ev0)).set (i + 1) (l.getD i ev0)
def sw (i x : Nat) : Nat := if x = i then i + 1 else if x = i + 1 then i else x
theorem sw_i (i : Nat) : sw i i = i + 1 := by simp [sw]
theorem sw_s (i : Nat) : sw i (i + 1) = i := by simp [sw]
theorem swap_len (l : List Ev) (i : Nat) : (swapL l i).length = l.length := by simp [swapL]
theorem swap_at (l : List Ev) {i : Nat} (h : i + 1 < l.length) (x : Nat) : (swapL l i).getD x ev0 = l.getD (sw i x) ev0 := by
  unfold swapL sw
  rw [List.getD_eq_getElem?_getD, List.getElem?_set, List.getElem?_set]
  by_cases e1 : x = i
  · subst e1
    simp [show x < l.length by omega]
  · by_cases e2 : x = i + 1
    · subst e2
      simp [h]
    · simp [e1, e2, Ne.symm e1, Ne.symm e2]
def Easy (e : Ev) : Prop := e.op = 8 ∨ e.op = 12 ∨ e.op = 13
theorem now_easy (hs : List Int) (M : PastM) (e : Ev) (he : Easy e) : nowM hs M e = updN (joinC (M.tasks e.task) ck0) (plOf e) (joinC (M.tasks e.task) ck0 (plOf e) + 1) := by
  have ha : aheadM hs M e = ck0 := by
    unfold aheadM Easy at *
    rw [if_neg (by omega), if_neg (by omega), if_neg (by omega), if_neg (by omega)]
  unfold nowM
  rw [ha]
theorem add_easy (hs : List Int) (M : PastM) (e : Ev) (he : Easy e) : addM hs M e = setTM M e.task (nowM hs M e) := by
  unfold addM keepM Easy at *
  rw [if_neg (by omega), if_neg (by omega), if_neg (by omega), if_neg (by omega), if_neg (by omega), if_neg (by omega)]
theorem now_past (hs : List Int) (M : PastM) (a b : Ev) (ha : Easy a) (hb : Easy b) (hne : a.task ≠ b.task) : nowM hs (addM hs M a) b = nowM hs M b := by
  rw [add_easy hs M a ha, now_easy _ _ _ hb, now_easy _ _ _ hb]
  unfold setTM
  dsimp only
  rw [updI_ne _ _ _ _ (Ne.symm hne)]
theorem add_comm (hs : List Int) (M : PastM) (a b : Ev) (ha : Easy a) (hb : Easy b) (hne : a.task ≠ b.task) : addM hs (addM hs M a) b = addM hs (addM hs M b) a := by
  rw [add_easy hs (addM hs M a) b hb, add_easy hs (addM hs M b) a ha, now_past hs M a b ha hb hne, now_past hs M b a hb ha (Ne.symm hne), add_easy hs M a ha, add_easy hs M b hb]
  unfold setTM
  dsimp only
  have e : updI (updI M.tasks a.task (nowM hs M a)) b.task (nowM hs M b) = updI (updI M.tasks b.task (nowM hs M b)) a.task (nowM hs M a) := by
    funext j
    unfold updI
    by_cases h1 : j = a.task
    · by_cases h2 : j = b.task
      · exact absurd (h1.symm.trans h2) hne
      · simp [h1, hne]
    · by_cases h2 : j = b.task
      · simp [h2, Ne.symm hne]
      · simp [h1, h2]
  rw [e]
section
variable (hs : List Int) (l : List Ev) {i : Nat} (h : i + 1 < l.length) (ha : Easy (l.getD i ev0)) (hb : Easy (l.getD (i + 1) ev0)) (hne : (l.getD i ev0).task ≠ (l.getD (i + 1) ev0).task)
include h
theorem swap_le {n : Nat} (hn : n ≤ i) : runM hs ((swapL l i).take n) = runM hs (l.take n) := by
  induction n with
  | zero => rw [List.take_zero, List.take_zero]
  | succ n ih =>
    rw [runM_succ hs _ (by rw [swap_len]; omega), runM_succ hs _ (by omega), ih (by omega), swap_at l h]
    unfold sw
    rw [if_neg (by omega), if_neg (by omega)]
theorem last_le {n : Nat} (hn : n ≤ i) : lastL ((swapL l i).take n) = lastL (l.take n) := by
  induction n with
  | zero => rw [List.take_zero, List.take_zero]
  | succ n ih =>
    rw [last_take _ (by rw [swap_len]; omega), last_take _ (by omega), ih (by omega), swap_at l h]
    unfold sw
    rw [if_neg (by omega), if_neg (by omega)]
include ha hb hne
theorem swap_two : runM hs ((swapL l i).take (i + 2)) = runM hs (l.take (i + 2)) := by
  rw [runM_succ hs _ (by rw [swap_len]; omega), runM_succ hs _ (by rw [swap_len]; omega), swap_le hs l h (Nat.le_refl _), runM_succ hs l (by omega), runM_succ hs l (by omega), swap_at l h, swap_at l h]
  rw [sw_i, sw_s]
  exact add_comm hs _ _ _ hb ha (Ne.symm hne)
theorem swap_ge {n : Nat} (hn : i + 2 ≤ n) (hl : n ≤ l.length) : runM hs ((swapL l i).take n) = runM hs (l.take n) := by
  induction n with
  | zero => omega
  | succ n ih =>
    by_cases e : n + 1 = i + 2
    · rw [e]; exact swap_two hs l h ha hb hne
    · rw [runM_succ hs _ (by rw [swap_len]; omega), runM_succ hs _ (by omega), ih (by omega) (by omega), swap_at l h]
      unfold sw
      rw [if_neg (by omega), if_neg (by omega)]
theorem swap_ck {x : Nat} (hx : x < l.length) : ckAt hs (swapL l i) x = ckAt hs l (sw i x) := by
  unfold ckAt
  rw [swap_at l h]
  by_cases e1 : x = i
  · subst e1
    have es : sw x x = x + 1 := by simp [sw]
    rw [es, swap_le hs l h (Nat.le_refl _), runM_succ hs l (by omega)]
    exact (now_past hs _ _ _ ha hb hne).symm
  · by_cases e2 : x = i + 1
    · subst e2
      have es : sw i (i + 1) = i := by simp [sw]
      rw [es, runM_succ hs _ (by rw [swap_len]; omega), swap_le hs l h (Nat.le_refl _), swap_at l h]
      have es2 : sw i i = i + 1 := by simp [sw]
      rw [es2]
      exact now_past hs _ _ _ hb ha (Ne.symm hne)
    · have es : sw i x = x := by simp [sw, e1, e2]
      rw [es]
      by_cases hlt : x < i
      · rw [swap_le hs l h (by omega)]
      · rw [swap_ge hs l h ha hb hne (by omega) (by omega)]
omit hne
theorem last_ge {n : Nat} (hn : i + 2 ≤ n) (hl : n ≤ l.length) : lastL ((swapL l i).take n) = lastL (l.take n) := by
  induction n with
  | zero => omega
  | succ n ih =>
    by_cases e : n + 1 = i + 2
    · obtain rfl : n = i + 1 := by omega
      rw [last_take _ (by rw [swap_len]; omega), last_take _ (by rw [swap_len]; omega), last_le l h (Nat.le_refl _), last_take l (by omega), last_take l (by omega), swap_at l h, swap_at l h]
      rw [sw_i, sw_s]
      unfold lastStep Easy at *
      rw [if_neg (by omega), if_neg (by omega), if_neg (by omega), if_neg (by omega)]
      omega
    · rw [last_take _ (by rw [swap_len]; omega), last_take _ (by omega), ih (by omega) (by omega), swap_at l h]
      unfold sw
      rw [if_neg (by omega), if_neg (by omega)]
theorem last_swap : lastL (swapL l i) = lastL l := by
  have h0 := last_ge l h ha hb (show i + 2 ≤ l.length by omega) (Nat.le_refl _)
  rwa [List.take_length, List.take_of_length_le (by rw [swap_len]; exact Nat.le_refl _)] at h0
end
theorem good_swap {hs : List Int} {l : List Ev} (hg : GoodT hs l) {i : Nat} (h : i + 1 < l.length) : GoodT hs (swapL l i) := by
  refine ⟨by rw [swap_len]; exact hg.n, hg.m, hg.h, fun j hj => ?_⟩
  rw [swap_len] at hj
  rw [swap_at l h]
  refine hg.e _ ?_
  unfold sw
  split
  · exact h
  · split <;> omega
end Go.Proofs.Ytbnmeeabpjmcoaa
