/-
  CellMixes on lists: what Mix does is what the ops do in their order.
-/
import Derived.Test.YtpgokeogijpmaaaDoorCf
namespace Go.Proofs.YtpgokeogijpmaaaDoor.Mx
open Go.RowKit

/-- What ops told, handed to those whose they were. -/
def dist : List Int → List Int → List (List Int) → List (List Int)
  | w :: ws, t :: tt, ts => dist ws tt (ts.set w.toNat (ts.getD w.toNat [] ++ [t]))
  | _, _, ts => ts
theorem dist_snoc : ∀ (ws tt : List Int) (ts : List (List Int)) (w : Nat) (t : Int), ws.length = tt.length → dist (ws ++ [(w : Int)]) (tt ++ [t]) ts = (dist ws tt ts).set w ((dist ws tt ts).getD w [] ++ [t])
  | [], [], ts, w, t, _ => rfl
  | x :: ws, y :: tt, ts, w, t, h => by
    show dist (ws ++ [(w : Int)]) (tt ++ [t]) _ = (dist ws tt _).set w ((dist ws tt _).getD w [] ++ [t])
    exact dist_snoc ws tt _ w t (by simpa using h)
theorem dist_len : ∀ (ws tt : List Int) (ts : List (List Int)), (dist ws tt ts).length = ts.length
  | [], _, ts => by unfold dist; rfl
  | _ :: _, [], ts => by unfold dist; rfl
  | x :: ws, y :: tt, ts => by
    show (dist ws tt _).length = _
    rw [dist_len ws tt]
    simp
/-- What holds of both, pick by pick. -/
structure Both (n : Nat) (zs : List Int) (s : List Int × List (List Int)) (o : List Int × List Op4 × List Int) : Prop where
  mem : s.1 = ranMem zs o.2.1
  told : s.2 = dist o.2.2 (ranTold zs o.2.1) (List.replicate n [])
  len : o.2.2.length = o.2.1.length
  at' : ∀ i, i < n → o.1.getD i 0 = ((s.2.getD i []).length : Int)
  la : o.1.length = n
  ls : s.2.length = n
theorem both_step {n : Nat} {zs : List Int} {tss : List (List Op4)} {s : List Int × List (List Int)} {o : List Int × List Op4 × List Int} (h : Both n zs s o) {t : Nat} (ht : t < n) : Both n zs (mixStep tss s t) (ordStep tss o t) := by
  have e1 := h.at' t ht
  unfold mixStep ordStep
  rw [e1]
  by_cases hd : (s.2.getD t []).length < (tss.getD t []).length
  · rw [if_pos hd, if_pos (by omega)]
    have e2 : (((s.2.getD t []).length : Int)).toNat = (s.2.getD t []).length := rfl
    rw [e2]
    have hl := ranTold_length o.2.1 zs
    refine ⟨?_, ?_, by simp [h.len], ?_, by simpa using h.la, by simpa using h.ls⟩
    · show stepMem s.1 _ = ranMem zs (o.2.1 ++ [_])
      rw [ranMem_append, h.mem]
      rfl
    · show s.2.set t _ = dist (o.2.2 ++ [(t : Int)]) (ranTold zs (o.2.1 ++ [_])) _
      rw [ranTold_append, ← h.mem]
      show _ = dist (o.2.2 ++ [(t : Int)]) (ranTold zs o.2.1 ++ [stepTold s.1 _]) _
      rw [dist_snoc _ _ _ _ _ (by rw [h.len, hl]), ← h.told]
    · intro i hi
      show (o.1.set t _).getD i 0 = (((s.2.set t _).getD i []).length : Int)
      by_cases e : i = t
      · subst e
        rw [List.getD_eq_getElem?_getD, List.getElem?_set_self (by rw [h.la]; exact hi), List.getD_eq_getElem?_getD (l := s.2.set i _), List.getElem?_set_self (by rw [h.ls]; exact hi)]
        simp
      · rw [List.getD_eq_getElem?_getD, List.getElem?_set_ne (by omega), ← List.getD_eq_getElem?_getD, List.getD_eq_getElem?_getD (l := s.2.set t _), List.getElem?_set_ne (by omega), ← List.getD_eq_getElem?_getD]
        exact h.at' i hi
  · rw [if_neg hd, if_neg (by omega)]
    exact h
theorem both_all {n : Nat} {zs : List Int} {tss : List (List Op4)} : ∀ (ps : List Int) (s : List Int × List (List Int)) (o : List Int × List Op4 × List Int), Both n zs s o → (∀ x ∈ ps, 0 ≤ x ∧ x < n) → Both n zs (mixAll tss ps s) (ordAll tss ps o)
  | [], _, _, h, _ => h
  | x :: r, s, o, h, hp => by
    have hx := hp x (by simp)
    exact both_all r _ _ (both_step h (t := x.toNat) (by omega)) (fun y hy => hp y (by simp [hy]))
theorem both_zero (n : Nat) (zs : List Int) : Both n zs (zs, List.replicate n []) (List.replicate n 0, [], []) :=
  ⟨rfl, rfl, rfl, fun i hi => by simp [hi], by simp, by simp⟩
/-- All ops of an order are ops of the tasks, and there are no more than picks. -/
theorem ord_ops {tss : List (List Op4)} {P : Op4 → Prop} {n : Nat} (hP : ∀ t, t < n → ∀ j, j < (tss.getD t []).length → P (opAtD (tss.getD t []) j)) : ∀ (ps : List Int) (s : List Int × List Op4 × List Int), (∀ x ∈ ps, 0 ≤ x ∧ x < n) → (∀ i, 0 ≤ s.1.getD i 0) → (∀ o ∈ s.2.1, P o) → (∀ x ∈ s.2.2, 0 ≤ x ∧ x < n) → (∀ o ∈ (ordAll tss ps s).2.1, P o) ∧ (∀ x ∈ (ordAll tss ps s).2.2, 0 ≤ x ∧ x < n) ∧ (ordAll tss ps s).2.1.length ≤ s.2.1.length + ps.length
  | [], s, _, _, h, hw => ⟨h, hw, Nat.le_refl _⟩
  | x :: r, s, hp, h0, h, hw => by
    have hx := hp x (by simp)
    have hs0 := h0 x.toNat
    have key : (∀ i, 0 ≤ (ordStep tss s x.toNat).1.getD i 0) ∧ (∀ o ∈ (ordStep tss s x.toNat).2.1, P o) ∧ (∀ y ∈ (ordStep tss s x.toNat).2.2, 0 ≤ y ∧ y < n) ∧ (ordStep tss s x.toNat).2.1.length ≤ s.2.1.length + 1 := by
      unfold ordStep
      by_cases hd : s.1.getD x.toNat 0 < ((tss.getD x.toNat []).length : Int)
      · rw [if_pos hd]
        refine ⟨fun i => ?_, fun o ho => ?_, fun y hy => ?_, by simp⟩
        · show 0 ≤ (s.1.set x.toNat _).getD i 0
          rw [List.getD_eq_getElem?_getD, List.getElem?_set]
          split
          · split
            · show 0 ≤ s.1.getD x.toNat 0 + 1; omega
            · exact Int.le_refl _
          · rw [← List.getD_eq_getElem?_getD]; exact h0 i
        · rcases List.mem_append.1 ho with h1 | h1
          · exact h o h1
          · rw [List.mem_singleton.1 h1]; exact hP x.toNat (by omega) _ (by omega)
        · rcases List.mem_append.1 hy with h1 | h1
          · exact hw y h1
          · rw [List.mem_singleton.1 h1]; omega
      · rw [if_neg hd]
        exact ⟨h0, h, hw, Nat.le_succ _⟩
    obtain ⟨k1, k2, k3, k4⟩ := key
    obtain ⟨a1, a2, a3⟩ := ord_ops hP r (ordStep tss s x.toNat) (fun y hy => hp y (by simp [hy])) k1 k2 k3
    refine ⟨a1, a2, ?_⟩
    show (ordAll tss r (ordStep tss s x.toNat)).2.1.length ≤ _
    rw [List.length_cons]
    omega

end Go.Proofs.YtpgokeogijpmaaaDoor.Mx
