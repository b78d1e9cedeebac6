/-
  One element more at the end of a slice of which the cells are known, as a step of a region that draws.
-/
import Derived.Test.YtmkehjncnaokoaaCg
import Derived.Deep.RegionLawGrows
namespace Go.Proofs.Ytmkehjncnaokoaa
open Go.RowKit

theorem val_run {s : Sem Value} {w w' : World} {v : Value} (h : s.run Try.prog w = .ok v w') : (do pure (Next.value (← s)) : Sem Next).run Try.prog w = .ok (.value v) w' := by simp [h]
theorem step_run {ops : Array Oper} {o : Oper} {a : Act} {w w' : World} {v : Value} {Kn : Act → World → Prop} {Q : Exit → Act → World → Prop} {E : Prop} (hw : Region.wanted o (yielded ops a.tmps) = true) (h : (execOp a.eval o).run Try.prog w = .ok (.value v) w') (hK : Kn (a.put o.dst v) w') : if Region.wanted o (yielded ops a.tmps) = true then Oper.wp Try.prog o a w Kn Q else E := by
  rw [if_pos hw]
  unfold Oper.wp
  rw [h]
  exact hK
/-- What one element more leaves. -/
structure PushR (w w' : World) (g n g' cap' : Nat) (vs : List Value) : Prop where
  cells : ∀ j u, vs[j]? = some u → w'.cell? ⟨g', j, none⟩ = some u
  th : w'.there g' 0 cap'
  le : n + 1 ≤ cap'
  lt : g' < w'.heap.size
  src : g' = g ∨ w.heap.size ≤ g'
  keep : ∀ k, k < w.heap.size → k ≠ g → w'.heap[k]? = w.heap[k]?
  below : ∀ lo, lo ≤ g → lo ≤ w.heap.size → Below lo w w'
theorem step_push {ops : Array Oper} {o : Oper} {a : Act} {w : World} {Kn : Act → World → Prop} {Q : Exit → Act → World → Prop} {E : Prop} (hgd : o.guard = none) (s x : Operand) (t e : TypeId) (z : Value) (bytes : Nat)
    (hop : o.op = Op.call { callee := Callee.builtin Builtin.append, args := #[s, x], argTypes := #[t, t] }) (h1 : Try.prog.underlying t = some (.slice e)) (hinf : (Try.prog.info? e).map (fun i => (i.zero, i.size, i.bytes)) = some (some z, 1, bytes)) (hz : z.cells.size = 1)
    (g n cap : Nat) (olds : List Value) (hs : a.eval s = .slice (some ⟨g, 0, none⟩) n cap) (hlo : olds.length = n) (holds : ∀ j u, olds[j]? = some u → w.cell? ⟨g, j, none⟩ = some u) (hth : w.there g 0 cap) (hle : n ≤ cap) (hlt : g < w.heap.size)
    (S : Nat) (y : Value) (hx : a.eval x = .slice (some ⟨S, 0, none⟩) 1 1) (hS : w.cell? ⟨S, 0, none⟩ = some y) (hy : y.oneCell' = true) (hb : n + 1 ≤ 1000000) (hby : bytes ≤ 1000)
    (hK : ∀ g' cap' w', PushR w w' g n g' cap' (olds ++ [y]) → Kn (a.put o.dst (.slice (some ⟨g', 0, none⟩) (n + 1) cap')) w') :
    if Region.wanted o (yielded ops a.tmps) = true then Oper.wp Try.prog o a w Kn Q else E := by
  obtain ⟨i0, hi, h0, h2, h3⟩ := info_parts hinf
  have hnews : ∀ j u, [y][j]? = some u → w.cell? ((⟨S, 0, none⟩ : Addr).add j) = some u := fun j u hu => by
    have hj : j = 0 := by have := (List.getElem?_eq_some_iff.1 hu).1; simpa using this
    subst hj
    simp at hu
    subst hu
    exact hS
  have h1c : ∀ u ∈ [y], u.oneCell' = true := fun u hu => by rw [List.mem_singleton.1 hu]; exact hy
  by_cases hr : n + 1 ≤ cap
  · refine step_append_room hgd s x t hop e i0 1 h1 hi h2 g 0 n cap hs ⟨S, 0, none⟩ 1 1 [y] hx rfl hnews h1c hr (fun j hj => ?_) ?_
    · have hj0 : j = 0 := by simpa using hj
      subst hj0
      have := hth n (by omega)
      rwa [Nat.mul_one, Nat.add_zero]
    · have hset : w.setCells g (0 + n * 1) [y] = w.setCell ⟨g, n, none⟩ y := by rw [Nat.mul_one, Nat.zero_add]; rfl
      rw [hset]
      refine hK g cap _ ⟨fun j u hu => ?_, there_set hth _, hr, by rw [size_set]; exact hlt, Or.inl rfl, fun k _ hk => Below.heap_setCell _ _ _ _ hk, fun lo hl _ => (Below.refl lo w).setCell (p := ⟨g, n, none⟩) hl _⟩
      by_cases e1 : j = n
      · subst e1
        rw [List.getElem?_append_right (by omega), hlo, Nat.sub_self] at hu
        have : y = u := by simpa using hu
        subst this
        have := cell_same (b := g) (o := 0) hth (m := j) (by omega) y
        rwa [Nat.zero_add] at this
      · have hj2 : j < n := by have := (List.getElem?_eq_some_iff.1 hu).1; rw [List.length_append, hlo] at this; simp at this; omega
        rw [List.getElem?_append_left (by omega)] at hu
        exact cell_other (holds j u hu) (Or.inr (by omega)) _
  · have hbig : n + 1 ≤ maxLen := by unfold maxLen; omega
    refine step_append_grows hgd s x t hop e i0 z 1 bytes h1 hi h0 h2 h3 hz (by decide) (some ⟨g, 0, none⟩) n cap olds hs (fun q => by cases q) (by omega) (fun b hb2 j u hu => ?_) ⟨S, 0, none⟩ 1 1 [y] hx rfl hnews h1c (by omega) hbig ?_ (fun v' w' r1 r2 => ?_)
    · cases hb2
      rw [Addr.add_lit, Nat.zero_add]
      exact holds j u hu
    · have : (n + 1) * bytes ≤ 1000000 * 1000 := Nat.mul_le_mul hb hby
      omega
    · rcases r1 with ⟨hl, ⟨_, q⟩ | ⟨g', cap', cur, rfl, hg, hh, q2, _, q4, q5⟩⟩
      · omega
      · have hb' := (Below.refl w.heap.size w).grown r2 (Nat.le_refl _) (fun k hk => by cases hk)
        refine hK g' cap' w' ⟨fun j u hu => ?_, there_block hh (by omega), q2, size_of hh, Or.inr hg, fun k hk _ => hb'.block k hk, fun lo _ hl2 => hb'.mono hl2⟩
        have hj : j < n + 1 := by have := (List.getElem?_eq_some_iff.1 hu).1; rw [List.length_append, hlo] at this; simpa using this
        have h6 : (cur.toList.take ((n + 1) * 1))[j]? = (olds ++ [y])[j]? := by rw [q5]
        rw [List.getElem?_take, if_pos (by omega), hu] at h6
        simp only [World.cell?, hh]
        rw [← Array.getElem?_toList]
        exact h6
end Go.Proofs.Ytmkehjncnaokoaa
