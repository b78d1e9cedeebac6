/-
  Rows, a pipe and an answer that are kept while taskmilllaw.played goes on.
-/
import Derived.Test.YtijogcjocandcaaPm
namespace Go.Proofs.Ytijogcjocandcaa
open Go.RowKit

/-- A slice that lies in the block R alone. -/
def inB (R : Nat) : Value := .slice (some ⟨R, 0, none⟩) 0 0
/-- Two rows, a pipe beside them, and an answer. -/
structure Mid (R : Nat) (w0 : World) (s g : Value) (w : World) (sent got : List Int) (P : Pp) (vp : Value) (A : An) (va : Value) : Prop where
  os : Own KI R w s sent
  og : Own KI R w g got
  ap : Apart s g
  pipe : IsPipe w vp P
  ans : IsAns w va A
  fs : OffP s vp P
  fg : OffP g vp P
  fr : OffP (inB R) vp P
  xs : OffA s va A
  xg : OffA g va A
  bel : Below R w0 w
  sz : R ≤ w.heap.size
theorem Mid.below {R : Nat} {w0 w w' : World} {s g vp va : Value} {sent got : List Int} {P : Pp} {A : An} (h : Mid R w0 s g w sent got P vp A va) (hb : Below w.heap.size w w') : Mid R w0 s g w' sent got P vp A va :=
  ⟨h.os.below hb, h.og.below hb, h.ap, h.pipe.below hb, h.ans.below hb, h.fs, h.fg, h.fr, h.xs, h.xg, h.bel.trans (hb.mono h.sz), Nat.le_trans h.sz hb.size⟩
theorem Mid.sends {R : Nat} {w0 w w' : World} {s s' g vp va : Value} {sent ys got : List Int} {P : Pp} {A : An} (h : Mid R w0 s g w sent got P vp A va) (ho : Own KI R w' s' (sent ++ ys)) (hg : w.grownBy w' s.ownBlock)
    (hl : ∀ k, s'.ownBlock = some k → s.ownBlock = some k ∨ w.heap.size ≤ k) : Mid R w0 s' g w' (sent ++ ys) got P vp A va :=
  ⟨ho, h.og.grown hg h.ap, Apart.grown h.ap h.og hl, h.fs.keep h.pipe hg, h.xs.keep h.ans hg, h.fs.grown h.pipe hl, h.fg, h.fr, h.xs.grown h.ans hl, h.xg, h.bel.grown hg h.sz (fun k hk => (h.os.lt k hk).1), Nat.le_trans h.sz hg.size⟩
theorem Mid.gets {R : Nat} {w0 w w' : World} {s g g' vp va : Value} {sent ys got : List Int} {P : Pp} {A : An} (h : Mid R w0 s g w sent got P vp A va) (ho : Own KI R w' g' (got ++ ys)) (hg : w.grownBy w' g.ownBlock)
    (hl : ∀ k, g'.ownBlock = some k → g.ownBlock = some k ∨ w.heap.size ≤ k) : Mid R w0 s g' w' sent (got ++ ys) P vp A va :=
  ⟨h.os.grown hg (Apart.symm h.ap), ho, Apart.symm (Apart.grown (Apart.symm h.ap) h.os hl), h.fg.keep h.pipe hg, h.xg.keep h.ans hg, h.fs, h.fg.grown h.pipe hl, h.fr, h.xs, h.xg.grown h.ans hl, h.bel.grown hg h.sz (fun k hk => (h.og.lt k hk).1), Nat.le_trans h.sz hg.size⟩

/-- Ahead of the move j. -/
structure Play (R : Nat) (w0 : World) (cap : Int) (j : Nat) (s g : Value) (w : World) (sent got : List Int) (P : Pp) (vp : Value) : Prop where
  inv : Inv j cap sent got P
  os : Own KI R w s sent
  og : Own KI R w g got
  ap : Apart s g
  pipe : IsPipe w vp P
  fs : OffP s vp P
  fg : OffP g vp P
  fr : OffP (inB R) vp P
  bel : Below R w0 w
  sz : R ≤ w.heap.size
theorem Play.below {R : Nat} {w0 w w' : World} {cap : Int} {j : Nat} {s g vp : Value} {sent got : List Int} {P : Pp} (h : Play R w0 cap j s g w sent got P vp) (hb : Below w.heap.size w w') : Play R w0 cap j s g w' sent got P vp :=
  ⟨h.inv, h.os.below hb, h.og.below hb, h.ap, h.pipe.below hb, h.fs, h.fg, h.fr, h.bel.trans (hb.mono h.sz), Nat.le_trans h.sz hb.size⟩
/-- A call has brought a new pipe and a new answer. -/
theorem Play.mid {R B : Nat} {w0 w w' : World} {cap : Int} {j : Nat} {s g vp v1 v2 : Value} {sent got : List Int} {P Q : Pp} {A : An} (h : Play R w0 cap j s g w sent got P vp) (hb : Below w.heap.size w w') (hq : NewPipe B w' v1 Q) (ha : NewAns B w' v2 A) (hB : w.heap.size ≤ B) (hR : R < B) : Mid R w0 s g w' sent got Q v1 A v2 := by
  have hs : ∀ k, s.ownBlock = some k → k < B := fun k hk => Nat.lt_of_lt_of_le (h.os.lt k hk).2 hB
  have hg : ∀ k, g.ownBlock = some k → k < B := fun k hk => Nat.lt_of_lt_of_le (h.og.lt k hk).2 hB
  exact ⟨h.os.below hb, h.og.below hb, h.ap, hq.pipe, ha.ans, OffP.new hq hs, OffP.new hq hg, OffP.new hq (fun k hk => by cases hk; exact hR), OffA.new ha hs, OffA.new ha hg, h.bel.trans (hb.mono h.sz), Nat.le_trans h.sz hb.size⟩
/-- A variable is stored that lies below the lists. -/
theorem Mid.var {R B X : Nat} {w0 w w' : World} {s g v1 v2 : Value} {sent got : List Int} {Q : Pp} {A : An} {o : Obj} (h : Mid R w0 s g w sent got Q v1 A v2) (hq : NewPipe B w v1 Q) (ha : NewAns B w v2 A) (hX : X < B) (hRX : R ≤ X) (hx : w.heap[X]? = some o) (ho : ∀ cur f, o ≠ .cells cur 3 f) (hg : w.grownBy w' (some X)) :
    Mid R w0 s g w' sent got Q v1 A v2 ∧ NewPipe B w' v1 Q ∧ NewAns B w' v2 A := by
  have hk : ∀ k, k ≠ X → k < w.heap.size → w'.heap[k]? = w.heap[k]? := fun k h1 h2 => hg.block k h2 (by simpa using h1)
  have e1 : Own KI R w' s sent := h.os.keep fun k hk' => hk k (fun e => by subst e; exact (Own.other h.os hx ho) k hk' rfl) (h.os.lt k hk').2
  have e2 : Own KI R w' g got := h.og.keep fun k hk' => hk k (fun e => by subst e; exact (Own.other h.og hx ho) k hk' rfl) (h.og.lt k hk').2
  have e3 : NewPipe B w' v1 Q := by
    obtain ⟨vi, vs, vg, rfl, h1, h2, h3⟩ := hq
    have hk2 : ∀ k, B ≤ k → k < w.heap.size → w'.heap[k]? = w.heap[k]? := fun k h1 h2 => hk k (by omega) h2
    exact ⟨vi, vs, vg, rfl, h1.keep ki hk2, h2.keep kp hk2, h3.keep kp hk2⟩
  have e4 : NewAns B w' v2 A := by
    obtain ⟨vw, rfl, h1⟩ := ha
    exact ⟨vw, rfl, h1.keep kw fun k h1 h2 => hk k (by omega) h2⟩
  exact ⟨⟨e1, e2, h.ap, e3.pipe, e4.ans, h.fs, h.fg, h.fr, h.xs, h.xg, h.bel.grown hg h.sz (fun k hk => by cases hk; exact hRX), Nat.le_trans h.sz hg.size⟩, e3, e4⟩
/-- The pipe goes into its variable. -/
theorem Mid.play {R : Nat} {w0 w w' : World} {cap : Int} {j : Nat} {s g v1 v2 : Value} {sent got : List Int} {Q : Pp} {A : An} {o : Obj} (h : Mid R w0 s g w sent got Q v1 A v2) (hi : Inv j cap sent got Q) (hx : w.heap[R]? = some o) (ho : ∀ cur f, o ≠ .cells cur 3 f) (hg : w.grownBy w' (some R)) : Play R w0 cap j s g w' sent got Q v1 := by
  have hk : ∀ k, k ≠ R → k < w.heap.size → w'.heap[k]? = w.heap[k]? := fun k h1 h2 => hg.block k h2 (by simpa using h1)
  exact ⟨hi, h.os.keep fun k hk' => hk k (fun e => by subst e; exact (Own.other h.os hx ho) k hk' rfl) (h.os.lt k hk').2, h.og.keep fun k hk' => hk k (fun e => by subst e; exact (Own.other h.og hx ho) k hk' rfl) (h.og.lt k hk').2, h.ap, h.fr.keep h.pipe hg, h.fs, h.fg, h.fr, h.bel.grown hg h.sz (fun k hk => by cases hk; exact Nat.le_refl _), Nat.le_trans h.sz hg.size⟩
theorem Play.keeps {R : Nat} {w0 w w' : World} {cap : Int} {j : Nat} {s g v1 : Value} {sent got : List Int} {Q : Pp} {o : Obj} (h : Play R w0 cap j s g w sent got Q v1) (hx : w.heap[R]? = some o) (ho : ∀ cur f, o ≠ .cells cur 3 f) (hg : w.grownBy w' (some R)) : Play R w0 cap j s g w' sent got Q v1 := by
  have hk : ∀ k, k ≠ R → k < w.heap.size → w'.heap[k]? = w.heap[k]? := fun k h1 h2 => hg.block k h2 (by simpa using h1)
  exact ⟨h.inv, h.os.keep fun k hk' => hk k (fun e => by subst e; exact (Own.other h.os hx ho) k hk' rfl) (h.os.lt k hk').2, h.og.keep fun k hk' => hk k (fun e => by subst e; exact (Own.other h.og hx ho) k hk' rfl) (h.og.lt k hk').2, h.ap, h.fr.keep h.pipe hg, h.fs, h.fg, h.fr, h.bel.grown hg h.sz (fun k hk => by cases hk; exact Nat.le_refl _), Nat.le_trans h.sz hg.size⟩
theorem grown_put5 (w : World) (R : Nat) (y0 y1 y2 y3 y4 : Value) : w.grownBy (put5 w R y0 y1 y2 y3 y4) (some R) := grown_trans (grown_trans (grown_trans (grown_trans (grown_set _ _ _ _) (grown_set _ _ _ _)) (grown_set _ _ _ _)) (grown_set _ _ _ _)) (grown_set _ _ _ _)
theorem grown_put6 (w : World) (R : Nat) (y0 y1 y2 y3 y4 y5 : Value) : w.grownBy (put6 w R y0 y1 y2 y3 y4 y5) (some R) := grown_trans (grown_trans (grown_trans (grown_trans (grown_trans (grown_set _ _ _ _) (grown_set _ _ _ _)) (grown_set _ _ _ _)) (grown_set _ _ _ _)) (grown_set _ _ _ _)) (grown_set _ _ _ _)
theorem grown_put2 (w : World) (R : Nat) (y0 y1 : Value) : w.grownBy (put2 w R y0 y1) (some R) := grown_trans (grown_set _ _ _ _) (grown_set _ _ _ _)

theorem get_wakes {i : Nat} {cap : Int} {sent got : List Int} {P : Pp} {t : Bool} (h : Inv i cap sent got P) : ∀ x ∈ (getL P ((i : Int) + 1, 0, 0) t).2.wakes, 1 ≤ x.1 ∧ x.1 ≤ i := by
  intro x hx
  unfold getL at hx
  split at hx
  · unfold takenL at hx
    split at hx
    · unfold firstL at hx
      split at hx
      · rename_i hs
        simp only [List.mem_singleton] at hx
        subst hx
        have hm : pAt P.ss 0 ∈ P.ss ++ P.gs := List.mem_append_left _ (pAt_mem hs)
        exact ⟨(h.good.ok _ hm).1, h.task _ hm⟩
      · simp at hx
    · split at hx
      · simp at hx
      · exact absurd hx (by simp [zeroA])
  · split at hx <;> exact absurd hx (by simp [zeroA])
theorem gotW_take {ws : List Wk} {y : Nat} (h : y < ws.length) : gotW (ws.take (y + 1)) = gotW (ws.take y) ++ (if (ws.getD y (0, 0, 0, false, false)).2.2.2.1 = true then [(ws.getD y (0, 0, 0, false, false)).2.2.1] else []) := by
  unfold gotW
  rw [List.take_succ_eq_append_getElem h, List.filter_append, List.map_append]
  congr 1
  simp only [List.filter_cons, List.filter_nil, List.getD_eq_getElem?_getD, List.getElem?_eq_getElem h, Option.getD_some]
  cases ws[y].2.2.2.1 <;> rfl
theorem sentW_take {ws : List Wk} {y : Nat} (h : y < ws.length) : sentW (ws.take (y + 1)) = sentW (ws.take y) ++ (if (ws.getD y (0, 0, 0, false, false)).2.2.2.1 = true then [] else [(ws.getD y (0, 0, 0, false, false)).1 - 1]) := by
  unfold sentW
  rw [List.take_succ_eq_append_getElem h, List.filter_append, List.map_append]
  congr 1
  simp only [List.filter_cons, List.filter_nil, List.getD_eq_getElem?_getD, List.getElem?_eq_getElem h, Option.getD_some]
  cases ws[y].2.2.2.1 <;> rfl
end Go.Proofs.Ytijogcjocandcaa
