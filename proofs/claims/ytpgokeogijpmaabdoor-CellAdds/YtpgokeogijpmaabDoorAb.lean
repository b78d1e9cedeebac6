/-
  taskmilllaw.CellAdds: what holds while its tasks are made.
-/
import Derived.Test.YtpgokeogijpmaabDoorAa
namespace Go.Proofs.YtpgokeogijpmaabDoor.Mx
open Go.RowKit

def KO : Kind Op4 := ⟨fun o => o.cells, 4, 29, 27, 32, Op4.zero⟩
theorem ko : KO.Ok := by
  refine ⟨fun _ => rfl, fun x u hu => ?_, by decide, by decide, Tryd.underlying27, ?_⟩
  · simp only [KO, Op4.cells, List.mem_cons, List.not_mem_nil, or_false] at hu
    rcases hu with rfl | rfl | rfl | rfl <;> rfl
  · obtain ⟨i0, hi, h0, h1, h2⟩ := info_parts Tryd.info29
    exact ⟨i0, _, hi, h0, h1, h2, rfl⟩
theorem own_type {α β : Type} {K : Kind α} {L : Kind β} {B B' : Nat} {w : World} {v v' : Value} {xs : List α} {ys : List β} (h : Own K B w v xs) (h' : Own L B' w v' ys) (hne : K.e ≠ L.e) : ∀ k, v.ownBlock = some k → v'.ownBlock ≠ some k := fun k hk hk' => by
  obtain ⟨c1, h1⟩ := own_block h k hk
  obtain ⟨c2, h2⟩ := own_block h' k hk'
  rw [h1] at h2
  injection h2 with h2
  injection h2 with _ h2
  exact hne h2
theorem own_grown {α β : Type} {K : Kind α} {L : Kind β} {B B' : Nat} {w w' : World} {v v' : Value} {xs : List α} {ys : List β} (h : Own K B w v xs) (_h' : Own L B' w v' ys) (hne : ∀ k, v.ownBlock = some k → v'.ownBlock ≠ some k) (o : Obj) (hg : (w.alloc o).grownBy w' v'.ownBlock) : Own K B w' v xs := h.keep fun k hk => (hg.block k (by have := (h.lt k hk).2; rw [World.size_alloc]; omega) (fun e => hne k hk e.symm)).trans (Below.heap_alloc _ _ _ (h.lt k hk).2)

/-- The rows of CellAdds: tasks, order, what is wanted. -/
structure Ad (w W : World) (m i : Nat) (ass : List (List Int)) (vt : Value) (us : List Sl) (vo : Value) (ord : List Int) (g c9 : Nat) (wa : List Int) : Prop where
  be : Below w.heap.size w W
  ts : Own KQ w.heap.size W vt us
  lu : us.length = i
  each : ∀ j, j < i → Own KO w.heap.size W (sl (uAt us j)) (addT m ass j)
  or : Own KI w.heap.size W vo ord
  wt : Own KI w.heap.size W (.slice (some ⟨g, 0, none⟩) m c9) wa
  lw : wa.length = m
  ap : ∀ k, vo.ownBlock = some k → k ≠ g
section
variable {w W w' : World} {m i : Nat} {ass : List (List Int)} {vt : Value} {us : List Sl} {vo : Value} {ord : List Int} {g c9 : Nat} {wa : List Int} {vl : Value} {ls : List Op4}
theorem Ad.keep (h : Ad w W m i ass vt us vo ord g c9 wa) (hb : Below W.heap.size W w') : Ad w w' m i ass vt us vo ord g c9 wa :=
  ⟨Below.next h.be hb (Nat.le_refl _), h.ts.below hb, h.lu, fun j hj => (h.each j hj).below hb, h.or.below hb, h.wt.below hb, h.lw, h.ap⟩
/-- And the ops of the task that is being made. -/
structure Ak (w W : World) (m i : Nat) (ass : List (List Int)) (vt : Value) (us : List Sl) (vo : Value) (ord : List Int) (g c9 : Nat) (wa : List Int) (vl : Value) (ls : List Op4) : Prop where
  ad : Ad w W m i ass vt us vo ord g c9 wa
  ll : Own KO w.heap.size W vl ls
  apl : ∀ j, j < i → ∀ k, (sl (uAt us j)).ownBlock = some k → vl.ownBlock ≠ some k
theorem Ak.keep (h : Ak w W m i ass vt us vo ord g c9 wa vl ls) (hb : Below W.heap.size W w') : Ak w w' m i ass vt us vo ord g c9 wa vl ls := ⟨h.ad.keep hb, h.ll.below hb, h.apl⟩
theorem Ak.size (h : Ak w W m i ass vt us vo ord g c9 wa vl ls) (o : Obj) : w.heap.size ≤ (W.alloc o).heap.size := by
  rw [World.size_alloc]
  exact Nat.le_succ_of_le h.ad.be.size
theorem Ak.grewL (h : Ak w W m i ass vt us vo ord g c9 wa vl ls) (o : Obj) {vl' : Value} {ls' : List Op4} (hg : (W.alloc o).grownBy w' vl.ownBlock) (ho : Own KO w.heap.size w' vl' ls') (hl : ∀ k, vl'.ownBlock = some k → vl.ownBlock = some k ∨ (W.alloc o).heap.size ≤ k) : Ak w w' m i ass vt us vo ord g c9 wa vl' ls' := by
  have hd := h.ad
  refine ⟨⟨(hd.be.alloc hd.be.size o).grown hg (h.size o) (fun k hk => (h.ll.lt k hk).1), own_grown hd.ts h.ll (own_type hd.ts h.ll (by decide)) o hg, hd.lu, fun j hj => own_grown (hd.each j hj) h.ll (h.apl j hj) o hg, own_grown hd.or h.ll (own_type hd.or h.ll (by decide)) o hg, own_grown hd.wt h.ll (own_type hd.wt h.ll (by decide)) o hg, hd.lw, hd.ap⟩, ho, fun j hj k hk hk' => ?_⟩
  rcases hl k hk' with h1 | h1
  · exact h.apl j hj k hk h1
  · have := ((hd.each j hj).lt k hk).2
    rw [World.size_alloc] at h1
    omega
theorem Ak.put (h : Ak w W m i ass vt us vo ord g c9 wa vl ls) (p : Nat) (x : Int) : Ak w (W.setCell ⟨g, p, none⟩ (.int .i64 x)) m i ass vt us vo ord g c9 (wa.set p x) vl ls := by
  have hd := h.ad
  have hk : ∀ k, k ≠ g → (W.setCell ⟨g, p, none⟩ (.int .i64 x)).heap[k]? = W.heap[k]? := fun k hk => Below.heap_setCell _ _ _ _ (by simpa using hk)
  have ht : ∀ {α : Type} {K : Kind α} {v : Value} {xs : List α}, Own K w.heap.size W v xs → K.e ≠ KI.e → Own K w.heap.size (W.setCell ⟨g, p, none⟩ (.int .i64 x)) v xs := fun ho hne => ho.keep fun k hk' => hk k fun e => own_type ho hd.wt hne k hk' (by rw [e]; rfl)
  exact ⟨⟨below_set hd.be (hd.wt.lt g rfl).1 _, ht hd.ts (by decide), hd.lu, fun j hj => ht (hd.each j hj) (by decide), hd.or.keep fun k hk' => hk k (hd.ap k hk'), own_seti hd.wt hd.lw p x, by rw [List.length_set]; exact hd.lw, hd.ap⟩, ht h.ll (by decide), h.apl⟩
theorem Ak.grewO (h : Ak w W m i ass vt us vo ord g c9 wa vl ls) (o : Obj) {vo' : Value} {ord' : List Int} (hg : (W.alloc o).grownBy w' vo.ownBlock) (ho : Own KI w.heap.size w' vo' ord') (hl : ∀ k, vo'.ownBlock = some k → vo.ownBlock = some k ∨ (W.alloc o).heap.size ≤ k) : Ak w w' m i ass vt us vo' ord' g c9 wa vl ls := by
  have hd := h.ad
  refine ⟨⟨(hd.be.alloc hd.be.size o).grown hg (h.size o) (fun k hk => (hd.or.lt k hk).1), own_grown hd.ts hd.or (own_type hd.ts hd.or (by decide)) o hg, hd.lu, fun j hj => own_grown (hd.each j hj) hd.or (own_type (hd.each j hj) hd.or (by decide)) o hg, ho, own_grown hd.wt hd.or (fun k hk e => by cases hk; exact hd.ap g e rfl) o hg, hd.lw, fun k hk => ?_⟩, own_grown h.ll hd.or (own_type h.ll hd.or (by decide)) o hg, h.apl⟩
  rcases hl k hk with h1 | h1
  · exact hd.ap k h1
  · have := (hd.wt.lt g rfl).2
    rw [World.size_alloc] at h1
    omega
theorem Ak.grewT {a : Option Addr} {n c : Nat} (h : Ak w W m i ass vt us vo ord g c9 wa (.slice a n c) (addT m ass i)) (o : Obj) {vt' : Value} (hg : (W.alloc o).grownBy w' vt.ownBlock) (ho : Own KQ w.heap.size w' vt' (us ++ [(a, n, c)])) : Ad w w' m (i + 1) ass vt' (us ++ [(a, n, c)]) vo ord g c9 wa := by
  have hd := h.ad
  refine ⟨(hd.be.alloc hd.be.size o).grown hg (h.size o) (fun k hk => (hd.ts.lt k hk).1), ho, by rw [List.length_append, hd.lu]; rfl, fun j hj => ?_, own_grown hd.or hd.ts (own_type hd.or hd.ts (by decide)) o hg, own_grown hd.wt hd.ts (own_type hd.wt hd.ts (by decide)) o hg, hd.lw, hd.ap⟩
  by_cases e : j < i
  · have e1 : uAt (us ++ [(a, n, c)]) j = uAt us j := by
      unfold uAt
      rw [List.getD_eq_getElem?_getD, List.getElem?_append_left (by rw [hd.lu]; exact e), ← List.getD_eq_getElem?_getD]
    rw [e1]
    exact own_grown (hd.each j e) hd.ts (own_type (hd.each j e) hd.ts (by decide)) o hg
  · obtain rfl : j = i := by omega
    have e1 : uAt (us ++ [(a, n, c)]) j = (a, n, c) := by
      unfold uAt
      rw [List.getD_eq_getElem?_getD, List.getElem?_append_right (by rw [hd.lu]; exact Nat.le_refl _), hd.lu, Nat.sub_self]
      rfl
    rw [e1]
    exact own_grown h.ll hd.ts (own_type h.ll hd.ts (by decide)) o hg
theorem Ad.start (h : Ad w W m i ass vt us vo ord g c9 wa) : Ak w W m i ass vt us vo ord g c9 wa (.slice none 0 0) [] := ⟨h, own_nil _ _, fun _ _ _ _ e => by cases e⟩
theorem Ad.isTs {a7 : Option Addr} {c7 : Nat} (h : Ad w W m i ass (.slice a7 i c7) us vo ord g c9 wa) : IsTs W (.slice a7 i c7) us (addTs m ass i) := by
  refine ⟨h.ts.isl, by rw [h.lu, addTs_len], fun j hj => ?_⟩
  rw [addTs_len] at hj
  rw [addTs_at hj]
  exact (h.each j hj).isl.1
end
/-- Rows of numbers, as they are read. -/
structure IsAs (w : World) (v : Value) (us : List Sl) (ass : List (List Int)) : Prop where
  row : IsL KT w v us
  len : us.length = ass.length
  each : ∀ i, i < ass.length → IsL KI w (sl (uAt us i)) (ass.getD i [])
theorem Lies.slt {w : World} {b off : Nat} {us : List Sl} (h : Lies KT w b off us) {j : Nat} (hj : j < us.length) : w.cell? ⟨b, off + j, none⟩ = some (sl (uAt us j)) := by
  have := h j 0 _ hj rfl
  simp only [KT, Nat.mul_one, Nat.add_zero] at this
  exact this
/-- Where a row lies, and what is in it, whatever was done since. -/
theorem IsAs.at {w : World} {a1 : Option Addr} {n c1 : Nat} {us : List Sl} {ass : List (List Int)} (h : IsAs w (.slice a1 n c1) us ass) {i : Nat} (hi : i < n) : ∃ b1 o1 ua un uc, a1 = some ⟨b1, o1, none⟩ ∧ un = (ass.getD i []).length ∧ (∀ W, Below w.heap.size w W → W.cell? ⟨b1, o1 + i, none⟩ = some (.slice ua un uc)) ∧ (0 < un → ∃ b2 o2, ua = some ⟨b2, o2, none⟩ ∧ ∀ W, Below w.heap.size w W → ∀ k, k < un → W.cell? ⟨b2, o2 + k, none⟩ = some (.int .i64 ((ass.getD i []).getD k 0))) := by
  have hlt := h.row.len
  obtain ⟨b1, o1, rfl, hb1, l1⟩ := h.row.opens kt hlt (by omega)
  obtain ⟨⟨ua, un, uc⟩, eu⟩ : ∃ u, uAt us i = u := ⟨_, rfl⟩
  have he := h.each i (by have := h.len; omega)
  rw [eu] at he
  have hun : (ass.getD i []).length = un := IsL.len (a := ua) (c := uc) he
  refine ⟨b1, o1, ua, un, uc, rfl, hun.symm, fun W hW => ?_, fun h0 => ?_⟩
  · have := (l1.below hW hb1).slt (j := i) (by omega)
    rw [eu] at this
    exact this
  · obtain ⟨b2, o2, e2, hb2, l2⟩ := IsL.opens ki (a := ua) (c := uc) he hun h0
    exact ⟨b2, o2, e2, fun W hW k hk => (l2.below hW hb2).ints (by omega)⟩

end Go.Proofs.YtpgokeogijpmaabDoor.Mx
