/-
  What holds while cell.Mix works.
-/
import Derived.Test.YtpgokeogijpmaabDoorMc
namespace Go.Proofs.YtpgokeogijpmaabDoor.Mx
open Go.RowKit

theorem flat_seti : ∀ (xs : List Int) (i : Nat) (v : Int), (xs.set i v).flatMap KI.f = (xs.flatMap KI.f).set i (.int .i64 v)
  | [], _, _ => rfl
  | x :: r, 0, v => rfl
  | x :: r, i + 1, v => by
    have h := flat_seti r i v
    rw [List.set_cons_succ, List.flatMap_cons, h]
    rfl
theorem own_seti {base : Nat} {w : World} {g n c0 : Nat} {xs : List Int} (h : Own KI base w (.slice (some ⟨g, 0, none⟩) n c0) xs) (hn : xs.length = n) (i : Nat) (v : Int) : Own KI base (w.setCell ⟨g, i, none⟩ (.int .i64 v)) (.slice (some ⟨g, 0, none⟩) n c0) (xs.set i v) := by
  unfold Own at h ⊢
  rw [List.length_set, flat_seti]
  rw [hn] at h ⊢
  exact (h.stored _ _).1
theorem own_inti {base : Nat} {w : World} {g n c0 : Nat} {xs : List Int} (h : Own KI base w (.slice (some ⟨g, 0, none⟩) n c0) xs) {j : Nat} (hj : j < xs.length) : w.cell? ⟨g, j, none⟩ = some (.int .i64 (xs.getD j 0)) ∧ w.frozen? ⟨g, j, none⟩ = false := by
  obtain ⟨b, off, c', ev, _, hl⟩ := h.isl.at ki (by omega)
  cases ev
  have := hl.ints hj
  rw [Nat.zero_add] at this
  refine ⟨this, ?_⟩
  unfold Own at h
  exact h.frozenAt _
theorem flat_sets : ∀ (xs : List Sl) (i : Nat) (v : Sl), (xs.set i v).flatMap KT.f = (xs.flatMap KT.f).set i (sl v)
  | [], _, _ => rfl
  | x :: r, 0, v => rfl
  | x :: r, i + 1, v => by
    have h := flat_sets r i v
    rw [List.set_cons_succ, List.flatMap_cons, h]
    rfl
theorem own_sets {base : Nat} {w : World} {g n c0 : Nat} {xs : List Sl} (h : Own KT base w (.slice (some ⟨g, 0, none⟩) n c0) xs) (hn : xs.length = n) (i : Nat) (v : Sl) : Own KT base (w.setCell ⟨g, i, none⟩ (sl v)) (.slice (some ⟨g, 0, none⟩) n c0) (xs.set i v) := by
  unfold Own at h ⊢
  rw [List.length_set, flat_sets]
  rw [hn] at h ⊢
  exact (h.stored _ _).1
theorem own_ats {base : Nat} {w : World} {g n c0 : Nat} {xs : List Sl} (h : Own KT base w (.slice (some ⟨g, 0, none⟩) n c0) xs) {j : Nat} (hj : j < xs.length) : w.cell? ⟨g, j, none⟩ = some (sl (uAt xs j)) ∧ w.frozen? ⟨g, j, none⟩ = false := by
  obtain ⟨b, off, c', ev, _, hl⟩ := h.isl.at kt (by omega)
  cases ev
  have := hl j 0 _ hj rfl
  simp only [KT, Nat.mul_one, Nat.add_zero, Nat.zero_add] at this
  refine ⟨this, ?_⟩
  unfold Own at h
  exact h.frozenAt _
theorem own_block {α : Type} {K : Kind α} {base : Nat} {w : World} {v : Value} {xs : List α} (h : Own K base w v xs) : ∀ k, v.ownBlock = some k → ∃ cur, w.heap[k]? = some (.cells cur K.e (0, 0)) := fun k hk => by
  obtain ⟨_, ⟨rfl, _⟩ | ⟨g, cap, cur, rfl, _, hh, _⟩⟩ := h
  · cases hk
  · cases hk; exact ⟨cur, hh⟩
theorem own_addr {base : Nat} {w : World} {v : Value} {xs : List Int} (h : Own KI base w v xs) (h0 : 0 < xs.length) : ∃ g c, v = .slice (some ⟨g, 0, none⟩) xs.length c := by
  obtain ⟨_, ⟨_, e⟩ | ⟨g, cap, cur, hv, _⟩⟩ := h
  · omega
  · exact ⟨g, cap, hv⟩

/-- What holds while cell.Mix works: the memory, what each task was told, each in a row of its own. -/
structure Mi (w W : World) (B R Bm G n m : Nat) (v9 : Value) (Z : List Int) (us : List Sl) (ts : List (List Int)) : Prop where
  be : Below w.heap.size w W
  res : W.heap[R]? = some (.cells #[.int .i64 0, .int .i64 0] 31)
  map : W.heap[Bm]? = some (.map ents 5)
  mem : Own KI B W v9 Z
  row : Own KT B W (.slice (some ⟨G, 0, none⟩) n n) us
  lz : Z.length = m
  lu : us.length = n
  lt : ts.length = n
  each : ∀ i, i < n → Own KI B W (sl (uAt us i)) (ts.getD i [])
  apm : ∀ i, i < n → ∀ k, (sl (uAt us i)).ownBlock = some k → v9.ownBlock ≠ some k
  apj : ∀ i j, i < n → j < n → i ≠ j → ∀ k, (sl (uAt us i)).ownBlock = some k → (sl (uAt us j)).ownBlock ≠ some k
  rB : R < B
  mB : Bm < B
  wB : w.heap.size ≤ R
  sB : w.heap.size ≤ B

theorem Mi.keep {w W W' : World} {B R Bm G n m : Nat} {v9 : Value} {Z : List Int} {us : List Sl} {ts : List (List Int)} (h : Mi w W B R Bm G n m v9 Z us ts) (hb : Below W.heap.size W W') : Mi w W' B R Bm G n m v9 Z us ts :=
  ⟨Below.next h.be hb (Nat.le_refl _), keep_below h.res hb, (hb.block Bm (size_of h.map)).trans h.map, h.mem.below hb, h.row.below hb, h.lz, h.lu, h.lt, fun i hi => (h.each i hi).below hb, h.apm, h.apj, h.rB, h.mB, h.wB, h.sB⟩
theorem uAt_len {w W : World} {B R Bm G n m : Nat} {v9 : Value} {Z : List Int} {us : List Sl} {ts : List (List Int)} (h : Mi w W B R Bm G n m v9 Z us ts) {i : Nat} (hi : i < n) : (uAt us i).2.1 = (ts.getD i []).length := by
  obtain ⟨a, c, e⟩ := (h.each i hi).form
  unfold sl at e
  injection e
theorem Mi.gne {w W : World} {B R Bm G n m : Nat} {v9 : Value} {Z : List Int} {us : List Sl} {ts : List (List Int)} (h : Mi w W B R Bm G n m v9 Z us ts) {v : Value} {zs : List Int} (hv : Own KI B W v zs) : ∀ k, v.ownBlock = some k → k ≠ G := fun k hk e => by
  subst e
  obtain ⟨c1, h1⟩ := own_block hv k hk
  obtain ⟨c2, h2⟩ := own_block h.row k rfl
  rw [h1] at h2
  injection h2 with h2
  injection h2 with _ h2
  exact absurd h2 (by decide)

/-- An op is done: the memory's row alone is written. -/
theorem Mi.did {w W w5 : World} {B R Bm G n m g c9 q : Nat} {Z : List Int} {us : List Sl} {ts : List (List Int)} (h : Mi w W B R Bm G n m (.slice (some ⟨g, 0, none⟩) m c9) Z us ts) (x : Int) (hb : Below W.heap.size (W.setCell ⟨g, 0 + q, none⟩ (.int .i64 x)) w5) :
    Mi w w5 B R Bm G n m (.slice (some ⟨g, 0, none⟩) m c9) (Z.set q x) us ts := by
  have hg := h.mem.lt g rfl
  have hk : ∀ k, k < W.heap.size → k ≠ g → w5.heap[k]? = W.heap[k]? := fun k h1 h2 => (hb.block k h1).trans (Below.heap_setCell _ _ _ _ (by simpa using h2))
  have hsz : W.heap.size ≤ w5.heap.size := by
    have := hb.size
    simpa [World.setCell] using this
  have hR := h.rB
  have hM := h.mB
  have hS := h.sB
  refine ⟨h.be.trans ⟨hb.os, hb.tape, hb.output, hsz, fun k hk' => hk k (Nat.lt_of_lt_of_le hk' h.be.size) (by omega)⟩, (hk R (size_of h.res) (by omega)).trans h.res, (hk Bm (size_of h.map) (by omega)).trans h.map, ?_, h.row.keep fun k hk' => (by
      cases hk'
      exact hk G ((h.row.lt G rfl).2) (fun e => h.gne h.mem g rfl e.symm)), by rw [List.length_set]; exact h.lz, h.lu, h.lt, fun i hi => (h.each i hi).keep fun k hk' => hk k ((h.each i hi).lt k hk').2 (fun e => h.apm i hi k hk' (by rw [e]; rfl)), h.apm, h.apj, hR, hM, h.wB, hS⟩
  have h1 := own_seti h.mem h.lz (0 + q) x
  rw [Nat.zero_add] at h1
  refine h1.keep fun k hk' => ?_
  cases hk'
  have h2 := hb.block g hg.2
  rw [Nat.zero_add] at h2
  exact h2

/-- What an op told is added to its task's row. -/
theorem Mi.told {w w5 w6 : World} {B R Bm G n m t : Nat} {v9 : Value} {Z : List Int} {us : List Sl} {ts : List (List Int)} (h : Mi w w5 B R Bm G n m v9 Z us ts) (ht : t < n) (x : Int) (o : Obj) (a6 : Option Addr) (n6 c6 : Nat)
    (ho : Own KI B w6 (.slice a6 n6 c6) (ts.getD t [] ++ [x])) (hg : (w5.alloc o).grownBy w6 (sl (uAt us t)).ownBlock) (hl : ∀ k, (Value.slice a6 n6 c6).ownBlock = some k → (sl (uAt us t)).ownBlock = some k ∨ (w5.alloc o).heap.size ≤ k) :
    Mi w (w6.setCell ⟨G, t, none⟩ (.slice a6 n6 c6)) B R Bm G n m v9 Z (us.set t (a6, n6, c6)) (ts.set t (ts.getD t [] ++ [x])) := by
  have hsz : (w5.alloc o).heap.size = w5.heap.size + 1 := World.size_alloc _ _
  have hE := h.each t ht
  have hk : ∀ k, k < w5.heap.size → (sl (uAt us t)).ownBlock ≠ some k → w6.heap[k]? = w5.heap[k]? := fun k h1 h2 => (hg.block k (by omega) (fun e => h2 e.symm)).trans (Below.heap_alloc _ _ _ h1)
  have hlow : ∀ k, k < B → (sl (uAt us t)).ownBlock ≠ some k := fun k hk e => by have := (hE.lt k e).1; omega
  have hs6 : w5.heap.size ≤ w6.heap.size := by have := hg.size; omega
  have hG := (h.row.lt G rfl)
  have hset : ∀ k, k ≠ G → (w6.setCell ⟨G, t, none⟩ (.slice a6 n6 c6)).heap[k]? = w6.heap[k]? := fun k hk => Below.heap_setCell _ _ _ _ (by simpa using hk)
  have hR := h.rB
  have hM := h.mB
  have hS := h.sB
  have hB5 : B ≤ w5.heap.size := by omega
  have g6 : ∀ k, (Value.slice a6 n6 c6).ownBlock = some k → k ≠ G := fun k hk' e => by
    rcases hl k hk' with h1 | h1
    · exact h.gne hE k h1 e
    · omega
  refine ⟨?_, ?_, ?_, ?_, ?_, h.lz, by simpa using h.lu, by simpa using h.lt, ?_, ?_, ?_, hR, hM, h.wB, hS⟩
  · refine h.be.trans ⟨hg.os, hg.tape, hg.output, by simpa [World.setCell] using hs6, fun k hk' => ?_⟩
    rw [hset k (by omega)]
    exact hk k (Nat.lt_of_lt_of_le hk' h.be.size) (hlow k (by omega))
  · rw [hset R (by omega), hk R (by omega) (hlow R hR)]; exact h.res
  · rw [hset Bm (by omega), hk Bm (by omega) (hlow Bm hM)]; exact h.map
  · refine h.mem.keep fun k hk' => ?_
    rw [hset k (h.gne h.mem k hk')]
    exact hk k (h.mem.lt k hk').2 (fun e => h.apm t ht k e hk')
  · have h1 : Own KT B w6 (.slice (some ⟨G, 0, none⟩) n n) us := h.row.keep fun k hk' => (by
      cases hk'
      exact hk G hG.2 (fun e => h.gne hE G e rfl))
    exact own_sets h1 h.lu t (a6, n6, c6)
  · intro i hi
    by_cases e : i = t
    · subst e
      have e1 : uAt (us.set i (a6, n6, c6)) i = (a6, n6, c6) := by unfold uAt; rw [List.getD_eq_getElem?_getD, List.getElem?_set_self (by rw [h.lu]; exact hi)]; rfl
      have e2 : (ts.set i (ts.getD i [] ++ [x])).getD i [] = ts.getD i [] ++ [x] := by rw [List.getD_eq_getElem?_getD, List.getElem?_set_self (by rw [h.lt]; exact hi)]; rfl
      rw [e1, e2]
      exact ho.keep fun k hk' => hset k (g6 k hk')
    · have e1 : uAt (us.set t (a6, n6, c6)) i = uAt us i := by unfold uAt; rw [List.getD_eq_getElem?_getD, List.getD_eq_getElem?_getD, List.getElem?_set_ne (by omega)]
      have e2 : (ts.set t (ts.getD t [] ++ [x])).getD i [] = ts.getD i [] := by rw [List.getD_eq_getElem?_getD, List.getElem?_set_ne (by omega), ← List.getD_eq_getElem?_getD]
      rw [e1, e2]
      refine (h.each i hi).keep fun k hk' => ?_
      rw [hset k (h.gne (h.each i hi) k hk')]
      exact hk k ((h.each i hi).lt k hk').2 (fun e' => h.apj i t hi ht e k hk' e')
  · intro i hi k hk'
    by_cases e : i = t
    · subst e
      have e1 : uAt (us.set i (a6, n6, c6)) i = (a6, n6, c6) := by unfold uAt; rw [List.getD_eq_getElem?_getD, List.getElem?_set_self (by rw [h.lu]; exact hi)]; rfl
      rw [e1] at hk'
      rcases hl k hk' with h1 | h1
      · exact h.apm i hi k h1
      · intro e'
        have := (h.mem.lt k e').2
        omega
    · have e1 : uAt (us.set t (a6, n6, c6)) i = uAt us i := by unfold uAt; rw [List.getD_eq_getElem?_getD, List.getD_eq_getElem?_getD, List.getElem?_set_ne (by omega)]
      rw [e1] at hk'
      exact h.apm i hi k hk'
  · intro i j hi hj hij k hk' hk2
    have e1 : ∀ y, y ≠ t → uAt (us.set t (a6, n6, c6)) y = uAt us y := fun y hy => by unfold uAt; rw [List.getD_eq_getElem?_getD, List.getD_eq_getElem?_getD, List.getElem?_set_ne (by omega)]
    have e2 : uAt (us.set t (a6, n6, c6)) t = (a6, n6, c6) := by unfold uAt; rw [List.getD_eq_getElem?_getD, List.getElem?_set_self (by rw [h.lu]; exact ht)]; rfl
    by_cases e : i = t
    · subst e
      rw [e2] at hk'
      rw [e1 j (by omega)] at hk2
      rcases hl k hk' with h1 | h1
      · exact h.apj i j hi hj hij k h1 hk2
      · have := ((h.each j hj).lt k hk2).2
        omega
    · rw [e1 i e] at hk'
      by_cases e' : j = t
      · subst e'
        rw [e2] at hk2
        rcases hl k hk2 with h1 | h1
        · exact h.apj i j hi hj hij k hk' h1
        · have := ((h.each i hi).lt k hk').2
          omega
      · rw [e1 j e'] at hk2
        exact h.apj i j hi hj hij k hk' hk2

theorem Mi.row6 {w w5 w6 : World} {B R Bm G n m t : Nat} {v9 : Value} {Z : List Int} {us : List Sl} {ts : List (List Int)} (h : Mi w w5 B R Bm G n m v9 Z us ts) (ht : t < n) (o : Obj) (hg : (w5.alloc o).grownBy w6 (sl (uAt us t)).ownBlock) : Own KT B w6 (.slice (some ⟨G, 0, none⟩) n n) us := by
  have hG := (h.row.lt G rfl)
  refine h.row.keep fun k hk' => ?_
  cases hk'
  exact (hg.block G (by rw [World.size_alloc]; omega) (fun e => h.gne (h.each t ht) G e.symm rfl)).trans (Below.heap_alloc _ _ _ hG.2)

/-- One pick, and all of them. -/
def mixStep (tss : List (List Op4)) (s : List Int × List (List Int)) (t : Nat) : List Int × List (List Int) :=
  if (s.2.getD t []).length < (tss.getD t []).length then (stepMem s.1 (opAtD (tss.getD t []) (s.2.getD t []).length), s.2.set t (s.2.getD t [] ++ [stepTold s.1 (opAtD (tss.getD t []) (s.2.getD t []).length)])) else s
def mixAll (tss : List (List Op4)) : List Int → List Int × List (List Int) → List Int × List (List Int)
  | [], s => s
  | t :: r, s => mixAll tss r (mixStep tss s t.toNat)

end Go.Proofs.YtpgokeogijpmaabDoor.Mx
