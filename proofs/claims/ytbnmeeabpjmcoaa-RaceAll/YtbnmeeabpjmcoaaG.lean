/-
  Pasts that grow: pipes that change; order.found.
-/
import Derived.Test.YtbnmeeabpjmcoaaF
namespace Go.Proofs.Ytbnmeeabpjmcoaa
open Go.RowKit

theorem PastAt.setP {hv : Value} {w w' : World} {d : Dat} {M : PastM} (h : PastAt hv w d M) {k : Int} {b : Nat} (hb : (k, b) ∈ d.kp) (lab' : Nat → Nat × Int) (s' g' : Value) (q : PipeM) (hp : PipeAt w' lab' s' g' k b q)
    (hs : w.heap.size ≤ w'.heap.size) (hl : ∀ j, j < w.heap.size → lab' j = d.lab j) (hk : ∀ j, j < w.heap.size → d.lab j ≠ (9, k) → d.lab j ≠ (10, k) → d.lab j ≠ (11, k) → w'.heap[j]? = w.heap[j]?) (hhi : ∀ j, w'.heap.size ≤ j → lab' j = (0, 0)) :
    PastAt hv w' { d with lab := lab', sv := updI d.sv k s', gv := updI d.gv k g' } { M with pipes := updI M.pipes k q } where
  blk := (hk _ (size_of h.blk) (by rw [h.lb]; simp) (by rw [h.lb]; simp) (by rw [h.lb]; simp)).trans h.blk
  lb := (hl _ (size_of h.blk)).trans h.lb
  t := h.t.frame hs (hk _ h.t.map.lt (by rw [h.t.lb]; simp) (by rw [h.t.lb]; simp) (by rw [h.t.lb]; simp)) hl (fun k' b' hm hl hs hR => (hk b' hs (by rw [hl]; simp) (by rw [hl]; simp) (by rw [hl]; simp)).trans hR) (fun _ _ h => h)
  l := h.l.frame hs (hk _ h.l.map.lt (by rw [h.l.lb]; simp) (by rw [h.l.lb]; simp) (by rw [h.l.lb]; simp)) hl (fun k' b' hm hl hs hR => (hk b' hs (by rw [hl]; simp) (by rw [hl]; simp) (by rw [hl]; simp)).trans hR) (fun _ _ h => h)
  g := h.g.frame hs (hk _ h.g.map.lt (by rw [h.g.lb]; simp) (by rw [h.g.lb]; simp) (by rw [h.g.lb]; simp)) hl (fun k' b' hm hl hs hR => (hk b' hs (by rw [hl]; simp) (by rw [hl]; simp) (by rw [hl]; simp)).trans hR) (fun _ _ h => h)
  p := h.p.frame hs (hk _ h.p.map.lt (by rw [h.p.lb]; simp) (by rw [h.p.lb]; simp) (by rw [h.p.lb]; simp)) hl (fun k' b' hm hl' hs' hR => by
    by_cases e : k' = k
    · subst e
      obtain rfl := h.p.uni _ _ _ hb hm
      show PipeAt w' lab' (updI d.sv k' s' k') (updI d.gv k' g' k') k' b (updI M.pipes k' q k')
      rw [updI_same, updI_same, updI_same]
      exact hp
    · show PipeAt w' lab' (updI d.sv k s' k') (updI d.gv k g' k') k' b' (updI M.pipes k q k')
      rw [updI_ne _ _ _ _ e, updI_ne _ _ _ _ e, updI_ne _ _ _ _ e]
      refine hR.frame (hk b' hs' (by rw [hl']; simpa using e) (by rw [hl']; simp) (by rw [hl']; simp)) hl (fun j hj hl2 => ?_)
      rcases hl2 with hl2 | hl2
      · exact hk j hj (by rw [hl2]; simp) (by rw [hl2]; simpa using e) (by rw [hl2]; simp)
      · exact hk j hj (by rw [hl2]; simp) (by rw [hl2]; simp) (by rw [hl2]; simpa using e)) (fun k' hn hz => by
    show updI M.pipes k q k' = _
    rw [updI_ne _ _ _ _ (fun e => hn b (by rw [e]; exact hb))]
    exact hz)
  hi := hhi

/-- A new thing, and its key in a map. -/
def nw (w : World) (z : Obj) (B : Nat) (x : Obj) : World := putObj (w.alloc z) B x
theorem nw_keep {w : World} {z x : Obj} {B j : Nat} (h : j < w.heap.size) (hB : j ≠ B) : (nw w z B x).heap[j]? = w.heap[j]? := (heap_putObj j hB).trans (Below.heap_alloc _ _ _ h)
theorem nw_map {w : World} {z x : Obj} {B : Nat} (h : B < w.heap.size) : (nw w z B x).heap[B]? = some x := heap_putObj_same (by rw [World.size_alloc]; omega)
theorem nw_new {w : World} {z x : Obj} {B : Nat} (h : B < w.heap.size) : (nw w z B x).heap[w.heap.size]? = some z := (heap_putObj _ (by omega)).trans (new_block w z)
theorem nw_size {w : World} {z x : Obj} {B : Nat} : (nw w z B x).heap.size = w.heap.size + 1 := by unfold nw; rw [size_putObj, World.size_alloc]
def newLab (lab : Nat → Nat × Int) (n : Nat) (x : Nat × Int) : Nat → Nat × Int := fun j => if j = n then x else lab j
theorem newLab_at (lab : Nat → Nat × Int) (n : Nat) (x : Nat × Int) : newLab lab n x n = x := by simp [newLab]
theorem newLab_lt (lab : Nat → Nat × Int) {n j : Nat} (x : Nat × Int) (h : j < n) : newLab lab n x j = lab j := by simp [newLab, Nat.ne_of_lt h]
theorem newLab_gt (lab : Nat → Nat × Int) {n j : Nat} (x : Nat × Int) (h : n < j) : newLab lab n x j = lab j := by simp [newLab, Nat.ne_of_gt h]

theorem Tab.add {w : World} {lab : Nat → Nat × Int} {B m o : Nat} {ks : List (Int × Nat)} {R R' : Int → Nat → Prop} {Z : Int → Prop} (h : Tab w lab B m o ks R Z) (z : Obj) (k : Int) (hn : ∀ b, (k, b) ∉ ks)
    (hR : ∀ k b, (k, b) ∈ ks → lab b = (o, k) → b < w.heap.size → R k b → R' k b) (hnew : R' k w.heap.size) :
    Tab (nw w z B (.map (mpEnts (ks ++ [(k, w.heap.size)])) (ks ++ [(k, w.heap.size)]).length)) (newLab lab w.heap.size (o, k)) B m o (ks ++ [(k, w.heap.size)]) R' Z where
  map := nw_map h.map.lt
  lb := (newLab_lt _ _ h.map.lt).trans h.lb
  ent := fun k' b' hb => by
    rcases List.mem_append.1 hb with hb | hb
    · obtain ⟨h1, h2, h3⟩ := h.ent k' b' hb
      exact ⟨(newLab_lt _ _ h2).trans h1, by rw [nw_size]; omega, hR k' b' hb h1 h2 h3⟩
    · simp only [List.mem_singleton, Prod.mk.injEq] at hb
      obtain ⟨rfl, rfl⟩ := hb
      exact ⟨newLab_at _ _ _, by rw [nw_size]; omega, hnew⟩
  uni := fun k' b1 b2 h1 h2 => by
    rcases List.mem_append.1 h1 with h1 | h1 <;> rcases List.mem_append.1 h2 with h2 | h2
    · exact h.uni k' b1 b2 h1 h2
    · simp only [List.mem_singleton, Prod.mk.injEq] at h2
      exact absurd h1 (by rw [h2.1]; exact hn b1)
    · simp only [List.mem_singleton, Prod.mk.injEq] at h1
      exact absurd h2 (by rw [h1.1]; exact hn b2)
    · simp only [List.mem_singleton, Prod.mk.injEq] at h1 h2
      rw [h1.2, h2.2]
  zero := fun k' hk' => h.zero k' fun b hb => hk' b (List.mem_append_left _ hb)

theorem PastAt.new_t {hv : Value} {w : World} {d : Dat} {M : PastM} (h : PastAt hv w d M) (k : Int) (hn : ∀ b, (k, b) ∉ d.kt) :
    PastAt hv (nw w (ckB ck0) d.Bt (.map (mpEnts (d.kt ++ [(k, w.heap.size)])) (d.kt ++ [(k, w.heap.size)]).length)) { d with kt := d.kt ++ [(k, w.heap.size)], lab := newLab d.lab w.heap.size (6, k) } M ∧
    Stp d { d with kt := d.kt ++ [(k, w.heap.size)], lab := newLab d.lab w.heap.size (6, k) } w (nw w (ckB ck0) d.Bt (.map (mpEnts (d.kt ++ [(k, w.heap.size)])) (d.kt ++ [(k, w.heap.size)]).length)) := by
  have hB := h.t.map.lt
  have hlB := h.t.lb
  have hkeep : ∀ j, j < w.heap.size → d.lab j ≠ d.lab d.Bt → (nw w (ckB ck0) d.Bt (.map (mpEnts (d.kt ++ [(k, w.heap.size)])) (d.kt ++ [(k, w.heap.size)]).length)).heap[j]? = w.heap[j]? := fun j hj hl => nw_keep hj (fun e => hl (by rw [e]))
  have hsz : w.heap.size ≤ (nw w (ckB ck0) d.Bt (.map (mpEnts (d.kt ++ [(k, w.heap.size)])) (d.kt ++ [(k, w.heap.size)]).length)).heap.size := by rw [nw_size]; omega
  have hll : ∀ j, j < w.heap.size → newLab d.lab w.heap.size (6, k) j = d.lab j := fun j hj => newLab_lt _ _ hj
  refine ⟨⟨(hkeep _ (size_of h.blk) (by rw [h.lb, hlB]; simp)).trans h.blk, (hll _ (size_of h.blk)).trans h.lb, ?_, ?_, ?_, ?_, fun j hj => ?_⟩, ⟨rfl, rfl, rfl, hsz, hll, fun j hj hl => hkeep j hj (by rw [hl, hlB]; simp), rfl, rfl, rfl, rfl, rfl, fun _ h => List.mem_append_left _ h⟩⟩
  · refine h.t.add _ k hn (fun k' b' hm hl hs hR => (hkeep b' hs (by rw [hl, hlB]; simp)).trans hR) ?_
    show (nw w (ckB ck0) d.Bt _).heap[w.heap.size]? = some (ckB (M.tasks k))
    rw [h.t.zero k hn]
    exact nw_new hB
  · exact h.p.frame hsz (hkeep _ h.p.map.lt (by rw [h.p.lb, hlB]; simp)) hll (fun k' b' hm hl hs hR => hR.frame (hkeep b' hs (by rw [hl, hlB]; simp)) hll (fun j hj hl2 => hkeep j hj (by rcases hl2 with hl2 | hl2 <;> rw [hl2, hlB] <;> simp))) (fun _ _ h => h)
  · exact h.l.frame hsz (hkeep _ h.l.map.lt (by rw [h.l.lb, hlB]; simp)) hll (fun k' b' hm hl hs hR => (hkeep b' hs (by rw [hl, hlB]; simp)).trans hR) (fun _ _ h => h)
  · exact h.g.frame hsz (hkeep _ h.g.map.lt (by rw [h.g.lb, hlB]; simp)) hll (fun k' b' hm hl hs hR => (hkeep b' hs (by rw [hl, hlB]; simp)).trans hR) (fun _ _ h => h)
  · rw [nw_size] at hj
    exact (newLab_gt _ _ (by omega)).trans (h.hi j (by omega))

theorem PastAt.new_p {hv : Value} {w : World} {d : Dat} {M : PastM} (h : PastAt hv w d M) (k : Int) (hn : ∀ b, (k, b) ∉ d.kp) :
    PastAt hv (nw w (ppB (.slice none 0 0) (.slice none 0 0) ck0) d.Bp (.map (mpEnts (d.kp ++ [(k, w.heap.size)])) (d.kp ++ [(k, w.heap.size)]).length)) { d with kp := d.kp ++ [(k, w.heap.size)], lab := newLab d.lab w.heap.size (9, k), sv := updI d.sv k (.slice none 0 0), gv := updI d.gv k (.slice none 0 0) } M ∧
    Stp d { d with kp := d.kp ++ [(k, w.heap.size)], lab := newLab d.lab w.heap.size (9, k), sv := updI d.sv k (.slice none 0 0), gv := updI d.gv k (.slice none 0 0) } w (nw w (ppB (.slice none 0 0) (.slice none 0 0) ck0) d.Bp (.map (mpEnts (d.kp ++ [(k, w.heap.size)])) (d.kp ++ [(k, w.heap.size)]).length)) := by
  have hB := h.p.map.lt
  have hlB := h.p.lb
  have hkeep : ∀ j, j < w.heap.size → d.lab j ≠ d.lab d.Bp → (nw w (ppB (.slice none 0 0) (.slice none 0 0) ck0) d.Bp (.map (mpEnts (d.kp ++ [(k, w.heap.size)])) (d.kp ++ [(k, w.heap.size)]).length)).heap[j]? = w.heap[j]? := fun j hj hl => nw_keep hj (fun e => hl (by rw [e]))
  have hsz : w.heap.size ≤ (nw w (ppB (.slice none 0 0) (.slice none 0 0) ck0) d.Bp (.map (mpEnts (d.kp ++ [(k, w.heap.size)])) (d.kp ++ [(k, w.heap.size)]).length)).heap.size := by rw [nw_size]; omega
  have hll : ∀ j, j < w.heap.size → newLab d.lab w.heap.size (9, k) j = d.lab j := fun j hj => newLab_lt _ _ hj
  refine ⟨⟨(hkeep _ (size_of h.blk) (by rw [h.lb, hlB]; simp)).trans h.blk, (hll _ (size_of h.blk)).trans h.lb, ?_, ?_, ?_, ?_, fun j hj => ?_⟩, ⟨rfl, rfl, rfl, hsz, hll, fun j hj hl => hkeep j hj (by rw [hl, hlB]; simp), rfl, rfl, rfl, rfl, rfl, fun _ h => h⟩⟩
  · exact h.t.frame hsz (hkeep _ h.t.map.lt (by rw [h.t.lb, hlB]; simp)) hll (fun k' b' hm hl hs hR => (hkeep b' hs (by rw [hl, hlB]; simp)).trans hR) (fun _ _ h => h)
  · refine h.p.add _ k hn (fun k' b' hm hl hs hR => ?_) ?_
    · have e : k' ≠ k := fun e => hn b' (by rw [← e]; exact hm)
      show PipeAt _ _ (updI d.sv k _ k') (updI d.gv k _ k') k' b' _
      rw [updI_ne _ _ _ _ e, updI_ne _ _ _ _ e]
      exact hR.frame (hkeep b' hs (by rw [hl, hlB]; simp)) hll (fun j hj hl2 => hkeep j hj (by rcases hl2 with hl2 | hl2 <;> rw [hl2, hlB] <;> simp))
    · show PipeAt _ _ (updI d.sv k _ k) (updI d.gv k _ k) k _ _
      rw [updI_same, updI_same, h.p.zero k hn]
      exact ⟨nw_new hB, own_nil _ _, (fun j hj => by cases hj), own_nil _ _, (fun j hj => by cases hj)⟩
  · exact h.l.frame hsz (hkeep _ h.l.map.lt (by rw [h.l.lb, hlB]; simp)) hll (fun k' b' hm hl hs hR => (hkeep b' hs (by rw [hl, hlB]; simp)).trans hR) (fun _ _ h => h)
  · exact h.g.frame hsz (hkeep _ h.g.map.lt (by rw [h.g.lb, hlB]; simp)) hll (fun k' b' hm hl hs hR => (hkeep b' hs (by rw [hl, hlB]; simp)).trans hR) (fun _ _ h => h)
  · rw [nw_size] at hj
    exact (newLab_gt _ _ (by omega)).trans (h.hi j (by omega))

theorem PastAt.new_g {hv : Value} {w : World} {d : Dat} {M : PastM} (h : PastAt hv w d M) (k : Int) (hn : ∀ b, (k, b) ∉ d.kg) :
    PastAt hv (nw w (ckB ck0) d.Bg (.map (mpEnts (d.kg ++ [(k, w.heap.size)])) (d.kg ++ [(k, w.heap.size)]).length)) { d with kg := d.kg ++ [(k, w.heap.size)], lab := newLab d.lab w.heap.size (7, k) } M ∧
    Stp d { d with kg := d.kg ++ [(k, w.heap.size)], lab := newLab d.lab w.heap.size (7, k) } w (nw w (ckB ck0) d.Bg (.map (mpEnts (d.kg ++ [(k, w.heap.size)])) (d.kg ++ [(k, w.heap.size)]).length)) := by
  have hB := h.g.map.lt
  have hlB := h.g.lb
  have hkeep : ∀ j, j < w.heap.size → d.lab j ≠ d.lab d.Bg → (nw w (ckB ck0) d.Bg (.map (mpEnts (d.kg ++ [(k, w.heap.size)])) (d.kg ++ [(k, w.heap.size)]).length)).heap[j]? = w.heap[j]? := fun j hj hl => nw_keep hj (fun e => hl (by rw [e]))
  have hsz : w.heap.size ≤ (nw w (ckB ck0) d.Bg (.map (mpEnts (d.kg ++ [(k, w.heap.size)])) (d.kg ++ [(k, w.heap.size)]).length)).heap.size := by rw [nw_size]; omega
  have hll : ∀ j, j < w.heap.size → newLab d.lab w.heap.size (7, k) j = d.lab j := fun j hj => newLab_lt _ _ hj
  refine ⟨⟨(hkeep _ (size_of h.blk) (by rw [h.lb, hlB]; simp)).trans h.blk, (hll _ (size_of h.blk)).trans h.lb, ?_, ?_, ?_, ?_, fun j hj => ?_⟩, ⟨rfl, rfl, rfl, hsz, hll, fun j hj hl => hkeep j hj (by rw [hl, hlB]; simp), rfl, rfl, rfl, rfl, rfl, fun _ h => h⟩⟩
  · exact h.t.frame hsz (hkeep _ h.t.map.lt (by rw [h.t.lb, hlB]; simp)) hll (fun k' b' hm hl hs hR => (hkeep b' hs (by rw [hl, hlB]; simp)).trans hR) (fun _ _ h => h)
  · exact h.p.frame hsz (hkeep _ h.p.map.lt (by rw [h.p.lb, hlB]; simp)) hll (fun k' b' hm hl hs hR => hR.frame (hkeep b' hs (by rw [hl, hlB]; simp)) hll (fun j hj hl2 => hkeep j hj (by rcases hl2 with hl2 | hl2 <;> rw [hl2, hlB] <;> simp))) (fun _ _ h => h)
  · exact h.l.frame hsz (hkeep _ h.l.map.lt (by rw [h.l.lb, hlB]; simp)) hll (fun k' b' hm hl hs hR => (hkeep b' hs (by rw [hl, hlB]; simp)).trans hR) (fun _ _ h => h)
  · refine h.g.add _ k hn (fun k' b' hm hl hs hR => (hkeep b' hs (by rw [hl, hlB]; simp)).trans hR) ?_
    show (nw w (ckB ck0) d.Bg _).heap[w.heap.size]? = some (ckB (M.groups k))
    rw [h.g.zero k hn]
    exact nw_new hB
  · rw [nw_size] at hj
    exact (newLab_gt _ _ (by omega)).trans (h.hi j (by omega))

theorem PastAt.new_l {hv : Value} {w : World} {d : Dat} {M : PastM} (h : PastAt hv w d M) (k : Int) (hn : ∀ b, (k, b) ∉ d.kl) :
    PastAt hv (nw w (lkB lock0) d.Bl (.map (mpEnts (d.kl ++ [(k, w.heap.size)])) (d.kl ++ [(k, w.heap.size)]).length)) { d with kl := d.kl ++ [(k, w.heap.size)], lab := newLab d.lab w.heap.size (8, k) } M ∧
    Stp d { d with kl := d.kl ++ [(k, w.heap.size)], lab := newLab d.lab w.heap.size (8, k) } w (nw w (lkB lock0) d.Bl (.map (mpEnts (d.kl ++ [(k, w.heap.size)])) (d.kl ++ [(k, w.heap.size)]).length)) := by
  have hB := h.l.map.lt
  have hlB := h.l.lb
  have hkeep : ∀ j, j < w.heap.size → d.lab j ≠ d.lab d.Bl → (nw w (lkB lock0) d.Bl (.map (mpEnts (d.kl ++ [(k, w.heap.size)])) (d.kl ++ [(k, w.heap.size)]).length)).heap[j]? = w.heap[j]? := fun j hj hl => nw_keep hj (fun e => hl (by rw [e]))
  have hsz : w.heap.size ≤ (nw w (lkB lock0) d.Bl (.map (mpEnts (d.kl ++ [(k, w.heap.size)])) (d.kl ++ [(k, w.heap.size)]).length)).heap.size := by rw [nw_size]; omega
  have hll : ∀ j, j < w.heap.size → newLab d.lab w.heap.size (8, k) j = d.lab j := fun j hj => newLab_lt _ _ hj
  refine ⟨⟨(hkeep _ (size_of h.blk) (by rw [h.lb, hlB]; simp)).trans h.blk, (hll _ (size_of h.blk)).trans h.lb, ?_, ?_, ?_, ?_, fun j hj => ?_⟩, ⟨rfl, rfl, rfl, hsz, hll, fun j hj hl => hkeep j hj (by rw [hl, hlB]; simp), rfl, rfl, rfl, rfl, rfl, fun _ h => h⟩⟩
  · exact h.t.frame hsz (hkeep _ h.t.map.lt (by rw [h.t.lb, hlB]; simp)) hll (fun k' b' hm hl hs hR => (hkeep b' hs (by rw [hl, hlB]; simp)).trans hR) (fun _ _ h => h)
  · exact h.p.frame hsz (hkeep _ h.p.map.lt (by rw [h.p.lb, hlB]; simp)) hll (fun k' b' hm hl hs hR => hR.frame (hkeep b' hs (by rw [hl, hlB]; simp)) hll (fun j hj hl2 => hkeep j hj (by rcases hl2 with hl2 | hl2 <;> rw [hl2, hlB] <;> simp))) (fun _ _ h => h)
  · refine h.l.add _ k hn (fun k' b' hm hl hs hR => (hkeep b' hs (by rw [hl, hlB]; simp)).trans hR) ?_
    show (nw w (lkB lock0) d.Bl _).heap[w.heap.size]? = some (lkB (M.locks k))
    rw [h.l.zero k hn]
    exact nw_new hB
  · exact h.g.frame hsz (hkeep _ h.g.map.lt (by rw [h.g.lb, hlB]; simp)) hll (fun k' b' hm hl hs hR => (hkeep b' hs (by rw [hl, hlB]; simp)).trans hR) (fun _ _ h => h)
  · rw [nw_size] at hj
    exact (newLab_gt _ _ (by omega)).trans (h.hi j (by omega))

theorem Try.zeroPipe (w : World) : (zeroValue 109).run Try.prog w = .ok (.agg (.slice none 0 0 :: .slice none 0 0 :: ckL ck0).toArray) w := by
  rw [ck0_list]
  exact (zero_of_info (P := Try.prog) (t := 109) (n := 66) (by kernel_rfl)).1 w
theorem Try.zeroLock (w : World) : (zeroValue 115).run Try.prog w = .ok (.agg (ckL ck0 ++ ckL ck0).toArray) w := by
  rw [ck0_list]
  exact (zero_of_info (P := Try.prog) (t := 115) (n := 128) (by kernel_rfl)).1 w

set_option maxRecDepth 100000 in
set_option maxHeartbeats 1000000 in
theorem found_hit_clock (w : World) (B : Nat) (ks : List (Int × Nat)) (hb : IsMap w B ks) (x : Int) (b0 : Nat) (hs : (x, b0) ∈ ks) :
    Calls Try.prog 50 #[.map (some B), .int .i64 x] w fun e w' => ∃ b, (x, b) ∈ ks ∧ e = .returned (.pointer (some ⟨b, 0, none⟩)) ∧ w' = w := by
  obtain ⟨b, hm, hk⟩ := look_hit_clock w B ks hb x b0 hs
  have HM := hide hm
  clear hm
  go_enter Try.func50, Try.ntmps50
  go_wp2
  go_ret
  exact ⟨b, unhide HM, rfl, rfl⟩

set_option maxRecDepth 100000 in
set_option maxHeartbeats 1000000 in
theorem found_miss_clock (w : World) (B : Nat) (ks : List (Int × Nat)) (hb : IsMap w B ks) (x : Int) (hs : ∀ b, (x, b) ∉ ks) :
    Calls Try.prog 50 #[.map (some B), .int .i64 x] w fun e w' => e = .returned (.pointer (some ⟨w.heap.size, 0, none⟩)) ∧ w' = nw w (.cells (ckL ck0).toArray 65 (0, 0)) B (.map (mpEnts (ks ++ [(x, w.heap.size)])) (ks ++ [(x, w.heap.size)]).length) := by
  have hk := look_miss_clock w B ks hb x hs
  have hu := upd_clock (w.alloc (.cells (ckL ck0).toArray 65 (0, 0))) B ks (keep_alloc hb _) x w.heap.size hs
  unfold nw
  obtain ⟨W2, eW2⟩ : ∃ X, putObj (w.alloc (.cells (ckL ck0).toArray 65 (0, 0))) B (.map (mpEnts (ks ++ [(x, w.heap.size)])) (ks ++ [(x, w.heap.size)]).length) = X := ⟨_, rfl⟩
  rw [eW2] at hu ⊢
  clear eW2 hs
  go_enter Try.func50, Try.ntmps50
  go_upto_region 4 with fail
  rw [ck0_arr]
  go_wp2
  go_ret
  exact ⟨rfl, rfl⟩

set_option maxRecDepth 100000 in
set_option maxHeartbeats 1000000 in
theorem found_hit_lock (w : World) (B : Nat) (ks : List (Int × Nat)) (hb : IsMap w B ks) (x : Int) (b0 : Nat) (hs : (x, b0) ∈ ks) :
    Calls Try.prog 57 #[.map (some B), .int .i64 x] w fun e w' => ∃ b, (x, b) ∈ ks ∧ e = .returned (.pointer (some ⟨b, 0, none⟩)) ∧ w' = w := by
  obtain ⟨b, hm, hk⟩ := look_hit_lock w B ks hb x b0 hs
  have HM := hide hm
  clear hm
  go_enter Try.func57, Try.ntmps57
  go_wp2
  go_ret
  exact ⟨b, unhide HM, rfl, rfl⟩

set_option maxRecDepth 100000 in
set_option maxHeartbeats 1000000 in
theorem found_miss_lock (w : World) (B : Nat) (ks : List (Int × Nat)) (hb : IsMap w B ks) (x : Int) (hs : ∀ b, (x, b) ∉ ks) :
    Calls Try.prog 57 #[.map (some B), .int .i64 x] w fun e w' => e = .returned (.pointer (some ⟨w.heap.size, 0, none⟩)) ∧ w' = nw w (.cells (ckL ck0 ++ ckL ck0).toArray 115 (0, 0)) B (.map (mpEnts (ks ++ [(x, w.heap.size)])) (ks ++ [(x, w.heap.size)]).length) := by
  have hk := look_miss_lock w B ks hb x hs
  have hu := upd_lock (w.alloc (.cells (ckL ck0 ++ ckL ck0).toArray 115 (0, 0))) B ks (keep_alloc hb _) x w.heap.size hs
  unfold nw
  obtain ⟨W2, eW2⟩ : ∃ X, putObj (w.alloc (.cells (ckL ck0 ++ ckL ck0).toArray 115 (0, 0))) B (.map (mpEnts (ks ++ [(x, w.heap.size)])) (ks ++ [(x, w.heap.size)]).length) = X := ⟨_, rfl⟩
  rw [eW2] at hu ⊢
  clear eW2 hs
  have hz := Try.zeroLock
  go_enter Try.func57, Try.ntmps57
  go_upto_region 4 with fail
  go_wp2
  go_ret
  exact ⟨rfl, rfl⟩

set_option maxRecDepth 100000 in
set_option maxHeartbeats 1000000 in
theorem found_hit_pipe (w : World) (B : Nat) (ks : List (Int × Nat)) (hb : IsMap w B ks) (x : Int) (b0 : Nat) (hs : (x, b0) ∈ ks) :
    Calls Try.prog 54 #[.map (some B), .int .i64 x] w fun e w' => ∃ b, (x, b) ∈ ks ∧ e = .returned (.pointer (some ⟨b, 0, none⟩)) ∧ w' = w := by
  obtain ⟨b, hm, hk⟩ := look_hit_pipe w B ks hb x b0 hs
  have HM := hide hm
  clear hm
  go_enter Try.func54, Try.ntmps54
  go_wp2
  go_ret
  exact ⟨b, unhide HM, rfl, rfl⟩

set_option maxRecDepth 100000 in
set_option maxHeartbeats 1000000 in
theorem found_miss_pipe (w : World) (B : Nat) (ks : List (Int × Nat)) (hb : IsMap w B ks) (x : Int) (hs : ∀ b, (x, b) ∉ ks) :
    Calls Try.prog 54 #[.map (some B), .int .i64 x] w fun e w' => e = .returned (.pointer (some ⟨w.heap.size, 0, none⟩)) ∧ w' = nw w (.cells (.slice none 0 0 :: .slice none 0 0 :: ckL ck0).toArray 109 (0, 0)) B (.map (mpEnts (ks ++ [(x, w.heap.size)])) (ks ++ [(x, w.heap.size)]).length) := by
  have hk := look_miss_pipe w B ks hb x hs
  have hu := upd_pipe (w.alloc (.cells (.slice none 0 0 :: .slice none 0 0 :: ckL ck0).toArray 109 (0, 0))) B ks (keep_alloc hb _) x w.heap.size hs
  unfold nw
  obtain ⟨W2, eW2⟩ : ∃ X, putObj (w.alloc (.cells (.slice none 0 0 :: .slice none 0 0 :: ckL ck0).toArray 109 (0, 0))) B (.map (mpEnts (ks ++ [(x, w.heap.size)])) (ks ++ [(x, w.heap.size)]).length) = X := ⟨_, rfl⟩
  rw [eW2] at hu ⊢
  clear eW2 hs
  have hz := Try.zeroPipe
  go_enter Try.func54, Try.ntmps54
  go_upto_region 4 with fail
  go_wp2
  go_ret
  exact ⟨rfl, rfl⟩

theorem found_t (w : World) (hv : Value) (d : Dat) (M : PastM) (h : PastAt hv w d M) (k : Int) :
    Calls Try.prog 50 #[.map (some d.Bt), .int .i64 k] w fun e w' => ∃ d' b, e = .returned (.pointer (some ⟨b, 0, none⟩)) ∧ (k, b) ∈ d'.kt ∧ PastAt hv w' d' M ∧ Stp d d' w w' := by
  by_cases hm : ∃ b, (k, b) ∈ d.kt
  · obtain ⟨b0, hb0⟩ := hm
    refine (found_hit_clock w d.Bt d.kt h.t.map k b0 hb0).mono ?_
    rintro e w' ⟨b, hb, rfl, rfl⟩
    exact ⟨d, b, rfl, hb, h, Stp.refl _ _⟩
  · have hn : ∀ b, (k, b) ∉ d.kt := fun b hb => hm ⟨b, hb⟩
    refine (found_miss_clock w d.Bt d.kt h.t.map k hn).mono ?_
    rintro e w' ⟨rfl, rfl⟩
    obtain ⟨h1, h2⟩ := h.new_t k hn
    exact ⟨_, _, rfl, List.mem_append_right _ (List.mem_singleton.2 rfl), h1, h2⟩

theorem found_p (w : World) (hv : Value) (d : Dat) (M : PastM) (h : PastAt hv w d M) (k : Int) :
    Calls Try.prog 54 #[.map (some d.Bp), .int .i64 k] w fun e w' => ∃ d' b, e = .returned (.pointer (some ⟨b, 0, none⟩)) ∧ (k, b) ∈ d'.kp ∧ PastAt hv w' d' M ∧ Stp d d' w w' := by
  by_cases hm : ∃ b, (k, b) ∈ d.kp
  · obtain ⟨b0, hb0⟩ := hm
    refine (found_hit_pipe w d.Bp d.kp h.p.map k b0 hb0).mono ?_
    rintro e w' ⟨b, hb, rfl, rfl⟩
    exact ⟨d, b, rfl, hb, h, Stp.refl _ _⟩
  · have hn : ∀ b, (k, b) ∉ d.kp := fun b hb => hm ⟨b, hb⟩
    refine (found_miss_pipe w d.Bp d.kp h.p.map k hn).mono ?_
    rintro e w' ⟨rfl, rfl⟩
    obtain ⟨h1, h2⟩ := h.new_p k hn
    exact ⟨_, _, rfl, List.mem_append_right _ (List.mem_singleton.2 rfl), h1, h2⟩

theorem found_l (w : World) (hv : Value) (d : Dat) (M : PastM) (h : PastAt hv w d M) (k : Int) :
    Calls Try.prog 57 #[.map (some d.Bl), .int .i64 k] w fun e w' => ∃ d' b, e = .returned (.pointer (some ⟨b, 0, none⟩)) ∧ (k, b) ∈ d'.kl ∧ PastAt hv w' d' M ∧ Stp d d' w w' := by
  by_cases hm : ∃ b, (k, b) ∈ d.kl
  · obtain ⟨b0, hb0⟩ := hm
    refine (found_hit_lock w d.Bl d.kl h.l.map k b0 hb0).mono ?_
    rintro e w' ⟨b, hb, rfl, rfl⟩
    exact ⟨d, b, rfl, hb, h, Stp.refl _ _⟩
  · have hn : ∀ b, (k, b) ∉ d.kl := fun b hb => hm ⟨b, hb⟩
    refine (found_miss_lock w d.Bl d.kl h.l.map k hn).mono ?_
    rintro e w' ⟨rfl, rfl⟩
    obtain ⟨h1, h2⟩ := h.new_l k hn
    exact ⟨_, _, rfl, List.mem_append_right _ (List.mem_singleton.2 rfl), h1, h2⟩

theorem found_g (w : World) (hv : Value) (d : Dat) (M : PastM) (h : PastAt hv w d M) (k : Int) :
    Calls Try.prog 50 #[.map (some d.Bg), .int .i64 k] w fun e w' => ∃ d' b, e = .returned (.pointer (some ⟨b, 0, none⟩)) ∧ (k, b) ∈ d'.kg ∧ PastAt hv w' d' M ∧ Stp d d' w w' := by
  by_cases hm : ∃ b, (k, b) ∈ d.kg
  · obtain ⟨b0, hb0⟩ := hm
    refine (found_hit_clock w d.Bg d.kg h.g.map k b0 hb0).mono ?_
    rintro e w' ⟨b, hb, rfl, rfl⟩
    exact ⟨d, b, rfl, hb, h, Stp.refl _ _⟩
  · have hn : ∀ b, (k, b) ∉ d.kg := fun b hb => hm ⟨b, hb⟩
    refine (found_miss_clock w d.Bg d.kg h.g.map k hn).mono ?_
    rintro e w' ⟨rfl, rfl⟩
    obtain ⟨h1, h2⟩ := h.new_g k hn
    exact ⟨_, _, rfl, List.mem_append_right _ (List.mem_singleton.2 rfl), h1, h2⟩

end Go.Proofs.Ytbnmeeabpjmcoaa
