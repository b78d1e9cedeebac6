/-
  Rows of slices; append, and where the row lies then.
-/
import Derived.Test.YtpgokeogijpmaabDoorKd
import Derived.Test.YtpgokeogijpmaabDoorX
import Derived.Laws.OwnMore
import Derived.LoopN
namespace Go.Proofs.YtpgokeogijpmaabDoor.Mx
open Go.RowKit

section
variable {α : Type} {K : Kind α}
/-- append to a row of its own, and where the row lies then. -/
theorem append_wp2 (hK : K.Ok) {w : World} {o : Oper} {a : Act} {Q : Exit → Act → World → Prop} {Kn : Act → World → Prop} (s x : Operand)
    (ho : o.op = .call { callee := .builtin .append, args := #[s, x], argTypes := #[K.t, K.t] }) (base : Nat) (v : Value) (xs : List α) (hs : a.eval s = v) (hown : Own K base w v xs)
    (xv : Value) (ys : List α) (hx : a.eval x = xv) (hr : IsL K w xv ys) (n : Nat) (hn : xs.length + ys.length = n) (hbytes : n * K.bytes ≤ 140737488355328) (hbase : base ≤ w.heap.size)
    (h : ∀ a' c' w', Own K base w' (.slice a' n c') (xs ++ ys) → w.grownBy w' v.ownBlock → (∀ k, (Value.slice a' n c').ownBlock = some k → v.ownBlock = some k ∨ w.heap.size ≤ k) → Kn (a.put o.dst (.slice a' n c')) w') : Oper.wp Tryd.prog o a w Kn Q := by
  subst hn
  have hlen : xs.length + ys.length ≤ maxLen := by
    have h1 := Nat.mul_le_mul_left (xs.length + ys.length) hK.bpos
    unfold maxLen
    omega
  obtain ⟨i0, z, hi, hz0, hz1, hz2, hz3⟩ := hK.info
  obtain ⟨hl, ⟨rfl, h0⟩ | ⟨ad, c, rfl, hc⟩⟩ := hr.1
  · have e : ys = [] := List.eq_nil_of_length_eq_zero h0
    subst e
    have hrun := run_append_owned_none (P := Tryd.prog) (w := w) base K.t o.type K.e i0 K.k hK.und hi v xs.length _ hown
    obtain ⟨a', c', rfl⟩ := Rd.form (Rd.of_owns hown)
    unfold Oper.wp
    simp [execOp, ho, resolve, invoke, builtin, hs, hx, hrun, Result.andThen]
    exact h a' c' w (by rw [List.append_nil]; exact hown) (grownBy_refl w _) (fun k hk => Or.inl hk)
  · obtain ⟨v', w', hr', ho', hg, -⟩ := run_append_own (P := Tryd.prog) w base K.t o.type K.e i0 z K.k K.bytes hK.und hi hz0 hz1 hz2 hz3 hK.pos v xs.length _ hown ad ys.length c _ hl hc (flat_one hK ys) hlen hbytes hbase
    have hloc : ∀ k, v'.ownBlock = some k → v.ownBlock = some k ∨ w.heap.size ≤ k := by
      rcases hown.2 with ⟨rfl, h0⟩ | ⟨g, cap, cur, rfl, hbg, hgg, hnc, hcm, hcs, htake⟩
      · have e : xs = [] := List.eq_nil_of_length_eq_zero h0
        subst e
        obtain ⟨v2, w2, hr2, ho2, -, -⟩ := run_append_own (P := Tryd.prog) w w.heap.size K.t o.type K.e i0 z K.k K.bytes hK.und hi hz0 hz1 hz2 hz3 hK.pos (.slice none 0 0) 0 _ (World.ownsRow_nil w w.heap.size K.e K.k) ad ys.length c _ hl hc (flat_one hK ys) (by simpa using hlen) (by simpa using hbytes) (Nat.le_refl _)
        rw [hr2] at hr'
        cases hr'
        exact fun k hk => Or.inr (ho2.lt k hk).1
      · by_cases hroom : xs.length + ys.length ≤ cap
        · have hfit : xs.length * i0.size + (ys.flatMap K.f).length ≤ cur.size := by rw [hl, hcs, hz1, ← Nat.add_mul]; exact Nat.mul_le_mul_right _ hroom
          have hr2 := run_append_room (P := Tryd.prog) w K.t o.type K.e i0 hK.und hi g xs.length cap cur hgg ad ys.length c _ (by rw [hz1]; exact hl) hc (flat_one hK ys) hroom hfit
          rw [hr2] at hr'
          cases hr'
          exact fun k hk => Or.inl hk
        · have holds : ∀ j u, (xs.flatMap K.f)[j]? = some u → w.cell? ((⟨g, 0, none⟩ : Addr).add j) = some u := hown.cells (g := g) rfl
          have hr2 := run_append_grow (P := Tryd.prog) w K.t o.type K.e i0 z hK.und hi hz0 ⟨g, 0, none⟩ xs.length cap (xs.flatMap K.f) (by rw [hz1]; exact hown.1) holds ad ys.length c _ (by rw [hz1]; exact hl) hc (by omega) (by simp only [maxLen] at hlen; omega) (by rw [hz2]; exact growslice_fits (by omega) hbytes)
          rw [hr2] at hr'
          cases hr'
          intro k hk
          cases hk
          exact Or.inr (Nat.le_refl _)
    rw [← List.flatMap_append] at ho'
    have ho2 : Own K base w' v' (xs ++ ys) := by rw [Own, List.length_append]; exact ho'
    obtain ⟨a', c', rfl⟩ := Rd.form (Rd.of_owns ho')
    unfold Oper.wp execOp
    simp only [ho, resolve, invoke, builtin, Sem.run_bind, Sem.run_pure, Result.andThen_ok, List.map_toArray, List.map_cons, List.map_nil, hs, hx, hr']
    exact h a' c' w' ho2 hg hloc
theorem wpList_append2 (hK : K.Ok) {w : World} {ops : Array Oper} {rest : List Oper} {o : Oper} {a : Act} {Q : Exit → Act → World → Prop} (hw : Region.wanted o (yielded ops a.tmps) = true) (s x : Operand)
    (ho : o.op = .call { callee := .builtin .append, args := #[s, x], argTypes := #[K.t, K.t] }) (base : Nat) (v : Value) (xs : List α) (hs : a.eval s = v) (hown : Own K base w v xs)
    (xv : Value) (ys : List α) (hx : a.eval x = xv) (hr : IsL K w xv ys) (n : Nat) (hn : xs.length + ys.length = n) (hbytes : n * K.bytes ≤ 140737488355328) (hbase : base ≤ w.heap.size)
    (h : ∀ a' c' w', Own K base w' (.slice a' n c') (xs ++ ys) → w.grownBy w' v.ownBlock → (∀ k, (Value.slice a' n c').ownBlock = some k → v.ownBlock = some k ∨ w.heap.size ≤ k) → wpList Tryd.prog ops Q rest (a.put o.dst (.slice a' n c')) w') : wpList Tryd.prog ops Q (o :: rest) a w :=
  Go.BigFrame.wpList_want hw fun _ hKn => append_wp2 hK s x ho base v xs hs hown xv ys hx hr n hn hbytes hbase fun a' c' w' h1 h2 h3 => hKn _ _ (h a' c' w' h1 h2 h3)

/-- The same at a step of a region that draws its order. -/
theorem step_append2 (hK : K.Ok) {w : World} {ops : Array Oper} {o : Oper} {a : Act} {Kn : Act → World → Prop} {Q : Exit → Act → World → Prop} {E : Prop} (hw : Region.wanted o (yielded ops a.tmps) = true) (s x : Operand)
    (ho : o.op = .call { callee := .builtin .append, args := #[s, x], argTypes := #[K.t, K.t] }) (base : Nat) (v : Value) (xs : List α) (hs : a.eval s = v) (hown : Own K base w v xs)
    (xv : Value) (ys : List α) (hx : a.eval x = xv) (hr : IsL K w xv ys) (n : Nat) (hn : xs.length + ys.length = n) (hbytes : n * K.bytes ≤ 140737488355328) (hbase : base ≤ w.heap.size)
    (h : ∀ a' c' w', Own K base w' (.slice a' n c') (xs ++ ys) → w.grownBy w' v.ownBlock → (∀ k, (Value.slice a' n c').ownBlock = some k → v.ownBlock = some k ∨ w.heap.size ≤ k) → Kn (a.put o.dst (.slice a' n c')) w') :
    if Region.wanted o (yielded ops a.tmps) = true then Oper.wp Tryd.prog o a w Kn Q else E := by
  rw [if_pos hw]
  exact append_wp2 hK s x ho base v xs hs hown xv ys hx hr n hn hbytes hbase h
end

/-- A slice: where it lies, its length, its room. -/
abbrev Sl := Option Addr × Nat × Nat
def sl (u : Sl) : Value := .slice u.1 u.2.1 u.2.2
def KT : Kind Sl := ⟨fun u => [sl u], 1, 22, 23, 24, (none, 0, 0)⟩
def KQ : Kind Sl := ⟨fun u => [sl u], 1, 27, 25, 24, (none, 0, 0)⟩
theorem info22 : (Tryd.prog.info? 22).map (fun i => (i.zero, i.size, i.bytes)) = some (some (.slice none 0 0), 1, 24) := by kernel_rfl
theorem info27 : (Tryd.prog.info? 27).map (fun i => (i.zero, i.size, i.bytes)) = some (some (.slice none 0 0), 1, 24) := by kernel_rfl
theorem kt : KT.Ok := by
  refine ⟨fun _ => rfl, fun x u hu => ?_, by decide, by decide, Tryd.underlying23, ?_⟩
  · simp only [KT, List.mem_singleton] at hu; subst hu; rfl
  · obtain ⟨i0, hi, h0, h1, h2⟩ := info_parts info22
    exact ⟨i0, _, hi, h0, h1, h2, rfl⟩
theorem kq : KQ.Ok := by
  refine ⟨fun _ => rfl, fun x u hu => ?_, by decide, by decide, Tryd.underlying25, ?_⟩
  · simp only [KQ, List.mem_singleton] at hu; subst hu; rfl
  · obtain ⟨i0, hi, h0, h1, h2⟩ := info_parts info27
    exact ⟨i0, _, hi, h0, h1, h2, rfl⟩
def uAt (us : List Sl) (i : Nat) : Sl := us.getD i (none, 0, 0)
theorem Lies.sls {w : World} {b off : Nat} {us : List Sl} (h : Lies KQ w b off us) {j : Nat} (hj : j < us.length) : w.cell? ⟨b, off + j, none⟩ = some (sl (uAt us j)) := by
  have := h j 0 _ hj rfl
  simp only [KQ, Nat.mul_one, Nat.add_zero] at this
  exact this

/-- A list of numbers, as it is read (both forms). -/
theorem isl_ints {w : World} {v : Value} {zs : List Int} (h : IsL KI w v zs) : IsInts w v zs := by
  have e : zs.flatMap KI.f = zs.map (Value.int .i64) := by
    induction zs with
    | nil => rfl
    | cons z r ih => rw [List.flatMap_cons, List.map_cons]; show [Value.int .i64 z] ++ r.flatMap KI.f = _; rw [show r.flatMap KI.f = r.map (Value.int .i64) from by clear ih h; induction r with | nil => rfl | cons y r ih => rw [List.flatMap_cons, List.map_cons, ih]; rfl]; rfl
  unfold IsInts
  rw [← e]
  exact h.1
/-- The tasks, as they are read. -/
structure IsTs (w : World) (v : Value) (us : List Sl) (tss : List (List Op4)) : Prop where
  row : IsL KQ w v us
  len : us.length = tss.length
  each : ∀ i, i < tss.length → IsOps w (sl (uAt us i)) (tss.getD i [])
theorem IsTs.below {w w' : World} {v : Value} {us : List Sl} {tss : List (List Op4)} (h : IsTs w v us tss) (hb : Below w.heap.size w w') : IsTs w' v us tss := ⟨h.row.below hb, h.len, fun i hi => Rd.below (h.each i hi) hb⟩

/-- The statement that is the region n, and what follows it. -/
def cutAt (n : Nat) : Code → Option (Code × Code)
  | .seq (.region id ops dr) b => bif Nat.beq id n then some (.region id ops dr, b) else cutAt n b
  | .seq _ b => cutAt n b
  | _ => none
/-- The loop n, and what follows it. -/
def loopFor (n : Nat) : Code → Option (Code × Code)
  | .seq (.seq _ (.block id (.loop b))) r => bif Nat.beq id n then some (b, r) else loopFor n r
  | .seq _ r => loopFor n r
  | _ => none
/-- What the block n holds, and what follows it. -/
def blockIn (n : Nat) : Code → Option (Code × Code)
  | .seq (.block id b) r => bif Nat.beq id n then some (b, r) else blockIn n r
  | .seq _ r => blockIn n r
  | _ => none
/-- The two ways of the last statement. -/
def arms : Code → Option (Code × Code)
  | .cond _ a b => some (a, b)
  | .seq _ r => arms r
  | _ => none
theorem in_b0 {K : Act → World → Prop} {Q : Exit → Act → World → Prop} {n : Nat} {a : Act} {w : World} (h : K a w) : Exit.inBlock n (Exit.then K Q) (.exit n) a w := by
  have e : Exit.inBlock n (Exit.then K Q) (.exit n) a w = K a w := by simp [Exit.inBlock, Exit.then]
  rw [e]
  exact h

end Go.Proofs.YtpgokeogijpmaabDoor.Mx
