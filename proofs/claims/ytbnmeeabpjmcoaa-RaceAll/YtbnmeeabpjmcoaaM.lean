/-
  append, and where the row lies then; the methods keepSend and keepGet.
-/
import Derived.Test.YtbnmeeabpjmcoaaL
import Derived.Laws.OwnMore
namespace Go.Proofs.Ytbnmeeabpjmcoaa
open Go.RowKit

section
variable {α : Type} {K : Kind α}
/-- append to a row of its own, and where the row lies then. -/
theorem append_wp2 (hK : K.Ok) {w : World} {o : Oper} {a : Act} {Q : Exit → Act → World → Prop} {Kn : Act → World → Prop} (s x : Operand)
    (ho : o.op = .call { callee := .builtin .append, args := #[s, x], argTypes := #[K.t, K.t] }) (base : Nat) (v : Value) (xs : List α) (hs : a.eval s = v) (hown : Own K base w v xs)
    (xv : Value) (ys : List α) (hx : a.eval x = xv) (hr : IsL K w xv ys) (n : Nat) (hn : xs.length + ys.length = n) (hbytes : n * K.bytes ≤ 140737488355328) (hbase : base ≤ w.heap.size)
    (h : ∀ a' c' w', Own K base w' (.slice a' n c') (xs ++ ys) → w.grownBy w' v.ownBlock → (∀ k, (Value.slice a' n c').ownBlock = some k → v.ownBlock = some k ∨ w.heap.size ≤ k) → Kn (a.put o.dst (.slice a' n c')) w') : Oper.wp Try.prog o a w Kn Q := by
  subst hn
  have hlen : xs.length + ys.length ≤ maxLen := by
    have h1 := Nat.mul_le_mul_left (xs.length + ys.length) hK.bpos
    unfold maxLen
    omega
  obtain ⟨i0, z, hi, hz0, hz1, hz2, hz3⟩ := hK.info
  obtain ⟨hl, ⟨rfl, h0⟩ | ⟨ad, c, rfl, hc⟩⟩ := hr.1
  · have e : ys = [] := List.eq_nil_of_length_eq_zero h0
    subst e
    have hrun := run_append_owned_none (P := Try.prog) (w := w) base K.t o.type K.e i0 K.k hK.und hi v xs.length _ hown
    obtain ⟨a', c', rfl⟩ := Rd.form (Rd.of_owns hown)
    unfold Oper.wp
    simp [execOp, ho, resolve, invoke, builtin, hs, hx, hrun, Result.andThen]
    exact h a' c' w (by rw [List.append_nil]; exact hown) (grownBy_refl w _) (fun k hk => Or.inl hk)
  · obtain ⟨v', w', hr', ho', hg, -⟩ := run_append_own (P := Try.prog) w base K.t o.type K.e i0 z K.k K.bytes hK.und hi hz0 hz1 hz2 hz3 hK.pos v xs.length _ hown ad ys.length c _ hl hc (flat_one hK ys) hlen hbytes hbase
    have hloc : ∀ k, v'.ownBlock = some k → v.ownBlock = some k ∨ w.heap.size ≤ k := by
      rcases hown.2 with ⟨rfl, h0⟩ | ⟨g, cap, cur, rfl, hbg, hgg, hnc, hcm, hcs, htake⟩
      · have e : xs = [] := List.eq_nil_of_length_eq_zero h0
        subst e
        obtain ⟨v2, w2, hr2, ho2, -, -⟩ := run_append_own (P := Try.prog) w w.heap.size K.t o.type K.e i0 z K.k K.bytes hK.und hi hz0 hz1 hz2 hz3 hK.pos (.slice none 0 0) 0 _ (World.ownsRow_nil w w.heap.size K.e K.k) ad ys.length c _ hl hc (flat_one hK ys) (by simpa using hlen) (by simpa using hbytes) (Nat.le_refl _)
        rw [hr2] at hr'
        cases hr'
        exact fun k hk => Or.inr (ho2.lt k hk).1
      · by_cases hroom : xs.length + ys.length ≤ cap
        · have hfit : xs.length * i0.size + (ys.flatMap K.f).length ≤ cur.size := by rw [hl, hcs, hz1, ← Nat.add_mul]; exact Nat.mul_le_mul_right _ hroom
          have hr2 := run_append_room (P := Try.prog) w K.t o.type K.e i0 hK.und hi g xs.length cap cur hgg ad ys.length c _ (by rw [hz1]; exact hl) hc (flat_one hK ys) hroom hfit
          rw [hr2] at hr'
          cases hr'
          exact fun k hk => Or.inl hk
        · have holds : ∀ j u, (xs.flatMap K.f)[j]? = some u → w.cell? ((⟨g, 0, none⟩ : Addr).add j) = some u := hown.cells (g := g) rfl
          have hr2 := run_append_grow (P := Try.prog) w K.t o.type K.e i0 z hK.und hi hz0 ⟨g, 0, none⟩ xs.length cap (xs.flatMap K.f) (by rw [hz1]; exact hown.1) holds ad ys.length c _ (by rw [hz1]; exact hl) hc (by omega) (by simp only [maxLen] at hlen; omega) (by rw [hz2]; exact growslice_fits (by omega) hbytes)
          rw [hr2] at hr'
          cases hr'
          intro k hk
          cases hk
          exact Or.inr (Nat.le_refl _)
    rw [← List.flatMap_append] at ho'
    have ho2 : Own K base w' v' (xs ++ ys) := by rw [Own, List.length_append]; exact ho'
    obtain ⟨a', c', rfl⟩ := Rd.form (Rd.of_owns ho')
    unfold Oper.wp execOp
    simp only [ho, resolve, invoke, builtin, Sem.run_bind, Sem.run_pure, Result.andThen_ok, List.map_toArray, List.map_cons, List.map_nil, hs, hx, hr']
    exact h a' c' w' ho2 hg hloc
theorem wpList_append2 (hK : K.Ok) {w : World} {ops : Array Oper} {rest : List Oper} {o : Oper} {a : Act} {Q : Exit → Act → World → Prop} (hw : Region.wanted o (yielded ops a.tmps) = true) (s x : Operand)
    (ho : o.op = .call { callee := .builtin .append, args := #[s, x], argTypes := #[K.t, K.t] }) (base : Nat) (v : Value) (xs : List α) (hs : a.eval s = v) (hown : Own K base w v xs)
    (xv : Value) (ys : List α) (hx : a.eval x = xv) (hr : IsL K w xv ys) (n : Nat) (hn : xs.length + ys.length = n) (hbytes : n * K.bytes ≤ 140737488355328) (hbase : base ≤ w.heap.size)
    (h : ∀ a' c' w', Own K base w' (.slice a' n c') (xs ++ ys) → w.grownBy w' v.ownBlock → (∀ k, (Value.slice a' n c').ownBlock = some k → v.ownBlock = some k ∨ w.heap.size ≤ k) → wpList Try.prog ops Q rest (a.put o.dst (.slice a' n c')) w') : wpList Try.prog ops Q (o :: rest) a w :=
  Go.BigFrame.wpList_want hw fun _ hKn => append_wp2 hK s x ho base v xs hs hown xv ys hx hr n hn hbytes hbase fun a' c' w' h1 h2 h3 => hKn _ _ (h a' c' w' h1 h2 h3)

/-- The same at a step of a region that draws its order. -/
theorem step_append2 (hK : K.Ok) {w : World} {ops : Array Oper} {o : Oper} {a : Act} {Kn : Act → World → Prop} {Q : Exit → Act → World → Prop} {E : Prop} (hw : Region.wanted o (yielded ops a.tmps) = true) (s x : Operand)
    (ho : o.op = .call { callee := .builtin .append, args := #[s, x], argTypes := #[K.t, K.t] }) (base : Nat) (v : Value) (xs : List α) (hs : a.eval s = v) (hown : Own K base w v xs)
    (xv : Value) (ys : List α) (hx : a.eval x = xv) (hr : IsL K w xv ys) (n : Nat) (hn : xs.length + ys.length = n) (hbytes : n * K.bytes ≤ 140737488355328) (hbase : base ≤ w.heap.size)
    (h : ∀ a' c' w', Own K base w' (.slice a' n c') (xs ++ ys) → w.grownBy w' v.ownBlock → (∀ k, (Value.slice a' n c').ownBlock = some k → v.ownBlock = some k ∨ w.heap.size ≤ k) → Kn (a.put o.dst (.slice a' n c')) w') :
    if Region.wanted o (yielded ops a.tmps) = true then Oper.wp Try.prog o a w Kn Q else E := by
  rw [if_pos hw]
  exact append_wp2 hK s x ho base v xs hs hown xv ys hx hr n hn hbytes hbase h
end

theorem new_two (w : World) (o : Obj) : ∃ W, w.alloc o = W ∧ Below w.heap.size w W ∧ W.heap[w.heap.size]? = some o ∧ W.heap.size = w.heap.size + 1 := ⟨_, rfl, (Below.refl _ _).alloc (Nat.le_refl _) o, new_block w o, by simp⟩
/-- All blocks but b and a row's are as they were. -/
structure Fr (b : Nat) (v : Value) (w w' : World) : Prop where
  os : w'.os = w.os
  tape : w'.tape = w.tape
  output : w'.output = w.output
  size : w.heap.size ≤ w'.heap.size
  keep : ∀ j, j < w.heap.size → j ≠ b → v.ownBlock ≠ some j → w'.heap[j]? = w.heap[j]?
theorem Fr.of_below {b : Nat} {v : Value} {w w' : World} (h : Below w.heap.size w w') : Fr b v w w' := ⟨h.os, h.tape, h.output, h.size, fun j hj _ _ => h.block j hj⟩
theorem grown_keep {w w' : World} {v : Value} (hg : w.grownBy w' v.ownBlock) {j : Nat} (hj : j < w.heap.size) (hv : v.ownBlock ≠ some j) : w'.heap[j]? = w.heap[j]? := by
  obtain ⟨_, _, _, _, hb⟩ := hg
  exact hb j hj (fun e => hv e.symm)
theorem fr_grown {b : Nat} {v : Value} {w W w6 : World} (hB : Below w.heap.size w W) (hg : W.grownBy w6 v.ownBlock) : Fr b v w w6 := by
  have hg' := hg
  obtain ⟨h1, h2, h3, h4, _⟩ := hg'
  exact ⟨h1.trans hB.os, h2.trans hB.tape, h3.trans hB.output, Nat.le_trans hB.size h4, fun j hj _ hv => (grown_keep hg (Nat.lt_of_lt_of_le hj hB.size) hv).trans (hB.block j hj)⟩
theorem Fr.set {b i : Nat} {v y : Value} {w w' : World} (h : Fr b v w w') : Fr b v w (w'.setCell ⟨b, i, none⟩ y) :=
  ⟨h.os, h.tape, h.output, by simpa [World.setCell] using h.size, fun j hj hb hv => (Below.heap_setCell _ _ _ _ (by simpa using hb)).trans (h.keep j hj hb hv)⟩
theorem Fr.drew {b : Nat} {v : Value} {w w' : World} (h : Fr b v w w') : Fr b v w w'.drew := ⟨h.os, h.tape, h.output, h.size, h.keep⟩
theorem val_run {s : Sem Value} {w w' : World} {v : Value} (h : s.run Try.prog w = .ok v w') : (do pure (Next.value (← s)) : Sem Next).run Try.prog w = .ok (.value v) w' := by simp [h]
theorem step_run {ops : Array Oper} {o : Oper} {a : Act} {w w' : World} {v : Value} {Kn : Act → World → Prop} {Q : Exit → Act → World → Prop} {E : Prop} (hw : Region.wanted o (yielded ops a.tmps) = true) (h : (execOp a.eval o).run Try.prog w = .ok (.value v) w') (hK : Kn (a.put o.dst v) w') : if Region.wanted o (yielded ops a.tmps) = true then Oper.wp Try.prog o a w Kn Q else E := by
  rw [if_pos hw]
  unfold Oper.wp
  rw [h]
  exact hK
theorem ck_range {w : World} {R : Nat} {c : Nat → Int} (h : w.heap[R]? = some (.cells (ckL c).toArray 65 (0, 0))) : w.rangeAt R 0 (ckL c) := range_block (l := []) (r := []) (by simpa using h)
theorem cell_of {w w' : World} {b o : Nat} {v : Value} (h : w.cell? ⟨b, o, none⟩ = some v) (hb : w'.heap[b]? = w.heap[b]?) : w'.cell? ⟨b, o, none⟩ = some v := by
  rw [World.cell?_of_block (w := w) (a := ⟨b, o, none⟩) hb]; exact h
theorem froz_of {w w' : World} {b o : Nat} {v : Bool} (h : w.frozen? ⟨b, o, none⟩ = v) (hb : w'.heap[b]? = w.heap[b]?) : w'.frozen? ⟨b, o, none⟩ = v := by
  rw [← h]
  simp only [World.frozen?, hb]

theorem Own.ne_blk {α : Type} {K : Kind α} {base : Nat} {w : World} {v : Value} {xs : List α} (h : Own K base w v xs) {b : Nat} {sv gv : Value} {c : Nat → Int} (hb : w.heap[b]? = some (ppB sv gv c)) (hv : v.ownBlock = some b) (ht : K.e ≠ 109 := by decide) : False := h.ne hb (Ne.symm ht) b hv rfl

set_option maxRecDepth 100000 in
set_option maxHeartbeats 2000000 in
theorem keepSend_any (w : World) (b : Nat) (a1 : Option Addr) (n1 k1 : Nat) (g : Value) (c now : Nat → Int) (t : Int) (ss : List (Int × (Nat → Int))) (hb : w.heap[b]? = some (ppB (.slice a1 n1 k1) g c)) (hs : Own KS 0 w (.slice a1 n1 k1) ss) (hn : n1 ≤ 100000) :
    Calls Try.prog 59 #[.pointer (some ⟨b, 0, none⟩), .int .i64 t, ckV now] w fun e w' => ∃ a' k', e = .returned (.tuple #[]) ∧ w'.heap[b]? = some (ppB (.slice a' (n1 + 1) k') g c) ∧ Own KS 0 w' (.slice a' (n1 + 1) k') (ss ++ [(t, now)]) ∧ (∀ j, (Value.slice a' (n1 + 1) k').ownBlock = some j → (Value.slice a1 n1 k1).ownBlock = some j ∨ w.heap.size ≤ j) ∧ Fr b (.slice a1 n1 k1) w w' := by
  obtain ⟨W, eW, hB, hZ, hSz⟩ := new_two w (.cells (ckL now).toArray 65)
  have hbW := keep_below hb hB
  obtain ⟨p0, p1, -, -, -, pl⟩ := pp_cells hbW
  have hlen : ss.length = n1 := hs.isl.len
  have HLN : Hid (ss.length + [(t, now)].length = n1 + 1) := by show _ = _; rw [hlen]; rfl
  obtain ⟨W1, e1⟩ : ∃ X, W.drew.alloc (.cells (.int .i64 t :: ckL now).toArray 120) = X := ⟨_, rfl⟩
  have hB1 : Below W.heap.size W W1 := by rw [← e1]; exact ((Below.refl W.heap.size W).drew).alloc (Nat.le_refl _) _
  have hW1 : W1.heap[b]? = W.heap[b]? := hB1.block b (size_of hbW)
  have pA : W.drew.cell? ⟨b, 0, none⟩ = some (.slice a1 n1 k1) := cell_of p0 (drew_at _ _)
  have pB : W1.cell? ⟨b, 0, none⟩ = some (.slice a1 n1 k1) := cell_of p0 hW1
  have HS0 : Hid (W.drew.rangeAt w.heap.size 0 (ckL now)) := ck_range ((drew_at _ _).trans hZ)
  have HS1 : Hid (W1.rangeAt w.heap.size 0 (ckL now)) := ck_range (keep_below hZ hB1)
  have HBS : Hid ((Instr.buildSlice 107 1 #[(0, .agg (.int .i64 t :: ckL now).toArray)]).run Try.prog W.drew = .ok (.slice (some ⟨W.drew.heap.size, 0, none⟩) 1 1) W1) := by rw [← e1]; exact bs_sent W.drew t now
  have hld := fun W' (h : W'.rangeAt w.heap.size 0 (ckL now)) => load_mid W' w.heap.size 0 now h
  have HON : Hid (Own KS 0 W1 (.slice a1 n1 k1) ss) := Own.below (hs.below hB) hB1
  have HBA : Hid (Below w.heap.size w W1) := Below.next hB hB1 (Nat.le_refl _)
  have HLT : Hid (∀ j, (.slice a1 n1 k1 : Value).ownBlock = some j → j < w.heap.size) := fun j hj => (hs.lt j hj).2
  have HIO : Hid (IsL KS W1 (.slice (some ⟨W.drew.heap.size, 0, none⟩) 1 1) [(t, now)]) := by rw [← e1]; exact isl_one ks W.drew (t, now)
  have HG6 : Hid (∀ (w6 : World) a6 c6, Own KS 0 w6 (.slice a6 (n1 + 1) c6) (ss ++ [(t, now)]) → W1.grownBy w6 (.slice a1 n1 k1 : Value).ownBlock → (∀ k, (Value.slice a6 (n1 + 1) c6).ownBlock = some k → (.slice a1 n1 k1 : Value).ownBlock = some k ∨ W1.heap.size ≤ k) → w6.rangeAt w.heap.size 0 (ckL now) ∧ (w6.setCell ⟨b, 0, none⟩ (.slice a6 (n1 + 1) c6)).rangeAt w.heap.size 0 (ckL now) ∧ (w6.cell? ⟨b, 0, none⟩).isSome = true ∧ w6.frozen? ⟨b, 0, none⟩ = false ∧ (w6.setCell ⟨b, 0, none⟩ (.slice a6 (n1 + 1) c6)).heap[b]? = some (ppB (.slice a6 (n1 + 1) c6) (g) c) ∧ Own KS 0 (w6.setCell ⟨b, 0, none⟩ (.slice a6 (n1 + 1) c6)) (.slice a6 (n1 + 1) c6) (ss ++ [(t, now)]) ∧ (∀ k, (Value.slice a6 (n1 + 1) c6).ownBlock = some k → (.slice a1 n1 k1 : Value).ownBlock = some k ∨ w.heap.size ≤ k) ∧ Fr b (.slice a1 n1 k1) w (w6.setCell ⟨b, 0, none⟩ (.slice a6 (n1 + 1) c6))) := fun w6 a6 c6 h6 hg6 hl6 => by
    have e1 : w6.heap[b]? = some (ppB (.slice a1 n1 k1) (g) c) := (grown_keep hg6 (Nat.lt_of_lt_of_le (size_of hbW) hB1.size) (fun e => hs.ne_blk hb e (by decide))).trans (hW1.trans hbW)
    have e2 : w6.heap[w.heap.size]? = some (.cells (ckL now).toArray 65 (0, 0)) := (grown_keep hg6 (Nat.lt_of_lt_of_le (size_of hZ) hB1.size) (fun e => by have := unhide HLT _ e; omega)).trans (keep_below hZ hB1)
    have hlt := size_of hb
    refine ⟨ck_range e2, ck_range (keep_set e2 (by omega)), ?_, ?_, pp_set0 e1, ?_, fun k hk => (hl6 k hk).imp id (fun h => Nat.le_trans (unhide HBA).size h), (fr_grown (unhide HBA) hg6).set⟩
    · rw [(pp_cells e1).1]; rfl
    · exact (pp_cells e1).2.2.1
    · exact h6.keep fun k hk => Below.heap_setCell _ _ _ _ (by have := h6.ne e1 (by decide) k hk; simpa using this)
  have hbd := fun W' => build_sent W' t now
  have HE := hide eW
  clear eW hB hZ hSz hb hs hbW p0 p1 hW1 hlen e1 hB1
  go_enter Try.func59, Try.ntmps59
  go_upto_region 1 with fail
  rw [unhide HE]
  clear HE
  refine wp_region_held_drew (S := fun W' => W'.rangeAt w.heap.size 0 (ckL now)) (by kernel_rfl) (unhide HS0) (fun hHeld => ?_)
  refine wpAnyH_take (i := 0) (oi := { dst := some 6, op := Op.move (Operand.tmp 0), type := 105, pos := "things.go:46", after := #[], guard := none }) (v := ?v0) rfl (by kernel_rfl) (by kernel_rfl) (by kernel_rfl) (fun _ _ _ h => h) (Or.inl ⟨by rfl, ?y0⟩) (by assumption) ?r0
  case y0 => (intro w hSw; (try dsimp only at hSw); go_simp; try with_reducible rfl)
  try simp only [Act.put, List.setIfInBounds_toArray, List.set_cons_zero, List.set_cons_succ]
  refine wpAnyH_take (i := 1) (oi := { dst := some 7, op := Op.move (Operand.tmp 0), type := 105, pos := "things.go:46", after := #[], guard := none }) (v := ?v1) rfl (by kernel_rfl) (by kernel_rfl) (by kernel_rfl) (fun _ _ _ h => h) (Or.inl ⟨by rfl, ?y1⟩) (by assumption) ?r1
  case y1 => (intro w hSw; (try dsimp only at hSw); go_simp; try with_reducible rfl)
  try simp only [Act.put, List.setIfInBounds_toArray, List.set_cons_zero, List.set_cons_succ]
  refine wpAnyH_take (i := 2) (oi := { dst := some 8, op := Op.nilCheck (Operand.tmp 7), type := 0, pos := "things.go:46", after := #[{ on := 1, ground := Ground.data }], guard := none }) (v := ?v2) rfl (by kernel_rfl) (by kernel_rfl) (by kernel_rfl) (fun _ _ _ h => h) (Or.inl ⟨by rfl, ?y2⟩) (by assumption) ?r2
  case y2 => (intro w hSw; (try dsimp only at hSw); go_simp; try with_reducible rfl)
  try simp only [Act.put, List.setIfInBounds_toArray, List.set_cons_zero, List.set_cons_succ]
  refine wpAnyH_take (i := 3) (oi := { dst := some 9, op := Op.fieldAddr 109 (Operand.tmp 8) 0, type := 0, pos := "things.go:46", after := #[{ on := 2, ground := Ground.data }], guard := none }) (v := ?v3) rfl (by kernel_rfl) (by kernel_rfl) (by kernel_rfl) (fun _ _ _ h => h) (Or.inl ⟨by rfl, ?y3⟩) (by assumption) ?r3
  case y3 => (intro w hSw; (try dsimp only at hSw); go_simp; try with_reducible rfl)
  try simp only [Act.put, List.setIfInBounds_toArray, List.set_cons_zero, List.set_cons_succ]
  refine wpAnyH_take (i := 5) (oi := { dst := some 11, op := Op.move (Operand.tmp 1), type := 3, pos := "things.go:46", after := #[], guard := none }) (v := ?v5) rfl (by kernel_rfl) (by kernel_rfl) (by kernel_rfl) (fun _ _ _ h => h) (Or.inl ⟨by rfl, ?y5⟩) (by assumption) ?r5
  case y5 => (intro w hSw; (try dsimp only at hSw); go_simp; try with_reducible rfl)
  try simp only [Act.put, List.setIfInBounds_toArray, List.set_cons_zero, List.set_cons_succ]
  refine wpAnyH_take (i := 6) (oi := { dst := some 12, op := Op.load 65 (Operand.tmp 5), type := 65, pos := "things.go:46", after := #[], guard := none }) (v := ckV now) rfl (by kernel_rfl) (by kernel_rfl) (by kernel_rfl) (fun _ _ _ h => h) (yieldsIf_load_mid (by rfl) _ _ rfl _ _ rfl (ckL now) _ (fun w h => h) Try.und65 rfl (by rw [ckL_len]; exact Try.size65)) (by assumption) ?_
  try simp only [Act.put, List.setIfInBounds_toArray, List.set_cons_zero, List.set_cons_succ]
  refine wpAnyH_take (i := 7) (oi := { dst := some 13, op := Op.build 120 #[(0, Operand.tmp 11), (1, Operand.tmp 12)], type := 120, pos := "things.go:46", after := #[{ on := 5, ground := Ground.data }, { on := 6, ground := Ground.data }], guard := none }) (v := .agg (.int .i64 t :: ckL now).toArray) rfl (by kernel_rfl) (by kernel_rfl) (by kernel_rfl) (fun _ _ _ h => h) (Or.inl ⟨by rfl, fun w _ => val_run (by simp only [List.map_toArray, List.map_cons, List.map_nil]; exact build_sent w t now)⟩) (by assumption) ?_
  try simp only [Act.put, List.setIfInBounds_toArray, List.set_cons_zero, List.set_cons_succ]
  refine wpAnyH_ready (rs := [4, 8]) (by kernel_rfl) (by simp) ?_
  refine AllReadyH.cons (o := { dst := some 10, op := Op.load 107 (Operand.tmp 9), type := 107, pos := "things.go:46", after := #[{ on := 3, ground := Ground.data }], guard := none }) rfl (fun K hK => ?_) (AllReadyH.cons (o := { dst := some 14, op := Op.buildSlice 107 1 #[(0, Operand.tmp 13)], type := 107, pos := "things.go:46", after := #[{ on := 7, ground := Ground.data }], guard := none }) rfl (fun K hK => ?_) AllReadyH.nil)
  · go_simp
    refine hK.out _ _ (unhide HS0) (fun hHeld => ?_)
    clear hK K
    try simp only [Act.put, List.setIfInBounds_toArray, List.set_cons_zero, List.set_cons_succ]
    refine wpAnyH_ready (rs := [8]) (by kernel_rfl) (by simp) ?_
    refine AllReadyH.cons (o := { dst := some 14, op := Op.buildSlice 107 1 #[(0, Operand.tmp 13)], type := 107, pos := "things.go:46", after := #[{ on := 7, ground := Ground.data }], guard := none }) rfl (fun K hK => ?_) AllReadyH.nil
    refine step_run rfl (val_run (by simp only [List.map_toArray, List.map_cons, List.map_nil]; exact unhide HBS)) ?_
    refine hK.out _ _ (unhide HS1) (fun hHeld => ?_)
    clear hK K
    try simp only [Act.put, List.setIfInBounds_toArray, List.set_cons_zero, List.set_cons_succ]
    refine wpAnyH_ready (rs := [9]) (by kernel_rfl) (by simp) ?_
    refine AllReadyH.cons (o := { dst := some 15, op := Op.call { callee := Callee.builtin Builtin.append, args := #[Operand.tmp 10, Operand.tmp 14], argTypes := #[107, 107] }, type := 107, pos := "things.go:46", after := #[{ on := 4, ground := Ground.data }, { on := 8, ground := Ground.data }], guard := none }) rfl (fun K hK => ?_) AllReadyH.nil
    (refine step_append2 ks rfl (.tmp 10) (.tmp 14) rfl 0 (.slice a1 n1 k1) ss rfl (unhide HON) _ [(t, now)] rfl (unhide HIO) (n1 + 1) (unhide HLN) (by show (n1 + 1) * 520 ≤ 140737488355328; omega) (Nat.zero_le _) ?_; intro a6 c6 w6 h6 hg6 hl6; obtain ⟨hS6, hS7, hc6, hf6, hP6, hO6, hL6, hF6⟩ := unhide HG6 w6 a6 c6 h6 hg6 hl6; have HS6 := hide hS6; have HS7 := hide hS7; have HP6 := hide hP6; have HO6 := hide hO6; have HL6 := hide hL6; have HF6 := hide hF6; obtain ⟨y6, hy6⟩ := Option.isSome_iff_exists.1 hc6; clear h6 hg6 hl6 hS6 hS7 hP6 hO6 hL6 hF6 hc6)
    refine hK.out _ _ (unhide HS6) (fun hHeld => ?_)
    clear hK K
    try simp only [Act.put, List.setIfInBounds_toArray, List.set_cons_zero, List.set_cons_succ]
    refine wpAnyH_take (i := 10) (oi := { dst := some 16, op := Op.nilCheck (Operand.tmp 6), type := 0, pos := "things.go:46", after := #[{ on := 0, ground := Ground.data }, { on := 0, ground := Ground.phase }, { on := 1, ground := Ground.phase }, { on := 2, ground := Ground.phase }, { on := 3, ground := Ground.phase }, { on := 4, ground := Ground.phase }, { on := 5, ground := Ground.phase }, { on := 6, ground := Ground.phase }, { on := 7, ground := Ground.phase }, { on := 8, ground := Ground.phase }, { on := 9, ground := Ground.phase }], guard := none }) (v := ?v10) rfl (by kernel_rfl) (by kernel_rfl) (by kernel_rfl) (fun _ _ _ h => h) (Or.inl ⟨by rfl, ?y10⟩) (by assumption) ?r10
    case y10 => (intro w hSw; (try dsimp only at hSw); go_simp; try with_reducible rfl)
    try simp only [Act.put, List.setIfInBounds_toArray, List.set_cons_zero, List.set_cons_succ]
    refine wpAnyH_take (i := 11) (oi := { dst := some 17, op := Op.fieldAddr 109 (Operand.tmp 16) 0, type := 0, pos := "things.go:46", after := #[{ on := 10, ground := Ground.data }, { on := 0, ground := Ground.phase }, { on := 1, ground := Ground.phase }, { on := 2, ground := Ground.phase }, { on := 3, ground := Ground.phase }, { on := 4, ground := Ground.phase }, { on := 5, ground := Ground.phase }, { on := 6, ground := Ground.phase }, { on := 7, ground := Ground.phase }, { on := 8, ground := Ground.phase }, { on := 9, ground := Ground.phase }], guard := none }) (v := ?v11) rfl (by kernel_rfl) (by kernel_rfl) (by kernel_rfl) (fun _ _ _ h => h) (Or.inl ⟨by rfl, ?y11⟩) (by assumption) ?r11
    case y11 => (intro w hSw; (try dsimp only at hSw); go_simp; try with_reducible rfl)
    try simp only [Act.put, List.setIfInBounds_toArray, List.set_cons_zero, List.set_cons_succ]
    refine wpAnyH_ready (rs := [12]) (by kernel_rfl) (by simp) ?_
    refine AllReadyH.cons (o := { dst := none, op := Op.store 107 (Operand.tmp 17) (Operand.tmp 15), type := 0, pos := "things.go:46", after := #[{ on := 11, ground := Ground.data }, { on := 9, ground := Ground.data }, { on := 9, ground := Ground.chain }, { on := 0, ground := Ground.phase }, { on := 1, ground := Ground.phase }, { on := 2, ground := Ground.phase }, { on := 3, ground := Ground.phase }, { on := 4, ground := Ground.phase }, { on := 5, ground := Ground.phase }, { on := 6, ground := Ground.phase }, { on := 7, ground := Ground.phase }, { on := 8, ground := Ground.phase }, { on := 9, ground := Ground.phase }], guard := none }) rfl (fun K hK => ?_) AllReadyH.nil
    go_simp
    refine hK.out _ _ (unhide HS7) (fun hHeld => ?_)
    clear hK K
    try simp only [Act.put, List.setIfInBounds_toArray, List.set_cons_zero, List.set_cons_succ]
    refine wpAnyH_done (by kernel_rfl) ?_ _
    obtain ⟨W7, e7⟩ : ∃ X, w6.setCell ⟨b, 0, none⟩ (.slice a6 (n1 + 1) c6) = X := ⟨_, rfl⟩
    rw [e7] at HP6 HO6 HF6 ⊢
    clear e7 hy6 hf6 pA pB
    go_wp2_with fail
    exact bodyPost_end (v := .tuple #[]) (by simp [results, Try.results59]) rfl ⟨a6, c6, rfl, unhide HP6, unhide HO6, unhide HL6, unhide HF6⟩
  · refine step_run rfl (val_run (by simp only [List.map_toArray, List.map_cons, List.map_nil]; exact unhide HBS)) ?_
    refine hK.out _ _ (unhide HS1) (fun hHeld => ?_)
    clear hK K
    try simp only [Act.put, List.setIfInBounds_toArray, List.set_cons_zero, List.set_cons_succ]
    refine wpAnyH_ready (rs := [4]) (by kernel_rfl) (by simp) ?_
    refine AllReadyH.cons (o := { dst := some 10, op := Op.load 107 (Operand.tmp 9), type := 107, pos := "things.go:46", after := #[{ on := 3, ground := Ground.data }], guard := none }) rfl (fun K hK => ?_) AllReadyH.nil
    go_simp
    refine hK.out _ _ (unhide HS1) (fun hHeld => ?_)
    clear hK K
    try simp only [Act.put, List.setIfInBounds_toArray, List.set_cons_zero, List.set_cons_succ]
    refine wpAnyH_ready (rs := [9]) (by kernel_rfl) (by simp) ?_
    refine AllReadyH.cons (o := { dst := some 15, op := Op.call { callee := Callee.builtin Builtin.append, args := #[Operand.tmp 10, Operand.tmp 14], argTypes := #[107, 107] }, type := 107, pos := "things.go:46", after := #[{ on := 4, ground := Ground.data }, { on := 8, ground := Ground.data }], guard := none }) rfl (fun K hK => ?_) AllReadyH.nil
    (refine step_append2 ks rfl (.tmp 10) (.tmp 14) rfl 0 (.slice a1 n1 k1) ss rfl (unhide HON) _ [(t, now)] rfl (unhide HIO) (n1 + 1) (unhide HLN) (by show (n1 + 1) * 520 ≤ 140737488355328; omega) (Nat.zero_le _) ?_; intro a6 c6 w6 h6 hg6 hl6; obtain ⟨hS6, hS7, hc6, hf6, hP6, hO6, hL6, hF6⟩ := unhide HG6 w6 a6 c6 h6 hg6 hl6; have HS6 := hide hS6; have HS7 := hide hS7; have HP6 := hide hP6; have HO6 := hide hO6; have HL6 := hide hL6; have HF6 := hide hF6; obtain ⟨y6, hy6⟩ := Option.isSome_iff_exists.1 hc6; clear h6 hg6 hl6 hS6 hS7 hP6 hO6 hL6 hF6 hc6)
    refine hK.out _ _ (unhide HS6) (fun hHeld => ?_)
    clear hK K
    try simp only [Act.put, List.setIfInBounds_toArray, List.set_cons_zero, List.set_cons_succ]
    refine wpAnyH_take (i := 10) (oi := { dst := some 16, op := Op.nilCheck (Operand.tmp 6), type := 0, pos := "things.go:46", after := #[{ on := 0, ground := Ground.data }, { on := 0, ground := Ground.phase }, { on := 1, ground := Ground.phase }, { on := 2, ground := Ground.phase }, { on := 3, ground := Ground.phase }, { on := 4, ground := Ground.phase }, { on := 5, ground := Ground.phase }, { on := 6, ground := Ground.phase }, { on := 7, ground := Ground.phase }, { on := 8, ground := Ground.phase }, { on := 9, ground := Ground.phase }], guard := none }) (v := ?v10b) rfl (by kernel_rfl) (by kernel_rfl) (by kernel_rfl) (fun _ _ _ h => h) (Or.inl ⟨by rfl, ?y10b⟩) (by assumption) ?r10b
    case y10b => (intro w hSw; (try dsimp only at hSw); go_simp; try with_reducible rfl)
    try simp only [Act.put, List.setIfInBounds_toArray, List.set_cons_zero, List.set_cons_succ]
    refine wpAnyH_take (i := 11) (oi := { dst := some 17, op := Op.fieldAddr 109 (Operand.tmp 16) 0, type := 0, pos := "things.go:46", after := #[{ on := 10, ground := Ground.data }, { on := 0, ground := Ground.phase }, { on := 1, ground := Ground.phase }, { on := 2, ground := Ground.phase }, { on := 3, ground := Ground.phase }, { on := 4, ground := Ground.phase }, { on := 5, ground := Ground.phase }, { on := 6, ground := Ground.phase }, { on := 7, ground := Ground.phase }, { on := 8, ground := Ground.phase }, { on := 9, ground := Ground.phase }], guard := none }) (v := ?v11b) rfl (by kernel_rfl) (by kernel_rfl) (by kernel_rfl) (fun _ _ _ h => h) (Or.inl ⟨by rfl, ?y11b⟩) (by assumption) ?r11b
    case y11b => (intro w hSw; (try dsimp only at hSw); go_simp; try with_reducible rfl)
    try simp only [Act.put, List.setIfInBounds_toArray, List.set_cons_zero, List.set_cons_succ]
    refine wpAnyH_ready (rs := [12]) (by kernel_rfl) (by simp) ?_
    refine AllReadyH.cons (o := { dst := none, op := Op.store 107 (Operand.tmp 17) (Operand.tmp 15), type := 0, pos := "things.go:46", after := #[{ on := 11, ground := Ground.data }, { on := 9, ground := Ground.data }, { on := 9, ground := Ground.chain }, { on := 0, ground := Ground.phase }, { on := 1, ground := Ground.phase }, { on := 2, ground := Ground.phase }, { on := 3, ground := Ground.phase }, { on := 4, ground := Ground.phase }, { on := 5, ground := Ground.phase }, { on := 6, ground := Ground.phase }, { on := 7, ground := Ground.phase }, { on := 8, ground := Ground.phase }, { on := 9, ground := Ground.phase }], guard := none }) rfl (fun K hK => ?_) AllReadyH.nil
    go_simp
    refine hK.out _ _ (unhide HS7) (fun hHeld => ?_)
    clear hK K
    try simp only [Act.put, List.setIfInBounds_toArray, List.set_cons_zero, List.set_cons_succ]
    refine wpAnyH_done (by kernel_rfl) ?_ _
    obtain ⟨W7, e7⟩ : ∃ X, w6.setCell ⟨b, 0, none⟩ (.slice a6 (n1 + 1) c6) = X := ⟨_, rfl⟩
    rw [e7] at HP6 HO6 HF6 ⊢
    clear e7 hy6 hf6 pA pB
    go_wp2_with fail
    exact bodyPost_end (v := .tuple #[]) (by simp [results, Try.results59]) rfl ⟨a6, c6, rfl, unhide HP6, unhide HO6, unhide HL6, unhide HF6⟩

set_option maxRecDepth 100000 in
set_option maxHeartbeats 2000000 in
theorem keepGet1 (w : World) (b : Nat) (a1 : Option Addr) (n1 k1 : Nat) (a2 : Option Addr) (n2 k2 : Nat) (c now : Nat → Int) (hn : n2 = n1) (hb : w.heap[b]? = some (ppB (.slice a1 n1 k1) (.slice a2 n2 k2) c)) :
    Calls Try.prog 60 #[.pointer (some ⟨b, 0, none⟩), ckV now] w fun e w' => e = .returned (.int .i64 0) ∧ Below w.heap.size w w' := by
  subst hn
  obtain ⟨W, eW, hB, hZ, hSz⟩ := new_two w (.cells (ckL now).toArray 65)
  have hbW := keep_below hb hB
  have HIS : Hid (Calls Try.prog 62 #[.pointer (some ⟨b, 0, none⟩)] W fun e w' => e = .returned (.bool true) ∧ Below W.heap.size W w') := (isSpent_any W b a1 n2 k1 a2 n2 k2 c hbW).mono fun e w' ⟨h1, h2⟩ => ⟨by rw [h1]; simp, h2⟩
  have HB := hide hB
  have HE := hide eW
  clear eW hB hZ hSz hb hbW
  go_enter Try.func60, Try.ntmps60
  go_upto_region 1 with fail
  rw [unhide HE]
  clear HE
  go_wp2_with (go_at_call 62; refine (unhide HIS).mono ?_; rintro e w1 ⟨rfl, hb1⟩; have HB1 := hide (Below.next (unhide HB) hb1 (Nat.le_refl _)); clear hb1)
  go_ret
  exact ⟨rfl, unhide HB1⟩

set_option maxRecDepth 100000 in
set_option maxHeartbeats 2000000 in
theorem keepGet0 (w : World) (b : Nat) (a1 : Option Addr) (n1 k1 : Nat) (a2 : Option Addr) (n2 k2 : Nat) (c now : Nat → Int) (ss : List (Int × (Nat → Int))) (gs : List (Nat → Int)) (by' : Int) (eby : (ss.getD n2 (0, ck0)).1 = by') (hn : n2 < n1) (hn1 : n1 ≤ 100000) (hb : w.heap[b]? = some (ppB (.slice a1 n1 k1) (.slice a2 n2 k2) c)) (hss : IsL KS w (.slice a1 n1 k1) ss) (hs : Own KG 0 w (.slice a2 n2 k2) gs) :
    Calls Try.prog 60 #[.pointer (some ⟨b, 0, none⟩), ckV now] w fun e w' => ∃ a' k', e = .returned (.int .i64 by') ∧ w'.heap[b]? = some (ppB (.slice a1 n1 k1) (.slice a' (n2 + 1) k') c) ∧ Own KG 0 w' (.slice a' (n2 + 1) k') (gs ++ [now]) ∧ (∀ j, (Value.slice a' (n2 + 1) k').ownBlock = some j → (Value.slice a2 n2 k2).ownBlock = some j ∨ w.heap.size ≤ j) ∧ Fr b (.slice a2 n2 k2) w w' := by
  obtain ⟨s1, o1, rfl, hsl, l1⟩ := hss.opens ks hss.len (by omega)
  have hls := hss.len
  obtain ⟨W0, eW, hB, hZ, hSz⟩ := new_two w (.cells (ckL now).toArray 65)
  have hbW := keep_below hb hB
  have HIS : Hid (Calls Try.prog 62 #[.pointer (some ⟨b, 0, none⟩)] W0 fun e w' => e = .returned (.bool false) ∧ Below W0.heap.size W0 w') := (isSpent_any W0 b _ n1 k1 a2 n2 k2 c hbW).mono fun e w' ⟨h1, h2⟩ => ⟨by rw [h1, show ((n2 : Int) == (n1 : Int)) = false by simp; omega], h2⟩
  have hlen : gs.length = n2 := hs.isl.len
  have HLN : Hid (gs.length + [now].length = n2 + 1) := by show _ = _; rw [hlen]; rfl
  have HGO : Hid (∀ W, Below W0.heap.size W0 W → Below w.heap.size w W ∧ W.heap[w.heap.size]? = some (.cells (ckL now).toArray 65 (0, 0)) ∧ W.heap[b]? = some (ppB (.slice (some ⟨s1, o1, none⟩) n1 k1) (.slice a2 n2 k2) c) ∧ W.cell? ⟨s1, o1 + n2 * 65, none⟩ = some (.int .i64 by')) := fun W h1 => ⟨Below.next hB h1 (Nat.le_refl _), keep_below hZ h1, keep_below hbW h1, by rw [← eby]; exact ((l1.below (Below.next hB h1 (Nat.le_refl _)) hsl).sent (by omega)).1⟩
  have HE := hide eW
  have i0 : (0 : Int) ≤ (n2 : Int) := by omega
  have i1 : (n2 : Int) < (n1 : Int) := by omega
  clear eW hB hZ hSz hbW hss l1 hls hlen eby
  go_enter Try.func60, Try.ntmps60
  go_upto_region 1 with fail
  rw [unhide HE]
  clear HE
  go_upto_region 3 with (go_at_call 62; refine (unhide HIS).mono ?_; rintro e W1 ⟨rfl, hb1⟩; have HGN := hide (fun n => unhide HGO _ (below_drewN hb1 n)); have HG := hide (unhide HGO _ hb1); clear hb1)
  obtain ⟨hB, hZ, hbW, hR⟩ := unhide HG
  obtain ⟨p0, p1, -, -, -, pl⟩ := pp_cells hbW
  clear HG HGO HIS
  go_quiet (fail)
  go_upto_region 4 with fail
  clear hB hZ hbW hR p0 p1 pl
  have HG1 := hide (unhide HGN nq)
  clear HGN
  obtain ⟨W, eWW⟩ : ∃ X, W1.drewN nq = X := ⟨_, rfl⟩
  rw [eWW] at HG1 ⊢
  clear eWW
  obtain ⟨hB, hZ, hbW, -⟩ := unhide HG1
  obtain ⟨p0, p1, -, -, -, pl⟩ := pp_cells hbW
  obtain ⟨W1, e1⟩ : ∃ X, W.drew.alloc (.cells (ckL now).toArray 65) = X := ⟨_, rfl⟩
  have hB1 : Below W.heap.size W W1 := by rw [← e1]; exact ((Below.refl W.heap.size W).drew).alloc (Nat.le_refl _) _
  have hW1 : W1.heap[b]? = W.heap[b]? := hB1.block b (size_of hbW)
  have pA : W.drew.cell? ⟨b, 1, none⟩ = some (.slice a2 n2 k2) := cell_of p1 (drew_at _ _)
  have pB : W1.cell? ⟨b, 1, none⟩ = some (.slice a2 n2 k2) := cell_of p1 hW1
  have HS0 : Hid (W.drew.rangeAt w.heap.size 0 (ckL now)) := ck_range ((drew_at _ _).trans hZ)
  have HS1 : Hid (W1.rangeAt w.heap.size 0 (ckL now)) := ck_range (keep_below hZ hB1)
  have HBS : Hid ((Instr.buildSlice 62 1 #[(0, ckV now)]).run Try.prog W.drew = .ok (.slice (some ⟨W.drew.heap.size, 0, none⟩) 1 1) W1) := by rw [← e1]; exact bs_ck W.drew now
  have hld := fun W' (h : W'.rangeAt w.heap.size 0 (ckL now)) => load_mid W' w.heap.size 0 now h
  have HON : Hid (Own KG 0 W1 (.slice a2 n2 k2) gs) := Own.below (hs.below hB) hB1
  have HBA : Hid (Below w.heap.size w W1) := Below.next hB hB1 (Nat.le_refl _)
  have HLT : Hid (∀ j, (.slice a2 n2 k2 : Value).ownBlock = some j → j < w.heap.size) := fun j hj => (hs.lt j hj).2
  have HIO : Hid (IsL KG W1 (.slice (some ⟨W.drew.heap.size, 0, none⟩) 1 1) [now]) := by rw [← e1]; exact isl_one kg W.drew now
  have HG6 : Hid (∀ (w6 : World) a6 c6, Own KG 0 w6 (.slice a6 (n2 + 1) c6) (gs ++ [now]) → W1.grownBy w6 (.slice a2 n2 k2 : Value).ownBlock → (∀ k, (Value.slice a6 (n2 + 1) c6).ownBlock = some k → (.slice a2 n2 k2 : Value).ownBlock = some k ∨ W1.heap.size ≤ k) → w6.rangeAt w.heap.size 0 (ckL now) ∧ (w6.setCell ⟨b, 1, none⟩ (.slice a6 (n2 + 1) c6)).rangeAt w.heap.size 0 (ckL now) ∧ (w6.cell? ⟨b, 1, none⟩).isSome = true ∧ w6.frozen? ⟨b, 1, none⟩ = false ∧ (w6.setCell ⟨b, 1, none⟩ (.slice a6 (n2 + 1) c6)).heap[b]? = some (ppB (.slice (some ⟨s1, o1, none⟩) n1 k1) (.slice a6 (n2 + 1) c6) c) ∧ Own KG 0 (w6.setCell ⟨b, 1, none⟩ (.slice a6 (n2 + 1) c6)) (.slice a6 (n2 + 1) c6) (gs ++ [now]) ∧ (∀ k, (Value.slice a6 (n2 + 1) c6).ownBlock = some k → (.slice a2 n2 k2 : Value).ownBlock = some k ∨ w.heap.size ≤ k) ∧ Fr b (.slice a2 n2 k2) w (w6.setCell ⟨b, 1, none⟩ (.slice a6 (n2 + 1) c6))) := fun w6 a6 c6 h6 hg6 hl6 => by
    have e1 : w6.heap[b]? = some (ppB (.slice (some ⟨s1, o1, none⟩) n1 k1) (.slice a2 n2 k2) c) := (grown_keep hg6 (Nat.lt_of_lt_of_le (size_of hbW) hB1.size) (fun e => hs.ne_blk hb e (by decide))).trans (hW1.trans hbW)
    have e2 : w6.heap[w.heap.size]? = some (.cells (ckL now).toArray 65 (0, 0)) := (grown_keep hg6 (Nat.lt_of_lt_of_le (size_of hZ) hB1.size) (fun e => by have := unhide HLT _ e; omega)).trans (keep_below hZ hB1)
    have hlt := size_of hb
    refine ⟨ck_range e2, ck_range (keep_set e2 (by omega)), ?_, ?_, pp_set1 e1, ?_, fun k hk => (hl6 k hk).imp id (fun h => Nat.le_trans (unhide HBA).size h), (fr_grown (unhide HBA) hg6).set⟩
    · rw [(pp_cells e1).2.1]; rfl
    · exact (pp_cells e1).2.2.2.1
    · exact h6.keep fun k hk => Below.heap_setCell _ _ _ _ (by have := h6.ne e1 (by decide) k hk; simpa using this)
  clear hB hZ hb hs hbW p0 p1 hW1 HG1 e1 hB1
  refine wp_region_held_drew (S := fun W' => W'.rangeAt w.heap.size 0 (ckL now)) (by kernel_rfl) (unhide HS0) (fun hHeld => ?_)
  refine wpAnyH_take (i := 0) (oi := { dst := some 20, op := Op.move (Operand.tmp 0), type := 105, pos := "things.go:55", after := #[], guard := none }) (v := ?v0) rfl (by kernel_rfl) (by kernel_rfl) (by kernel_rfl) (fun _ _ _ h => h) (Or.inl ⟨by rfl, ?y0⟩) (by assumption) ?r0
  case y0 => (intro w hSw; (try dsimp only at hSw); go_simp; try with_reducible rfl)
  try simp only [Act.put, List.setIfInBounds_toArray, List.set_cons_zero, List.set_cons_succ]
  refine wpAnyH_take (i := 1) (oi := { dst := some 21, op := Op.move (Operand.tmp 0), type := 105, pos := "things.go:55", after := #[], guard := none }) (v := ?v1) rfl (by kernel_rfl) (by kernel_rfl) (by kernel_rfl) (fun _ _ _ h => h) (Or.inl ⟨by rfl, ?y1⟩) (by assumption) ?r1
  case y1 => (intro w hSw; (try dsimp only at hSw); go_simp; try with_reducible rfl)
  try simp only [Act.put, List.setIfInBounds_toArray, List.set_cons_zero, List.set_cons_succ]
  refine wpAnyH_take (i := 2) (oi := { dst := some 22, op := Op.nilCheck (Operand.tmp 21), type := 0, pos := "things.go:55", after := #[{ on := 1, ground := Ground.data }], guard := none }) (v := ?v2) rfl (by kernel_rfl) (by kernel_rfl) (by kernel_rfl) (fun _ _ _ h => h) (Or.inl ⟨by rfl, ?y2⟩) (by assumption) ?r2
  case y2 => (intro w hSw; (try dsimp only at hSw); go_simp; try with_reducible rfl)
  try simp only [Act.put, List.setIfInBounds_toArray, List.set_cons_zero, List.set_cons_succ]
  refine wpAnyH_take (i := 3) (oi := { dst := some 23, op := Op.fieldAddr 109 (Operand.tmp 22) 1, type := 0, pos := "things.go:55", after := #[{ on := 2, ground := Ground.data }], guard := none }) (v := ?v3) rfl (by kernel_rfl) (by kernel_rfl) (by kernel_rfl) (fun _ _ _ h => h) (Or.inl ⟨by rfl, ?y3⟩) (by assumption) ?r3
  case y3 => (intro w hSw; (try dsimp only at hSw); go_simp; try with_reducible rfl)
  try simp only [Act.put, List.setIfInBounds_toArray, List.set_cons_zero, List.set_cons_succ]
  refine wpAnyH_take (i := 5) (oi := { dst := some 25, op := Op.load 65 (Operand.tmp 3), type := 65, pos := "things.go:55", after := #[], guard := none }) (v := ckV now) rfl (by kernel_rfl) (by kernel_rfl) (by kernel_rfl) (fun _ _ _ h => h) (yieldsIf_load_mid (by rfl) _ _ rfl _ _ rfl (ckL now) _ (fun w h => h) Try.und65 rfl (by rw [ckL_len]; exact Try.size65)) (by assumption) ?_
  try simp only [Act.put, List.setIfInBounds_toArray, List.set_cons_zero, List.set_cons_succ]
  refine wpAnyH_ready (rs := [4, 6]) (by kernel_rfl) (by simp) ?_
  refine AllReadyH.cons (o := { dst := some 24, op := Op.load 62 (Operand.tmp 23), type := 62, pos := "things.go:55", after := #[{ on := 3, ground := Ground.data }], guard := none }) rfl (fun K hK => ?_) (AllReadyH.cons (o := { dst := some 26, op := Op.buildSlice 62 1 #[(0, Operand.tmp 25)], type := 62, pos := "things.go:55", after := #[{ on := 5, ground := Ground.data }], guard := none }) rfl (fun K hK => ?_) AllReadyH.nil)
  · go_simp
    refine hK.out _ _ (unhide HS0) (fun hHeld => ?_)
    clear hK K
    try simp only [Act.put, List.setIfInBounds_toArray, List.set_cons_zero, List.set_cons_succ]
    refine wpAnyH_ready (rs := [6]) (by kernel_rfl) (by simp) ?_
    refine AllReadyH.cons (o := { dst := some 26, op := Op.buildSlice 62 1 #[(0, Operand.tmp 25)], type := 62, pos := "things.go:55", after := #[{ on := 5, ground := Ground.data }], guard := none }) rfl (fun K hK => ?_) AllReadyH.nil
    refine step_run rfl (val_run (by simp only [List.map_toArray, List.map_cons, List.map_nil]; exact unhide HBS)) ?_
    refine hK.out _ _ (unhide HS1) (fun hHeld => ?_)
    clear hK K
    try simp only [Act.put, List.setIfInBounds_toArray, List.set_cons_zero, List.set_cons_succ]
    refine wpAnyH_ready (rs := [7]) (by kernel_rfl) (by simp) ?_
    refine AllReadyH.cons (o := { dst := some 27, op := Op.call { callee := Callee.builtin Builtin.append, args := #[Operand.tmp 24, Operand.tmp 26], argTypes := #[62, 62] }, type := 62, pos := "things.go:55", after := #[{ on := 4, ground := Ground.data }, { on := 6, ground := Ground.data }], guard := none }) rfl (fun K hK => ?_) AllReadyH.nil
    (refine step_append2 kg rfl (.tmp 24) (.tmp 26) rfl 0 (.slice a2 n2 k2) gs rfl (unhide HON) _ [now] rfl (unhide HIO) (n2 + 1) (unhide HLN) (by show (n2 + 1) * 512 ≤ 140737488355328; omega) (Nat.zero_le _) ?_; intro a6 c6 w6 h6 hg6 hl6; obtain ⟨hS6, hS7, hc6, hf6, hP6, hO6, hL6, hF6⟩ := unhide HG6 w6 a6 c6 h6 hg6 hl6; have HS6 := hide hS6; have HS7 := hide hS7; have HP6 := hide hP6; have HO6 := hide hO6; have HL6 := hide hL6; have HF6 := hide hF6; obtain ⟨y6, hy6⟩ := Option.isSome_iff_exists.1 hc6; clear h6 hg6 hl6 hS6 hS7 hP6 hO6 hL6 hF6 hc6)
    refine hK.out _ _ (unhide HS6) (fun hHeld => ?_)
    clear hK K
    try simp only [Act.put, List.setIfInBounds_toArray, List.set_cons_zero, List.set_cons_succ]
    refine wpAnyH_take (i := 8) (oi := { dst := some 28, op := Op.nilCheck (Operand.tmp 20), type := 0, pos := "things.go:55", after := #[{ on := 0, ground := Ground.data }, { on := 0, ground := Ground.phase }, { on := 1, ground := Ground.phase }, { on := 2, ground := Ground.phase }, { on := 3, ground := Ground.phase }, { on := 4, ground := Ground.phase }, { on := 5, ground := Ground.phase }, { on := 6, ground := Ground.phase }, { on := 7, ground := Ground.phase }], guard := none }) (v := ?v8) rfl (by kernel_rfl) (by kernel_rfl) (by kernel_rfl) (fun _ _ _ h => h) (Or.inl ⟨by rfl, ?y8⟩) (by assumption) ?r8
    case y8 => (intro w hSw; (try dsimp only at hSw); go_simp; try with_reducible rfl)
    try simp only [Act.put, List.setIfInBounds_toArray, List.set_cons_zero, List.set_cons_succ]
    refine wpAnyH_take (i := 9) (oi := { dst := some 29, op := Op.fieldAddr 109 (Operand.tmp 28) 1, type := 0, pos := "things.go:55", after := #[{ on := 8, ground := Ground.data }, { on := 0, ground := Ground.phase }, { on := 1, ground := Ground.phase }, { on := 2, ground := Ground.phase }, { on := 3, ground := Ground.phase }, { on := 4, ground := Ground.phase }, { on := 5, ground := Ground.phase }, { on := 6, ground := Ground.phase }, { on := 7, ground := Ground.phase }], guard := none }) (v := ?v9) rfl (by kernel_rfl) (by kernel_rfl) (by kernel_rfl) (fun _ _ _ h => h) (Or.inl ⟨by rfl, ?y9⟩) (by assumption) ?r9
    case y9 => (intro w hSw; (try dsimp only at hSw); go_simp; try with_reducible rfl)
    try simp only [Act.put, List.setIfInBounds_toArray, List.set_cons_zero, List.set_cons_succ]
    refine wpAnyH_ready (rs := [10]) (by kernel_rfl) (by simp) ?_
    refine AllReadyH.cons (o := { dst := none, op := Op.store 62 (Operand.tmp 29) (Operand.tmp 27), type := 0, pos := "things.go:55", after := #[{ on := 9, ground := Ground.data }, { on := 7, ground := Ground.data }, { on := 7, ground := Ground.chain }, { on := 0, ground := Ground.phase }, { on := 1, ground := Ground.phase }, { on := 2, ground := Ground.phase }, { on := 3, ground := Ground.phase }, { on := 4, ground := Ground.phase }, { on := 5, ground := Ground.phase }, { on := 6, ground := Ground.phase }, { on := 7, ground := Ground.phase }], guard := none }) rfl (fun K hK => ?_) AllReadyH.nil
    go_simp
    refine hK.out _ _ (unhide HS7) (fun hHeld => ?_)
    clear hK K
    try simp only [Act.put, List.setIfInBounds_toArray, List.set_cons_zero, List.set_cons_succ]
    refine wpAnyH_done (by kernel_rfl) ?_ _
    obtain ⟨W7, e7⟩ : ∃ X, w6.setCell ⟨b, 1, none⟩ (.slice a6 (n2 + 1) c6) = X := ⟨_, rfl⟩
    rw [e7] at HP6 HO6 HF6 ⊢
    clear e7 hy6 hf6 pA pB
    go_wp2_with fail
    go_ret
    exact ⟨a6, c6, rfl, unhide HP6, unhide HO6, unhide HL6, unhide HF6⟩
  · refine step_run rfl (val_run (by simp only [List.map_toArray, List.map_cons, List.map_nil]; exact unhide HBS)) ?_
    refine hK.out _ _ (unhide HS1) (fun hHeld => ?_)
    clear hK K
    try simp only [Act.put, List.setIfInBounds_toArray, List.set_cons_zero, List.set_cons_succ]
    refine wpAnyH_ready (rs := [4]) (by kernel_rfl) (by simp) ?_
    refine AllReadyH.cons (o := { dst := some 24, op := Op.load 62 (Operand.tmp 23), type := 62, pos := "things.go:55", after := #[{ on := 3, ground := Ground.data }], guard := none }) rfl (fun K hK => ?_) AllReadyH.nil
    go_simp
    refine hK.out _ _ (unhide HS1) (fun hHeld => ?_)
    clear hK K
    try simp only [Act.put, List.setIfInBounds_toArray, List.set_cons_zero, List.set_cons_succ]
    refine wpAnyH_ready (rs := [7]) (by kernel_rfl) (by simp) ?_
    refine AllReadyH.cons (o := { dst := some 27, op := Op.call { callee := Callee.builtin Builtin.append, args := #[Operand.tmp 24, Operand.tmp 26], argTypes := #[62, 62] }, type := 62, pos := "things.go:55", after := #[{ on := 4, ground := Ground.data }, { on := 6, ground := Ground.data }], guard := none }) rfl (fun K hK => ?_) AllReadyH.nil
    (refine step_append2 kg rfl (.tmp 24) (.tmp 26) rfl 0 (.slice a2 n2 k2) gs rfl (unhide HON) _ [now] rfl (unhide HIO) (n2 + 1) (unhide HLN) (by show (n2 + 1) * 512 ≤ 140737488355328; omega) (Nat.zero_le _) ?_; intro a6 c6 w6 h6 hg6 hl6; obtain ⟨hS6, hS7, hc6, hf6, hP6, hO6, hL6, hF6⟩ := unhide HG6 w6 a6 c6 h6 hg6 hl6; have HS6 := hide hS6; have HS7 := hide hS7; have HP6 := hide hP6; have HO6 := hide hO6; have HL6 := hide hL6; have HF6 := hide hF6; obtain ⟨y6, hy6⟩ := Option.isSome_iff_exists.1 hc6; clear h6 hg6 hl6 hS6 hS7 hP6 hO6 hL6 hF6 hc6)
    refine hK.out _ _ (unhide HS6) (fun hHeld => ?_)
    clear hK K
    try simp only [Act.put, List.setIfInBounds_toArray, List.set_cons_zero, List.set_cons_succ]
    refine wpAnyH_take (i := 8) (oi := { dst := some 28, op := Op.nilCheck (Operand.tmp 20), type := 0, pos := "things.go:55", after := #[{ on := 0, ground := Ground.data }, { on := 0, ground := Ground.phase }, { on := 1, ground := Ground.phase }, { on := 2, ground := Ground.phase }, { on := 3, ground := Ground.phase }, { on := 4, ground := Ground.phase }, { on := 5, ground := Ground.phase }, { on := 6, ground := Ground.phase }, { on := 7, ground := Ground.phase }], guard := none }) (v := ?v8b) rfl (by kernel_rfl) (by kernel_rfl) (by kernel_rfl) (fun _ _ _ h => h) (Or.inl ⟨by rfl, ?y8b⟩) (by assumption) ?r8b
    case y8b => (intro w hSw; (try dsimp only at hSw); go_simp; try with_reducible rfl)
    try simp only [Act.put, List.setIfInBounds_toArray, List.set_cons_zero, List.set_cons_succ]
    refine wpAnyH_take (i := 9) (oi := { dst := some 29, op := Op.fieldAddr 109 (Operand.tmp 28) 1, type := 0, pos := "things.go:55", after := #[{ on := 8, ground := Ground.data }, { on := 0, ground := Ground.phase }, { on := 1, ground := Ground.phase }, { on := 2, ground := Ground.phase }, { on := 3, ground := Ground.phase }, { on := 4, ground := Ground.phase }, { on := 5, ground := Ground.phase }, { on := 6, ground := Ground.phase }, { on := 7, ground := Ground.phase }], guard := none }) (v := ?v9b) rfl (by kernel_rfl) (by kernel_rfl) (by kernel_rfl) (fun _ _ _ h => h) (Or.inl ⟨by rfl, ?y9b⟩) (by assumption) ?r9b
    case y9b => (intro w hSw; (try dsimp only at hSw); go_simp; try with_reducible rfl)
    try simp only [Act.put, List.setIfInBounds_toArray, List.set_cons_zero, List.set_cons_succ]
    refine wpAnyH_ready (rs := [10]) (by kernel_rfl) (by simp) ?_
    refine AllReadyH.cons (o := { dst := none, op := Op.store 62 (Operand.tmp 29) (Operand.tmp 27), type := 0, pos := "things.go:55", after := #[{ on := 9, ground := Ground.data }, { on := 7, ground := Ground.data }, { on := 7, ground := Ground.chain }, { on := 0, ground := Ground.phase }, { on := 1, ground := Ground.phase }, { on := 2, ground := Ground.phase }, { on := 3, ground := Ground.phase }, { on := 4, ground := Ground.phase }, { on := 5, ground := Ground.phase }, { on := 6, ground := Ground.phase }, { on := 7, ground := Ground.phase }], guard := none }) rfl (fun K hK => ?_) AllReadyH.nil
    go_simp
    refine hK.out _ _ (unhide HS7) (fun hHeld => ?_)
    clear hK K
    try simp only [Act.put, List.setIfInBounds_toArray, List.set_cons_zero, List.set_cons_succ]
    refine wpAnyH_done (by kernel_rfl) ?_ _
    obtain ⟨W7, e7⟩ : ∃ X, w6.setCell ⟨b, 1, none⟩ (.slice a6 (n2 + 1) c6) = X := ⟨_, rfl⟩
    rw [e7] at HP6 HO6 HF6 ⊢
    clear e7 hy6 hf6 pA pB
    go_wp2_with fail
    go_ret
    exact ⟨a6, c6, rfl, unhide HP6, unhide HO6, unhide HL6, unhide HF6⟩

end Go.Proofs.Ytbnmeeabpjmcoaa
