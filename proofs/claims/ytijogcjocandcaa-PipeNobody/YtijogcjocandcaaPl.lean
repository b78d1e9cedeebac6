/-
  Rows of numbers that grow beside a pipe.
-/
import Derived.Test.YtijogcjocandcaaGh
namespace Go.Proofs.Ytijogcjocandcaa
open Go.RowKit
variable {α : Type} {K : Kind α}

/-- A slice that reads as a list does so wherever its block is as it was. -/
theorem IsL.keep (hK : K.Ok) {w w' : World} {v : Value} {xs : List α} (h : IsL K w v xs) (hk : 0 < xs.length → ∀ k, v.ownBlock = some k → k < w.heap.size → w'.heap[k]? = w.heap[k]?) : IsL K w' v xs := by
  by_cases h0 : 0 < xs.length
  · obtain ⟨b, off, c, rfl, hb, hli⟩ := h.at hK h0
    exact (hli.keep (hk h0 b rfl hb)).isl hK rfl h.fits
  · have e : xs = [] := List.eq_nil_of_length_eq_zero (by omega)
    subst e
    obtain ⟨a, c, rfl⟩ := h.form
    cases a with
    | none =>
      obtain ⟨⟨_, ⟨h1, _⟩ | ⟨ad, cap, h1, _⟩⟩, h2⟩ := h
      · cases h1
        exact isl_nil w'
      · cases h1
    | some ad => exact IsL.none_left rfl

/-- append to a row of its own, and where the row lies then. -/
theorem append_wp2 (hK : K.Ok) {w : World} {o : Oper} {a : Act} {Q : Exit → Act → World → Prop} {Kn : Act → World → Prop} (s x : Operand)
    (ho : o.op = .call { callee := .builtin .append, args := #[s, x], argTypes := #[K.t, K.t] }) (base : Nat) (v : Value) (xs : List α) (hs : a.eval s = v) (hown : Own K base w v xs)
    (xv : Value) (ys : List α) (hx : a.eval x = xv) (hr : IsL K w xv ys) (n : Nat) (hn : xs.length + ys.length = n) (hbytes : n * K.bytes ≤ 140737488355328) (hbase : base ≤ w.heap.size)
    (h : ∀ a' c' w', Own K base w' (.slice a' n c') (xs ++ ys) → w.grownBy w' v.ownBlock → (∀ k, (Value.slice a' n c').ownBlock = some k → v.ownBlock = some k ∨ w.heap.size ≤ k) → Kn (a.put o.dst (.slice a' n c')) w') : Oper.wp Try.prog o a w Kn Q := by
  subst hn
  have hlen : xs.length + ys.length ≤ maxLen := by
    have h1 := Nat.mul_le_mul_left (xs.length + ys.length) hK.bpos
    unfold maxLen
    omega
  obtain ⟨i0, z, hi, hz0, hz1, hz2, hz3⟩ := hK.info
  obtain ⟨hl, ⟨rfl, h0⟩ | ⟨ad, c, rfl, hc⟩⟩ := hr.1
  · have e : ys = [] := List.eq_nil_of_length_eq_zero h0
    subst e
    have hrun := run_append_owned_none (P := Try.prog) (w := w) base K.t o.type K.e i0 K.k hK.und hi v xs.length _ hown
    obtain ⟨a', c', rfl⟩ := Rd.form (Rd.of_owns hown)
    unfold Oper.wp
    simp [execOp, ho, resolve, invoke, builtin, hs, hx, hrun, Result.andThen]
    exact h a' c' w (by rw [List.append_nil]; exact hown) (grownBy_refl w _) (fun k hk => Or.inl hk)
  · obtain ⟨v', w', hr', ho', hg, -⟩ := run_append_own (P := Try.prog) w base K.t o.type K.e i0 z K.k K.bytes hK.und hi hz0 hz1 hz2 hz3 hK.pos v xs.length _ hown ad ys.length c _ hl hc (flat_one hK ys) hlen hbytes hbase
    have hloc : ∀ k, v'.ownBlock = some k → v.ownBlock = some k ∨ w.heap.size ≤ k := by
      rcases hown.2 with ⟨rfl, h0⟩ | ⟨g, cap, cur, rfl, hbg, hgg, hnc, hcm, hcs, htake⟩
      · have e : xs = [] := List.eq_nil_of_length_eq_zero h0
        subst e
        obtain ⟨v2, w2, hr2, ho2, -, -⟩ := run_append_own (P := Try.prog) w w.heap.size K.t o.type K.e i0 z K.k K.bytes hK.und hi hz0 hz1 hz2 hz3 hK.pos (.slice none 0 0) 0 _ (World.ownsRow_nil w w.heap.size K.e K.k) ad ys.length c _ hl hc (flat_one hK ys) (by simpa using hlen) (by simpa using hbytes) (Nat.le_refl _)
        rw [hr2] at hr'
        cases hr'
        exact fun k hk => Or.inr (ho2.lt k hk).1
      · by_cases hroom : xs.length + ys.length ≤ cap
        · have hfit : xs.length * i0.size + (ys.flatMap K.f).length ≤ cur.size := by rw [hl, hcs, hz1, ← Nat.add_mul]; exact Nat.mul_le_mul_right _ hroom
          have hr2 := run_append_room (P := Try.prog) w K.t o.type K.e i0 hK.und hi g xs.length cap cur hgg ad ys.length c _ (by rw [hz1]; exact hl) hc (flat_one hK ys) hroom hfit
          rw [hr2] at hr'
          cases hr'
          exact fun k hk => Or.inl hk
        · have holds : ∀ j u, (xs.flatMap K.f)[j]? = some u → w.cell? ((⟨g, 0, none⟩ : Addr).add j) = some u := hown.cells (g := g) rfl
          have hr2 := run_append_grow (P := Try.prog) w K.t o.type K.e i0 z hK.und hi hz0 ⟨g, 0, none⟩ xs.length cap (xs.flatMap K.f) (by rw [hz1]; exact hown.1) holds ad ys.length c _ (by rw [hz1]; exact hl) hc (by omega) (by simp only [maxLen] at hlen; omega) (by rw [hz2]; exact growslice_fits (by omega) hbytes)
          rw [hr2] at hr'
          cases hr'
          intro k hk
          cases hk
          exact Or.inr (Nat.le_refl _)
    rw [← List.flatMap_append] at ho'
    have ho2 : Own K base w' v' (xs ++ ys) := by rw [Own, List.length_append]; exact ho'
    obtain ⟨a', c', rfl⟩ := Rd.form (Rd.of_owns ho')
    unfold Oper.wp execOp
    simp only [ho, resolve, invoke, builtin, Sem.run_bind, Sem.run_pure, Result.andThen_ok, List.map_toArray, List.map_cons, List.map_nil, hs, hx, hr']
    exact h a' c' w' ho2 hg hloc
theorem wpList_append2 (hK : K.Ok) {w : World} {ops : Array Oper} {rest : List Oper} {o : Oper} {a : Act} {Q : Exit → Act → World → Prop} (hw : Region.wanted o (yielded ops a.tmps) = true) (s x : Operand)
    (ho : o.op = .call { callee := .builtin .append, args := #[s, x], argTypes := #[K.t, K.t] }) (base : Nat) (v : Value) (xs : List α) (hs : a.eval s = v) (hown : Own K base w v xs)
    (xv : Value) (ys : List α) (hx : a.eval x = xv) (hr : IsL K w xv ys) (n : Nat) (hn : xs.length + ys.length = n) (hbytes : n * K.bytes ≤ 140737488355328) (hbase : base ≤ w.heap.size)
    (h : ∀ a' c' w', Own K base w' (.slice a' n c') (xs ++ ys) → w.grownBy w' v.ownBlock → (∀ k, (Value.slice a' n c').ownBlock = some k → v.ownBlock = some k ∨ w.heap.size ≤ k) → wpList Try.prog ops Q rest (a.put o.dst (.slice a' n c')) w') : wpList Try.prog ops Q (o :: rest) a w :=
  Go.BigFrame.wpList_want hw fun _ hKn => append_wp2 hK s x ho base v xs hs hown xv ys hx hr n hn hbytes hbase fun a' c' w' h1 h2 h3 => hKn _ _ (h a' c' w' h1 h2 h3)

/-- The row s lies in no block of the list that v reads as, where there is one. -/
def OffL (s v : Value) (n : Nat) : Prop := 0 < n → Apart s v
def OffP (s v : Value) (P : Pp) : Prop := ∀ x0 vi x2 vs vg, v = .agg #[x0, vi, x2, vs, vg] → OffL s vi P.items.length ∧ OffL s vs P.ss.length ∧ OffL s vg P.gs.length
def OffA (s v : Value) (A : An) : Prop := ∀ x0 x1 x2 x3 x4 vw, v = .agg #[x0, x1, x2, x3, x4, vw] → OffL s vw A.wakes.length
theorem OffL.keep (hK : K.Ok) {w w' : World} {s v : Value} {xs : List α} (h : OffL s v xs.length) (hi : IsL K w v xs) (hg : w.grownBy w' s.ownBlock) : IsL K w' v xs := by
  obtain ⟨_, _, _, _, hb⟩ := hg
  refine hi.keep hK fun h0 k hk hlt => hb k hlt ?_
  cases e : s.ownBlock with
  | none => simp
  | some j =>
    have := h h0 j e
    rw [hk] at this
    simp only [ne_eq, Option.some.injEq] at this ⊢
    omega
/-- Where the row has grown it still lies elsewhere. -/
theorem OffL.grown (hK : K.Ok) {w : World} {s s' v : Value} {xs : List α} (h : OffL s v xs.length) (hi : IsL K w v xs) (hl : ∀ k, s'.ownBlock = some k → s.ownBlock = some k ∨ w.heap.size ≤ k) : OffL s' v xs.length := fun h0 k hk hv => by
  obtain ⟨b, off, c, rfl, hb, -⟩ := hi.at hK h0
  have e : b = k := by simpa [Value.ownBlock] using hv
  rcases hl k hk with h1 | h1
  · exact h h0 k h1 hv
  · omega
theorem OffP.keep {w w' : World} {s v : Value} {P : Pp} (h : OffP s v P) (hi : IsPipe w v P) (hg : w.grownBy w' s.ownBlock) : IsPipe w' v P := by
  obtain ⟨vi, vs, vg, rfl, h1, h2, h3⟩ := hi
  obtain ⟨o1, o2, o3⟩ := h _ _ _ _ _ rfl
  exact ⟨vi, vs, vg, rfl, o1.keep ki h1 hg, o2.keep kp h2 hg, o3.keep kp h3 hg⟩
theorem OffP.grown {w : World} {s s' v : Value} {P : Pp} (h : OffP s v P) (hi : IsPipe w v P) (hl : ∀ k, s'.ownBlock = some k → s.ownBlock = some k ∨ w.heap.size ≤ k) : OffP s' v P := by
  obtain ⟨vi, vs, vg, rfl, h1, h2, h3⟩ := hi
  intro x0 vi' x2 vs' vg' e
  obtain ⟨o1, o2, o3⟩ := h _ _ _ _ _ e
  cases e
  exact ⟨o1.grown ki h1 hl, o2.grown kp h2 hl, o3.grown kp h3 hl⟩
theorem OffP.new {s v : Value} {P : Pp} {B : Nat} {w : World} (h : NewPipe B w v P) (hs : ∀ k, s.ownBlock = some k → k < B) : OffP s v P := by
  obtain ⟨vi, vs, vg, rfl, h1, h2, h3⟩ := h
  intro x0 vi' x2 vs' vg' e
  cases e
  have hh : ∀ v' : Value, (∀ k, v'.ownBlock = some k → B ≤ k) → Apart s v' := fun v' hv k hk hk' => by
    have := hs k hk
    have := hv k hk'
    omega
  exact ⟨fun _ => hh _ h1.2, fun _ => hh _ h2.2, fun _ => hh _ h3.2⟩
theorem OffA.keep {w w' : World} {s v : Value} {A : An} (h : OffA s v A) (hi : IsAns w v A) (hg : w.grownBy w' s.ownBlock) : IsAns w' v A := by
  obtain ⟨vw, rfl, h1⟩ := hi
  exact ⟨vw, rfl, (h _ _ _ _ _ _ rfl).keep kw h1 hg⟩
theorem OffA.grown {w : World} {s s' v : Value} {A : An} (h : OffA s v A) (hi : IsAns w v A) (hl : ∀ k, s'.ownBlock = some k → s.ownBlock = some k ∨ w.heap.size ≤ k) : OffA s' v A := by
  obtain ⟨vw, rfl, h1⟩ := hi
  intro x0 x1 x2 x3 x4 vw' e
  have o1 := h _ _ _ _ _ _ e
  cases e
  exact o1.grown kw h1 hl
theorem OffA.new {s v : Value} {A : An} {B : Nat} {w : World} (h : NewAns B w v A) (hs : ∀ k, s.ownBlock = some k → k < B) : OffA s v A := by
  obtain ⟨vw, rfl, h1⟩ := h
  intro x0 x1 x2 x3 x4 vw' e
  cases e
  exact fun _ k hk hk' => by
    have := hs k hk
    have := h1.2 k hk'
    omega
theorem Apart.grown {base : Nat} {w : World} {s s' g : Value} {xs : List Int} (h : Apart s g) (ho : Own KI base w g xs) (hl : ∀ k, s'.ownBlock = some k → s.ownBlock = some k ∨ w.heap.size ≤ k) : Apart s' g := fun k hk hg => by
  rcases hl k hk with h1 | h1
  · exact h k h1 hg
  · have := (ho.lt k hg).2
    omega
end Go.Proofs.Ytijogcjocandcaa
