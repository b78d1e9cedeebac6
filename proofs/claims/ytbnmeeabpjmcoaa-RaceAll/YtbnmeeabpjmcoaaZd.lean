/-
  Edges so far, as a set; what adds one; what the loop over events adds.
-/
import Derived.Test.YtbnmeeabpjmcoaaZa
import Derived.Laws.OwnMore
namespace Go.Proofs.Ytbnmeeabpjmcoaa
open Go.RowKit


/-- The rows hold just the edges of S that lead forward. -/
structure Ed (n : Nat) (S : Nat → Nat → Prop) (L : Nat → List Int) (T : Nat) : Prop where
  ok : ∀ a, a < n → ∀ z ∈ L a, ∃ b : Nat, z = (b : Int) ∧ a < b ∧ b < n ∧ S a b
  all : ∀ a, a < n → ∀ b : Nat, a < b → b < n → S a b → (b : Int) ∈ L a
  len : ∀ a, a < n → (L a).length ≤ T
theorem Ed.congr {n T T' : Nat} {S S' : Nat → Nat → Prop} {L : Nat → List Int} (h : Ed n S L T) (hT : T ≤ T') (hS : ∀ a b, a < b → b < n → (S a b ↔ S' a b)) : Ed n S' L T' :=
  ⟨fun a ha z hz => by
    obtain ⟨b, h1, h2, h3, h4⟩ := h.ok a ha z hz
    exact ⟨b, h1, h2, h3, (hS a b h2 h3).1 h4⟩, fun a ha b h1 h2 h3 => h.all a ha b h1 h2 ((hS a b h1 h2).2 h3), fun a ha => Nat.le_trans (h.len a ha) hT⟩
theorem Ed.add {n T a b : Nat} {S : Nat → Nat → Prop} {L : Nat → List Int} (h : Ed n S L T) (ha : a < b) (hb : b < n) : Ed n (fun x y => S x y ∨ (x = a ∧ (y : Int) = (b : Int))) (updF L a (L a ++ [(b : Int)])) (T + 1) := by
  refine ⟨fun x hx z hz => ?_, fun x hx y h1 h2 h3 => ?_, fun x hx => ?_⟩
  · by_cases e : x = a
    · subst e
      rw [updF_same] at hz
      rcases List.mem_append.1 hz with hz | hz
      · obtain ⟨c, c1, c2, c3, c4⟩ := h.ok x hx z hz
        exact ⟨c, c1, c2, c3, Or.inl c4⟩
      · have := List.mem_singleton.1 hz
        exact ⟨b, this, ha, hb, Or.inr ⟨rfl, rfl⟩⟩
    · rw [updF_ne _ _ e] at hz
      obtain ⟨c, c1, c2, c3, c4⟩ := h.ok x hx z hz
      exact ⟨c, c1, c2, c3, Or.inl c4⟩
  · by_cases e : x = a
    · subst e
      rw [updF_same]
      rcases h3 with h3 | ⟨_, h3⟩
      · exact List.mem_append_left _ (h.all x hx y h1 h2 h3)
      · rw [h3]; exact List.mem_append_right _ (List.mem_singleton.2 rfl)
    · rw [updF_ne _ _ e]
      rcases h3 with h3 | ⟨h3, _⟩
      · exact h.all x hx y h1 h2 h3
      · exact absurd h3 e
  · by_cases e : x = a
    · subst e
      rw [updF_same, List.length_append]
      have := h.len x hx
      simp
      exact this
    · rw [updF_ne _ _ e]
      exact Nat.le_succ_of_le (h.len x hx)
/-- The edges so far are those of S. -/
def EdSt (lo : Nat) (w : World) (E G n : Nat) (S : Nat → Nat → Prop) (T : Nat) : Prop := ∃ vf L, EdgesAt lo w E G n vf L ∧ Ed n S L T
theorem EdSt.below {lo : Nat} {w w' : World} {E G n T : Nat} {S : Nat → Nat → Prop} (h : EdSt lo w E G n S T) (hb : Below w.heap.size w w') : EdSt lo w' E G n S T := by
  obtain ⟨vf, L, h1, h2⟩ := h
  exact ⟨vf, L, h1.below hb, h2⟩
theorem EdSt.congr {lo : Nat} {w : World} {E G n T T' : Nat} {S S' : Nat → Nat → Prop} (h : EdSt lo w E G n S T) (hT : T ≤ T') (hS : ∀ a b, a < b → b < n → (S a b ↔ S' a b)) : EdSt lo w E G n S' T' := by
  obtain ⟨vf, L, h1, h2⟩ := h
  exact ⟨vf, L, h1, h2.congr hT hS⟩
theorem edgeAdd_any (lo : Nat) (w : World) (E G n : Nat) (S : Nat → Nat → Prop) (T : Nat) (h : EdSt lo w E G n S T) (a : Nat) (z : Int) (ha : a < n) (hz : z < (n : Int)) (hn : n ≤ 2000) (hT : T ≤ 100000000) :
    Calls Try.prog 45 #[.int .i64 (a : Int), .int .i64 z, .pointer (some ⟨E, 0, none⟩)] w fun e w' => e = .returned (.tuple #[]) ∧ EdSt lo w' E G n (fun x y => S x y ∨ (x = a ∧ (y : Int) = z)) (T + 1) ∧ Below G w w' := by
  obtain ⟨vf, L, h1, h2⟩ := h
  by_cases hab : (a : Int) < z
  · obtain ⟨b, rfl⟩ : ∃ b : Nat, z = (b : Int) := ⟨z.toNat, by omega⟩
    refine (edgeAdd_yes lo w E G n vf L h1 a (b : Int) hab ha hn (Nat.le_trans (h2.len a ha) hT)).mono ?_
    rintro e w' ⟨vf', rfl, h3, h4⟩
    exact ⟨rfl, ⟨vf', _, h3, h2.add (by omega) (by omega)⟩, h4⟩
  · refine (edgeAdd_no w E (a : Int) z hab).mono ?_
    rintro e w' ⟨rfl, rfl⟩
    exact ⟨rfl, ⟨vf, L, h1, h2.congr (Nat.le_succ T) (fun x y hxy _ => ⟨Or.inl, fun q => q.elim id (fun ⟨q1, q2⟩ => absurd (show (a : Int) < z by rw [← q2, ← q1]; omega) hab)⟩)⟩, Below.refl _ _⟩

/-- The edges that hang on no pipe. -/
def EA (l : List Ev) (a b : Nat) : Prop :=
    NextIs l (l.getD a ev0).task a b
  ∨ ((l.getD a ev0).op = 11 ∧ NextIs l (l.getD a ev0).val a b)
  ∨ ((l.getD a ev0).obj = (l.getD b ev0).obj ∧ (l.getD a ev0).op = 18 ∧ (l.getD b ev0).op = 17 ∧ ((l.getD a ev0).val = 1 ∨ (l.getD b ev0).val = 1))
  ∨ ((l.getD a ev0).obj = (l.getD b ev0).obj ∧ (l.getD a ev0).op = 19 ∧ (l.getD b ev0).op = 20)
/-- The edges of a pipe. -/
def EP (hs : List Int) (l : List Ev) (p : Int) (a b : Nat) : Prop :=
    ((l.getD b ev0).obj = p ∧ (l.getD b ev0).op = 15 ∧ (pix l p b).gets.length = (pix l p b).sends.length ∧ (pix l p b).shut = some a)
  ∨ ∃ k : Nat, ∃ g s : Nat, (pix l p l.length).gets[k]? = some g ∧ (pix l p l.length).sends[k]? = some s ∧
      ((a = s ∧ b = g) ∨ (a = g ∧ hs.getD p.toNat 0 = 0 ∧ NextIs l (l.getD s ev0).task g b) ∨ (a = g ∧ hs.getD p.toNat 0 ≠ 0 ∧ (pix l p l.length).sends[k + (hs.getD p.toNat 0).toNat]? = some b))
/-- All edges are those, and no others. -/
theorem edge_all {hs : List Int} {l : List Ev} (hh : ∀ i, 0 ≤ hs.getD i 0) (hp : ∀ i, i < l.length → (l.getD i ev0).op = 14 ∨ (l.getD i ev0).op = 15 ∨ (l.getD i ev0).op = 16 → ∃ p : Nat, p < hs.length ∧ (l.getD i ev0).obj = (p : Int)) {a b : Nat} (hab : a < b) (hb : b < l.length) :
    Edge hs l a b ↔ EA l a b ∨ ∃ p : Nat, p < hs.length ∧ EP hs l (p : Int) a b := by
  constructor
  · rintro ⟨_, _, ⟨t, hT, hN⟩ | hA⟩
    · rcases hT with rfl | ⟨h1, rfl⟩ | ⟨h1, h2, s, h3, rfl⟩
      · exact Or.inl (Or.inl hN)
      · exact Or.inl (Or.inr (Or.inl ⟨h1, hN⟩))
      · obtain ⟨p, hpl, ho⟩ := hp a (by omega) (Or.inr (Or.inl h1))
        refine Or.inr ⟨p, hpl, Or.inr ⟨(pix l (p : Int) a).gets.length, a, s, ?_, ?_, Or.inr (Or.inl ⟨rfl, ?_, hN⟩)⟩⟩
        · unfold sentOf at h3
          rw [ho] at h3
          have hlt := (List.getElem?_eq_some_iff.1 h3).1
          exact get_at (by omega) ho h1 (by omega)
        · unfold sentOf at h3
          rw [ho] at h3
          exact pix_sends_le (by omega) h3
        · unfold holdOf at h2
          rw [ho] at h2
          exact h2
    · rcases hA with ⟨h1, h2, h3, h4⟩ | ⟨h1, h2, h3⟩ | ⟨h1, h2, h3⟩ | ⟨h1, h2⟩ | ⟨h1, k, h2, h3⟩
      · exact Or.inl (Or.inr (Or.inr (Or.inl ⟨h3, h1, h2, h4.symm⟩)))
      · exact Or.inl (Or.inr (Or.inr (Or.inr ⟨h3, h1, h2⟩)))
      · obtain ⟨p, hpl, ho⟩ := hp b hb (Or.inr (Or.inl h1))
        rw [ho] at h2 h3
        exact Or.inr ⟨p, hpl, Or.inl ⟨ho, h1, h2, h3⟩⟩
      · obtain ⟨p, hpl, ho⟩ := hp b hb (Or.inr (Or.inl h1))
        unfold sentOf at h2
        rw [ho] at h2
        have hlt := (List.getElem?_eq_some_iff.1 h2).1
        exact Or.inr ⟨p, hpl, Or.inr ⟨_, b, a, get_at hb ho h1 (by omega), pix_sends_le (by omega) h2, Or.inl ⟨rfl, rfl⟩⟩⟩
      · obtain ⟨p, hpl, ho⟩ := hp b hb (Or.inl h1)
        unfold holdOf at h2
        rw [ho] at h2 h3
        have h0 := hh (p : Int).toNat
        have hle := pix_len l (p : Int) b
        have hkl := (List.getElem?_eq_some_iff.1 h3).1
        have hs1 := send_at (N := l.length) hb ho h1
        have hg1 := pix_gets_le (Nat.le_of_lt hb) h3
        have hks : k < (pix l (p : Int) b).sends.length := by omega
        have hs2 := pix_sends_le (m := l.length) (Nat.le_of_lt hb) (List.getElem?_eq_getElem hks)
        refine Or.inr ⟨p, hpl, Or.inr ⟨k, a, _, hg1, hs2, Or.inr (Or.inr ⟨rfl, by omega, ?_⟩)⟩⟩
        rw [show k + (hs.getD (p : Int).toNat 0).toNat = (pix l (p : Int) b).sends.length by omega]
        exact hs1
  · rintro (hA | ⟨p, hpl, hP⟩)
    · rcases hA with h | ⟨h1, h2⟩ | ⟨h1, h2, h3, h4⟩ | ⟨h1, h2, h3⟩
      · exact ⟨hab, hb, Or.inl ⟨_, Or.inl rfl, h⟩⟩
      · exact ⟨hab, hb, Or.inl ⟨_, Or.inr (Or.inl ⟨h1, rfl⟩), h2⟩⟩
      · exact ⟨hab, hb, Or.inr (Or.inl ⟨h2, h3, h1, h4.symm⟩)⟩
      · exact ⟨hab, hb, Or.inr (Or.inr (Or.inl ⟨h2, h3, h1⟩))⟩
    · rcases hP with ⟨h1, h2, h3, h4⟩ | ⟨k, g, s, hg, hs', h⟩
      · exact ⟨hab, hb, Or.inr (Or.inr (Or.inr (Or.inl ⟨h2, by rw [h1]; exact h3, by rw [h1]; exact h4⟩)))⟩
      · obtain ⟨g1, g2, g3, g4, g5⟩ := pix_get hg
        have hle := pix_len l (p : Int) g
        have hsn : (pix l (p : Int) g).sends[k]? = some s := by
          obtain ⟨x, hx⟩ : ∃ x, (pix l (p : Int) g).sends[k]? = some x := ⟨_, List.getElem?_eq_getElem (by omega)⟩
          have := pix_sends_le (m := l.length) (Nat.le_of_lt g1) hx
          rw [hs'] at this
          cases this
          exact hx
        have hso : sentOf l g = some s := by unfold sentOf; rw [g3, g4]; exact hsn
        rcases h with ⟨rfl, rfl⟩ | ⟨rfl, h1, h2⟩ | ⟨rfl, h1, h2⟩
        · exact ⟨hab, hb, Or.inr (Or.inr (Or.inr (Or.inr (Or.inl ⟨g2, hso⟩))))⟩
        · exact ⟨hab, hb, Or.inl ⟨_, Or.inr (Or.inr ⟨g2, by unfold holdOf; rw [g3]; exact h1, s, hso, rfl⟩), h2⟩⟩
        · obtain ⟨s1, s2, s3, s4⟩ := pix_send h2
          have h0 := hh (p : Int).toNat
          refine ⟨hab, hb, Or.inr (Or.inr (Or.inr (Or.inr (Or.inr ⟨s2, k, ?_, ?_⟩))))⟩
          · unfold holdOf
            rw [s3, s4]
            omega
          · rw [s3]
            exact gets_back hg hab


theorem make_rows3 (n : Nat) (hn : n ≤ 2000) : ∃ A : Array Value, A.toList = List.replicate n (.slice none 0 0) ∧ ∀ w : World, (Instr.makeSlice 30 (.int .i64 (n : Int)) (.int .i64 (n : Int))).run Try.prog w = .ok (.slice (some ⟨w.heap.size, 0, none⟩) n n) (w.alloc (.cells A 23)) := by
  have hinf : (Try.prog.info? 23).map (fun i => (i.zero, i.size, i.bytes)) = some (some (.slice none 0 0), 1, 24) := by kernel_rfl
  obtain ⟨i0, hi, h0, h1, h2⟩ := info_parts hinf
  refine ⟨madeCells (Value.slice none 0 0).cells (n * i0.size), by rw [h1, Nat.mul_one]; exact toList_madeCells_one _ _, fun w => ?_⟩
  have := run_makeSlice (P := Try.prog) w 30 23 i0 (.slice none 0 0) Try.underlying30 hi h0 .i64 .i64 (n : Int) (n : Int) (by omega) (by omega) (by rw [h1]; omega) (by rw [h2]; omega) (by omega)
  simpa using this
theorem edges_begin (_w W : World) (G n : Nat) (A : Array Value) (hA : A.toList = List.replicate n (.slice none 0 0)) (hG : W.heap[G]? = some (.cells A 23 (0, 0))) (hE : W.heap[G + 1]? = some (.cells #[.slice (some ⟨G, 0, none⟩) n n] 30 (0, 0))) (S : Nat → Nat → Prop) (hS : ∀ a b, ¬ S a b) : EdSt (G + 1 + 1) W (G + 1) G n S 0 := by
  have hsz : A.size = n := by rw [← Array.length_toList, hA, List.length_replicate]
  refine ⟨fun _ => .slice none 0 0, fun _ => [], ⟨hE, Nat.lt_succ_self _, by have := size_of hE; omega, by omega, there_block hG (by omega), size_of hG, by omega, fun i hi => ?_, fun i hi => own_nil _ _, fun i j _ _ _ k hk => (by cases hk)⟩, fun a ha z hz => (by cases hz), fun a ha b _ _ h => (hS a b h).elim, fun a ha => Nat.le_refl _⟩
  simp only [World.cell?, hG]
  have : A[i]? = some (.slice none 0 0) := by
    rw [← Array.getElem?_toList, hA, List.getElem?_replicate]
    simp [hi]
  simpa using this
/-- What hangs on locks and groups. -/
def EL (l : List Ev) (a b : Nat) : Prop :=
    ((l.getD a ev0).obj = (l.getD b ev0).obj ∧ (l.getD a ev0).op = 18 ∧ (l.getD b ev0).op = 17 ∧ ((l.getD a ev0).val = 1 ∨ (l.getD b ev0).val = 1))
  ∨ ((l.getD a ev0).obj = (l.getD b ev0).obj ∧ (l.getD a ev0).op = 19 ∧ (l.getD b ev0).op = 20)
theorem ea_iff {l : List Ev} {a b : Nat} : EA l a b ↔ NextIs l (l.getD a ev0).task a b ∨ ((l.getD a ev0).op = 11 ∧ NextIs l (l.getD a ev0).val a b) ∨ EL l a b := Iff.rfl
theorem next_set {l : List Ev} {t : Int} {i : Nat} {r : Int} (h : NextR l t i r) {y : Nat} (hy : y < l.length) : (y : Int) = r ↔ NextIs l t i y := by
  rcases h with ⟨b, rfl, hb, hN⟩ | ⟨rfl, hN⟩
  · constructor
    · intro e
      obtain rfl : y = b := by omega
      exact hN
    · intro hy2
      rw [hN.uniq hy2]
  · constructor
    · intro e; omega
    · intro hy2; exact absurd hy2 (hN y hy)
theorem next_lt {l : List Ev} {t : Int} {i : Nat} {r : Int} (h : NextR l t i r) : r < (l.length : Int) := by
  rcases h with ⟨b, rfl, hb, _⟩ | ⟨rfl, _⟩ <;> omega



/-- The edges when the events ahead of i are gone through, and of i all that hangs on tasks, and on locks and groups ahead of k. -/
def SI (l : List Ev) (i : Nat) : Nat → Nat → Prop := fun a b => a < i ∧ EA l a b
def SK (l : List Ev) (i k : Nat) : Nat → Nat → Prop := fun a b => (a < i ∧ EA l a b) ∨ (a = i ∧ (NextIs l (l.getD a ev0).task a b ∨ ((l.getD a ev0).op = 11 ∧ NextIs l (l.getD a ev0).val a b) ∨ (b < k ∧ EL l a b)))
theorem sk_no {l : List Ev} {i k : Nat} (h : ¬ EL l i k) (a b : Nat) : SK l i k a b ↔ SK l i (k + 1) a b := by
  unfold SK
  constructor
  · rintro (q | ⟨q, r | r | ⟨r, s⟩⟩)
    · exact Or.inl q
    · exact Or.inr ⟨q, Or.inl r⟩
    · exact Or.inr ⟨q, Or.inr (Or.inl r)⟩
    · exact Or.inr ⟨q, Or.inr (Or.inr ⟨by omega, s⟩)⟩
  · rintro (q | ⟨q, r | r | ⟨r, s⟩⟩)
    · exact Or.inl q
    · exact Or.inr ⟨q, Or.inl r⟩
    · exact Or.inr ⟨q, Or.inr (Or.inl r)⟩
    · by_cases e : b = k
      · subst q e; exact absurd s h
      · exact Or.inr ⟨q, Or.inr (Or.inr ⟨by omega, s⟩)⟩
theorem sk_yes {l : List Ev} {i k : Nat} (h : EL l i k) (a b : Nat) : (SK l i k a b ∨ (a = i ∧ (b : Int) = (k : Int))) ↔ SK l i (k + 1) a b := by
  unfold SK
  constructor
  · rintro ((q | ⟨q, r | r | ⟨r, s⟩⟩) | ⟨q, r⟩)
    · exact Or.inl q
    · exact Or.inr ⟨q, Or.inl r⟩
    · exact Or.inr ⟨q, Or.inr (Or.inl r)⟩
    · exact Or.inr ⟨q, Or.inr (Or.inr ⟨by omega, s⟩)⟩
    · obtain rfl : b = k := by omega
      subst q
      exact Or.inr ⟨rfl, Or.inr (Or.inr ⟨by omega, h⟩)⟩
  · rintro (q | ⟨q, r | r | ⟨r, s⟩⟩)
    · exact Or.inl (Or.inl q)
    · exact Or.inl (Or.inr ⟨q, Or.inl r⟩)
    · exact Or.inl (Or.inr ⟨q, Or.inr (Or.inl r)⟩)
    · by_cases e : b = k
      · exact Or.inr ⟨q, by omega⟩
      · exact Or.inl (Or.inr ⟨q, Or.inr (Or.inr ⟨by omega, s⟩)⟩)
theorem sk_end {l : List Ev} {i : Nat} (a b : Nat) (hb : b < l.length) : SK l i l.length a b ↔ SI l (i + 1) a b := by
  unfold SK SI
  rw [ea_iff]
  constructor
  · rintro (q | ⟨q, r | r | ⟨r, s⟩⟩)
    · exact ⟨by omega, ea_iff.1 q.2⟩
    · exact ⟨by omega, Or.inl r⟩
    · exact ⟨by omega, Or.inr (Or.inl r)⟩
    · exact ⟨by omega, Or.inr (Or.inr s)⟩
  · rintro ⟨q, r⟩
    by_cases e : a = i
    · refine Or.inr ⟨e, ?_⟩
      rcases r with r | r | r
      · exact Or.inl r
      · exact Or.inr (Or.inl r)
      · exact Or.inr (Or.inr ⟨hb, r⟩)
    · exact Or.inl ⟨by omega, ea_iff.2 r⟩
/-- Ahead of its inner loop. -/
theorem sk_begin_go {l : List Ev} {i : Nat} {r r2 : Int} (h11 : (l.getD i ev0).op = 11) (h1 : NextR l (l.getD i ev0).task i r) (h2 : NextR l (l.getD i ev0).val i r2) (a b : Nat) (hab : a < b) (hb : b < l.length) : ((SI l i a b ∨ (a = i ∧ (b : Int) = r)) ∨ (a = i ∧ (b : Int) = r2)) ↔ SK l i (i + 1) a b := by
  unfold SK SI
  rw [next_set h1 hb, next_set h2 hb]
  constructor
  · rintro ((q | ⟨q, s⟩) | ⟨q, s⟩)
    · exact Or.inl q
    · subst q; exact Or.inr ⟨rfl, Or.inl s⟩
    · subst q; exact Or.inr ⟨rfl, Or.inr (Or.inl ⟨h11, s⟩)⟩
  · rintro (q | ⟨q, s | s | s⟩)
    · exact Or.inl (Or.inl q)
    · subst q; exact Or.inl (Or.inr ⟨rfl, s⟩)
    · subst q; exact Or.inr ⟨rfl, s.2⟩
    · omega
theorem sk_begin_no {l : List Ev} {i : Nat} {r : Int} (h11 : (l.getD i ev0).op ≠ 11) (h1 : NextR l (l.getD i ev0).task i r) (a b : Nat) (hab : a < b) (hb : b < l.length) : (SI l i a b ∨ (a = i ∧ (b : Int) = r)) ↔ SK l i (i + 1) a b := by
  unfold SK SI
  rw [next_set h1 hb]
  constructor
  · rintro (q | ⟨q, s⟩)
    · exact Or.inl q
    · subst q; exact Or.inr ⟨rfl, Or.inl s⟩
  · rintro (q | ⟨q, s | s | s⟩)
    · exact Or.inl q
    · subst q; exact Or.inr ⟨rfl, s⟩
    · subst q; exact absurd s.1 h11
    · omega
theorem EdSt.lt {lo : Nat} {w : World} {E G n T : Nat} {S : Nat → Nat → Prop} (h : EdSt lo w E G n S T) : G < w.heap.size := by
  obtain ⟨vf, L, h1, _⟩ := h
  exact h1.rows.lt
end Go.Proofs.Ytbnmeeabpjmcoaa
