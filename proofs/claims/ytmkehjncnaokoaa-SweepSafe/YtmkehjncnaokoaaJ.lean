/-
  A list of numbers of one's own, from whatever place on: what is appended to it; cut off ahead.
-/
import Derived.Test.YtmkehjncnaokoaaG
import Derived.ArgAppend
namespace Go.Proofs.Ytmkehjncnaokoaa
open Go.RowKit

theorem cell_of {w w' : World} {b o : Nat} {v : Value} (h : w.cell? ⟨b, o, none⟩ = some v) (hb : w'.heap[b]? = w.heap[b]?) : w'.cell? ⟨b, o, none⟩ = some v := by
  rw [World.cell?_of_block (w := w) (a := ⟨b, o, none⟩) hb]; exact h
theorem froz_of {w w' : World} {b o : Nat} {v : Bool} (h : w.frozen? ⟨b, o, none⟩ = v) (hb : w'.heap[b]? = w.heap[b]?) : w'.frozen? ⟨b, o, none⟩ = v := by
  rw [← h]
  simp only [World.frozen?, hb]
theorem there_keep {w w' : World} {G o n : Nat} (h : w.there G o n) (hb : w'.heap[G]? = w.heap[G]?) : w'.there G o n := fun j hj => by
  obtain ⟨h1, h2⟩ := h j hj
  refine ⟨?_, froz_of h2 hb⟩
  rw [World.cell?_of_block (w := w) (a := ⟨G, o + j, none⟩) hb]
  exact h1
theorem there_block {w : World} {b : Nat} {A : Array Value} {t : TypeId} (h : w.heap[b]? = some (.cells A t (0, 0))) {o n : Nat} (ho : o + n ≤ A.size) : w.there b o n := fun j hj => by
  constructor
  · simp only [World.cell?, h]
    show (A[o + j]?).isSome = true
    rw [Array.getElem?_eq_getElem (by omega)]; rfl
  · simp [World.frozen?, h]
theorem cell_same {w : World} {b o n m : Nat} (h : w.there b o n) (hm : m < n) (v : Value) : (w.setCell ⟨b, o + m, none⟩ v).cell? ⟨b, o + m, none⟩ = some v := by
  have h1 : w.there b (o + m) [v].length := fun q hq => by
    have hk : q = 0 := by simpa using hq
    subst hk
    exact h m hm
  exact World.rangeAt_setCells_same w b (o + m) [v] h1 0 _ rfl
theorem cell_other {w : World} {b o b' o' : Nat} {u : Value} (h : w.cell? ⟨b', o', none⟩ = some u) (hne : b' ≠ b ∨ o' ≠ o) (v : Value) : (w.setCell ⟨b, o, none⟩ v).cell? ⟨b', o', none⟩ = some u := by
  have := World.rangeAt_setCells_apart (w := w) (b' := b') (o' := o') (cs := [u]) (fun q x hv => by
    have hk : q = 0 := by have := (List.getElem?_eq_some_iff.1 hv).1; simpa using this
    subst hk
    simp at hv
    subst hv
    exact h) b o [v] (by
      rcases hne with h | h
      · exact Or.inl h
      · rcases Nat.lt_or_gt_of_ne h with h | h
        · exact Or.inr (Or.inl (by simp; omega))
        · exact Or.inr (Or.inr (by simp; omega))) 0 _ rfl
  exact this
theorem there_set {w : World} {b' n b o o' : Nat} (h : w.there b' o' n) (v : Value) : (w.setCell ⟨b, o, none⟩ v).there b' o' n := World.there_setCells h b o [v]
theorem size_set (w : World) (b o : Nat) (v : Value) : (w.setCell ⟨b, o, none⟩ v).heap.size = w.heap.size := by simp [World.setCell]
/-- The slice v is one's own list xs, from the block lo on. -/
def OwnO (lo : Nat) (w : World) (v : Value) (xs : List Int) : Prop := (v = .slice none 0 0 ∧ xs = []) ∨ ∃ g off cap, v = .slice (some ⟨g, off, none⟩) xs.length cap ∧ lo ≤ g ∧ g < w.heap.size ∧ xs.length ≤ cap ∧ (∀ j, j < xs.length → w.cell? ⟨g, off + j, none⟩ = some (.int .i64 (xs.getD j 0))) ∧ w.there g off cap
theorem OwnO.keep {lo : Nat} {w w' : World} {v : Value} {xs : List Int} (h : OwnO lo w v xs) (hs : w.heap.size ≤ w'.heap.size) (hk : ∀ k, v.ownBlock = some k → w'.heap[k]? = w.heap[k]?) : OwnO lo w' v xs := by
  rcases h with h | ⟨g, off, cap, rfl, h1, h2, h3, h4, h5⟩
  · exact Or.inl h
  · have hg := hk g rfl
    exact Or.inr ⟨g, off, cap, rfl, h1, Nat.lt_of_lt_of_le h2 hs, h3, fun j hj => cell_of (h4 j hj) hg, there_keep h5 hg⟩
theorem OwnO.lt {lo : Nat} {w : World} {v : Value} {xs : List Int} (h : OwnO lo w v xs) : ∀ k, v.ownBlock = some k → lo ≤ k ∧ k < w.heap.size := by
  rcases h with ⟨rfl, _⟩ | ⟨g, off, cap, rfl, h1, h2, _⟩
  · intro k hk; cases hk
  · intro k hk; cases hk; exact ⟨h1, h2⟩
theorem OwnO.form {lo : Nat} {w : World} {v : Value} {xs : List Int} (h : OwnO lo w v xs) : ∃ a c, v = .slice a xs.length c := by
  rcases h with ⟨rfl, rfl⟩ | ⟨g, off, cap, rfl, _⟩
  · exact ⟨_, _, rfl⟩
  · exact ⟨_, _, rfl⟩
theorem OwnO.nil (lo : Nat) (w : World) : OwnO lo w (.slice none 0 0) [] := Or.inl ⟨rfl, rfl⟩
/-- What an append leaves: all blocks but the list's. -/
structure Gr (lo : Nat) (v v' : Value) (w w' : World) : Prop where
  below : Below lo w w'
  keep : ∀ k, k < w.heap.size → v.ownBlock ≠ some k → w'.heap[k]? = w.heap[k]?
  new : ∀ k, v'.ownBlock = some k → v.ownBlock = some k ∨ w.heap.size ≤ k
theorem OwnO.of_owns {lo : Nat} {w w' : World} {v : Value} {xs : List Int} (hlo : lo ≤ w.heap.size) (h : w'.ownsRow w.heap.size 3 1 v xs.length (xs.map (Value.int .i64))) : OwnO lo w' v xs := by
  rcases h with ⟨_, ⟨rfl, h1⟩ | ⟨g, cap, cur, rfl, hg, hh, h2, _, h4, h5⟩⟩
  · exact Or.inl ⟨rfl, List.eq_nil_of_length_eq_zero h1⟩
  · refine Or.inr ⟨g, 0, cap, rfl, Nat.le_trans hlo hg, (Array.getElem?_eq_some_iff.1 hh).1, h2, fun j hj => ?_, there_block hh (by omega)⟩
    simp only [World.cell?, hh]
    have e : cur.toList[j]? = some (.int .i64 (xs.getD j 0)) := by
      have h6 : (cur.toList.take (xs.length * 1))[j]? = (xs.map (Value.int .i64))[j]? := by rw [h5]
      rw [List.getElem?_take, if_pos (by omega)] at h6
      rw [h6, List.getElem?_map, List.getElem?_eq_getElem hj]
      simp [List.getD_eq_getElem?_getD, List.getElem?_eq_getElem hj]
    rw [Nat.zero_add, ← Array.getElem?_toList]
    exact e
set_option maxHeartbeats 1000000 in
theorem wpList_append_o {w : World} {ops : Array Oper} {rest : List Oper} {o : Oper} {a : Act} {Q : Exit → Act → World → Prop} (hgd : o.guard = none) (s x : Operand)
    (hop : o.op = .call { callee := .builtin .append, args := #[s, x], argTypes := #[23, 23] }) (lo : Nat) (v : Value) (xs : List Int) (hs : a.eval s = v) (hown : OwnO lo w v xs)
    (B : Nat) (y : Int) (hx : a.eval x = .slice (some ⟨B, 0, none⟩) 1 1) (hB : w.cell? ⟨B, 0, none⟩ = some (.int .i64 y)) (n : Nat) (hn : xs.length = n) (hbytes : n ≤ 1000000) (hlo : lo ≤ w.heap.size)
    (h : ∀ a' c' w', OwnO lo w' (.slice a' (n + 1) c') (xs ++ [y]) → Gr lo v (.slice a' (n + 1) c') w w' → wpList Try.prog ops Q rest (a.put o.dst (.slice a' (n + 1) c')) w') : wpList Try.prog ops Q (o :: rest) a w := by
  obtain ⟨i0, hi, h0, h1, h2⟩ := info_parts (t := 3) (z := .int .i64 0) (s := 1) (b := 8) (by kernel_rfl)
  have hnews : ∀ j u, [Value.int .i64 y][j]? = some u → w.cell? ((⟨B, 0, none⟩ : Addr).add j) = some u := fun j u hu => by
    have hj : j = 0 := by have := (List.getElem?_eq_some_iff.1 hu).1; simpa using this
    subst hj
    simp at hu
    subst hu
    exact hB
  have h1c : ∀ u ∈ [Value.int .i64 y], u.oneCell' = true := fun u hu => by rw [List.mem_singleton.1 hu]; rfl
  have grow : ∀ v' w', w'.ownsRow w.heap.size 3 1 v' (n + 1) (xs.map (Value.int .i64) ++ [.int .i64 y]) → w.grownBy w' none → wpList Try.prog ops Q rest (a.put o.dst v') w' := fun v' w' r1 r2 => by
    have e : xs.map (Value.int .i64) ++ [.int .i64 y] = (xs ++ [y]).map (Value.int .i64) := by simp
    rw [e, show n + 1 = (xs ++ [y]).length by rw [List.length_append, hn]; rfl] at r1
    have ho := OwnO.of_owns hlo r1
    obtain ⟨a', c', hv⟩ := ho.form
    have r2' := r2
    obtain ⟨g1, g2, g3, g4, g5⟩ := r2
    have hlt : ∀ k, v'.ownBlock = some k → w.heap.size ≤ k := by
      rcases r1 with ⟨_, ⟨rfl, _⟩ | ⟨g, cap, cur, rfl, hg, _⟩⟩
      · intro k hk; cases hk
      · intro k hk; cases hk; exact hg
    rw [List.length_append, hn] at hv
    subst hv
    exact h a' c' w' ho ⟨(Below.refl lo w).grown r2' hlo (fun k hk => by cases hk), fun k hk _ => g5 k hk (by simp), fun k hk => Or.inr (hlt k hk)⟩
  have hbig : n + 1 ≤ maxLen := by unfold maxLen; omega
  rcases hown with ⟨rfl, rfl⟩ | ⟨g, off, cap, rfl, q1, q2, q3, q4, q5⟩
  · have hn0 : n = 0 := hn.symm
    subst hn0
    exact wpList_append_grows w hgd s x 23 hop 3 i0 (.int .i64 0) 1 8 Try.underlying23 hi h0 h1 h2 rfl (by decide) none 0 0 [] hs (fun _ => ⟨rfl, rfl⟩) rfl (fun b hb => by cases hb) ⟨B, 0, none⟩ 1 1 [.int .i64 y] hx rfl hnews h1c (by decide) hbig (by decide) (fun v' w' r1 r2 => grow v' w' r1 r2)
  · have holds : ∀ j u, (xs.map (Value.int .i64))[j]? = some u → w.cell? ⟨g, off + j, none⟩ = some u := fun j u hu => by
      have hj : j < xs.length := by have := (List.getElem?_eq_some_iff.1 hu).1; simpa using this
      rw [q4 j hj]
      rw [List.getElem?_map, List.getElem?_eq_getElem hj] at hu
      simp only [Option.map_some, Option.some.injEq] at hu
      rw [← hu]
      simp [List.getD_eq_getElem?_getD, List.getElem?_eq_getElem hj]
    rw [hn] at hs q3
    refine wpList_append_arg w hgd s x 23 hop 3 i0 (.int .i64 0) 1 8 Try.underlying23 hi h0 h1 h2 rfl (by decide) g off n cap (xs.map (Value.int .i64)) hs (by rw [List.length_map, hn, Nat.mul_one]) holds ⟨B, 0, none⟩ 1 1 [.int .i64 y] hx rfl hnews h1c (fun hr j hj => ?_) hbig (by omega) (fun hr => ?_) (fun _ v' w' r1 r2 => ?_)
    · have hj0 : j = 0 := by simpa using hj
      subst hj0
      have := q5 n (by omega)
      rwa [Nat.mul_one, Nat.add_zero]
    · have hset : w.setCells g (off + n * 1) [.int .i64 y] = w.setCell ⟨g, off + n, none⟩ (.int .i64 y) := by rw [Nat.mul_one]; rfl
      rw [hset]
      refine h (some ⟨g, off, none⟩) cap _ (Or.inr ⟨g, off, cap, by rw [List.length_append, hn]; rfl, q1, by rw [size_set]; exact q2, by rw [List.length_append, hn]; exact hr, fun j hj => ?_, there_set q5 _⟩) ⟨(Below.refl lo w).setCell (p := ⟨g, off + n, none⟩) q1 _, fun k _ hk => Below.heap_setCell _ _ _ _ (fun e => hk (by show some g = some k; rw [e])), fun k hk => Or.inl hk⟩
      rw [List.length_append, hn] at hj
      by_cases e : j = n
      · subst e
        have : (xs ++ [y]).getD j 0 = y := by rw [List.getD_eq_getElem?_getD, List.getElem?_append_right (by omega), hn, Nat.sub_self]; rfl
        rw [this]
        exact cell_same q5 (by omega) _
      · have hj2 : j < xs.length := by rw [hn]; have : j < n + 1 := hj; omega
        have : (xs ++ [y]).getD j 0 = xs.getD j 0 := by rw [List.getD_eq_getElem?_getD, List.getD_eq_getElem?_getD, List.getElem?_append_left hj2]
        rw [this]
        exact cell_other (q4 j hj2) (Or.inr (by omega)) _
    · exact grow v' w' r1 r2
end Go.Proofs.Ytmkehjncnaokoaa
