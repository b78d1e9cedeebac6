/-
  A list of numbers of one's own, from whatever place on: what is appended to it; cut off ahead.
  sweep.marker: where it lies; its method shade.
-/
import Derived.Test.YtmkehjncnaokoaaG
import Derived.ArgAppend
namespace Go.Proofs.Ytmkehjncnaokoaa
open Go.RowKit

theorem cell_of {w w' : World} {b o : Nat} {v : Value} (h : w.cell? ⟨b, o, none⟩ = some v) (hb : w'.heap[b]? = w.heap[b]?) : w'.cell? ⟨b, o, none⟩ = some v := by
  rw [World.cell?_of_block (w := w) (a := ⟨b, o, none⟩) hb]; exact h
theorem froz_of {w w' : World} {b o : Nat} {v : Bool} (h : w.frozen? ⟨b, o, none⟩ = v) (hb : w'.heap[b]? = w.heap[b]?) : w'.frozen? ⟨b, o, none⟩ = v := by
  rw [← h]
  simp only [World.frozen?, hb]
theorem there_keep {w w' : World} {G o n : Nat} (h : w.there G o n) (hb : w'.heap[G]? = w.heap[G]?) : w'.there G o n := fun j hj => by
  obtain ⟨h1, h2⟩ := h j hj
  refine ⟨?_, froz_of h2 hb⟩
  rw [World.cell?_of_block (w := w) (a := ⟨G, o + j, none⟩) hb]
  exact h1
theorem there_block {w : World} {b : Nat} {A : Array Value} {t : TypeId} (h : w.heap[b]? = some (.cells A t (0, 0))) {o n : Nat} (ho : o + n ≤ A.size) : w.there b o n := fun j hj => by
  constructor
  · simp only [World.cell?, h]
    show (A[o + j]?).isSome = true
    rw [Array.getElem?_eq_getElem (by omega)]; rfl
  · simp [World.frozen?, h]
theorem cell_same {w : World} {b o n m : Nat} (h : w.there b o n) (hm : m < n) (v : Value) : (w.setCell ⟨b, o + m, none⟩ v).cell? ⟨b, o + m, none⟩ = some v := by
  have h1 : w.there b (o + m) [v].length := fun q hq => by
    have hk : q = 0 := by simpa using hq
    subst hk
    exact h m hm
  exact World.rangeAt_setCells_same w b (o + m) [v] h1 0 _ rfl
theorem cell_other {w : World} {b o b' o' : Nat} {u : Value} (h : w.cell? ⟨b', o', none⟩ = some u) (hne : b' ≠ b ∨ o' ≠ o) (v : Value) : (w.setCell ⟨b, o, none⟩ v).cell? ⟨b', o', none⟩ = some u := by
  have := World.rangeAt_setCells_apart (w := w) (b' := b') (o' := o') (cs := [u]) (fun q x hv => by
    have hk : q = 0 := by have := (List.getElem?_eq_some_iff.1 hv).1; simpa using this
    subst hk
    simp at hv
    subst hv
    exact h) b o [v] (by
      rcases hne with h | h
      · exact Or.inl h
      · rcases Nat.lt_or_gt_of_ne h with h | h
        · exact Or.inr (Or.inl (by simp; omega))
        · exact Or.inr (Or.inr (by simp; omega))) 0 _ rfl
  exact this
theorem there_set {w : World} {b' n b o o' : Nat} (h : w.there b' o' n) (v : Value) : (w.setCell ⟨b, o, none⟩ v).there b' o' n := World.there_setCells h b o [v]
theorem size_set (w : World) (b o : Nat) (v : Value) : (w.setCell ⟨b, o, none⟩ v).heap.size = w.heap.size := by simp [World.setCell]
/-- The slice v is one's own list xs, from the block lo on. -/
def OwnO (lo : Nat) (w : World) (v : Value) (xs : List Int) : Prop := (v = .slice none 0 0 ∧ xs = []) ∨ ∃ g off cap, v = .slice (some ⟨g, off, none⟩) xs.length cap ∧ lo ≤ g ∧ g < w.heap.size ∧ xs.length ≤ cap ∧ (∀ j, j < xs.length → w.cell? ⟨g, off + j, none⟩ = some (.int .i64 (xs.getD j 0))) ∧ w.there g off cap
theorem OwnO.keep {lo : Nat} {w w' : World} {v : Value} {xs : List Int} (h : OwnO lo w v xs) (hs : w.heap.size ≤ w'.heap.size) (hk : ∀ k, v.ownBlock = some k → w'.heap[k]? = w.heap[k]?) : OwnO lo w' v xs := by
  rcases h with h | ⟨g, off, cap, rfl, h1, h2, h3, h4, h5⟩
  · exact Or.inl h
  · have hg := hk g rfl
    exact Or.inr ⟨g, off, cap, rfl, h1, Nat.lt_of_lt_of_le h2 hs, h3, fun j hj => cell_of (h4 j hj) hg, there_keep h5 hg⟩
theorem OwnO.lt {lo : Nat} {w : World} {v : Value} {xs : List Int} (h : OwnO lo w v xs) : ∀ k, v.ownBlock = some k → lo ≤ k ∧ k < w.heap.size := by
  rcases h with ⟨rfl, _⟩ | ⟨g, off, cap, rfl, h1, h2, _⟩
  · intro k hk; cases hk
  · intro k hk; cases hk; exact ⟨h1, h2⟩
theorem OwnO.form {lo : Nat} {w : World} {v : Value} {xs : List Int} (h : OwnO lo w v xs) : ∃ a c, v = .slice a xs.length c := by
  rcases h with ⟨rfl, rfl⟩ | ⟨g, off, cap, rfl, _⟩
  · exact ⟨_, _, rfl⟩
  · exact ⟨_, _, rfl⟩
theorem OwnO.nil (lo : Nat) (w : World) : OwnO lo w (.slice none 0 0) [] := Or.inl ⟨rfl, rfl⟩
/-- What an append leaves: all blocks but the list's. -/
structure Gr (lo : Nat) (v v' : Value) (w w' : World) : Prop where
  below : Below lo w w'
  keep : ∀ k, k < w.heap.size → v.ownBlock ≠ some k → w'.heap[k]? = w.heap[k]?
  new : ∀ k, v'.ownBlock = some k → v.ownBlock = some k ∨ w.heap.size ≤ k
theorem OwnO.of_owns {lo : Nat} {w w' : World} {v : Value} {xs : List Int} (hlo : lo ≤ w.heap.size) (h : w'.ownsRow w.heap.size 3 1 v xs.length (xs.map (Value.int .i64))) : OwnO lo w' v xs := by
  rcases h with ⟨_, ⟨rfl, h1⟩ | ⟨g, cap, cur, rfl, hg, hh, h2, _, h4, h5⟩⟩
  · exact Or.inl ⟨rfl, List.eq_nil_of_length_eq_zero h1⟩
  · refine Or.inr ⟨g, 0, cap, rfl, Nat.le_trans hlo hg, (Array.getElem?_eq_some_iff.1 hh).1, h2, fun j hj => ?_, there_block hh (by omega)⟩
    simp only [World.cell?, hh]
    have e : cur.toList[j]? = some (.int .i64 (xs.getD j 0)) := by
      have h6 : (cur.toList.take (xs.length * 1))[j]? = (xs.map (Value.int .i64))[j]? := by rw [h5]
      rw [List.getElem?_take, if_pos (by omega)] at h6
      rw [h6, List.getElem?_map, List.getElem?_eq_getElem hj]
      simp [List.getD_eq_getElem?_getD, List.getElem?_eq_getElem hj]
    rw [Nat.zero_add, ← Array.getElem?_toList]
    exact e
set_option maxHeartbeats 1000000 in
theorem wpList_append_o {w : World} {ops : Array Oper} {rest : List Oper} {o : Oper} {a : Act} {Q : Exit → Act → World → Prop} (hgd : o.guard = none) (s x : Operand)
    (hop : o.op = .call { callee := .builtin .append, args := #[s, x], argTypes := #[23, 23] }) (lo : Nat) (v : Value) (xs : List Int) (hs : a.eval s = v) (hown : OwnO lo w v xs)
    (B : Nat) (y : Int) (hx : a.eval x = .slice (some ⟨B, 0, none⟩) 1 1) (hB : w.cell? ⟨B, 0, none⟩ = some (.int .i64 y)) (n : Nat) (hn : xs.length = n) (hbytes : n ≤ 1000000) (hlo : lo ≤ w.heap.size)
    (h : ∀ a' c' w', OwnO lo w' (.slice a' (n + 1) c') (xs ++ [y]) → Gr lo v (.slice a' (n + 1) c') w w' → wpList Try.prog ops Q rest (a.put o.dst (.slice a' (n + 1) c')) w') : wpList Try.prog ops Q (o :: rest) a w := by
  obtain ⟨i0, hi, h0, h1, h2⟩ := info_parts (t := 3) (z := .int .i64 0) (s := 1) (b := 8) (by kernel_rfl)
  have hnews : ∀ j u, [Value.int .i64 y][j]? = some u → w.cell? ((⟨B, 0, none⟩ : Addr).add j) = some u := fun j u hu => by
    have hj : j = 0 := by have := (List.getElem?_eq_some_iff.1 hu).1; simpa using this
    subst hj
    simp at hu
    subst hu
    exact hB
  have h1c : ∀ u ∈ [Value.int .i64 y], u.oneCell' = true := fun u hu => by rw [List.mem_singleton.1 hu]; rfl
  have grow : ∀ v' w', w'.ownsRow w.heap.size 3 1 v' (n + 1) (xs.map (Value.int .i64) ++ [.int .i64 y]) → w.grownBy w' none → wpList Try.prog ops Q rest (a.put o.dst v') w' := fun v' w' r1 r2 => by
    have e : xs.map (Value.int .i64) ++ [.int .i64 y] = (xs ++ [y]).map (Value.int .i64) := by simp
    rw [e, show n + 1 = (xs ++ [y]).length by rw [List.length_append, hn]; rfl] at r1
    have ho := OwnO.of_owns hlo r1
    obtain ⟨a', c', hv⟩ := ho.form
    have r2' := r2
    obtain ⟨g1, g2, g3, g4, g5⟩ := r2
    have hlt : ∀ k, v'.ownBlock = some k → w.heap.size ≤ k := by
      rcases r1 with ⟨_, ⟨rfl, _⟩ | ⟨g, cap, cur, rfl, hg, _⟩⟩
      · intro k hk; cases hk
      · intro k hk; cases hk; exact hg
    rw [List.length_append, hn] at hv
    subst hv
    exact h a' c' w' ho ⟨(Below.refl lo w).grown r2' hlo (fun k hk => by cases hk), fun k hk _ => g5 k hk (by simp), fun k hk => Or.inr (hlt k hk)⟩
  have hbig : n + 1 ≤ maxLen := by unfold maxLen; omega
  rcases hown with ⟨rfl, rfl⟩ | ⟨g, off, cap, rfl, q1, q2, q3, q4, q5⟩
  · have hn0 : n = 0 := hn.symm
    subst hn0
    exact wpList_append_grows w hgd s x 23 hop 3 i0 (.int .i64 0) 1 8 Try.underlying23 hi h0 h1 h2 rfl (by decide) none 0 0 [] hs (fun _ => ⟨rfl, rfl⟩) rfl (fun b hb => by cases hb) ⟨B, 0, none⟩ 1 1 [.int .i64 y] hx rfl hnews h1c (by decide) hbig (by decide) (fun v' w' r1 r2 => grow v' w' r1 r2)
  · have holds : ∀ j u, (xs.map (Value.int .i64))[j]? = some u → w.cell? ⟨g, off + j, none⟩ = some u := fun j u hu => by
      have hj : j < xs.length := by have := (List.getElem?_eq_some_iff.1 hu).1; simpa using this
      rw [q4 j hj]
      rw [List.getElem?_map, List.getElem?_eq_getElem hj] at hu
      simp only [Option.map_some, Option.some.injEq] at hu
      rw [← hu]
      simp [List.getD_eq_getElem?_getD, List.getElem?_eq_getElem hj]
    rw [hn] at hs q3
    refine wpList_append_arg w hgd s x 23 hop 3 i0 (.int .i64 0) 1 8 Try.underlying23 hi h0 h1 h2 rfl (by decide) g off n cap (xs.map (Value.int .i64)) hs (by rw [List.length_map, hn, Nat.mul_one]) holds ⟨B, 0, none⟩ 1 1 [.int .i64 y] hx rfl hnews h1c (fun hr j hj => ?_) hbig (by omega) (fun hr => ?_) (fun _ v' w' r1 r2 => ?_)
    · have hj0 : j = 0 := by simpa using hj
      subst hj0
      have := q5 n (by omega)
      rwa [Nat.mul_one, Nat.add_zero]
    · have hset : w.setCells g (off + n * 1) [.int .i64 y] = w.setCell ⟨g, off + n, none⟩ (.int .i64 y) := by rw [Nat.mul_one]; rfl
      rw [hset]
      refine h (some ⟨g, off, none⟩) cap _ (Or.inr ⟨g, off, cap, by rw [List.length_append, hn]; rfl, q1, by rw [size_set]; exact q2, by rw [List.length_append, hn]; exact hr, fun j hj => ?_, there_set q5 _⟩) ⟨(Below.refl lo w).setCell (p := ⟨g, off + n, none⟩) q1 _, fun k _ hk => Below.heap_setCell _ _ _ _ (fun e => hk (by show some g = some k; rw [e])), fun k hk => Or.inl hk⟩
      rw [List.length_append, hn] at hj
      by_cases e : j = n
      · subst e
        have : (xs ++ [y]).getD j 0 = y := by rw [List.getD_eq_getElem?_getD, List.getElem?_append_right (by omega), hn, Nat.sub_self]; rfl
        rw [this]
        exact cell_same q5 (by omega) _
      · have hj2 : j < xs.length := by rw [hn]; have : j < n + 1 := hj; omega
        have : (xs ++ [y]).getD j 0 = xs.getD j 0 := by rw [List.getD_eq_getElem?_getD, List.getD_eq_getElem?_getD, List.getElem?_append_left hj2]
        rw [this]
        exact cell_other (q4 j hj2) (Or.inr (by omega)) _
    · exact grow v' w' r1 r2


def ixL (l : List Nat) : List Int := l.map fun x : Nat => (x : Int)
theorem ixL_add (l : List Nat) (i : Nat) : ixL (l ++ [i]) = ixL l ++ [(i : Int)] := by unfold ixL; simp
theorem ixL_len (l : List Nat) : (ixL l).length = l.length := by unfold ixL; simp
/-- A marker: its block, its white objects' block, its line. -/
structure MkAt (lo : Nat) (w : World) (b n cw : Nat) (vO vR : Value) (wb : Nat) (vl : Value) (s : Mk) : Prop where
  blk : w.heap[b]? = some (.cells #[vO, vR, .slice (some ⟨wb, 0, none⟩) n cw, vl] 62 (0, 0))
  wth : w.there wb 0 cw
  wlt : wb < w.heap.size
  whi : ∀ x, x < n → w.cell? ⟨wb, x, none⟩ = some (.bool (s.wh x))
  lin : OwnO lo w vl (ixL s.ln)
  ne : wb ≠ b
  lob : lo ≤ b ∧ lo ≤ wb
  vlb : ∀ k, vl.ownBlock = some k → k ≠ b ∧ k ≠ wb
  wle : n ≤ cw
theorem MkAt.blt {cw : Nat} {lo : Nat} {w : World} {b n : Nat} {vO vR : Value} {wb : Nat} {vl : Value} {s : Mk} (h : MkAt lo w b n cw vO vR wb vl s) : b < w.heap.size := (Array.getElem?_eq_some_iff.1 h.blk).1
theorem MkAt.below {cw : Nat} {lo : Nat} {w w' : World} {b n : Nat} {vO vR : Value} {wb : Nat} {vl : Value} {s : Mk} (h : MkAt lo w b n cw vO vR wb vl s) (hb : Below w.heap.size w w') : MkAt lo w' b n cw vO vR wb vl s :=
  ⟨keep_below h.blk hb, there_keep h.wth (hb.block wb h.wlt), Nat.lt_of_lt_of_le h.wlt hb.size, fun x hx => cell_of (h.whi x hx) (hb.block wb h.wlt), h.lin.keep hb.size (fun k hk => hb.block k (h.lin.lt k hk).2), h.ne, h.lob, h.vlb, h.wle⟩
theorem MkAt.white {cw : Nat} {lo : Nat} {w : World} {b n : Nat} {vO vR : Value} {wb : Nat} {vl : Value} {s : Mk} (h : MkAt lo w b n cw vO vR wb vl s) {o : Nat} (ho : o < n) (v : Bool) : MkAt lo (w.setCell ⟨wb, o, none⟩ (.bool v)) b n cw vO vR wb vl ⟨fun x => if x = o then v else s.wh x, s.ln⟩ := by
  refine ⟨keep_set h.blk (Ne.symm h.ne), there_set h.wth _, by rw [size_set]; exact h.wlt, fun x hx => ?_, h.lin.keep (by rw [size_set]; exact Nat.le_refl _) (fun k hk => Below.heap_setCell _ _ _ _ (fun e => (h.vlb k hk).2 e)), h.ne, h.lob, h.vlb, h.wle⟩
  show (w.setCell ⟨wb, o, none⟩ (Value.bool v)).cell? ⟨wb, x, none⟩ = some (Value.bool (if x = o then v else s.wh x))
  by_cases e : x = o
  · subst e
    rw [if_pos rfl]
    have := cell_same h.wth (Nat.lt_of_lt_of_le ho h.wle) (.bool v)
    rwa [Nat.zero_add] at this
  · rw [if_neg e]
    exact cell_other (h.whi x hx) (Or.inr e) _
/-- What shading leaves: all blocks but the marker's three. -/
structure Kp (w w' : World) (b wb : Nat) (vl vl' : Value) : Prop where
  size : w.heap.size ≤ w'.heap.size
  keep : ∀ k, k < w.heap.size → k ≠ b → k ≠ wb → vl.ownBlock ≠ some k → w'.heap[k]? = w.heap[k]?
  new : ∀ k, vl'.ownBlock = some k → vl.ownBlock = some k ∨ w.heap.size ≤ k
theorem Kp.refl (w : World) (b wb : Nat) (vl : Value) : Kp w w b wb vl vl := ⟨Nat.le_refl _, fun _ _ _ _ _ => rfl, fun _ h => Or.inl h⟩
theorem Kp.trans {w w1 w2 : World} {b wb : Nat} {v v1 v2 : Value} (h : Kp w w1 b wb v v1) (h2 : Kp w1 w2 b wb v1 v2) : Kp w w2 b wb v v2 := by
  refine ⟨Nat.le_trans h.size h2.size, fun k hk h3 h4 h5 => ?_, fun k hk => ?_⟩
  · have h6 : v1.ownBlock ≠ some k := fun q => by
      rcases h.new k q with q2 | q2
      · exact h5 q2
      · omega
    rw [h2.keep k (Nat.lt_of_lt_of_le hk h.size) h3 h4 h6, h.keep k hk h3 h4 h5]
  · rcases h2.new k hk with q | q
    · exact h.new k q
    · exact Or.inr (Nat.le_trans h.size q)
theorem Kp.of_below {w w' : World} {b wb : Nat} {vl : Value} (h : Below w.heap.size w w') : Kp w w' b wb vl vl := ⟨h.size, fun k hk _ _ _ => h.block k hk, fun _ h => Or.inl h⟩
theorem set4_block {w : World} {R : Nat} {x y z v v' : Value} {t : TypeId} (h : w.heap[R]? = some (.cells #[x, y, z, v] t (0, 0))) : (w.setCell ⟨R, 3, none⟩ v').heap[R]? = some (.cells #[x, y, z, v'] t (0, 0)) := by
  simp [World.setCell, Array.getElem?_modify, h]
theorem MkAt.push {cw : Nat} {lo : Nat} {w w' : World} {b n : Nat} {vO vR : Value} {wb : Nat} {vl v' : Value} {s : Mk} (h : MkAt lo w b n cw vO vR wb vl s) {o : Nat} (hg : Gr lo vl v' w w') (ho : OwnO lo w' v' (ixL (s.ln ++ [o]))) : MkAt lo (w'.setCell ⟨b, 3, none⟩ v') b n cw vO vR wb v' ⟨s.wh, s.ln ++ [o]⟩ := by
  have hb : w'.heap[b]? = w.heap[b]? := hg.keep b h.blt (fun q => (h.vlb b q).1 rfl)
  have hw : w'.heap[wb]? = w.heap[wb]? := hg.keep wb h.wlt (fun q => (h.vlb wb q).2 rfl)
  have hnew : ∀ k, v'.ownBlock = some k → k ≠ b ∧ k ≠ wb := fun k hk => by
    rcases hg.new k hk with q | q
    · exact h.vlb k q
    · have := h.blt; have := h.wlt; omega
  refine ⟨set4_block (hb.trans h.blk), there_set (there_keep h.wth hw) _, by rw [size_set]; exact Nat.lt_of_lt_of_le h.wlt hg.below.size, fun x hx => cell_other (cell_of (h.whi x hx) hw) (Or.inl h.ne) _, ho.keep (by rw [size_set]; exact Nat.le_refl _) (fun k hk => Below.heap_setCell _ _ _ _ (fun e => (hnew k hk).1 e)), h.ne, h.lob, hnew, h.wle⟩
theorem kp_push {lo : Nat} {w w' : World} {b wb : Nat} {vl v' : Value} (hg : Gr lo vl v' w w') : Kp w (w'.setCell ⟨b, 3, none⟩ v') b wb vl v' :=
  ⟨by rw [size_set]; exact hg.below.size, fun k hk h1 _ h3 => (Below.heap_setCell _ _ _ _ h1).trans (hg.keep k hk h3), hg.new⟩
theorem kp_white {w : World} {b wb o : Nat} {vl v : Value} : Kp w (w.setCell ⟨wb, o, none⟩ v) b wb vl vl :=
  ⟨by rw [size_set]; exact Nat.le_refl _, fun k _ _ h2 _ => Below.heap_setCell _ _ _ _ h2, fun _ h => Or.inl h⟩
theorem shade1_len (s : Mk) (o : Int) : (shade1 s o).ln.length ≤ s.ln.length + 1 := by
  unfold shade1
  split
  · rw [List.length_append]; exact Nat.le_refl _
  · omega
theorem shade1_none (s : Mk) : shade1 s (-1) = s := by unfold shade1; rw [if_neg (fun h => h.1 rfl)]
theorem shade1_grey {s : Mk} {x : Nat} (h : s.wh x = false) : shade1 s (x : Int) = s := by
  unfold shade1
  rw [if_neg (fun q => by have := q.2; rw [Int.toNat_natCast, h] at this; cases this)]
theorem shade1_white {s : Mk} {x : Nat} (h : s.wh x = true) : shade1 s (x : Int) = ⟨fun y => if y = x then false else s.wh y, s.ln ++ [x]⟩ := by
  unfold shade1
  rw [if_pos ⟨by omega, by rw [Int.toNat_natCast]; exact h⟩, Int.toNat_natCast]

set_option maxRecDepth 100000 in
set_option maxHeartbeats 4000000 in
theorem shade_any {cw : Nat} (lo : Nat) (w : World) (b n : Nat) (vO vR : Value) (wb : Nat) (vl : Value) (s : Mk) (h : MkAt lo w b n cw vO vR wb vl s) (ao : Option Addr) (no co : Nat) (objs : List Int) (hO : IsL KI w (.slice ao no co) objs) (hap : 0 < no → ∀ k, (Value.slice ao no co).ownBlock = some k → k ≠ b ∧ k ≠ wb ∧ vl.ownBlock ≠ some k) (hob : ∀ o ∈ objs, -1 ≤ o ∧ o < (n : Int)) (hlen : s.ln.length + no ≤ 900000) :
    Calls Try.prog 37 #[.pointer (some ⟨b, 0, none⟩), .slice ao no co] w fun e w' => e = .returned (.tuple #[]) ∧ ∃ vl', MkAt lo w' b n cw vO vR wb vl' (shadeL s objs) ∧ Kp w w' b wb vl vl' ∧ Below lo w w' := by
  have hln := hO.len
  have HO := hide (hO.opens ki hln)
  have HLN := hide hln
  have HAP := hide hap; have HOB := hide hob
  have HM : Hid (MkAt lo w b n cw vO vR wb vl (shadeL s (objs.take 0))) := by rw [List.take_zero]; exact h
  have HK := hide (Kp.refl w b wb vl)
  have HB : Hid (Below lo w w) := Below.refl _ _
  have HLL : Hid ((shadeL s (objs.take 0)).ln.length ≤ s.ln.length + 0) := by rw [List.take_zero]; exact Nat.le_refl _
  have hlo : lo ≤ w.heap.size := Nat.le_of_lt (Nat.lt_of_le_of_lt h.lob.1 h.blt)
  have HLO := hide hlo
  clear h hO hln hap hob hlo
  go_enter Try.func37, Try.ntmps37
  go_wp2_with fail
  go_loopw [8] (fun s8 wr => ∃ (i : Nat) (v : Value), i ≤ no ∧ s8 = .int .i64 (i : Int) ∧ Hid ((shadeL s (objs.take i)).ln.length ≤ s.ln.length + i) ∧ Hid (MkAt lo wr b n cw vO vR wb v (shadeL s (objs.take i))) ∧ Hid (Kp w wr b wb vl v) ∧ Hid (Below lo w wr)) (fun s8 _ => no - (intOf s8).toNat)
  case atStart => exact ⟨0, vl, Nat.zero_le _, rfl, HLL, HM, HK, HB⟩
  case round =>
    obtain ⟨i, v, hi, rfl, HLi, HMi, HKi, HBi⟩ := hrel
    clear HLL HM HK HB
    by_cases hlt : i < no
    · have i0 : (0 : Int) ≤ (i : Int) := by omega
      have i1 : (i : Int) < (no : Int) := by omega
      have hw1 : IntKind.i64.wrap ((i : Int) + 1) = (i : Int) + 1 := wrapi (by omega) (by omega)
      have hil : i < objs.length := by rw [unhide HLN]; exact hlt
      obtain ⟨bo, oo, rfl, hbo, hli⟩ := unhide HO (by omega)
      obtain ⟨hp1, hp2, hp3⟩ := unhide HAP (by omega) bo rfl
      have hkeep : wr.heap[bo]? = w.heap[bo]? := (unhide HKi).keep bo hbo hp1 hp2 hp3
      have c0 := (hli.keep hkeep).ints (j := i) hil
      obtain ⟨z, ez⟩ : ∃ X, objs.getD i 0 = X := ⟨_, rfl⟩
      rw [ez] at c0
      have hzr := unhide HOB z (by rw [← ez, List.getD_eq_getElem?_getD, List.getElem?_eq_getElem hil]; exact List.getElem_mem hil)
      have HT : Hid (shadeL s (objs.take (i + 1)) = shade1 (shadeL s (objs.take i)) z) := by show _ = _; rw [shadeL_take s objs hil, ez]
      obtain ⟨S, eS⟩ : ∃ X, shadeL s (objs.take i) = X := ⟨_, rfl⟩
      rw [eS] at HT HLi HMi
      have HL2 : Hid ((shade1 S z).ln.length ≤ s.ln.length + (i + 1)) := Nat.le_trans (shade1_len S z) (by have := unhide HLi; omega)
      obtain ⟨⟨m0, m1, m2, m3⟩, ⟨mf0, mf1, mf2, mf3⟩, ml⟩ := block4 (unhide HMi).blk
      clear hli ez eS hkeep hp1 hp2 hp3 hil
      by_cases hz : z = -1
      · subst hz
        have HS : Hid (shade1 S (-1) = S) := shade1_none S
        go_wp2_with fail
        go_roundw
        case rel => exact ⟨i + 1, v, by omega, by go_num, by rw [unhide HT]; exact HL2, by rw [unhide HT, unhide HS]; exact HMi, HKi, HBi⟩
        case measure => simp [intOf]; omega
      · have xz : (z != -1) = true := by simpa using hz
        obtain ⟨x, rfl⟩ : ∃ x : Nat, z = (x : Int) := ⟨z.toNat, by omega⟩
        have hxn : x < n := by omega
        have j0 : (0 : Int) ≤ (x : Int) := by omega
        have j1 : (x : Int) < (n : Int) := by omega
        have q0 := (unhide HMi).whi x hxn
        obtain ⟨B, eB⟩ : ∃ X, S.wh x = X := ⟨_, rfl⟩
        rw [eB] at q0
        cases B
        · have HS : Hid (shade1 S (x : Int) = S) := shade1_grey eB
          clear eB
          go_wp2_with fail
          go_roundw
          case rel => exact ⟨i + 1, v, by omega, by go_num, by rw [unhide HT]; exact HL2, by rw [unhide HT, unhide HS]; exact HMi, HKi, HBi⟩
          case measure => simp [intOf]; omega
        · have HS : Hid (shade1 S (x : Int) = ⟨fun y => if y = x then false else S.wh y, S.ln ++ [x]⟩) := shade1_white eB
          have q1 := ((unhide HMi).wth x (Nat.lt_of_lt_of_le hxn (unhide HMi).wle)).2
          rw [Nat.zero_add] at q1
          have HM2 := hide ((unhide HMi).white hxn false)
          have HK2 := hide ((unhide HKi).trans (kp_white (w := wr) (o := x) (v := .bool false)))
          have HB2 := hide ((unhide HBi).setCell (p := ⟨wb, x, none⟩) (unhide HMi).lob.2 (.bool false))
          clear eB
          go_upto_region 5 with fail
          obtain ⟨W2, e2⟩ : ∃ X, wr.setCell ⟨wb, x, none⟩ (.bool false) = X := ⟨_, rfl⟩
          rw [e2] at HM2 HK2 HB2
          rw [e2]
          clear e2 m0 m1 m2 m3 mf0 mf1 mf2 mf3 ml q0 q1 c0
          have hb3 : Below W2.heap.size W2 (W2.alloc (.cells #[.int .i64 (x : Int)] 3)) := (Below.refl _ _).alloc (Nat.le_refl _) _
          have HM3 := hide ((unhide HM2).below hb3)
          have HK3 := hide ((unhide HK2).trans (Kp.of_below hb3))
          have HB3 := hide (Below.next (unhide HB2) hb3 (unhide HLO))
          have hnb := (block1 (new_block W2 (.cells #[.int .i64 (x : Int)] 3))).1
          have HNB := hide hnb
          obtain ⟨⟨m0, m1, m2, m3⟩, ⟨mf0, mf1, mf2, mf3⟩, ml⟩ := block4 (unhide HM2).blk
          obtain ⟨⟨t0, t1, t2, t3⟩, ⟨tf0, tf1, tf2, tf3⟩, tl⟩ := block4 (unhide HM3).blk
          obtain ⟨N, eN⟩ : ∃ X, (ixL S.ln).length = X := ⟨_, rfl⟩
          have HEN := hide eN
          have hNb : N ≤ 1000000 := by have h_ := unhide HLi; rw [ixL_len] at eN; omega
          have hmk3 : ∀ (a : Option Addr) (m c : Nat) W, Gr lo v (.slice a m c) (W2.alloc (.cells #[.int .i64 (x : Int)] 3)) W → (∃ y, W.cell? ⟨b, 3, none⟩ = some y) ∧ W.frozen? ⟨b, 3, none⟩ = false := fun a m c W hg => by
            have hk := hg.keep b (unhide HM3).blt (fun q => ((unhide HM3).vlb b q).1 rfl)
            obtain ⟨⟨_, _, _, u3⟩, ⟨_, _, _, uf3⟩, _⟩ := block4 (hk.trans (unhide HM3).blk)
            exact ⟨⟨_, u3⟩, uf3⟩
          have HMK3 := hide hmk3
          clear hb3 hnb hmk3 eN tf0 tf1 tf2 tf3 tl t0 t1 t2 t3
          go_wp2_with (at_builtin; refine wpList_append_o rfl (.tmp 33) (.tmp 35) rfl lo v (ixL S.ln) rfl (unhide HM3).lin _ (x : Int) rfl (unhide HNB) N (unhide HEN) hNb (Nat.le_trans (unhide HLO) (unhide HB3).size) ?_; intro a7 c7 w7 ho7 hg7; obtain ⟨⟨y7, hy7⟩, hf7⟩ := unhide HMK3 a7 _ c7 w7 hg7; have HO7 := hide ho7; have HG7 := hide hg7; clear ho7 hg7)
          have HM8 : Hid (MkAt lo (w7.setCell ⟨b, 3, none⟩ (.slice a7 (N + 1) c7)) b n cw vO vR wb (.slice a7 (N + 1) c7) ⟨fun y => if y = x then false else S.wh y, S.ln ++ [x]⟩) := (unhide HM3).push (unhide HG7) (by rw [ixL_add]; exact unhide HO7)
          have HK8 := hide ((unhide HK3).trans (kp_push (b := b) (wb := wb) (unhide HG7)))
          have HB8 := hide (((unhide HB3).trans (unhide HG7).below).setCell (p := ⟨b, 3, none⟩) (unhide HM3).lob.1 (.slice a7 (N + 1) c7))
          go_roundw
          case rel => exact ⟨i + 1, .slice a7 (N + 1) c7, by omega, by go_num, by rw [unhide HT]; exact HL2, by rw [unhide HT, unhide HS]; exact HM8, HK8, HB8⟩
          case measure => simp [intOf]; omega
    · obtain rfl : i = no := by omega
      have i1 : ¬ (i : Int) < (i : Int) := by omega
      have HMe := HMi
      rw [List.take_of_length_le (by rw [unhide HLN]; exact Nat.le_refl _)] at HMe
      go_wp2_with fail
      exact bodyPost_end (v := .tuple #[]) (by simp [results, Try.results37]) rfl ⟨rfl, v, unhide HMe, unhide HKi, unhide HBi⟩
end Go.Proofs.Ytmkehjncnaokoaa
