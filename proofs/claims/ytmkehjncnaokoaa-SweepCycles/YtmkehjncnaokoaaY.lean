/-
  sweep.newCycle: its own heap.
  sweep.newCycle.
-/
import Derived.Test.YtmkehjncnaokoaaW
namespace Go.Proofs.Ytmkehjncnaokoaa
open Go.RowKit

theorem alloc_b {w W : World} {o : Obj} (h : Below w.heap.size w W) : Below w.heap.size w (W.alloc o) := h.alloc h.size o
theorem drew_b {w W : World} (h : Below w.heap.size w W) : Below w.heap.size w W.drew := h.drew
theorem set_b {w W : World} {g i : Nat} {y : Value} (h : Below w.heap.size w W) (hg : w.heap.size ≤ g) : Below w.heap.size w (W.setCell ⟨g, i, none⟩ y) := h.setCell hg y
theorem new2 (w : World) (o o' : Obj) : ((w.alloc o).alloc o').heap[w.heap.size + 1]? = some o' := by
  have := new_block (w.alloc o) o'
  rw [World.size_alloc] at this
  exact this
/-- The statement that is region n, and what follows it. -/
def cutAt (n : Nat) : Code → Option (Code × Code)
  | .seq (.region id ops dr) r => bif Nat.beq id n then some (.region id ops dr, r) else cutAt n r
  | .seq _ r => cutAt n r
  | _ => none

theorem make_rows (n : Nat) (hn : n ≤ 2000) : ∃ A : Array Value, A.toList = List.replicate n (.slice none 0 0) ∧ ∀ w : World, (Instr.makeSlice 22 (.int .i64 (n : Int)) (.int .i64 (n : Int))).run Try.prog w = .ok (.slice (some ⟨w.heap.size, 0, none⟩) n n) (w.alloc (.cells A 23)) := by
  have hinf : (Try.prog.info? 23).map (fun i => (i.zero, i.size, i.bytes)) = some (some (.slice none 0 0), 1, 24) := by kernel_rfl
  obtain ⟨i0, hi, h0, h1, h2⟩ := info_parts hinf
  refine ⟨madeCells (Value.slice none 0 0).cells (n * i0.size), by rw [h1, Nat.mul_one]; exact toList_madeCells_one _ _, fun w => ?_⟩
  have := run_makeSlice (P := Try.prog) w 22 23 i0 (.slice none 0 0) Try.underlying22 hi h0 .i64 .i64 (n : Int) (n : Int) (by omega) (by omega) (by rw [h1]; omega) (by rw [h2]; omega) (by omega)
  simpa using this

set_option maxRecDepth 100000 in
set_option maxHeartbeats 4000000 in
theorem newCycle_1 (Wt : World) (H : Nat) (ao : Option Addr) (no co : Nat) (ar : Option Addr) (nr cr : Nat) (z : Int) (rs : List Int) (hC : Wt.heap[H]? = some (.cells #[.slice ao no co, .slice ar nr cr] 25 (0, 0))) (hR : IsL KI Wt (.slice ar nr cr) rs) (hnr : nr ≤ 16) (A : Array Value) (hmk : ∀ w : World, (Instr.makeSlice 22 (.int .i64 (no : Int)) (.int .i64 (no : Int))).run Try.prog w = .ok (.slice (some ⟨w.heap.size, 0, none⟩) no no) (w.alloc (.cells A 23)))
    {s3 s4 s5 s6 s7 s8 s9 s10 s11 s12 s13 s14 s15 s16 s17 s18 s19 s20 s21 s22 s23 s24 s25 s26 s27 s28 s29 s30 s31 s32 s33 s34 s35 : Value} (K : Act → World → Prop) (R : Exit → Act → World → Prop) (x : Code) (hcut : (Try.f30.body.bind (cutAt 1)).map Prod.fst = some x)
    (hK : ∀ (s8 s9 s10 s11 s12 s13 s14 s15 : Value) (T b : Nat) (a' : Option Addr) (c' : Nat) (W' : World), Below Wt.heap.size Wt W' → Wt.heap.size ≤ T → Wt.heap.size ≤ b → T ≠ b → W'.heap[T]? = some (.cells #[.slice (some ⟨b, 0, none⟩) no no, .slice a' nr c'] 25 (0, 0)) → W'.heap[b]? = some (.cells A 23 (0, 0)) → Own KI Wt.heap.size W' (.slice a' nr c') rs → Exit.then K R Exit.normal { tmps := (.agg #[.slice ao no co, .slice ar nr cr] :: .int .i64 z :: .pointer (some ⟨H, 0, none⟩) :: s3 :: s4 :: .pointer (some ⟨T, 0, none⟩) :: s6 :: s7 :: s8 :: s9 :: s10 :: s11 :: s12 :: s13 :: s14 :: s15 :: s16 :: s17 :: s18 :: s19 :: s20 :: s21 :: s22 :: s23 :: s24 :: s25 :: s26 :: s27 :: s28 :: s29 :: s30 :: s31 :: s32 :: s33 :: s34 :: s35 :: []).toArray, defers := [] } W') :
    x.wp Try.prog (Exit.then K R) { tmps := (.agg #[.slice ao no co, .slice ar nr cr] :: .int .i64 z :: .pointer (some ⟨H, 0, none⟩) :: s3 :: s4 :: s5 :: s6 :: s7 :: s8 :: s9 :: s10 :: s11 :: s12 :: s13 :: s14 :: s15 :: s16 :: s17 :: s18 :: s19 :: s20 :: s21 :: s22 :: s23 :: s24 :: s25 :: s26 :: s27 :: s28 :: s29 :: s30 :: s31 :: s32 :: s33 :: s34 :: s35 :: []).toArray, defers := [] } Wt := by
  have hcc : (Try.f30.body.bind (cutAt 1)).map Prod.fst = some (.region _ _ _) := rfl
  rw [hcc] at hcut
  cases hcut
  clear hcc
  have HC := hide hC; have HK := hide hK
  have HCL : Hid (∀ W, Below Wt.heap.size Wt W → Calls Try.prog 39 #[.slice ar nr cr] W fun e w' => ∃ a' c', e = .returned (.slice a' nr c') ∧ Own KI W.heap.size w' (.slice a' nr c') rs ∧ Below W.heap.size W w') := fun W hW => clone_any W ar nr cr rs (hR.below hW) (by omega)
  clear hC hK hR
  have HSS : Hid (∀ W, Below Wt.heap.size Wt W → (W.cell? ⟨H, 0, none⟩ = some (.slice ao no co) ∧ W.cell? ⟨H, 1, none⟩ = some (.slice ar nr cr)) ∧ Below Wt.heap.size Wt W) := fun W hW => ⟨⟨(block2 (keep_below (unhide HC) hW)).1, (block2 (keep_below (unhide HC) hW)).2.1⟩, hW⟩
  go_region_held3 (fun W => (W.cell? ⟨H, 0, none⟩ = some (.slice ao no co) ∧ W.cell? ⟨H, 1, none⟩ = some (.slice ar nr cr)) ∧ Below Wt.heap.size Wt W)
    (first | with_reducible exact unhide HSS _ (Below.refl _ _) | with_reducible exact unhide HSS _ (unhide HY7) | (refine unhide HSS _ ?_; repeat (first | with_reducible exact Below.refl _ _ | with_reducible exact unhide HY7 | with_reducible refine drew_b ?_ | with_reducible refine alloc_b ?_ | (with_reducible refine set_b ?_ (by first | exact Nat.le_refl _ | exact (unhide HY7).size | (simp; done) | (have := (unhide HY7).size; simp; omega) | (simp; omega))))))
    (first | (go_at_call 39; (with_reducible refine Calls.mono (unhide HCL _ (by go_split_ands; assumption)) ?_); rintro e w5 ⟨a5, c5, rfl, ho5, hb5⟩; have HY7 : Hid (Below Wt.heap.size Wt w5) := Below.next (by go_split_ands; assumption) hb5 (Nat.le_refl _); have HO5 := hide ho5; have HB5 := hide hb5; (try (have h8 : w5.heap[Wt.heap.size]? = some (.cells #[.slice none 0 0, .slice none 0 0] 25 (0, 0)) := keep_below (new_block Wt.drew (.cells #[.slice none 0 0, .slice none 0 0] 25)) hb5; have H8 := hide h8; have c80 := (block2 h8).1; have c81 := (block2 h8).2.1; have d80 := (block2 h8).2.2.1; have d81 := (block2 h8).2.2.2.1; have e8 := (block2 h8).2.2.2.2; clear h8)); (try (have h8 : w5.heap[Wt.heap.size]? = some (.cells #[.slice none 0 0, .slice none 0 0] 25 (0, 0)) := keep_below (keep_alloc (new_block Wt.drew (.cells #[.slice none 0 0, .slice none 0 0] 25)) (.cells A 23)) hb5; have H8 := hide h8; have c80 := (block2 h8).1; have c81 := (block2 h8).2.1; have d80 := (block2 h8).2.2.1; have d81 := (block2 h8).2.2.2.1; have e8 := (block2 h8).2.2.2.2; clear h8)); (try (have h8 : w5.heap[Wt.heap.size + 1]? = some (.cells #[.slice none 0 0, .slice none 0 0] 25 (0, 0)) := keep_below (new2 Wt.drew (.cells A 23) (.cells #[.slice none 0 0, .slice none 0 0] 25)) hb5; have H8 := hide h8; have c80 := (block2 h8).1; have c81 := (block2 h8).2.1; have d80 := (block2 h8).2.2.1; have d81 := (block2 h8).2.2.2.1; have e8 := (block2 h8).2.2.2.2; clear h8));  clear ho5 hb5))
  · obtain ⟨W9, e9', hB9, k8, k9⟩ := two_new w5 (.cells A 23) (.cells #[.slice (some ⟨w5.heap.size, 0, none⟩) no no, .slice a5 nr c5] 25)
    rw [e9']
    exact unhide HK _ _ _ _ _ _ _ _ (w5.heap.size + 1) w5.heap.size a5 c5 W9 (Below.next (unhide HY7) hB9 (Nat.le_refl _)) (Nat.le_trans (unhide HY7).size (Nat.le_succ _)) (unhide HY7).size (by omega) k9 k8 (((unhide HO5).base (Nat.le_refl _)).below hB9)
  · obtain ⟨W9, e9', hB9, k8, k9⟩ := two_new w5 (.cells #[.slice (some ⟨w5.heap.size + 1, 0, none⟩) no no, .slice a5 nr c5] 25) (.cells A 23)
    rw [e9']
    exact unhide HK _ _ _ _ _ _ _ _ w5.heap.size (w5.heap.size + 1) a5 c5 W9 (Below.next (unhide HY7) hB9 (Nat.le_refl _)) (unhide HY7).size (Nat.le_trans (unhide HY7).size (Nat.le_succ _)) (by omega) k8 k9 (((unhide HO5).base (Nat.le_refl _)).below hB9)
  · have q1 : w5.heap[Wt.heap.size]? = some (.cells A 23 (0, 0)) := keep_below (show (Wt.alloc (.cells A 23)).drew.heap[Wt.heap.size]? = _ from new_block Wt (.cells A 23)) (unhide HB5)
    have hb1 := size_of q1
    have hsz : (Wt.alloc (.cells A 23)).drew.heap.size = Wt.heap.size + 1 := by show (Wt.alloc (.cells A 23)).heap.size = _; rw [World.size_alloc]
    exact unhide HK _ _ _ _ _ _ _ _ w5.heap.size Wt.heap.size a5 c5 _ (alloc_b (unhide HY7)) (unhide HY7).size (Nat.le_refl _) (by omega) (new_block _ _) (keep_alloc q1 _) (((unhide HO5).base (by rw [hsz]; omega)).below ((Below.refl _ _).alloc (Nat.le_refl _) _))
  · have q1 : w5.heap[Wt.heap.size]? = some (.cells A 23 (0, 0)) := keep_below (show ((Wt.alloc (.cells A 23)).alloc (.cells #[.slice none 0 0, .slice none 0 0] 25)).drew.heap[Wt.heap.size]? = _ from keep_alloc (new_block Wt (.cells A 23)) (.cells #[.slice none 0 0, .slice none 0 0] 25)) (unhide HB5)
    have hsz : ((Wt.alloc (.cells A 23)).alloc (.cells #[.slice none 0 0, .slice none 0 0] 25)).drew.heap.size = Wt.heap.size + 1 + 1 := by show ((Wt.alloc (.cells A 23)).alloc (.cells #[.slice none 0 0, .slice none 0 0] 25)).heap.size = _; rw [World.size_alloc, World.size_alloc]
    exact unhide HK _ _ _ _ _ _ _ _ (Wt.heap.size + 1) Wt.heap.size a5 c5 (put2 w5 (Wt.heap.size + 1) _ _) (put2_below (unhide HY7) (Nat.le_succ _)) (Nat.le_succ _) (Nat.le_refl _) (by omega) (put2_new (unhide H8)) ((put2_keep (by omega)).trans q1) (((unhide HO5).keep fun k hk => put2_keep (by have h_ := ((unhide HO5).lt k hk).1; rw [hsz] at h_; omega)).base (by rw [hsz]; omega))
  · have hsz : (Wt.alloc (.cells #[.slice none 0 0, .slice none 0 0] 25)).drew.heap.size = Wt.heap.size + 1 := by show (Wt.alloc (.cells #[.slice none 0 0, .slice none 0 0] 25)).heap.size = _; rw [World.size_alloc]
    have hs : (put2 w5 Wt.heap.size (.slice (some ⟨w5.heap.size, 0, none⟩) no no) (.slice a5 nr c5)).heap.size = w5.heap.size := by simp [put2, World.setCell]
    have k9 := new_block (put2 w5 Wt.heap.size (.slice (some ⟨w5.heap.size, 0, none⟩) no no) (.slice a5 nr c5)) (.cells A 23)
    rw [hs] at k9
    have hb1 := size_of (unhide H8)
    exact unhide HK _ _ _ _ _ _ _ _ Wt.heap.size w5.heap.size a5 c5 ((put2 w5 Wt.heap.size (.slice (some ⟨w5.heap.size, 0, none⟩) no no) (.slice a5 nr c5)).alloc (.cells A 23)) (alloc_b (put2_below (unhide HY7) (Nat.le_refl _))) (Nat.le_refl _) (unhide HY7).size (by omega) (keep_alloc (put2_new (unhide H8)) _) k9 ((((unhide HO5).keep fun k hk => put2_keep (by have h_ := ((unhide HO5).lt k hk).1; rw [hsz] at h_; omega)).base (by rw [hsz]; omega)).below ((Below.refl _ _).alloc (Nat.le_refl _) _))
  · have q1 : w5.heap[Wt.heap.size + 1]? = some (.cells A 23 (0, 0)) := keep_below (show ((Wt.alloc (.cells #[.slice none 0 0, .slice none 0 0] 25)).alloc (.cells A 23)).drew.heap[Wt.heap.size + 1]? = _ from new2 Wt (.cells #[.slice none 0 0, .slice none 0 0] 25) (.cells A 23)) (unhide HB5)
    have hsz : ((Wt.alloc (.cells #[.slice none 0 0, .slice none 0 0] 25)).alloc (.cells A 23)).drew.heap.size = Wt.heap.size + 1 + 1 := by show ((Wt.alloc (.cells #[.slice none 0 0, .slice none 0 0] 25)).alloc (.cells A 23)).heap.size = _; rw [World.size_alloc, World.size_alloc]
    exact unhide HK _ _ _ _ _ _ _ _ Wt.heap.size (Wt.heap.size + 1) a5 c5 (put2 w5 Wt.heap.size _ _) (put2_below (unhide HY7) (Nat.le_refl _)) (Nat.le_refl _) (Nat.le_succ _) (by omega) (put2_new (unhide H8)) ((put2_keep (by omega)).trans q1) (((unhide HO5).keep fun k hk => put2_keep (by have h_ := ((unhide HO5).lt k hk).1; rw [hsz] at h_; omega)).base (by rw [hsz]; omega))


/-- Rows of numbers, each told by f. -/
structure RowsG (w : World) (G m j : Nat) (f : Nat → List Int) : Prop where
  there : w.there G 0 m
  lt : G < w.heap.size
  row : ∀ i, i < j → ∃ a k, w.cell? ⟨G, i, none⟩ = some (.slice a (f i).length k) ∧ Own KI (G + 1) w (.slice a (f i).length k) (f i)
theorem RowsG.below {w w' : World} {G m j : Nat} {f : Nat → List Int} (h : RowsG w G m j f) (hb : Below w.heap.size w w') : RowsG w' G m j f := by
  refine ⟨there_keep h.there (hb.block G h.lt), Nat.lt_of_lt_of_le h.lt hb.size, fun i hi => ?_⟩
  obtain ⟨a, k, h1, h2⟩ := h.row i hi
  exact ⟨a, k, cell_of h1 (hb.block G h.lt), h2.below hb⟩
theorem RowsG.set {w : World} {G m j R o : Nat} {f : Nat → List Int} {v : Value} (h : RowsG w G m j f) (hR : R < G) : RowsG (w.setCell ⟨R, o, none⟩ v) G m j f := by
  have hk : ∀ k, k ≠ R → (w.setCell ⟨R, o, none⟩ v).heap[k]? = w.heap[k]? := fun k hk => Below.heap_setCell _ _ _ _ (by simpa using hk)
  refine ⟨there_keep h.there (hk G (by omega)), by simpa [World.setCell] using h.lt, fun i hi => ?_⟩
  obtain ⟨a, k, h1, h2⟩ := h.row i hi
  exact ⟨a, k, cell_of h1 (hk G (by omega)), h2.set (by omega)⟩
theorem RowsG.put {w : World} {G m j k : Nat} {f : Nat → List Int} {a : Option Addr} (h : RowsG w G m j f) (hj : j < m) (hr : Own KI (G + 1) w (.slice a (f j).length k) (f j)) : RowsG (w.setCell ⟨G, j, none⟩ (.slice a (f j).length k)) G m (j + 1) f := by
  have hth := World.there_setCells h.there G j [.slice a (f j).length k]
  have hset : w.setCells G j [.slice a (f j).length k] = w.setCell ⟨G, j, none⟩ (.slice a (f j).length k) := rfl
  rw [hset] at hth
  refine ⟨hth, by simpa [World.setCell] using h.lt, fun i hi => ?_⟩
  by_cases e : i = j
  · subst e
    have h1 := h.there i hj
    rw [Nat.zero_add] at h1
    have hth1 : w.there G i [Value.slice a (f i).length k].length := fun q hq => by
      have hk0 : q = 0 := by simpa using hq
      subst hk0
      exact h1
    have := World.rangeAt_setCells_same w G i [.slice a (f i).length k] hth1 0 _ rfl
    exact ⟨a, k, this, hr.set (Nat.lt_succ_self _)⟩
  · obtain ⟨a', k', h1, h2⟩ := h.row i (by omega)
    have := World.rangeAt_setCells_apart (w := w) (b' := G) (o' := i) (cs := [.slice a' (f i).length k']) (fun q v hv => by
      have hk : q = 0 := by have := (List.getElem?_eq_some_iff.1 hv).1; simpa using this
      subst hk
      simp at hv
      subst hv
      exact h1) G j [.slice a (f j).length k] (Or.inr (Or.inl (by simp; omega))) 0 _ rfl
    exact ⟨a', k', this, h2.set (Nat.lt_succ_self _)⟩

theorem RowsG.putm {w : World} {G m j k n : Nat} {f : Nat → List Int} {a : Option Addr} (h : RowsG w G m j f) (hj : j < m) (hn : (f j).length = n) (hr : Own KI (G + 1) w (.slice a n k) (f j)) : RowsG (w.setCell ⟨G, j, none⟩ (.slice a n k)) G m (j + 1) f := by
  subst hn
  exact h.put hj hr
theorem there_at {w : World} {b n i : Nat} (h : w.there b 0 n) (hi : i < n) : ∃ x, w.cell? ⟨b, i, none⟩ = some x ∧ w.frozen? ⟨b, i, none⟩ = false := by
  have q := h i hi
  rw [Nat.zero_add] at q
  obtain ⟨x, q0⟩ := Option.isSome_iff_exists.1 q.1
  exact ⟨x, q0, q.2⟩
theorem RowsG.isll {w : World} {G n : Nat} {os : List (List Int)} (h : RowsG w G n n (fun i => os.getD i [])) (hn : os.length = n) : ∃ us, IsLL w (.slice (some ⟨G, 0, none⟩) n n) us os := by
  have hc : ∀ i : Nat, ∃ u : Sl, i < n → w.cell? ⟨G, i, none⟩ = some (sl u) ∧ IsL KI w (sl u) (os.getD i []) := fun i => by
    by_cases e : i < n
    · obtain ⟨a, k, h1, h2⟩ := h.row i e
      exact ⟨(a, (os.getD i []).length, k), fun _ => ⟨h1, h2.isl⟩⟩
    · exact ⟨(none, 0, 0), fun q => absurd q e⟩
  obtain ⟨cf, hcf⟩ := Classical.axiomOfChoice hc
  have hu : ∀ i, i < n → uAt ((List.range n).map cf) i = cf i := fun i hi => by
    unfold uAt
    rw [List.getD_eq_getElem?_getD, List.getElem?_map, List.getElem?_range hi]
    rfl
  refine ⟨(List.range n).map cf, ?_, by simp [hn], fun i hi => ?_⟩
  · refine Lies.isl kl (fun j i u hj hu2 => ?_) (by simp) (Nat.le_refl _)
    have hjn : j < n := by simpa using hj
    have hi0 : i = 0 := by have := (List.getElem?_eq_some_iff.1 hu2).1; simpa [KL] using this
    subst hi0
    have e1 := (hcf j hjn).1
    rw [← hu j hjn] at e1
    have e2 : u = sl (uAt ((List.range n).map cf) j) := by
      have : (KL.f (((List.range n).map cf).getD j KL.d))[0]? = some (sl (uAt ((List.range n).map cf) j)) := rfl
      rw [this] at hu2
      exact (Option.some.inj hu2).symm
    rw [e2, show 0 + j * KL.k + 0 = j by show 0 + j * 1 + 0 = _; omega]
    exact e1
  · rw [hu i (by omega)]
    exact (hcf i (by omega)).2
theorem OwnO.low {lo lo' : Nat} {w : World} {v : Value} {xs : List Int} (h : OwnO lo w v xs) (hl : lo' ≤ lo) : OwnO lo' w v xs := by
  rcases h with h | ⟨g, off, cap, h0, h1, h2⟩
  · exact Or.inl h
  · exact Or.inr ⟨g, off, cap, h0, Nat.le_trans hl h1, h2⟩
theorem MkAt.low {cw : Nat} {lo lo' : Nat} {w : World} {b n : Nat} {vO vR : Value} {wb : Nat} {vl : Value} {s : Mk} (h : MkAt lo w b n cw vO vR wb vl s) (hl : lo' ≤ lo) : MkAt lo' w b n cw vO vR wb vl s :=
  ⟨h.blk, h.wth, h.wlt, h.whi, h.lin.low hl, h.ne, ⟨Nat.le_trans hl h.lob.1, Nat.le_trans hl h.lob.2⟩, h.vlb, h.wle⟩

/-- The rows of a heap that a cycle holds: blocks of its own, none of them its marker's. -/
structure RrL (lo : Nat) (w : World) (b wb : Nat) (vl vO : Value) (os : List (List Int)) : Prop where
  ex : 0 < os.length → ∃ bo oo co, vO = .slice (some ⟨bo, oo, none⟩) os.length co ∧ os.length ≤ co ∧ (lo ≤ bo ∧ bo < w.heap.size ∧ bo ≠ b ∧ bo ≠ wb ∧ vl.ownBlock ≠ some bo) ∧ ∀ f, f < os.length → ∃ a c, w.cell? ⟨bo, oo + f, none⟩ = some (.slice a (os.getD f []).length c) ∧ IsL KI w (.slice a (os.getD f []).length c) (os.getD f []) ∧ (0 < (os.getD f []).length → ∀ k, (Value.slice a (os.getD f []).length c).ownBlock = some k → lo ≤ k ∧ k < w.heap.size ∧ k ≠ b ∧ k ≠ wb ∧ vl.ownBlock ≠ some k)
theorem RrL.rr {lo : Nat} {w : World} {b wb : Nat} {vl vO : Value} {os : List (List Int)} (h : RrL lo w b wb vl vO os) : Rr w b wb vl vO os := by
  refine ⟨fun h0 => ?_⟩
  obtain ⟨bo, oo, co, e, _, h1, h2⟩ := h.ex h0
  refine ⟨bo, oo, co, e, h1.2, fun f hf => ?_⟩
  obtain ⟨a, c, q1, q2, q3⟩ := h2 f hf
  exact ⟨a, c, q1, q2, fun h6 k hk => (q3 h6 k hk).2⟩
theorem RrL.kept {lo : Nat} {w w' : World} {b wb : Nat} {vl vl' vO : Value} {os : List (List Int)} (h : RrL lo w b wb vl vO os) (hs : w.heap.size ≤ w'.heap.size) (hk : ∀ k, lo ≤ k → k < w.heap.size → k ≠ b → k ≠ wb → vl.ownBlock ≠ some k → w'.heap[k]? = w.heap[k]?) (hv : ∀ k, k < w.heap.size → vl.ownBlock ≠ some k → vl'.ownBlock ≠ some k) : RrL lo w' b wb vl' vO os := by
  refine ⟨fun h0 => ?_⟩
  obtain ⟨bo, oo, co, e, ec, ⟨h1, h2, h3, h4, h5⟩, h6⟩ := h.ex h0
  refine ⟨bo, oo, co, e, ec, ⟨h1, Nat.lt_of_lt_of_le h2 hs, h3, h4, hv bo h2 h5⟩, fun f hf => ?_⟩
  obtain ⟨a, c, q1, q2, q3⟩ := h6 f hf
  refine ⟨a, c, cell_of q1 (hk bo h1 h2 h3 h4 h5), q2.kept (fun h7 k hk2 => ?_), fun h7 k hk2 => ?_⟩
  · obtain ⟨r1, r2, r3, r4, r5⟩ := q3 h7 k hk2
    exact hk k r1 r2 r3 r4 r5
  · obtain ⟨r1, r2, r3, r4, r5⟩ := q3 h7 k hk2
    exact ⟨r1, Nat.lt_of_lt_of_le r2 hs, r3, r4, hv k r2 r5⟩
theorem Kp.vl {w w' : World} {b wb : Nat} {vl vl' : Value} (hk : Kp w w' b wb vl vl') : ∀ k, k < w.heap.size → vl.ownBlock ≠ some k → vl'.ownBlock ≠ some k := fun k h1 h2 q => by
  rcases hk.new k q with q2 | q2
  · exact h2 q2
  · omega
theorem RrL.kp {lo : Nat} {w w' : World} {b wb : Nat} {vl vl' vO : Value} {os : List (List Int)} (h : RrL lo w b wb vl vO os) (hk : Kp w w' b wb vl vl') : RrL lo w' b wb vl' vO os :=
  h.kept hk.size (fun k _ h1 h2 h3 h4 => hk.keep k h1 h2 h3 h4) hk.vl
theorem RrL.isll {lo : Nat} {w : World} {b wb : Nat} {vl : Value} {hb n : Nat} {os : List (List Int)} (h : RrL lo w b wb vl (.slice (some ⟨hb, 0, none⟩) n n) os) (hn : os.length = n) : ∃ us, IsLL w (.slice (some ⟨hb, 0, none⟩) n n) us os := by
  by_cases h0 : 0 < os.length
  · obtain ⟨bo, oo, co, e, _, _, h6⟩ := h.ex h0
    cases e
    have hc : ∀ i : Nat, ∃ u : Sl, i < os.length → w.cell? ⟨hb, i, none⟩ = some (sl u) ∧ IsL KI w (sl u) (os.getD i []) := fun i => by
      by_cases e : i < os.length
      · obtain ⟨a, k, h1, h2, _⟩ := h6 i e
        rw [Nat.zero_add] at h1
        exact ⟨(a, (os.getD i []).length, k), fun _ => ⟨h1, h2⟩⟩
      · exact ⟨(none, 0, 0), fun q => absurd q e⟩
    obtain ⟨cf, hcf⟩ := Classical.axiomOfChoice hc
    have hu : ∀ i, i < os.length → uAt ((List.range os.length).map cf) i = cf i := fun i hi => by
      unfold uAt
      rw [List.getD_eq_getElem?_getD, List.getElem?_map, List.getElem?_range hi]
      rfl
    refine ⟨(List.range os.length).map cf, ?_, by simp, fun i hi => ?_⟩
    · refine Lies.isl kl (fun j i u hj hu2 => ?_) (by simp) (Nat.le_refl _)
      have hjn : j < os.length := by simpa using hj
      have hi0 : i = 0 := by have := (List.getElem?_eq_some_iff.1 hu2).1; simpa [KL] using this
      subst hi0
      have e1 := (hcf j hjn).1
      rw [← hu j hjn] at e1
      have e2 : u = sl (uAt ((List.range os.length).map cf) j) := by
        have : (KL.f (((List.range os.length).map cf).getD j KL.d))[0]? = some (sl (uAt ((List.range os.length).map cf) j)) := rfl
        rw [this] at hu2
        exact (Option.some.inj hu2).symm
      rw [e2, show 0 + j * KL.k + 0 = j by show 0 + j * 1 + 0 = _; omega]
      exact e1
    · rw [hu i (by omega)]
      exact (hcf i (by omega)).2
  · have e : n = 0 := by omega
    subst e
    have e2 : os = [] := List.eq_nil_of_length_eq_zero hn
    subst e2
    exact ⟨[], ⟨IsL.none_left rfl |>.1, fits_of (Nat.le_refl _)⟩, rfl, fun i hi => absurd hi (Nat.not_lt_zero _)⟩
theorem RowsG.rrl {w w' : World} {G n lo b wb : Nat} {vl : Value} {os : List (List Int)} (h : RowsG w G n n (fun i => os.getD i [])) (hn : os.length = n) (hb : Below w.heap.size w w') (hlo : lo ≤ G) (h1 : w.heap.size ≤ b ∧ w.heap.size ≤ wb) (h2 : ∀ k, vl.ownBlock = some k → w.heap.size ≤ k) : RrL lo w' b wb vl (.slice (some ⟨G, 0, none⟩) n n) os := by
  subst hn
  have ap : ∀ k, k < w.heap.size → k < w'.heap.size ∧ k ≠ b ∧ k ≠ wb ∧ vl.ownBlock ≠ some k := fun k hk => ⟨Nat.lt_of_lt_of_le hk hb.size, by omega, by omega, fun q => by have := h2 k q; omega⟩
  refine ⟨fun h0 => ⟨G, 0, _, rfl, Nat.le_refl _, ⟨hlo, ap G h.lt⟩, fun f hf => ?_⟩⟩
  obtain ⟨a, c, q1, q2⟩ := h.row f hf
  refine ⟨a, c, by rw [Nat.zero_add]; exact cell_of q1 (hb.block G h.lt), (q2.below hb).isl, fun _ k hk => ?_⟩
  have := q2.lt k hk
  exact ⟨by omega, ap k this.2⟩
/-- The registers of a heap that a cycle holds. -/
structure RtL (lo : Nat) (w : World) (b wb : Nat) (vl : Value) (ar : Option Addr) (nr cr : Nat) (rs : List Int) : Prop where
  isl : IsL KI w (.slice ar nr cr) rs
  ap : 0 < nr → ∀ k, (Value.slice ar nr cr).ownBlock = some k → lo ≤ k ∧ k < w.heap.size ∧ k ≠ b ∧ k ≠ wb ∧ vl.ownBlock ≠ some k
theorem RtL.kept {lo : Nat} {w w' : World} {b wb : Nat} {vl vl' : Value} {ar : Option Addr} {nr cr : Nat} {rs : List Int} (h : RtL lo w b wb vl ar nr cr rs) (hs : w.heap.size ≤ w'.heap.size) (hk : ∀ k, lo ≤ k → k < w.heap.size → k ≠ b → k ≠ wb → vl.ownBlock ≠ some k → w'.heap[k]? = w.heap[k]?) (hv : ∀ k, k < w.heap.size → vl.ownBlock ≠ some k → vl'.ownBlock ≠ some k) : RtL lo w' b wb vl' ar nr cr rs := by
  refine ⟨h.isl.kept (fun h7 k hk2 => ?_), fun h7 k hk2 => ?_⟩
  · obtain ⟨r1, r2, r3, r4, r5⟩ := h.ap h7 k hk2
    exact hk k r1 r2 r3 r4 r5
  · obtain ⟨r1, r2, r3, r4, r5⟩ := h.ap h7 k hk2
    exact ⟨r1, Nat.lt_of_lt_of_le r2 hs, r3, r4, hv k r2 r5⟩
theorem RtL.kp {lo : Nat} {w w' : World} {b wb : Nat} {vl vl' : Value} {ar : Option Addr} {nr cr : Nat} {rs : List Int} (h : RtL lo w b wb vl ar nr cr rs) (hk : Kp w w' b wb vl vl') : RtL lo w' b wb vl' ar nr cr rs :=
  h.kept hk.size (fun k _ h1 h2 h3 h4 => hk.keep k h1 h2 h3 h4) hk.vl

set_option maxRecDepth 100000 in
set_option maxHeartbeats 4000000 in
theorem newCycle_full (w : World) (ao : Option Addr) (no co : Nat) (ar : Option Addr) (nr cr : Nat) (z : Int) (us : List Sl) (os : List (List Int)) (rs : List Int) (hO : IsLL w (.slice ao no co) us os) (hR : IsL KI w (.slice ar nr cr) rs) (hg : GoodH os rs) :
    Calls Try.prog 30 #[.agg #[.slice ao no co, .slice ar nr cr], .int .i64 z] w fun e w' => ∃ cb mb wb vl b a1 c1, e = .returned (.pointer (some ⟨cb, 0, none⟩)) ∧ CycAt w' cb mb wb vl z ∧ MkAt w.heap.size w' mb no no (.slice (some ⟨b, 0, none⟩) no no) (.slice a1 nr c1) wb vl (shadeL ⟨fun _ => true, []⟩ rs) ∧ RrL w.heap.size w' mb wb vl (.slice (some ⟨b, 0, none⟩) no no) os ∧ RtL w.heap.size w' mb wb vl a1 nr c1 rs ∧ Below w.heap.size w w' := by
  have hol : os.length = no := by rw [← hO.len]; exact hO.row.len
  have hno : no ≤ 500 := by rw [← hol]; exact hg.no
  have hnr : nr ≤ 16 := by rw [← hR.len]; exact hg.nr
  obtain ⟨A, hA, hmk⟩ := make_rows no (by omega)
  have hsz : A.size = no := by rw [← Array.length_toList, hA, List.length_replicate]
  have HX1s : Hid (w.heap.size ≤ (w.alloc (.cells #[.slice ao no co, .slice ar nr cr] 25)).heap.size) := ((Below.refl w.heap.size w).alloc (Nat.le_refl _) _).size
  have HX1 := hide ((Below.refl w.heap.size w).alloc (Nat.le_refl _) (.cells #[.slice ao no co, .slice ar nr cr] 25))
  have HH1 := hide (new_block w (.cells #[.slice ao no co, .slice ar nr cr] 25))
  have HO := hide hO; have HR := hide hR; have HMK := hide hmk; have HOL := hide hol; have HGD := hide hg
  obtain ⟨W1, e1⟩ : ∃ X, w.alloc (.cells #[.slice ao no co, .slice ar nr cr] 25) = X := ⟨_, rfl⟩
  rw [e1] at HX1 HH1 HX1s
  have HE1 := hide e1
  clear e1 hO hR hmk hA hol hg
  go_enter Try.func30, Try.ntmps30
  go_upto_region 1 with fail
  rw [unhide HE1]
  clear HE1
  refine newCycle_1 W1 w.heap.size ao no co ar nr cr z rs (unhide HH1) ((unhide HR).below (unhide HX1)) hnr A (unhide HMK) _ _ _ (by kernel_rfl) ?_
  intro s8 s9 s10 s11 s12 s13 s14 s15 T b a1 c1 W2 hb2 hT hb hne hTB hBB hOR
  have HH2 := hide (keep_below (unhide HH1) hb2)
  have HX2 := hide (Below.next (unhide HX1) hb2 (Nat.le_refl _))
  have HT := hide hTB
  have HRB := hide (hOR.ne hBB (by decide))
  have HOR := hide hOR
  have HG0 : Hid (RowsG W2 b no 0 (fun i => os.getD i [])) := ⟨there_block hBB (by omega), size_of hBB, fun i hi => absurd hi (Nat.not_lt_zero _)⟩
  have hbw : w.heap.size ≤ b := Nat.le_trans (unhide HX1).size hb
  have hHb : w.heap.size ≠ b := by have := size_of (unhide HH1); omega
  clear hb2 hTB hBB hOR HX1 HH1 HMK HR hsz
  obtain ⟨b0, b1, bf0, bf1, bl⟩ := block2 (unhide HH2)
  go_wp2_with fail
  clear b0 b1 bf0 bf1 bl
  go_loopw [19] (fun s19 wr => ∃ i : Nat, i ≤ no ∧ s19 = .int .i64 (i : Int) ∧ Hid (RowsG wr b no i (fun i => os.getD i [])) ∧ Hid (wr.heap[w.heap.size]? = some (.cells #[.slice ao no co, .slice ar nr cr] 25 (0, 0))) ∧ Hid (wr.heap[T]? = some (.cells #[.slice (some ⟨b, 0, none⟩) no no, .slice a1 nr c1] 25 (0, 0))) ∧ Hid (Own KI W1.heap.size wr (.slice a1 nr c1) rs) ∧ Hid (Below w.heap.size w wr)) (fun s19 _ => no - (intOf s19).toNat)
  case atStart => exact ⟨0, Nat.zero_le _, rfl, HG0, HH2, HT, HOR, HX2⟩
  case round =>
    obtain ⟨i, hi, rfl, HGi, HHi, HTi, HORi, HXi⟩ := hrel
    clear HG0 HH2 HT HOR HX2
    by_cases hin : i < no
    · have i6 : (0 : Int) ≤ (i : Int) := by omega
      have i7 : (i : Int) < (no : Int) := by omega
      have hw1 : IntKind.i64.wrap ((i : Int) + 1) = (i : Int) + 1 := wrapi (by omega) (by omega)
      have hko : i < os.length := by rw [unhide HOL]; exact hin
      obtain ⟨ab, cb, hub, hrow⟩ := (unhide HO).at hko
      obtain ⟨ob, oo, rfl, hob, hli⟩ := (unhide HO).row.opens kl (unhide HO).row.len (by omega)
      have k0 := (hli.below (unhide HXi) hob).sls (j := i) (by rw [(unhide HO).row.len]; exact hin)
      rw [hub] at k0
      have hml : (os.getD i []).length ≤ 20 := (unhide HGD).ns i hko
      obtain ⟨m, em⟩ : ∃ X, (os.getD i []).length = X := ⟨_, rfl⟩
      have HCL : Hid (∀ W, Below w.heap.size w W → Calls Try.prog 39 #[.slice ab m cb] W fun e w' => ∃ a' c', e = .returned (.slice a' m c') ∧ Own KI W.heap.size w' (.slice a' m c') (os.getD i []) ∧ Below W.heap.size W w') := fun W hW => by
        have h_ := clone_any W ab (os.getD i []).length cb (os.getD i []) (hrow.below hW) (by omega)
        rwa [em] at h_
      rw [em] at k0
      change wr.cell? ⟨ob, oo + i, none⟩ = some (.slice ab m cb) at k0
      have HEM := hide em
      clear hub hrow hli em hko hml hob
      have hTl := size_of (unhide HTi)
      have HSS : Hid (∀ W, Below wr.heap.size wr W → W.cell? ⟨T, 0, none⟩ = some (.slice (some ⟨b, 0, none⟩) no no) ∧ Below w.heap.size w W) := fun W hW => ⟨(block2 (keep_below (unhide HTi) hW)).1, Below.next (unhide HXi) hW (Nat.le_refl _)⟩
      have HS3 : Hid (∀ (W : World) (v : Value), (W.cell? ⟨T, 0, none⟩ = some (.slice (some ⟨b, 0, none⟩) no no) ∧ Below w.heap.size w W) → ((W.setCell ⟨b, i, none⟩ v).cell? ⟨T, 0, none⟩ = some (.slice (some ⟨b, 0, none⟩) no no) ∧ Below w.heap.size w (W.setCell ⟨b, i, none⟩ v))) := fun W v h => ⟨cell_other h.1 (Or.inl hne) v, h.2.setCell hbw v⟩
      obtain ⟨b0, b1, bf0, bf1, bl⟩ := block2 (unhide HHi)
      go_upto_region 5 with fail
      go_region_held3 (fun W => W.cell? ⟨T, 0, none⟩ = some (.slice (some ⟨b, 0, none⟩) no no) ∧ Below w.heap.size w W)
        (first | with_reducible exact unhide HSS _ (Below.refl _ _) | with_reducible exact unhide HSS _ (Below.refl _ _).drew | with_reducible exact unhide HSS _ (unhide HY7) | with_reducible exact unhide HSS _ (unhide HY7).drew | with_reducible exact unhide HS3 _ _ (unhide HSS _ (unhide HY7)))
        (first | (go_at_call 39; (with_reducible refine Calls.mono (unhide HCL _ (by go_split_ands; assumption)) ?_); rintro e w5 ⟨a5, c5, rfl, ho5, hb5⟩; have HY7 : Hid (Below wr.heap.size wr w5) := Below.next (Below.refl _ _).drew hb5 (Nat.le_refl _); have HO5 := hide ho5; have hG5 := (unhide HGi).below (unhide HY7); have HG5 := hide hG5; obtain ⟨x5, q5, f5⟩ := there_at hG5.there hin; clear ho5 hb5 hG5))
      have HG6 : Hid (RowsG (w5.setCell ⟨b, i, none⟩ (.slice a5 m c5)) b no (i + 1) (fun i => os.getD i [])) := by
        exact (unhide HG5).putm hin (unhide HEM) ((unhide HO5).base (unhide HGi).lt)
      have HH6 := hide (keep_set (o := i) (v := .slice a5 m c5) (keep_below (unhide HHi) (unhide HY7)) hHb)
      have HT6 := hide (keep_set (o := i) (v := .slice a5 m c5) (keep_below (unhide HTi) (unhide HY7)) hne)
      have HOR6 : Hid (Own KI W1.heap.size (w5.setCell ⟨b, i, none⟩ (.slice a5 m c5)) (.slice a1 nr c1) rs) := ((unhide HORi).below (unhide HY7)).keep fun k hk => Below.heap_setCell _ _ _ _ (by have h_ := unhide HRB k hk; simpa using h_)
      have HX6 : Hid (Below w.heap.size w (w5.setCell ⟨b, i, none⟩ (.slice a5 m c5))) := (Below.next (unhide HXi) (unhide HY7) (Nat.le_refl _)).setCell hbw _
      obtain ⟨W6, e6⟩ : ∃ X, w5.setCell ⟨b, i, none⟩ (.slice a5 m c5) = X := ⟨_, rfl⟩
      rw [e6] at HG6 HH6 HT6 HOR6 HX6
      rw [e6]
      clear e6 HG5 HO5 HSS HS3 HCL b0 b1 bf0 bf1 bl
      go_wp2_with fail
      go_roundw
      case rel => exact ⟨i + 1, by omega, by go_num, HG6, HH6, HT6, HOR6, HX6⟩
      case measure => simp [intOf]; omega
    · obtain rfl : i = no := by omega
      have i7 : ¬ (i : Int) < (i : Int) := by omega
      obtain ⟨us', hLL⟩ := (unhide HGi).isll (unhide HOL)
      have HLL := hide hLL
      have HNM := hide (newMarker_any wr (some ⟨b, 0, none⟩) i i a1 nr c1 rs (unhide HORi).isl hno hnr (by have h_ := (unhide HGD).ro; rwa [unhide HOL] at h_))
      obtain ⟨t0, t1, tf0, tf1, tl⟩ := block2 (unhide HTi)
      clear hLL
      go_wp2_with (go_at_call 25; (with_reducible refine Calls.mono (unhide HNM) ?_); rintro e w5 ⟨mb, rfl, wb, vl, hm5, hb5⟩; have HM5 := hide hm5; have HB5 := hide hb5; clear hm5 hb5)
      have hm5 := unhide HM5
      have hmb := hm5.blt
      have hx6 : Below wr.heap.size wr (w5.alloc (.cells #[.pointer (some ⟨mb, 0, none⟩), .int .i64 z] 60)) := (unhide HB5).alloc (unhide HB5).size _
      refine bodyPost_ret (v := .pointer (some ⟨w5.heap.size, 0, none⟩)) (by simp [results, Try.results30]) rfl ⟨w5.heap.size, mb, wb, vl, b, a1, c1, rfl, ⟨new_block _ _, by omega, by have := hm5.wlt; omega, fun q => by have := (hm5.lin.lt _ q).2; omega⟩, (hm5.below ((Below.refl _ _).alloc (Nat.le_refl _) _)).low (unhide HXi).size, (unhide HGi).rrl (unhide HOL) hx6 hbw hm5.lob (fun k hk => (hm5.lin.lt k hk).1), ⟨((unhide HORi).below hx6).isl, fun _ k hk => by have h_ := (unhide HORi).lt k hk; have := hm5.lob; have := (unhide HX1s); exact ⟨by omega, Nat.lt_of_lt_of_le h_.2 hx6.size, by omega, by omega, fun q => by have := (hm5.lin.lt k q).1; omega⟩⟩, Below.next (unhide HXi) hx6 (Nat.le_refl _)⟩
theorem newCycle_any (w : World) (ao : Option Addr) (no co : Nat) (ar : Option Addr) (nr cr : Nat) (z : Int) (us : List Sl) (os : List (List Int)) (rs : List Int) (hO : IsLL w (.slice ao no co) us os) (hR : IsL KI w (.slice ar nr cr) rs) (hg : GoodH os rs) :
    Calls Try.prog 30 #[.agg #[.slice ao no co, .slice ar nr cr], .int .i64 z] w fun e w' => ∃ cb mb wb vl b a1 c1, e = .returned (.pointer (some ⟨cb, 0, none⟩)) ∧ CycAt w' cb mb wb vl z ∧ MkAt w.heap.size w' mb no no (.slice (some ⟨b, 0, none⟩) no no) (.slice a1 nr c1) wb vl (shadeL ⟨fun _ => true, []⟩ rs) ∧ Rr w' mb wb vl (.slice (some ⟨b, 0, none⟩) no no) os ∧ Below w.heap.size w w' :=
  (newCycle_full w ao no co ar nr cr z us os rs hO hR hg).mono fun _ _ ⟨cb, mb, wb, vl, b, a1, c1, h1, h2, h3, h4, _, h5⟩ => ⟨cb, mb, wb, vl, b, a1, c1, h1, h2, h3, h4.rr, h5⟩
end Go.Proofs.Ytmkehjncnaokoaa
