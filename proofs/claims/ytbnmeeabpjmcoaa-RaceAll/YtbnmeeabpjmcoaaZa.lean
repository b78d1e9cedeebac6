/-
  taskmillref.nextOf; rows of edges, and what adds to them.
-/
import Derived.Test.YtbnmeeabpjmcoaaGo
import Derived.Test.YtbnmeeabpjmcoaaSq
import Derived.Test.YtbnmeeabpjmcoaaXb
namespace Go.Proofs.Ytbnmeeabpjmcoaa
open Go.RowKit

/-- The next event of a task behind i, or -1. -/
def NextR (l : List Ev) (t : Int) (i : Nat) (r : Int) : Prop := (∃ b : Nat, r = (b : Int) ∧ b < l.length ∧ NextIs l t i b) ∨ (r = -1 ∧ ∀ b, b < l.length → ¬ NextIs l t i b)
theorem NextIs.uniq {l : List Ev} {t : Int} {i b c : Nat} (h : NextIs l t i b) (h2 : NextIs l t i c) : b = c := by
  rcases Nat.lt_trichotomy b c with q | q | q
  · exact absurd h.2.1 (h2.2.2 b h.1 q)
  · exact q
  · exact absurd h2.2.1 (h.2.2 c h2.1 q)

set_option maxRecDepth 100000 in
set_option maxHeartbeats 4000000 in
theorem nextOf_any (w : World) (tb tof n0 c0 : Nat) (l : List Ev) (hli : Lies KE w tb tof l) (htb : tb < w.heap.size) (hln : l.length = n0) (hn : n0 ≤ 2000) (t : Int) (i : Nat) (hi : i < n0) :
    Calls Try.prog 46 #[.slice (some ⟨tb, tof, none⟩) n0 c0, .int .i64 t, .int .i64 (i : Int)] w fun e w' => ∃ r, e = .returned (.int .i64 r) ∧ NextR l t i r ∧ Below w.heap.size w w' := by
  have HLI := hide hli
  have HX := hide (Below.refl w.heap.size w)
  have HLN := hide hln
  have HST : Hid (∀ x, i < x → x < i + 1 → (l.getD x ev0).task ≠ t) := fun x h1 h2 => by omega
  have hw0 : IntKind.i64.wrap ((i : Int) + 1) = (i : Int) + 1 := wrapi (by omega) (by omega)
  clear hli hln
  go_enter Try.func46, Try.ntmps46
  go_wp2_with fail
  go_loopw [7] (fun s wr => ∃ k : Nat, i < k ∧ k ≤ n0 ∧ s = .int .i64 (k : Int) ∧ Hid (∀ x, i < x → x < k → (l.getD x ev0).task ≠ t) ∧ Hid (Below w.heap.size w wr)) (fun s _ => n0 - (intOf s).toNat)
  case atStart => exact ⟨i + 1, by omega, by omega, by go_num, HST, HX⟩
  case round =>
    obtain ⟨k, hk1, hk2, rfl, HN, HB⟩ := hrel
    clear HST HX
    by_cases hlt : k < n0
    · have i0 : (0 : Int) ≤ (k : Int) := by omega
      have i1 : (k : Int) < (n0 : Int) := by omega
      have hw1 : IntKind.i64.wrap ((k : Int) + 1) = (k : Int) + 1 := wrapi (by omega) (by omega)
      obtain ⟨⟨tk, op, ob, vl⟩, ex⟩ : ∃ X, l.getD k ev0 = X := ⟨_, rfl⟩
      obtain ⟨k0, k1, k2, k3⟩ := ((unhide HLI).below (unhide HB) htb).ev (j := k) (by rw [unhide HLN]; exact hlt) ex
      have HEX := hide (show (l.getD k ev0).task = tk by rw [ex])
      clear ex
      by_cases ht : tk = t
      · subst ht
        have x1 : (tk == tk) = true := by simp
        have HR : Hid (NextR l tk i (k : Int)) := Or.inl ⟨k, rfl, by rw [unhide HLN]; exact hlt, hk1, unhide HEX, unhide HN⟩
        go_wp2_with fail
        go_ret
        exact ⟨_, rfl, unhide HR, unhide HB⟩
      · have x1 : (tk == t) = false := by simpa using ht
        have HN2 : Hid (∀ x, i < x → x < k + 1 → (l.getD x ev0).task ≠ t) := fun x h1 h2 => by
          by_cases e : x = k
          · rw [e, unhide HEX]; exact ht
          · exact unhide HN x h1 (by omega)
        clear ht
        go_wp2_with fail
        go_roundw
        case rel => exact ⟨k + 1, by omega, by omega, by go_num, HN2, HB⟩
        case measure => simp [intOf]; omega
    · obtain rfl : k = n0 := by omega
      have i1 : ¬ (k : Int) < (k : Int) := by omega
      have HR : Hid (NextR l t i (-1)) := Or.inr ⟨rfl, fun b hb h => unhide HN b h.1 (by rw [← unhide HLN]; exact hb) h.2.1⟩
      go_wp2_with fail
      go_ret
      exact ⟨_, rfl, unhide HR, unhide HB⟩

def updF {α : Type} (f : Nat → α) (k : Nat) (v : α) : Nat → α := fun j => if j = k then v else f j
theorem updF_same {α : Type} (f : Nat → α) (k : Nat) (v : α) : updF f k v k = v := by simp [updF]
theorem updF_ne {α : Type} (f : Nat → α) {k j : Nat} (v : α) (h : j ≠ k) : updF f k v j = f j := by simp [updF, h]
/-- Rows of numbers, that grow: the rows lie from lo on, their slices in the block G. -/
structure RowsE (lo : Nat) (w : World) (G n : Nat) (vf : Nat → Value) (L : Nat → List Int) : Prop where
  there : w.there G 0 n
  lt : G < w.heap.size
  glo : G < lo
  cell : ∀ i, i < n → w.cell? ⟨G, i, none⟩ = some (vf i)
  own : ∀ i, i < n → Own KI lo w (vf i) (L i)
  apart : ∀ i j, i < n → j < n → i ≠ j → Apart (vf i) (vf j)
theorem RowsE.below {lo : Nat} {w w' : World} {G n : Nat} {vf : Nat → Value} {L : Nat → List Int} (h : RowsE lo w G n vf L) (hb : Below w.heap.size w w') : RowsE lo w' G n vf L :=
  ⟨there_keep h.there (hb.block G h.lt), Nat.lt_of_lt_of_le h.lt hb.size, h.glo, fun i hi => cell_of (h.cell i hi) (hb.block G h.lt), fun i hi => (h.own i hi).below hb, h.apart⟩
theorem RowsE.step {lo : Nat} {w w6 : World} {G n a k9 : Nat} {vf : Nat → Value} {L : Nat → List Int} {a9 : Option Addr} {m9 : Nat} {b : Int} (h : RowsE lo w G n vf L) (ha : a < n) (hg : w.grownBy w6 (vf a).ownBlock) (ho : Own KI lo w6 (.slice a9 m9 k9) (L a ++ [b])) (hnew : ∀ k, (Value.slice a9 m9 k9).ownBlock = some k → (vf a).ownBlock = some k ∨ w.heap.size ≤ k) :
    RowsE lo (w6.setCell ⟨G, a, none⟩ (.slice a9 m9 k9)) G n (updF vf a (.slice a9 m9 k9)) (updF L a (L a ++ [b])) := by
  have hG6 : w6.heap[G]? = w.heap[G]? := by
    obtain ⟨_, _, _, _, hb⟩ := hg
    refine hb G h.lt ?_
    cases e : (vf a).ownBlock with
    | none => simp
    | some j => have := ((h.own a ha).lt j e).1; have := h.glo; simp; omega
  have hsz : w.heap.size ≤ w6.heap.size := by obtain ⟨_, _, _, hs, _⟩ := hg; exact hs
  have hth : w6.there G 0 n := there_keep h.there hG6
  have hth2 := World.there_setCells hth G a [.slice a9 m9 k9]
  have hset : w6.setCells G a [.slice a9 m9 k9] = w6.setCell ⟨G, a, none⟩ (.slice a9 m9 k9) := rfl
  rw [hset] at hth2
  have hkeep : ∀ k, k ≠ G → (w6.setCell ⟨G, a, none⟩ (.slice a9 m9 k9)).heap[k]? = w6.heap[k]? := fun k hk => Below.heap_setCell _ _ _ _ (by simpa using hk)
  refine ⟨hth2, by simp [World.setCell]; exact Nat.lt_of_lt_of_le h.lt hsz, h.glo, fun i hi => ?_, fun i hi => ?_, fun i j hi hj hne => ?_⟩
  · by_cases e : i = a
    · subst e
      rw [updF_same]
      have h1 := hth i hi
      rw [Nat.zero_add] at h1
      have hth1 : w6.there G i [Value.slice a9 m9 k9].length := fun q hq => by
        have hk0 : q = 0 := by simpa using hq
        subst hk0
        exact h1
      have := World.rangeAt_setCells_same w6 G i [.slice a9 m9 k9] hth1 0 _ rfl
      exact this
    · rw [updF_ne _ _ e]
      have h1 := cell_of (h.cell i hi) hG6
      have := World.rangeAt_setCells_apart (w := w6) (b' := G) (o' := i) (cs := [vf i]) (fun q v hv => by
        have hk : q = 0 := by have := (List.getElem?_eq_some_iff.1 hv).1; simpa using this
        subst hk
        simp at hv
        subst hv
        exact h1) G a [.slice a9 m9 k9] (by
          rcases Nat.lt_or_gt_of_ne e with h | h
          · exact Or.inr (Or.inl (by simp; omega))
          · exact Or.inr (Or.inr (by simp; omega))) 0 _ rfl
      exact this
  · by_cases e : i = a
    · subst e
      rw [updF_same, updF_same]
      exact ho.keep fun k hk => hkeep k (by have := (ho.lt k hk).1; have := h.glo; omega)
    · rw [updF_ne _ _ e, updF_ne _ _ e]
      have hi0 := h.own i hi
      have h1 : Own KI lo w6 (vf i) (L i) := hi0.keep fun k hk => by
        obtain ⟨_, _, _, _, hb⟩ := hg
        refine hb k (hi0.lt k hk).2 ?_
        cases e2 : (vf a).ownBlock with
        | none => simp
        | some j =>
          have := h.apart a i ha hi (Ne.symm e) j e2
          rw [hk] at this
          simp at this ⊢
          omega
      exact h1.keep fun k hk => hkeep k (by have := (hi0.lt k hk).1; have := h.glo; omega)
  · have hnv : ∀ c, c < n → c ≠ a → ∀ k, (Value.slice a9 m9 k9).ownBlock = some k → (vf c).ownBlock ≠ some k := fun c hc hca k hk hk2 => by
      rcases hnew k hk with h1 | h1
      · exact h.apart a c ha hc (Ne.symm hca) k h1 hk2
      · have := ((h.own c hc).lt k hk2).2
        omega
    by_cases e : i = a
    · subst e
      rw [updF_same, updF_ne _ _ (Ne.symm hne)]
      exact fun k hk => hnv j hj (Ne.symm hne) k hk
    · rw [updF_ne _ _ e]
      by_cases e' : j = a
      · subst e'
        rw [updF_same]
        exact fun k hk hk2 => hnv i hi e k hk2 hk
      · rw [updF_ne _ _ e']
        exact h.apart i j hi hj hne
/-- The edges so far: a variable E that holds rows. -/
structure EdgesAt (lo : Nat) (w : World) (E G n : Nat) (vf : Nat → Value) (L : Nat → List Int) : Prop where
  var : w.heap[E]? = some (.cells #[.slice (some ⟨G, 0, none⟩) n n] 30 (0, 0))
  elo : E < lo
  le : lo ≤ w.heap.size
  ne : G ≠ E
  rows : RowsE lo w G n vf L
theorem EdgesAt.below {lo : Nat} {w w' : World} {E G n : Nat} {vf : Nat → Value} {L : Nat → List Int} (h : EdgesAt lo w E G n vf L) (hb : Below w.heap.size w w') : EdgesAt lo w' E G n vf L := ⟨keep_below h.var hb, h.elo, Nat.le_trans h.le hb.size, h.ne, h.rows.below hb⟩

theorem bs_int (w : World) (b : Int) : (Instr.buildSlice 23 1 #[(0, .int .i64 b)]).run Try.prog w = .ok (.slice (some ⟨w.heap.size, 0, none⟩) 1 1) (w.alloc (.cells #[.int .i64 b] 3)) := by
  go_simp
  try rfl

set_option maxRecDepth 100000 in
set_option maxHeartbeats 4000000 in
theorem edgeAdd_no (w : World) (E : Nat) (a b : Int) (h : ¬ a < b) : Calls Try.prog 45 #[.int .i64 a, .int .i64 b, .pointer (some ⟨E, 0, none⟩)] w fun e w' => e = .returned (.tuple #[]) ∧ w' = w := by
  go_enter Try.func45, Try.ntmps45
  go_wp2_with fail
  exact bodyPost_end (v := .tuple #[]) (by simp [results, Try.results45]) rfl ⟨rfl, rfl⟩

/-- What an added edge leaves as it was. -/
structure Aside (w w' : World) (G n : Nat) (vf vf' : Nat → Value) : Prop where
  size : w.heap.size ≤ w'.heap.size
  keep : ∀ k, k < w.heap.size → k ≠ G → (∀ i, i < n → (vf i).ownBlock ≠ some k) → w'.heap[k]? = w.heap[k]?
  from_ : ∀ i, i < n → ∀ k, (vf' i).ownBlock = some k → (∃ j, j < n ∧ (vf j).ownBlock = some k) ∨ w.heap.size ≤ k

set_option maxRecDepth 100000 in
set_option maxHeartbeats 4000000 in
theorem edgeAdd_aside (lo : Nat) (w : World) (E G n : Nat) (vf : Nat → Value) (L : Nat → List Int) (h : EdgesAt lo w E G n vf L) (a : Nat) (b : Int) (hab : (a : Int) < b) (ha : a < n) (_hn : n ≤ 2000) (hlen : (L a).length ≤ 100000000) :
    Calls Try.prog 45 #[.int .i64 (a : Int), .int .i64 b, .pointer (some ⟨E, 0, none⟩)] w fun e w' => ∃ vf', e = .returned (.tuple #[]) ∧ EdgesAt lo w' E G n vf' (updF L a (L a ++ [b])) ∧ Below G w w' ∧ Aside w w' G n vf vf' := by
  have i0 : (0 : Int) ≤ (a : Int) := by omega
  have i1 : (a : Int) < (n : Int) := by omega
  obtain ⟨a8, k8, e8⟩ := (h.rows.own a ha).form
  obtain ⟨r, er⟩ : ∃ X, (L a).length = X := ⟨_, rfl⟩
  rw [er] at e8 hlen
  obtain ⟨v0, vf0, vl⟩ := block1 h.var
  have c0 := h.rows.cell a ha
  rw [e8] at c0
  have hth := (h.rows.there a ha).2
  rw [Nat.zero_add] at hth
  have HLN : Hid ((L a).length + [b].length = r + 1) := by show _ = _; rw [er]; rfl
  obtain ⟨W9, e9⟩ : ∃ X, w.drew.alloc (.cells #[.int .i64 b] 3) = X := ⟨_, rfl⟩
  have hB9 : Below w.heap.size w W9 := by rw [← e9]; exact (Below.refl w.heap.size w).drew.alloc (Nat.le_refl _) (.cells #[.int .i64 b] 3)
  have h9 := h.below hB9
  have HOA : Hid (Own KI lo W9 (.slice a8 r k8) (L a)) := by have := h9.rows.own a ha; rwa [e8] at this
  have HSZ : Hid (lo ≤ W9.heap.size) := h9.le
  have HIO : Hid (IsL KI W9 (.slice (some ⟨w.drew.heap.size, 0, none⟩) 1 1) [b]) := by rw [← e9]; exact isl_one ki w.drew b
  have HBS : Hid ((Instr.buildSlice 23 1 #[(0, .int .i64 b)]).run Try.prog w.drew = .ok (.slice (some ⟨w.drew.heap.size, 0, none⟩) 1 1) W9) := by rw [← e9]; exact bs_int w.drew b
  have HSX : Hid (∀ W' : World, W'.heap[E]? = some (.cells #[.slice (some ⟨G, 0, none⟩) n n] 30 (0, 0)) → W'.cell? ⟨E, 0, none⟩ = some (.slice (some ⟨G, 0, none⟩) n n)) := fun W' h1 => (block1 h1).1
  have hGE : G ≠ E := h.ne
  have HG6 : Hid (∀ (w6 : World) a6 c6, Own KI lo w6 (.slice a6 (r + 1) c6) (L a ++ [b]) → W9.grownBy w6 (.slice a8 r k8 : Value).ownBlock → (∀ k, (Value.slice a6 (r + 1) c6).ownBlock = some k → (.slice a8 r k8 : Value).ownBlock = some k ∨ W9.heap.size ≤ k) → w6.cell? ⟨E, 0, none⟩ = some (.slice (some ⟨G, 0, none⟩) n n) ∧ (w6.setCell ⟨G, a, none⟩ (.slice a6 (r + 1) c6)).cell? ⟨E, 0, none⟩ = some (.slice (some ⟨G, 0, none⟩) n n) ∧ (∃ y, w6.cell? ⟨G, a, none⟩ = some y) ∧ w6.frozen? ⟨G, a, none⟩ = false ∧ EdgesAt lo (w6.setCell ⟨G, a, none⟩ (.slice a6 (r + 1) c6)) E G n (updF vf a (.slice a6 (r + 1) c6)) (updF L a (L a ++ [b])) ∧ Below G w (w6.setCell ⟨G, a, none⟩ (.slice a6 (r + 1) c6)) ∧ Aside w (w6.setCell ⟨G, a, none⟩ (.slice a6 (r + 1) c6)) G n vf (updF vf a (.slice a6 (r + 1) c6))) := fun w6 a6 c6 h6 hg6 hl6 => by
    have hv6 := keep_grown h9.var hg6 (fun j' hj' => by
      have h1 := ((h9.rows.own a ha).lt j' (by rw [e8]; exact hj')).1
      have := h.elo
      omega)
    have hv7 := keep_set (o := a) (v := .slice a6 (r + 1) c6) hv6 (Ne.symm hGE)
    have hrow := h9.rows.step (a9 := a6) (m9 := r + 1) (k9 := c6) ha (by rw [e8]; exact hg6) h6 (by rw [e8]; exact hl6)
    have hgk : w6.heap[G]? = W9.heap[G]? := by
      obtain ⟨_, _, _, _, hb⟩ := hg6
      refine hb G h9.rows.lt ?_
      cases e : (.slice a8 r k8 : Value).ownBlock with
      | none => simp
      | some j => have := ((h9.rows.own a ha).lt j (by rw [e8]; exact e)).1; have := h.rows.glo; simp; omega
    have hc9 := cell_of (h9.rows.cell a ha) hgk
    have hf9 := froz_of (h9.rows.there a ha).2 (by rw [hgk])
    rw [Nat.zero_add] at hf9
    have hB0 : Below G w W9 := hB9.mono (Nat.le_of_lt h.rows.lt)
    refine ⟨unhide HSX _ hv6, unhide HSX _ hv7, ⟨_, hc9⟩, hf9, ⟨hv7, h.elo, ?_, h.ne, hrow⟩, ?_, ⟨?_, fun k hk hkG hkv => ?_, fun i hi k hk => ?_⟩⟩
    · have : W9.heap.size ≤ w6.heap.size := by obtain ⟨_, _, _, hs, _⟩ := hg6; exact hs
      have := h9.le
      simp [World.setCell]
      omega
    · exact (hB0.grown hg6 (Nat.le_trans (Nat.le_of_lt h.rows.lt) hB9.size) (fun k hk => by have := ((h9.rows.own a ha).lt k (by rw [e8]; exact hk)).1; have := h.rows.glo; omega)).setCell (Nat.le_refl _) _
    · have : W9.heap.size ≤ w6.heap.size := by obtain ⟨_, _, _, hs, _⟩ := hg6; exact hs
      have := hB9.size
      simp [World.setCell]
      omega
    · rw [Below.heap_setCell _ _ _ _ (by simpa using hkG)]
      obtain ⟨_, _, _, _, hb⟩ := hg6
      rw [hb k (Nat.lt_of_lt_of_le hk hB9.size) (by rw [← e8]; exact Ne.symm (hkv a ha))]
      exact hB9.block k hk
    · by_cases e : i = a
      · subst e
        rw [updF_same] at hk
        rcases hl6 k hk with h1 | h1
        · exact Or.inl ⟨i, hi, by rw [e8]; exact h1⟩
        · exact Or.inr (Nat.le_trans hB9.size h1)
      · rw [updF_ne _ _ e] at hk
        exact Or.inl ⟨i, hi, hk⟩
  have HS0 : Hid (w.drew.cell? ⟨E, 0, none⟩ = some (.slice (some ⟨G, 0, none⟩) n n)) := v0
  have HS1 : Hid (W9.cell? ⟨E, 0, none⟩ = some (.slice (some ⟨G, 0, none⟩) n n)) := unhide HSX _ h9.var
  have cA : w.drew.cell? ⟨G, a, none⟩ = some (.slice a8 r k8) := c0
  have cB : W9.cell? ⟨G, a, none⟩ = some (.slice a8 r k8) := by have := h9.rows.cell a ha; rwa [e8] at this
  clear h h9 er e8 e9 hB9 HSX hGE hth c0 v0 vf0 vl
  go_enter Try.func45, Try.ntmps45
  go_upto_region 1 with fail
  refine wp_region_held_drew (S := (fun W' => W'.cell? ⟨E, 0, none⟩ = some (.slice (some ⟨G, 0, none⟩) n n))) (by kernel_rfl) (unhide HS0) (fun hHeld => ?_)
  refine wpAnyH_take (i := 0) (oi := { dst := some 8, op := Op.load 30 (Operand.tmp 2), type := 30, pos := "order.go:49", after := #[], guard := none }) (v := ?v0) rfl (by kernel_rfl) (by kernel_rfl) (by kernel_rfl) (fun _ _ _ h => h) (Or.inl ⟨by rfl, ?y0⟩) (by assumption) ?r0
  case y0 => (intro w hSw; (try dsimp only at hSw); go_simp; try with_reducible rfl)
  try simp only [Act.put, List.setIfInBounds_toArray, List.set_cons_zero, List.set_cons_succ]
  refine wpAnyH_take (i := 1) (oi := { dst := some 9, op := Op.move (Operand.tmp 0), type := 3, pos := "order.go:49", after := #[], guard := none }) (v := ?v1) rfl (by kernel_rfl) (by kernel_rfl) (by kernel_rfl) (fun _ _ _ h => h) (Or.inl ⟨by rfl, ?y1⟩) (by assumption) ?r1
  case y1 => (intro w hSw; (try dsimp only at hSw); go_simp; try with_reducible rfl)
  try simp only [Act.put, List.setIfInBounds_toArray, List.set_cons_zero, List.set_cons_succ]
  refine wpAnyH_take (i := 2) (oi := { dst := some 10, op := Op.load 30 (Operand.tmp 2), type := 30, pos := "order.go:49", after := #[], guard := none }) (v := ?v2) rfl (by kernel_rfl) (by kernel_rfl) (by kernel_rfl) (fun _ _ _ h => h) (Or.inl ⟨by rfl, ?y2⟩) (by assumption) ?r2
  case y2 => (intro w hSw; (try dsimp only at hSw); go_simp; try with_reducible rfl)
  try simp only [Act.put, List.setIfInBounds_toArray, List.set_cons_zero, List.set_cons_succ]
  refine wpAnyH_take (i := 3) (oi := { dst := some 11, op := Op.move (Operand.tmp 0), type := 3, pos := "order.go:49", after := #[], guard := none }) (v := ?v3) rfl (by kernel_rfl) (by kernel_rfl) (by kernel_rfl) (fun _ _ _ h => h) (Or.inl ⟨by rfl, ?y3⟩) (by assumption) ?r3
  case y3 => (intro w hSw; (try dsimp only at hSw); go_simp; try with_reducible rfl)
  try simp only [Act.put, List.setIfInBounds_toArray, List.set_cons_zero, List.set_cons_succ]
  refine wpAnyH_take (i := 4) (oi := { dst := some 12, op := Op.indexAddr 30 (Operand.tmp 10) (Operand.tmp 11), type := 0, pos := "order.go:49", after := #[{ on := 2, ground := Ground.data }, { on := 3, ground := Ground.data }], guard := none }) (v := ?v4) rfl (by kernel_rfl) (by kernel_rfl) (by kernel_rfl) (fun _ _ _ h => h) (Or.inl ⟨by rfl, ?y4⟩) (by assumption) ?r4
  case y4 => (intro w hSw; (try dsimp only at hSw); go_simp; try with_reducible rfl)
  try simp only [Act.put, List.setIfInBounds_toArray, List.set_cons_zero, List.set_cons_succ]
  refine wpAnyH_take (i := 6) (oi := { dst := some 14, op := Op.move (Operand.tmp 1), type := 3, pos := "order.go:49", after := #[], guard := none }) (v := ?v6) rfl (by kernel_rfl) (by kernel_rfl) (by kernel_rfl) (fun _ _ _ h => h) (Or.inl ⟨by rfl, ?y6⟩) (by assumption) ?r6
  case y6 => (intro w hSw; (try dsimp only at hSw); go_simp; try with_reducible rfl)
  try simp only [Act.put, List.setIfInBounds_toArray, List.set_cons_zero, List.set_cons_succ]
  refine wpAnyH_ready (rs := [5, 7]) (by kernel_rfl) (by simp) ?_
  refine AllReadyH.cons (o := { dst := some 13, op := Op.load 23 (Operand.tmp 12), type := 23, pos := "order.go:49", after := #[{ on := 4, ground := Ground.data }], guard := none }) rfl (fun K hK => ?_) (AllReadyH.cons (o := { dst := some 15, op := Op.buildSlice 23 1 #[(0, Operand.tmp 14)], type := 23, pos := "order.go:49", after := #[{ on := 6, ground := Ground.data }], guard := none }) rfl (fun K hK => ?_) AllReadyH.nil)
  · go_simp
    refine hK.out _ _ (unhide HS0) (fun hHeld => ?_)
    clear hK K
    try simp only [Act.put, List.setIfInBounds_toArray, List.set_cons_zero, List.set_cons_succ]
    refine wpAnyH_ready (rs := [7]) (by kernel_rfl) (by simp) ?_
    refine AllReadyH.cons (o := { dst := some 15, op := Op.buildSlice 23 1 #[(0, Operand.tmp 14)], type := 23, pos := "order.go:49", after := #[{ on := 6, ground := Ground.data }], guard := none }) rfl (fun K hK => ?_) AllReadyH.nil
    refine step_run rfl (val_run (by simp only [List.map_toArray, List.map_cons, List.map_nil]; exact unhide HBS)) ?_
    refine hK.out _ _ (unhide HS1) (fun hHeld => ?_)
    clear hK K
    try simp only [Act.put, List.setIfInBounds_toArray, List.set_cons_zero, List.set_cons_succ]
    refine wpAnyH_ready (rs := [8]) (by kernel_rfl) (by simp) ?_
    refine AllReadyH.cons (o := { dst := some 16, op := Op.call { callee := Callee.builtin Builtin.append, args := #[Operand.tmp 13, Operand.tmp 15], argTypes := #[23, 23] }, type := 23, pos := "order.go:49", after := #[{ on := 5, ground := Ground.data }, { on := 7, ground := Ground.data }], guard := none }) rfl (fun K hK => ?_) AllReadyH.nil
    (refine step_append2 ki rfl (.tmp 13) (.tmp 15) rfl lo (.slice a8 r k8) (L a) rfl (unhide HOA) _ [b] rfl (unhide HIO) (r + 1) (unhide HLN) (by show (r + 1) * 8 ≤ 140737488355328; omega) (unhide HSZ) ?_; intro a9 c9 w9 ho9 hg9 hl9; obtain ⟨hq6, hq7, ⟨y6, hy6⟩, hf6, hE7, hB7, hA7⟩ := unhide HG6 w9 a9 c9 ho9 hg9 hl9; have HQ6 := hide hq6; have HQ7 := hide hq7; have HE7 := hide hE7; have HB7 := hide hB7; have HA7 := hide hA7; clear ho9 hg9 hl9 hq6 hq7 hE7 hB7 hA7)
    refine hK.out _ _ (unhide HQ6) (fun hHeld => ?_)
    clear hK K
    try simp only [Act.put, List.setIfInBounds_toArray, List.set_cons_zero, List.set_cons_succ]
    refine wpAnyH_take (i := 9) (oi := { dst := some 17, op := Op.indexAddr 30 (Operand.tmp 8) (Operand.tmp 9), type := 0, pos := "order.go:49", after := #[{ on := 0, ground := Ground.data }, { on := 1, ground := Ground.data }, { on := 0, ground := Ground.phase }, { on := 1, ground := Ground.phase }, { on := 2, ground := Ground.phase }, { on := 3, ground := Ground.phase }, { on := 4, ground := Ground.phase }, { on := 5, ground := Ground.phase }, { on := 6, ground := Ground.phase }, { on := 7, ground := Ground.phase }, { on := 8, ground := Ground.phase }], guard := none }) (v := ?v9a) rfl (by kernel_rfl) (by kernel_rfl) (by kernel_rfl) (fun _ _ _ h => h) (Or.inl ⟨by rfl, ?y9a⟩) (by assumption) ?r9a
    case y9a => (intro w hSw; (try dsimp only at hSw); go_simp; try with_reducible rfl)
    try simp only [Act.put, List.setIfInBounds_toArray, List.set_cons_zero, List.set_cons_succ]
    refine wpAnyH_ready (rs := [10]) (by kernel_rfl) (by simp) ?_
    refine AllReadyH.cons (o := { dst := none, op := Op.store 23 (Operand.tmp 17) (Operand.tmp 16), type := 0, pos := "order.go:49", after := #[{ on := 9, ground := Ground.data }, { on := 8, ground := Ground.data }, { on := 8, ground := Ground.chain }, { on := 0, ground := Ground.phase }, { on := 1, ground := Ground.phase }, { on := 2, ground := Ground.phase }, { on := 3, ground := Ground.phase }, { on := 4, ground := Ground.phase }, { on := 5, ground := Ground.phase }, { on := 6, ground := Ground.phase }, { on := 7, ground := Ground.phase }, { on := 8, ground := Ground.phase }], guard := none }) rfl (fun K hK => ?_) AllReadyH.nil
    go_simp
    refine hK.out _ _ (unhide HQ7) (fun hHeld => ?_)
    clear hK K
    try simp only [Act.put, List.setIfInBounds_toArray, List.set_cons_zero, List.set_cons_succ]
    refine wpAnyH_done (by kernel_rfl) ?_ _
    go_wp2_with fail
    exact bodyPost_end (v := .tuple #[]) (by simp [results, Try.results45]) rfl ⟨_, rfl, unhide HE7, unhide HB7, unhide HA7⟩
  · refine step_run rfl (val_run (by simp only [List.map_toArray, List.map_cons, List.map_nil]; exact unhide HBS)) ?_
    refine hK.out _ _ (unhide HS1) (fun hHeld => ?_)
    clear hK K
    try simp only [Act.put, List.setIfInBounds_toArray, List.set_cons_zero, List.set_cons_succ]
    refine wpAnyH_ready (rs := [5]) (by kernel_rfl) (by simp) ?_
    refine AllReadyH.cons (o := { dst := some 13, op := Op.load 23 (Operand.tmp 12), type := 23, pos := "order.go:49", after := #[{ on := 4, ground := Ground.data }], guard := none }) rfl (fun K hK => ?_) AllReadyH.nil
    go_simp
    refine hK.out _ _ (unhide HS1) (fun hHeld => ?_)
    clear hK K
    try simp only [Act.put, List.setIfInBounds_toArray, List.set_cons_zero, List.set_cons_succ]
    refine wpAnyH_ready (rs := [8]) (by kernel_rfl) (by simp) ?_
    refine AllReadyH.cons (o := { dst := some 16, op := Op.call { callee := Callee.builtin Builtin.append, args := #[Operand.tmp 13, Operand.tmp 15], argTypes := #[23, 23] }, type := 23, pos := "order.go:49", after := #[{ on := 5, ground := Ground.data }, { on := 7, ground := Ground.data }], guard := none }) rfl (fun K hK => ?_) AllReadyH.nil
    (refine step_append2 ki rfl (.tmp 13) (.tmp 15) rfl lo (.slice a8 r k8) (L a) rfl (unhide HOA) _ [b] rfl (unhide HIO) (r + 1) (unhide HLN) (by show (r + 1) * 8 ≤ 140737488355328; omega) (unhide HSZ) ?_; intro a9 c9 w9 ho9 hg9 hl9; obtain ⟨hq6, hq7, ⟨y6, hy6⟩, hf6, hE7, hB7, hA7⟩ := unhide HG6 w9 a9 c9 ho9 hg9 hl9; have HQ6 := hide hq6; have HQ7 := hide hq7; have HE7 := hide hE7; have HB7 := hide hB7; have HA7 := hide hA7; clear ho9 hg9 hl9 hq6 hq7 hE7 hB7 hA7)
    refine hK.out _ _ (unhide HQ6) (fun hHeld => ?_)
    clear hK K
    try simp only [Act.put, List.setIfInBounds_toArray, List.set_cons_zero, List.set_cons_succ]
    refine wpAnyH_take (i := 9) (oi := { dst := some 17, op := Op.indexAddr 30 (Operand.tmp 8) (Operand.tmp 9), type := 0, pos := "order.go:49", after := #[{ on := 0, ground := Ground.data }, { on := 1, ground := Ground.data }, { on := 0, ground := Ground.phase }, { on := 1, ground := Ground.phase }, { on := 2, ground := Ground.phase }, { on := 3, ground := Ground.phase }, { on := 4, ground := Ground.phase }, { on := 5, ground := Ground.phase }, { on := 6, ground := Ground.phase }, { on := 7, ground := Ground.phase }, { on := 8, ground := Ground.phase }], guard := none }) (v := ?v9b) rfl (by kernel_rfl) (by kernel_rfl) (by kernel_rfl) (fun _ _ _ h => h) (Or.inl ⟨by rfl, ?y9b⟩) (by assumption) ?r9b
    case y9b => (intro w hSw; (try dsimp only at hSw); go_simp; try with_reducible rfl)
    try simp only [Act.put, List.setIfInBounds_toArray, List.set_cons_zero, List.set_cons_succ]
    refine wpAnyH_ready (rs := [10]) (by kernel_rfl) (by simp) ?_
    refine AllReadyH.cons (o := { dst := none, op := Op.store 23 (Operand.tmp 17) (Operand.tmp 16), type := 0, pos := "order.go:49", after := #[{ on := 9, ground := Ground.data }, { on := 8, ground := Ground.data }, { on := 8, ground := Ground.chain }, { on := 0, ground := Ground.phase }, { on := 1, ground := Ground.phase }, { on := 2, ground := Ground.phase }, { on := 3, ground := Ground.phase }, { on := 4, ground := Ground.phase }, { on := 5, ground := Ground.phase }, { on := 6, ground := Ground.phase }, { on := 7, ground := Ground.phase }, { on := 8, ground := Ground.phase }], guard := none }) rfl (fun K hK => ?_) AllReadyH.nil
    go_simp
    refine hK.out _ _ (unhide HQ7) (fun hHeld => ?_)
    clear hK K
    try simp only [Act.put, List.setIfInBounds_toArray, List.set_cons_zero, List.set_cons_succ]
    refine wpAnyH_done (by kernel_rfl) ?_ _
    go_wp2_with fail
    exact bodyPost_end (v := .tuple #[]) (by simp [results, Try.results45]) rfl ⟨_, rfl, unhide HE7, unhide HB7, unhide HA7⟩
theorem edgeAdd_yes (lo : Nat) (w : World) (E G n : Nat) (vf : Nat → Value) (L : Nat → List Int) (h : EdgesAt lo w E G n vf L) (a : Nat) (b : Int) (hab : (a : Int) < b) (ha : a < n) (hn : n ≤ 2000) (hlen : (L a).length ≤ 100000000) :
    Calls Try.prog 45 #[.int .i64 (a : Int), .int .i64 b, .pointer (some ⟨E, 0, none⟩)] w fun e w' => ∃ vf', e = .returned (.tuple #[]) ∧ EdgesAt lo w' E G n vf' (updF L a (L a ++ [b])) ∧ Below G w w' :=
  (edgeAdd_aside lo w E G n vf L h a b hab ha hn hlen).mono fun _ _ ⟨vf', h1, h2, h3, _⟩ => ⟨vf', h1, h2, h3⟩
end Go.Proofs.Ytbnmeeabpjmcoaa
