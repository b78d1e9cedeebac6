/-
  The method join of order.clock.
-/
import Derived.Test.YtbnmeeabpjmcoaaG
namespace Go.Proofs.Ytbnmeeabpjmcoaa
open Go.RowKit

theorem But.set {g i : Nat} {w w' : World} (h : But g w w') (v : Value) : But g w (w'.setCell ⟨g, i, none⟩ v) :=
  ⟨h.os, h.tape, h.output, by simpa [World.setCell] using h.size, fun k hk hg => (Below.heap_setCell _ _ _ _ (by simpa using hg)).trans (h.block k hk hg)⟩
theorem But.setCells {g : Nat} {w0 : World} : ∀ (vs : List Value) (o : Nat) (w : World), But g w0 w → But g w0 (w.setCells g o vs)
  | [], _, _, h => h
  | v :: vs, o, w, h => by
    rw [World.setCells]
    exact But.setCells vs _ _ (h.set v)
theorem But.alloc {g : Nat} {w w' : World} (h : But g w w') (o : Obj) : But g w (w'.alloc o) := h.call ((Below.refl _ _).alloc (Nat.le_refl _) o)
theorem But.drew {g : Nat} {w w' : World} (h : But g w w') : But g w w'.drew := h.call (Below.refl _ _).drew

def updN (c : Nat → Int) (k : Nat) (v : Int) : Nat → Int := fun j => if j = k then v else c j
theorem ck_cell {w : World} {b off i : Nat} {l r : List Value} {c : Nat → Int} {t : TypeId} (h : w.heap[b]? = some (.cells (l ++ ckL c ++ r).toArray t (0, 0))) (hl : l.length = off) (hi : i < 64) : w.cell? ⟨b, off + i, none⟩ = some (.int .i64 (c i)) ∧ w.frozen? ⟨b, off + i, none⟩ = false := by
  subst hl
  exact ⟨range_block h i _ (ckL_get c hi), by simp [World.frozen?, h]⟩
theorem ckL_set (c : Nat → Int) {i : Nat} (hi : i < 64) (v : Int) : (ckL c).set i (.int .i64 v) = ckL (updN c i v) := by
  apply List.ext_getElem?
  intro j
  by_cases hj : j < 64
  · rw [ckL_get (updN c i v) hj, List.getElem?_set, ckL_len]
    by_cases e : i = j
    · subst e
      simp [hi, updN]
    · rw [if_neg e, ckL_get _ hj]
      simp [updN, Ne.symm e]
  · rw [List.getElem?_eq_none (by rw [List.length_set, ckL_len]; omega), List.getElem?_eq_none (by rw [ckL_len]; omega)]
theorem ck_set {w : World} {b off i : Nat} {l r : List Value} {c : Nat → Int} {t : TypeId} (h : w.heap[b]? = some (.cells (l ++ ckL c ++ r).toArray t (0, 0))) (hl : l.length = off) (hi : i < 64) (v : Int) : (w.setCell ⟨b, off + i, none⟩ (.int .i64 v)).heap[b]? = some (.cells (l ++ ckL (updN c i v) ++ r).toArray t (0, 0)) := by
  subst hl
  rw [← ckL_set c hi v]
  simp only [World.setCell, Array.getElem?_modify, h, if_pos, Option.map_some]
  congr 2
  simp only [List.setIfInBounds_toArray]
  rw [List.append_assoc, List.set_append_right _ _ (by omega), Nat.add_sub_cancel_left, List.set_append_left _ _ (by rw [ckL_len]; exact hi)]
  simp

def joinC (c o : Nat → Int) : Nat → Int := fun i => max (c i) (o i)
def jn (c o : Nat → Int) (i : Nat) : Nat → Int := fun j => if j < i then max (c j) (o j) else c j
theorem jn_step (c o : Nat → Int) (i : Nat) : updN (jn c o i) i (max (c i) (o i)) = jn c o (i + 1) := by
  funext j
  unfold updN jn
  by_cases h : j = i
  · subst h; simp
  · rw [if_neg h]
    by_cases h2 : j < i
    · rw [if_pos h2, if_pos (by omega)]
    · rw [if_neg h2, if_neg (by omega)]
theorem jn_zero (c o : Nat → Int) : jn c o 0 = c := by funext j; simp [jn]
theorem jn_at (c o : Nat → Int) (i : Nat) : jn c o i i = c i := by simp [jn]
theorem jn_all (c o : Nat → Int) : ckL (jn c o 64) = ckL (joinC c o) := ckL_ext fun i hi => by simp [jn, joinC, hi]

theorem run_max2 (w : World) (ts : Array TypeId) (t : TypeId) (x y : Int) : (Builtin.max_ ts t #[.int .i64 x, .int .i64 y]).run Try.prog w = .ok (.int .i64 (max x y)) w := by
  have e : ∀ a b : Int, (if a < b then b else a) = max a b := fun a b => by omega
  simp [Builtin.max_, Builtin.max2, e]

theorem idx_ck (w : World) (o : Nat → Int) {i : Nat} (hi : i < 64) : (Instr.index 65 (ckV o) (.int .i64 (i : Int))).run Try.prog w = .ok (.int .i64 (o i)) w := by
  have h0 : (0 : Int) ≤ (i : Int) := by omega
  have h1 : (i : Int) < 64 := by omega
  have hg := ckL_get o hi
  have h2 : ¬ 64 ≤ i := by omega
  simp [Instr.index, go_sem, h0, hg, h2]

set_option maxRecDepth 100000 in
set_option maxHeartbeats 2000000 in
theorem join_any (w : World) (b off : Nat) (l r : List Value) (c o : Nat → Int) (t : TypeId) (hl : l.length = off) (h : w.heap[b]? = some (.cells (l ++ ckL c ++ r).toArray t (0, 0))) :
    Calls Try.prog 51 #[.pointer (some ⟨b, off, none⟩), ckV o] w fun e w' => e = .returned (.tuple #[]) ∧ w'.heap[b]? = some (.cells (l ++ ckL (joinC c o) ++ r).toArray t (0, 0)) ∧ But b w w' := by
  obtain ⟨W, eW⟩ : ∃ X, w.alloc (.cells (ckL o).toArray 65) = X := ⟨_, rfl⟩
  have hZ : W.heap[w.heap.size]? = some (.cells ([] ++ ckL o ++ []).toArray 65 (0, 0)) := by rw [← eW]; simpa using new_block w _
  have hB : But b w W := by rw [← eW]; exact (But.refl b w).alloc _
  have hC : W.heap[b]? = some (.cells (l ++ ckL c ++ r).toArray t (0, 0)) := by rw [← eW]; exact keep_alloc h _
  have HR : Hid (W.rangeAt w.heap.size 0 (ckL o)) := range_block hZ
  have HE := hide eW; have HB := hide hB; have HC := hide hC; have HL := hide hl
  have HX : Hid (ckL (joinC c o) = ckL (jn c o 64)) := (jn_all c o).symm
  clear eW hZ hB hC h hl
  go_enter Try.func51, Try.ntmps51
  go_upto_region 1 with fail
  rw [unhide HE]
  clear HE
  go_wp2_with (refine wpList_load_mid rfl _ _ rfl _ _ rfl (ckL o) _ (unhide HR) Try.und65 rfl (by rw [ckL_len]; exact Try.size65) ?_)
  go_loopw [7] (fun s7 wr => ∃ i : Nat, i ≤ 64 ∧ s7 = .int .i64 (i : Int) ∧ wr.heap[b]? = some (.cells (l ++ ckL (jn c o i) ++ r).toArray t (0, 0)) ∧ But b w wr) (fun s7 _ => 64 - (intOf s7).toNat)
  case atStart => exact ⟨0, Nat.zero_le _, rfl, by rw [jn_zero]; exact unhide HC, unhide HB⟩
  case round =>
    clear HC HB HR
    obtain ⟨i, hi, rfl, hC, hB⟩ := hrel
    by_cases hlt : i < 64
    · obtain ⟨c0, f0⟩ := ck_cell hC (unhide HL) hlt
      rw [jn_at] at c0
      have hix := fun W => idx_ck W o hlt
      have hmx := fun W ts ty => run_max2 W ts ty (c i) (o i)
      have HJ := hide (jn_step c o i)
      obtain ⟨z, ez⟩ : ∃ z, max (c i) (o i) = z := ⟨_, rfl⟩
      rw [ez] at HJ
      simp only [ez] at hmx
      obtain ⟨x, ex⟩ : ∃ x, o i = x := ⟨_, rfl⟩
      obtain ⟨y, ey⟩ : ∃ x, c i = x := ⟨_, rfl⟩
      simp only [ex, ey] at hix hmx c0
      have HC := hide hC; have HB := hide hB
      clear hC hB ex ey ez
      have g0 : (0 : Int) ≤ (i : Int) := by omega
      have g1 : (i : Int) < 64 := by omega
      go_wp2_with fail
      go_region
      go_wp2_with fail
      have HC2 := hide (ck_set (unhide HC) (unhide HL) hlt z)
      rw [unhide HJ] at HC2
      have HB2 := hide ((unhide HB).set (i := off + i) (.int .i64 z))
      exact ⟨⟨i + 1, by omega, by go_num, (drew_at _ _).trans (unhide HC2), (unhide HB2).drew⟩, by simp [intOf]; omega⟩
    · obtain rfl : i = 64 := by omega
      have HC := hide hC; have HB := hide hB
      rw [← unhide HX] at HC
      clear hC hB hlt hi
      go_wp2_with fail
      exact bodyPost_end (v := .tuple #[]) (by simp [results, Try.results51]) rfl ⟨rfl, unhide HC, unhide HB⟩
end Go.Proofs.Ytbnmeeabpjmcoaa
