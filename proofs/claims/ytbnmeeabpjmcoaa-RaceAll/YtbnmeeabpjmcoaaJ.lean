/-
  Sends and clocks that are built; how pipes lie.
-/
import Derived.Test.YtbnmeeabpjmcoaaI
import Derived.Great.BuildSlice
namespace Go.Proofs.Ytbnmeeabpjmcoaa
open Go.RowKit

theorem fold_range : ∀ (vs l m r : List Value) (off k : Nat), m.length = vs.length → l.length = off + k → (vs.zipIdx k).foldl (fun (cs : Array Value) (x : Value × Nat) => cs.setIfInBounds (off + x.2) x.1) (l ++ m ++ r).toArray = (l ++ vs ++ r).toArray
  | [], l, m, r, off, k, hm, hl => by
    have e : m = [] := List.eq_nil_of_length_eq_zero hm
    subst e
    rfl
  | v :: vs, l, m, r, off, k, hm, hl => by
    cases m with
    | nil => simp at hm
    | cons x m =>
      have e : (l ++ x :: m ++ r).toArray.setIfInBounds (off + k) v = ((l ++ [v]) ++ m ++ r).toArray := by
        rw [List.setIfInBounds_toArray, ← hl, List.append_assoc, List.set_append_right _ _ (Nat.le_refl _), Nat.sub_self]
        simp
      rw [List.zipIdx_cons, List.foldl_cons, e, fold_range vs (l ++ [v]) m r off (k + 1) (by simpa using hm) (by simp; omega)]
      simp
theorem fill_one {place : Nat → Option (Nat × Nat)} {i off size : Nat} {v : Value} {rest : List (Nat × Value)} (vs l m r : List Value) (hp : place i = some (off, size)) (hv : v.cells = vs.toArray) (hs : vs.length = size) (hl : l.length = off) (hm : m.length = size) :
    Instr.fill place (l ++ m ++ r).toArray ((i, v) :: rest) = Instr.fill place (l ++ vs ++ r).toArray rest := by
  have h1 : ¬ (v.cells.size ≠ size || off + v.cells.size > (l ++ m ++ r).toArray.size) = true := by
    rw [hv]
    simp only [List.size_toArray, List.length_append]
    simp
    omega
  have h2 : (v.cells.zipIdx.foldl (fun cs (x : Value × Nat) => cs.setIfInBounds (off + x.2) x.1) (l ++ m ++ r).toArray) = (l ++ vs ++ r).toArray := by
    rw [hv, ← Array.foldl_toList, Array.toList_zipIdx]
    exact fold_range vs l m r off 0 (by omega) (by omega)
  rw [Instr.fill, hp]
  simp only [h1]
  exact congrArg (fun x => Instr.fill place x rest) h2

theorem Try.zeroSent : (∀ w, (zeroValue 120).run Try.prog w = .ok (.agg (List.replicate 65 (Value.int .i64 0)).toArray) w) ∧ (Try.prog.info? 120).map (·.size) = some 65 := zero_of_info (P := Try.prog) (t := 120) (n := 65) (by kernel_rfl)

theorem build_sent (w : World) (t : Int) (c : Nat → Int) : (Instr.build 120 #[(0, .int .i64 t), (1, ckV c)]).run Try.prog w = .ok (.agg (.int .i64 t :: ckL c).toArray) w := by
  have hz := Try.zeroSent.1 w
  have e : List.replicate 65 (Value.int .i64 0) = [] ++ [.int .i64 0] ++ List.replicate 64 (.int .i64 0) := rfl
  have hf : ∀ place : Nat → Option (Nat × Nat), place 0 = some (0, 1) → place 1 = some (1, 64) → Instr.fill place (List.replicate 65 (Value.int .i64 0)).toArray [(0, .int .i64 t), (1, ckV c)] = some (.int .i64 t :: ckL c).toArray := fun place h0 h1 => by
    rw [e, fill_one [.int .i64 t] [] _ _ h0 rfl rfl rfl rfl]
    have e2 : ([] ++ [Value.int .i64 t] ++ List.replicate 64 (Value.int .i64 0)) = [Value.int .i64 t] ++ List.replicate 64 (.int .i64 0) ++ [] := by simp
    rw [e2, fill_one (ckL c) [.int .i64 t] _ _ h1 rfl (ckL_len c) rfl (by simp)]
    simp [Instr.fill]
  have hf2 := hf (fun x => [(0, 1), (1, 64)][x]?) rfl rfl
  obtain ⟨Z, eZ⟩ : ∃ Z, (List.replicate 65 (Value.int .i64 0)).toArray = Z := ⟨_, rfl⟩
  rw [eZ] at hz hf2
  clear hf e eZ
  simp [Instr.build, hz, Value.cells, hf2]

/-- A slice literal of one. -/
theorem bs_one {α : Type} {K : Kind α} (hK : K.Ok) (w : World) (x : α) (v : Value) (hv : v.cells = (K.f x).toArray) (hs : K.k ≤ 1000) :
    (Instr.buildSlice K.t 1 #[(0, v)]).run Try.prog w = .ok (.slice (some ⟨w.heap.size, 0, none⟩) 1 1) (w.alloc (.cells (K.f x).toArray K.e)) := by
  obtain ⟨ie, z, h1, h2, h3, h4, h5⟩ := hK.info
  have hp := hK.pos
  refine run_buildSlice w K.t K.e 1 _ _ ie z hK.und h1 h2 (by rw [h3]; omega) (by rw [h3]; omega) ?_
  obtain ⟨A, eA⟩ : ∃ A, (Array.range (1 * ie.size)).map (z.cells[· % z.cells.size]!) = A := ⟨_, rfl⟩
  have hA : A.size = K.k := by rw [← eA]; simp [h3]
  rw [eA, show A = ([] ++ A.toList ++ []).toArray by simp, h3]
  have := fill_one (place := fun i => some (i * K.k, K.k)) (i := 0) (off := 0) (size := K.k) (v := v) (rest := []) (K.f x) [] A.toList [] (by simp) hv (hK.len x) rfl (by simpa using hA)
  rw [this]
  simp [Instr.fill]

theorem bs_sent (w : World) (t : Int) (c : Nat → Int) : (Instr.buildSlice 107 1 #[(0, .agg (.int .i64 t :: ckL c).toArray)]).run Try.prog w = .ok (.slice (some ⟨w.heap.size, 0, none⟩) 1 1) (w.alloc (.cells (.int .i64 t :: ckL c).toArray 120)) := bs_one ks w (t, c) _ rfl (by decide)
theorem bs_ck (w : World) (c : Nat → Int) : (Instr.buildSlice 62 1 #[(0, ckV c)]).run Try.prog w = .ok (.slice (some ⟨w.heap.size, 0, none⟩) 1 1) (w.alloc (.cells (ckL c).toArray 65)) := bs_one kg w c _ rfl (by decide)

/-- A pipe's own cells. -/
theorem pp_cells {w : World} {b : Nat} {s g : Value} {c : Nat → Int} (h : w.heap[b]? = some (ppB s g c)) : w.cell? ⟨b, 0, none⟩ = some s ∧ w.cell? ⟨b, 1, none⟩ = some g ∧ w.frozen? ⟨b, 0, none⟩ = false ∧ w.frozen? ⟨b, 1, none⟩ = false ∧ w.rangeAt b 2 (ckL c) ∧ b < w.heap.size := by
  refine ⟨?_, ?_, ?_, ?_, range_block (l := [s, g]) (r := []) (by simpa [ppB] using h), size_of h⟩
  · simp only [World.cell?, h]; rfl
  · simp only [World.cell?, h]; rfl
  · simp only [World.frozen?, h]; rfl
  · simp only [World.frozen?, h]; rfl
theorem pp_set0 {w : World} {b : Nat} {s g s' : Value} {c : Nat → Int} (h : w.heap[b]? = some (ppB s g c)) : (w.setCell ⟨b, 0, none⟩ s').heap[b]? = some (ppB s' g c) := by
  simp [World.setCell, Array.getElem?_modify, h, ppB]
theorem pp_set1 {w : World} {b : Nat} {s g g' : Value} {c : Nat → Int} (h : w.heap[b]? = some (ppB s g c)) : (w.setCell ⟨b, 1, none⟩ g').heap[b]? = some (ppB s g' c) := by
  simp [World.setCell, Array.getElem?_modify, h, ppB]
theorem pp_there {w : World} {b : Nat} {s g : Value} {c : Nat → Int} (h : w.heap[b]? = some (ppB s g c)) : w.there b 2 64 := there_block h (by simp [ckL_len])
theorem pp_shut {w : World} {b : Nat} {s g : Value} {c : Nat → Int} (h : w.heap[b]? = some (ppB s g c)) (d : Nat → Int) : (w.setCells b 2 (ckL d).toArray.toList).heap[b]? = some (ppB s g d) := by
  have := setCells_block b (ckL d).toArray.toList [s, g] (ckL c) [] w (by simpa [ppB] using h) (by simp [ckL_len])
  simpa [ppB] using this

/-- The element i of a row of clocks. -/
theorem Lies.clock {w : World} {b off : Nat} {xs : List (Nat → Int)} (h : Lies KG w b off xs) {i : Nat} (hi : i < xs.length) : w.rangeAt b (off + i * 64) (ckL (xs.getD i ck0)) := fun j v hv => h i j v hi hv
theorem Lies.sent {w : World} {b off : Nat} {xs : List (Int × (Nat → Int))} (h : Lies KS w b off xs) {i : Nat} (hi : i < xs.length) : w.cell? ⟨b, off + i * 65, none⟩ = some (.int .i64 (xs.getD i (0, ck0)).1) ∧ w.rangeAt b (off + i * 65 + 1) (ckL (xs.getD i (0, ck0)).2) := by
  refine ⟨h i 0 _ hi rfl, fun j v hv => ?_⟩
  have := h i (j + 1) v hi (by show (_ :: ckL (xs.getD i (0, ck0)).2)[j + 1]? = some v; rw [List.getElem?_cons_succ]; exact hv)
  rw [show off + i * 65 + 1 + j = off + i * 65 + (j + 1) by omega]
  exact this
end Go.Proofs.Ytbnmeeabpjmcoaa
