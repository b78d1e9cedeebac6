/-
  The set of what was seen: the methods has and add of pipe.set.
-/
import Derived.Test.YtdpcbmekplcllaaA
namespace Go.Proofs.Ytdpcbmekplcllaa
open Go.RowKit

/-- The entries of a set. -/
def setEnts (ks : List Int) : Array MapEntry := ((List.range ks.length).map fun i => (⟨.int .i64 (ks.getD i 0), .agg #[], i⟩ : MapEntry)).toArray

theorem setEnts_mem {ks : List Int} {e : MapEntry} (h : e ∈ (setEnts ks).toList) : ∃ k ∈ ks, e.key = .int .i64 k ∧ e.val = .agg #[] := by
  simp only [setEnts, List.mem_map, List.mem_range] at h
  obtain ⟨i, hi, rfl⟩ := h
  refine ⟨ks.getD i 0, ?_, rfl, rfl⟩
  simp [List.getElem?_eq_getElem hi]
theorem setEnts_has {ks : List Int} {k : Int} (h : k ∈ ks) : ∃ e ∈ (setEnts ks).toList, e.key = .int .i64 k := by
  obtain ⟨i, hi, rfl⟩ := List.getElem_of_mem h
  refine ⟨⟨.int .i64 (ks.getD i 0), .agg #[], i⟩, ?_, ?_⟩
  · simp only [setEnts, List.mem_map, List.mem_range]
    exact ⟨i, hi, rfl⟩
  · simp [List.getElem?_eq_getElem hi]
theorem setEnts_push (ks : List Int) (k : Int) : (setEnts ks).push ⟨.int .i64 k, .agg #[], ks.length⟩ = setEnts (ks ++ [k]) := by
  unfold setEnts
  rw [List.length_append]
  simp only [List.length_cons, List.length_nil, Nat.zero_add, List.range_succ, List.map_append, List.map_cons, List.map_nil, List.push_toArray]
  congr 2
  · apply List.map_congr_left
    intro i hi
    have hi' := List.mem_range.1 hi
    simp [List.getElem?_append_left hi']
  · simp
theorem int_inj {a b : Int} (h : Value.int .i64 a = Value.int .i64 b) : a = b := by injection h
theorem set_keys (ks : List Int) : ∀ x ∈ (setEnts ks).toList, MapKept.IsKey (.int .i64) x.key := fun x hx => by
  obtain ⟨k, _, hk, _⟩ := setEnts_mem hx
  rw [hk]; rfl

/-- The block B is the set of these numbers, in the order in which they came. -/
def IsSet (w : World) (B : Nat) (ks : List Int) : Prop := w.heap[B]? = some (.map (setEnts ks) ks.length)

theorem look_new (w : World) (B : Nat) (ks : List Int) (hb : IsSet w B ks) (x : Int) (hs : ks.contains x = false) :
    (Instr.lookup 57 (.map (some B)) (.int .i64 x) true).run Try.prog w = .ok (.tuple #[.agg #[], .bool false]) w := by
  have hz : (zeroValue 66).run Try.prog w = .ok (.agg #[]) w := by kernel_rfl
  rcases MapKept.findNow_spec (d := .int .i64) (k := .int .i64 x) rfl (setEnts ks).toList 0 (set_keys ks) with ⟨h1, h2⟩ | ⟨j, e, h1, h2, h3⟩
  · simp [Instr.lookup, run_underlying Try.underlying57, MapKept.run_getObj_map hb, MapKept.run_checkKey Try.underlying3 (k := .int .i64 x) rfl, MapKept.run_findKey Try.underlying3 h1, hz, Result.andThen]
  · obtain ⟨k, hk, hke, _⟩ := setEnts_mem (List.mem_of_getElem? h2)
    have h4 : k = x := int_inj (hke.symm.trans h3)
    rw [h4] at hk
    rw [List.contains_iff_mem.2 hk] at hs
    cases hs
theorem look_old (w : World) (B : Nat) (ks : List Int) (hb : IsSet w B ks) (x : Int) (hs : ks.contains x = true) :
    (Instr.lookup 57 (.map (some B)) (.int .i64 x) true).run Try.prog w = .ok (.tuple #[.agg #[], .bool true]) w := by
  rcases MapKept.findNow_spec (d := .int .i64) (k := .int .i64 x) rfl (setEnts ks).toList 0 (set_keys ks) with ⟨h1, h2⟩ | ⟨j, e, h1, h2, h3⟩
  · obtain ⟨e, he, hk⟩ := setEnts_has (List.contains_iff_mem.1 hs)
    exact absurd hk (h2 e he)
  · obtain ⟨k, hk, hke, hv⟩ := setEnts_mem (List.mem_of_getElem? h2)
    rw [hv] at h1
    simp [Instr.lookup, run_underlying Try.underlying57, MapKept.run_getObj_map hb, MapKept.run_checkKey Try.underlying3 (k := .int .i64 x) rfl, MapKept.run_findKey Try.underlying3 h1, Result.andThen]
theorem look_set (w : World) (B : Nat) (ks : List Int) (hb : IsSet w B ks) (x : Int) :
    (Instr.lookup 57 (.map (some B)) (.int .i64 x) true).run Try.prog w = .ok (.tuple #[.agg #[], .bool (ks.contains x)]) w := by
  cases h : ks.contains x with
  | false => exact look_new w B ks hb x h
  | true => exact look_old w B ks hb x h

/-- The world with another object in a block. -/
def putObj (w : World) (B : Nat) (o : Obj) : World := { w with heap := w.heap.setIfInBounds B o }
theorem heap_putObj {w : World} {B : Nat} {o : Obj} (k : Nat) (h : k ≠ B) : (putObj w B o).heap[k]? = w.heap[k]? := by
  simp [putObj, Ne.symm h]
theorem heap_putObj_same {w : World} {B : Nat} {o : Obj} (h : B < w.heap.size) : (putObj w B o).heap[B]? = some o := by
  simp [putObj, h]
theorem size_putObj {w : World} {B : Nat} {o : Obj} : (putObj w B o).heap.size = w.heap.size := by simp [putObj]
theorem below_put {B0 B : Nat} {w wr : World} (h : Below B0 w wr) (hB : B0 ≤ B) (o : Obj) : Below B0 w (putObj wr B o) :=
  ⟨h.os, h.tape, h.output, by rw [size_putObj]; exact h.size, fun k hk => by rw [heap_putObj k (by omega)]; exact h.block k hk⟩

theorem IsSet.lt {w : World} {B : Nat} {ks : List Int} (h : IsSet w B ks) : B < w.heap.size := (Array.getElem?_eq_some_iff.1 h).1
theorem IsSet.below {w w' : World} {B : Nat} {ks : List Int} (h : IsSet w B ks) (hb : Below w.heap.size w w') : IsSet w' B ks := (hb.block B h.lt).trans h
theorem IsSet.put {w : World} {B : Nat} {ks : List Int} (h : B < w.heap.size) : IsSet (putObj w B (.map (setEnts ks) ks.length)) B ks := heap_putObj_same h

theorem upd_set (w : World) (B : Nat) (ks : List Int) (hb : IsSet w B ks) (x : Int) (hs : ks.contains x = false) :
    (Instr.mapUpdate 57 (.map (some B)) (.int .i64 x) (.agg #[])).run Try.prog w = .ok () (putObj w B (.map (setEnts (ks ++ [x])) (ks ++ [x]).length)) := by
  rcases MapKept.findNow_spec (d := .int .i64) (k := .int .i64 x) rfl (setEnts ks).toList 0 (set_keys ks) with ⟨h1, h2⟩ | ⟨j, e, h1, h2, h3⟩
  · have e : (ks ++ [x]).length = ks.length + 1 := by simp
    rw [e]
    simp only [Instr.mapUpdate, Sem.run_bind, run_underlying Try.underlying57, MapKept.run_getObj_map hb, MapKept.run_checkKey Try.underlying3 (k := .int .i64 x) rfl, MapKept.run_findKey Try.underlying3 h1, MapKept.run_setObj_map _ hb, Result.andThen, setEnts_push, putObj]
  · obtain ⟨k, hk, hke, _⟩ := setEnts_mem (List.mem_of_getElem? h2)
    have h4 : k = x := int_inj (hke.symm.trans h3)
    rw [h4] at hk
    rw [List.contains_iff_mem.2 hk] at hs
    cases hs

set_option maxRecDepth 100000 in
set_option maxHeartbeats 400000 in
theorem sethas_any (w : World) (B : Nat) (ks : List Int) (x : Int) (hb : IsSet w B ks) :
    Calls Try.prog 36 #[.map (some B), .int .i64 x] w fun e w' => e = .returned (.bool (ks.contains x)) ∧ Below w.heap.size w w' := by
  have h1 := look_set w B ks hb x
  obtain ⟨r, hr⟩ : ∃ r, ks.contains x = r := ⟨_, rfl⟩
  rw [hr] at h1 ⊢
  clear hr
  go_enter Try.func36, Try.ntmps36
  go_wp2
  go_ret
  exact ⟨rfl, (Below.refl _ _).alloc (Nat.le_refl _) _⟩

set_option maxRecDepth 100000 in
set_option maxHeartbeats 400000 in
theorem setadd_any (w : World) (B : Nat) (ks : List Int) (x : Int) (hb : IsSet w B ks) (hs : ks.contains x = false) :
    Calls Try.prog 27 #[.map (some B), .int .i64 x] w fun e w' => e = .returned (.tuple #[]) ∧ w' = putObj w B (.map (setEnts (ks ++ [x])) (ks ++ [x]).length) := by
  have h1 := upd_set w B ks hb x hs
  go_enter Try.func27, Try.ntmps27
  go_wp2
  refine bodyPost_end (v := .tuple #[]) ?_ rfl ⟨rfl, by rw [List.length_append]; rfl⟩
  simp [results, Try.results27]

theorem set_made (w : World) : IsSet (w.alloc (.map #[] 0)) w.heap.size [] := (MapKept.heap_alloc w _).1

theorem set_made1 (w : World) (o : Obj) : IsSet ((w.alloc o).alloc (.map #[] 0)) (w.heap.size + 1) [] := by
  have := set_made (w.alloc o)
  rw [World.size_alloc] at this
  exact this

theorem make_set (x : Int) (w : World) : (Instr.makeMap 57 (some (.int .i64 x))).run Try.prog w = .ok (.map (some w.heap.size)) (w.alloc (.map #[] 0)) := by
  simp only [Instr.makeMap, Sem.run_bind, run_underlying Try.underlying57, Result.andThen]
  rfl
end Go.Proofs.Ytdpcbmekplcllaa
