/-
  Maps from numbers to pointers; order.found.
-/
import Derived.Test.YtbnmeeabpjmcoaaC
namespace Go.Proofs.Ytbnmeeabpjmcoaa
open Go.RowKit

/-- The entries of a map from numbers to pointers. -/
def mpEnts (ks : List (Int × Nat)) : Array MapEntry := ((List.range ks.length).map fun i => (⟨.int .i64 (ks.getD i (0, 0)).1, .pointer (some ⟨(ks.getD i (0, 0)).2, 0, none⟩), i⟩ : MapEntry)).toArray

theorem mpEnts_mem {ks : List (Int × Nat)} {e : MapEntry} (h : e ∈ (mpEnts ks).toList) : ∃ k b, (k, b) ∈ ks ∧ e.key = .int .i64 k ∧ e.val = .pointer (some ⟨b, 0, none⟩) := by
  simp only [mpEnts, List.mem_map, List.mem_range] at h
  obtain ⟨i, hi, rfl⟩ := h
  refine ⟨(ks.getD i (0, 0)).1, (ks.getD i (0, 0)).2, ?_, rfl, rfl⟩
  have h2 : ks.getD i (0, 0) = ks[i] := by simp [List.getElem?_eq_getElem hi]
  rw [h2]
  exact List.getElem_mem hi

theorem mpEnts_has {ks : List (Int × Nat)} {k : Int} {b : Nat} (h : (k, b) ∈ ks) : ∃ e ∈ (mpEnts ks).toList, e.key = .int .i64 k := by
  obtain ⟨i, hi, he⟩ := List.getElem_of_mem h
  refine ⟨⟨.int .i64 (ks.getD i (0, 0)).1, .pointer (some ⟨(ks.getD i (0, 0)).2, 0, none⟩), i⟩, ?_, ?_⟩
  · simp only [mpEnts, List.mem_map, List.mem_range]
    exact ⟨i, hi, rfl⟩
  · simp [List.getElem?_eq_getElem hi, he]

theorem mpEnts_push (ks : List (Int × Nat)) (k : Int) (b : Nat) : (mpEnts ks).push ⟨.int .i64 k, .pointer (some ⟨b, 0, none⟩), ks.length⟩ = mpEnts (ks ++ [(k, b)]) := by
  unfold mpEnts
  rw [List.length_append]
  simp only [List.length_cons, List.length_nil, Nat.zero_add, List.range_succ, List.map_append, List.map_cons, List.map_nil, List.push_toArray]
  congr 2
  · apply List.map_congr_left
    intro i hi
    have hi' := List.mem_range.1 hi
    simp [List.getElem?_append_left hi']
  · simp

theorem int_inj {a b : Int} (h : Value.int .i64 a = Value.int .i64 b) : a = b := by injection h

theorem mp_keys (ks : List (Int × Nat)) : ∀ x ∈ (mpEnts ks).toList, MapKept.IsKey (.int .i64) x.key := fun x hx => by
  obtain ⟨k, b, _, hk, _⟩ := mpEnts_mem hx
  rw [hk]; rfl

/-- The block B is the map of these keys and blocks. -/
def IsMap (w : World) (B : Nat) (ks : List (Int × Nat)) : Prop := w.heap[B]? = some (.map (mpEnts ks) ks.length)

/-- The world with another object in a block. -/
def putObj (w : World) (B : Nat) (o : Obj) : World := { w with heap := w.heap.setIfInBounds B o }
theorem heap_putObj {w : World} {B : Nat} {o : Obj} (k : Nat) (h : k ≠ B) : (putObj w B o).heap[k]? = w.heap[k]? := by
  simp [putObj, Ne.symm h]
theorem heap_putObj_same {w : World} {B : Nat} {o : Obj} (h : B < w.heap.size) : (putObj w B o).heap[B]? = some o := by
  simp [putObj, h]
theorem size_putObj {w : World} {B : Nat} {o : Obj} : (putObj w B o).heap.size = w.heap.size := by simp [putObj]
theorem IsMap.lt {w : World} {B : Nat} {ks : List (Int × Nat)} (h : IsMap w B ks) : B < w.heap.size := (Array.getElem?_eq_some_iff.1 h).1

theorem look_miss_clock (w : World) (B : Nat) (ks : List (Int × Nat)) (hb : IsMap w B ks) (x : Int) (hs : ∀ b, (x, b) ∉ ks) :
    (Instr.lookup 95 (.map (some B)) (.int .i64 x) true).run Try.prog w = .ok (.tuple #[.pointer none, .bool false]) w := by
  have hz : (zeroValue 100).run Try.prog w = .ok (.pointer none) w := by kernel_rfl
  rcases MapKept.findNow_spec (d := .int .i64) (k := .int .i64 x) rfl (mpEnts ks).toList 0 (mp_keys ks) with ⟨h1, h2⟩ | ⟨j, e, h1, h2, h3⟩
  · simp [Instr.lookup, run_underlying Try.underlying95, MapKept.run_getObj_map hb, MapKept.run_checkKey Try.underlying3 (k := .int .i64 x) rfl, MapKept.run_findKey Try.underlying3 h1, hz, Result.andThen]
  · obtain ⟨k, b, hk, hke, _⟩ := mpEnts_mem (List.mem_of_getElem? h2)
    have h4 : k = x := int_inj (hke.symm.trans h3)
    rw [h4] at hk
    exact absurd hk (hs b)

theorem look_hit_clock (w : World) (B : Nat) (ks : List (Int × Nat)) (hb : IsMap w B ks) (x : Int) (b0 : Nat) (hs : (x, b0) ∈ ks) :
    ∃ b, (x, b) ∈ ks ∧ (Instr.lookup 95 (.map (some B)) (.int .i64 x) true).run Try.prog w = .ok (.tuple #[.pointer (some ⟨b, 0, none⟩), .bool true]) w := by
  rcases MapKept.findNow_spec (d := .int .i64) (k := .int .i64 x) rfl (mpEnts ks).toList 0 (mp_keys ks) with ⟨h1, h2⟩ | ⟨j, e, h1, h2, h3⟩
  · obtain ⟨e, he, hk⟩ := mpEnts_has hs
    exact absurd hk (h2 e he)
  · obtain ⟨k, b, hk, hke, hv⟩ := mpEnts_mem (List.mem_of_getElem? h2)
    rw [hv] at h1
    have h4 : k = x := int_inj (hke.symm.trans h3)
    rw [h4] at hk
    refine ⟨b, hk, ?_⟩
    simp [Instr.lookup, run_underlying Try.underlying95, MapKept.run_getObj_map hb, MapKept.run_checkKey Try.underlying3 (k := .int .i64 x) rfl, MapKept.run_findKey Try.underlying3 h1, Result.andThen]

theorem upd_clock (w : World) (B : Nat) (ks : List (Int × Nat)) (hb : IsMap w B ks) (x : Int) (b : Nat) (hs : ∀ b, (x, b) ∉ ks) :
    (Instr.mapUpdate 95 (.map (some B)) (.int .i64 x) (.pointer (some ⟨b, 0, none⟩))).run Try.prog w = .ok () (putObj w B (.map (mpEnts (ks ++ [(x, b)])) (ks ++ [(x, b)]).length)) := by
  rcases MapKept.findNow_spec (d := .int .i64) (k := .int .i64 x) rfl (mpEnts ks).toList 0 (mp_keys ks) with ⟨h1, h2⟩ | ⟨j, e, h1, h2, h3⟩
  · have e : (ks ++ [(x, b)]).length = ks.length + 1 := by simp
    rw [e]
    simp only [Instr.mapUpdate, Sem.run_bind, run_underlying Try.underlying95, MapKept.run_getObj_map hb, MapKept.run_checkKey Try.underlying3 (k := .int .i64 x) rfl, MapKept.run_findKey Try.underlying3 h1, MapKept.run_setObj_map _ hb, Result.andThen, mpEnts_push, putObj]
  · obtain ⟨k, b', hk, hke, _⟩ := mpEnts_mem (List.mem_of_getElem? h2)
    have h4 : k = x := int_inj (hke.symm.trans h3)
    rw [h4] at hk
    exact absurd hk (hs b')

theorem look_miss_pipe (w : World) (B : Nat) (ks : List (Int × Nat)) (hb : IsMap w B ks) (x : Int) (hs : ∀ b, (x, b) ∉ ks) :
    (Instr.lookup 96 (.map (some B)) (.int .i64 x) true).run Try.prog w = .ok (.tuple #[.pointer none, .bool false]) w := by
  have hz : (zeroValue 105).run Try.prog w = .ok (.pointer none) w := by kernel_rfl
  rcases MapKept.findNow_spec (d := .int .i64) (k := .int .i64 x) rfl (mpEnts ks).toList 0 (mp_keys ks) with ⟨h1, h2⟩ | ⟨j, e, h1, h2, h3⟩
  · simp [Instr.lookup, run_underlying Try.underlying96, MapKept.run_getObj_map hb, MapKept.run_checkKey Try.underlying3 (k := .int .i64 x) rfl, MapKept.run_findKey Try.underlying3 h1, hz, Result.andThen]
  · obtain ⟨k, b, hk, hke, _⟩ := mpEnts_mem (List.mem_of_getElem? h2)
    have h4 : k = x := int_inj (hke.symm.trans h3)
    rw [h4] at hk
    exact absurd hk (hs b)

theorem look_hit_pipe (w : World) (B : Nat) (ks : List (Int × Nat)) (hb : IsMap w B ks) (x : Int) (b0 : Nat) (hs : (x, b0) ∈ ks) :
    ∃ b, (x, b) ∈ ks ∧ (Instr.lookup 96 (.map (some B)) (.int .i64 x) true).run Try.prog w = .ok (.tuple #[.pointer (some ⟨b, 0, none⟩), .bool true]) w := by
  rcases MapKept.findNow_spec (d := .int .i64) (k := .int .i64 x) rfl (mpEnts ks).toList 0 (mp_keys ks) with ⟨h1, h2⟩ | ⟨j, e, h1, h2, h3⟩
  · obtain ⟨e, he, hk⟩ := mpEnts_has hs
    exact absurd hk (h2 e he)
  · obtain ⟨k, b, hk, hke, hv⟩ := mpEnts_mem (List.mem_of_getElem? h2)
    rw [hv] at h1
    have h4 : k = x := int_inj (hke.symm.trans h3)
    rw [h4] at hk
    refine ⟨b, hk, ?_⟩
    simp [Instr.lookup, run_underlying Try.underlying96, MapKept.run_getObj_map hb, MapKept.run_checkKey Try.underlying3 (k := .int .i64 x) rfl, MapKept.run_findKey Try.underlying3 h1, Result.andThen]

theorem upd_pipe (w : World) (B : Nat) (ks : List (Int × Nat)) (hb : IsMap w B ks) (x : Int) (b : Nat) (hs : ∀ b, (x, b) ∉ ks) :
    (Instr.mapUpdate 96 (.map (some B)) (.int .i64 x) (.pointer (some ⟨b, 0, none⟩))).run Try.prog w = .ok () (putObj w B (.map (mpEnts (ks ++ [(x, b)])) (ks ++ [(x, b)]).length)) := by
  rcases MapKept.findNow_spec (d := .int .i64) (k := .int .i64 x) rfl (mpEnts ks).toList 0 (mp_keys ks) with ⟨h1, h2⟩ | ⟨j, e, h1, h2, h3⟩
  · have e : (ks ++ [(x, b)]).length = ks.length + 1 := by simp
    rw [e]
    simp only [Instr.mapUpdate, Sem.run_bind, run_underlying Try.underlying96, MapKept.run_getObj_map hb, MapKept.run_checkKey Try.underlying3 (k := .int .i64 x) rfl, MapKept.run_findKey Try.underlying3 h1, MapKept.run_setObj_map _ hb, Result.andThen, mpEnts_push, putObj]
  · obtain ⟨k, b', hk, hke, _⟩ := mpEnts_mem (List.mem_of_getElem? h2)
    have h4 : k = x := int_inj (hke.symm.trans h3)
    rw [h4] at hk
    exact absurd hk (hs b')

theorem look_miss_lock (w : World) (B : Nat) (ks : List (Int × Nat)) (hb : IsMap w B ks) (x : Int) (hs : ∀ b, (x, b) ∉ ks) :
    (Instr.lookup 97 (.map (some B)) (.int .i64 x) true).run Try.prog w = .ok (.tuple #[.pointer none, .bool false]) w := by
  have hz : (zeroValue 112).run Try.prog w = .ok (.pointer none) w := by kernel_rfl
  rcases MapKept.findNow_spec (d := .int .i64) (k := .int .i64 x) rfl (mpEnts ks).toList 0 (mp_keys ks) with ⟨h1, h2⟩ | ⟨j, e, h1, h2, h3⟩
  · simp [Instr.lookup, run_underlying Try.underlying97, MapKept.run_getObj_map hb, MapKept.run_checkKey Try.underlying3 (k := .int .i64 x) rfl, MapKept.run_findKey Try.underlying3 h1, hz, Result.andThen]
  · obtain ⟨k, b, hk, hke, _⟩ := mpEnts_mem (List.mem_of_getElem? h2)
    have h4 : k = x := int_inj (hke.symm.trans h3)
    rw [h4] at hk
    exact absurd hk (hs b)

theorem look_hit_lock (w : World) (B : Nat) (ks : List (Int × Nat)) (hb : IsMap w B ks) (x : Int) (b0 : Nat) (hs : (x, b0) ∈ ks) :
    ∃ b, (x, b) ∈ ks ∧ (Instr.lookup 97 (.map (some B)) (.int .i64 x) true).run Try.prog w = .ok (.tuple #[.pointer (some ⟨b, 0, none⟩), .bool true]) w := by
  rcases MapKept.findNow_spec (d := .int .i64) (k := .int .i64 x) rfl (mpEnts ks).toList 0 (mp_keys ks) with ⟨h1, h2⟩ | ⟨j, e, h1, h2, h3⟩
  · obtain ⟨e, he, hk⟩ := mpEnts_has hs
    exact absurd hk (h2 e he)
  · obtain ⟨k, b, hk, hke, hv⟩ := mpEnts_mem (List.mem_of_getElem? h2)
    rw [hv] at h1
    have h4 : k = x := int_inj (hke.symm.trans h3)
    rw [h4] at hk
    refine ⟨b, hk, ?_⟩
    simp [Instr.lookup, run_underlying Try.underlying97, MapKept.run_getObj_map hb, MapKept.run_checkKey Try.underlying3 (k := .int .i64 x) rfl, MapKept.run_findKey Try.underlying3 h1, Result.andThen]

theorem upd_lock (w : World) (B : Nat) (ks : List (Int × Nat)) (hb : IsMap w B ks) (x : Int) (b : Nat) (hs : ∀ b, (x, b) ∉ ks) :
    (Instr.mapUpdate 97 (.map (some B)) (.int .i64 x) (.pointer (some ⟨b, 0, none⟩))).run Try.prog w = .ok () (putObj w B (.map (mpEnts (ks ++ [(x, b)])) (ks ++ [(x, b)]).length)) := by
  rcases MapKept.findNow_spec (d := .int .i64) (k := .int .i64 x) rfl (mpEnts ks).toList 0 (mp_keys ks) with ⟨h1, h2⟩ | ⟨j, e, h1, h2, h3⟩
  · have e : (ks ++ [(x, b)]).length = ks.length + 1 := by simp
    rw [e]
    simp only [Instr.mapUpdate, Sem.run_bind, run_underlying Try.underlying97, MapKept.run_getObj_map hb, MapKept.run_checkKey Try.underlying3 (k := .int .i64 x) rfl, MapKept.run_findKey Try.underlying3 h1, MapKept.run_setObj_map _ hb, Result.andThen, mpEnts_push, putObj]
  · obtain ⟨k, b', hk, hke, _⟩ := mpEnts_mem (List.mem_of_getElem? h2)
    have h4 : k = x := int_inj (hke.symm.trans h3)
    rw [h4] at hk
    exact absurd hk (hs b')

end Go.Proofs.Ytbnmeeabpjmcoaa
