/-
  The set of what was seen: the methods has and add of wait.set; slices.Index, slices.Contains.
-/
import Derived.Test.YtjlcfdhghohccaaA
namespace Go.Proofs.Ytjlcfdhghohccaa
open Go.RowKit

/-- The entries of a set. -/
def setEnts (ks : List Int) : Array MapEntry := ((List.range ks.length).map fun i => (⟨.int .i64 (ks.getD i 0), .agg #[], i⟩ : MapEntry)).toArray

theorem setEnts_mem {ks : List Int} {e : MapEntry} (h : e ∈ (setEnts ks).toList) : ∃ k ∈ ks, e.key = .int .i64 k ∧ e.val = .agg #[] := by
  simp only [setEnts, List.mem_map, List.mem_range] at h
  obtain ⟨i, hi, rfl⟩ := h
  refine ⟨ks.getD i 0, ?_, rfl, rfl⟩
  simp [List.getElem?_eq_getElem hi]
theorem setEnts_has {ks : List Int} {k : Int} (h : k ∈ ks) : ∃ e ∈ (setEnts ks).toList, e.key = .int .i64 k := by
  obtain ⟨i, hi, rfl⟩ := List.getElem_of_mem h
  refine ⟨⟨.int .i64 (ks.getD i 0), .agg #[], i⟩, ?_, ?_⟩
  · simp only [setEnts, List.mem_map, List.mem_range]
    exact ⟨i, hi, rfl⟩
  · simp [List.getElem?_eq_getElem hi]
theorem setEnts_push (ks : List Int) (k : Int) : (setEnts ks).push ⟨.int .i64 k, .agg #[], ks.length⟩ = setEnts (ks ++ [k]) := by
  unfold setEnts
  rw [List.length_append]
  simp only [List.length_cons, List.length_nil, Nat.zero_add, List.range_succ, List.map_append, List.map_cons, List.map_nil, List.push_toArray]
  congr 2
  · apply List.map_congr_left
    intro i hi
    have hi' := List.mem_range.1 hi
    simp [List.getElem?_append_left hi']
  · simp
theorem int_inj {a b : Int} (h : Value.int .i64 a = Value.int .i64 b) : a = b := by injection h
theorem set_keys (ks : List Int) : ∀ x ∈ (setEnts ks).toList, MapKept.IsKey (.int .i64) x.key := fun x hx => by
  obtain ⟨k, _, hk, _⟩ := setEnts_mem hx
  rw [hk]; rfl

/-- The block B is the set of these numbers, in the order in which they came. -/
def IsSet (w : World) (B : Nat) (ks : List Int) : Prop := w.heap[B]? = some (.map (setEnts ks) ks.length)

theorem look_new (w : World) (B : Nat) (ks : List Int) (hb : IsSet w B ks) (x : Int) (hs : ks.contains x = false) :
    (Instr.lookup 57 (.map (some B)) (.int .i64 x) true).run Try.prog w = .ok (.tuple #[.agg #[], .bool false]) w := by
  have hz : (zeroValue 76).run Try.prog w = .ok (.agg #[]) w := by kernel_rfl
  rcases MapKept.findNow_spec (d := .int .i64) (k := .int .i64 x) rfl (setEnts ks).toList 0 (set_keys ks) with ⟨h1, h2⟩ | ⟨j, e, h1, h2, h3⟩
  · simp [Instr.lookup, run_underlying Try.underlying57, MapKept.run_getObj_map hb, MapKept.run_checkKey Try.underlying3 (k := .int .i64 x) rfl, MapKept.run_findKey Try.underlying3 h1, hz, Result.andThen]
  · obtain ⟨k, hk, hke, _⟩ := setEnts_mem (List.mem_of_getElem? h2)
    have h4 : k = x := int_inj (hke.symm.trans h3)
    rw [h4] at hk
    rw [List.contains_iff_mem.2 hk] at hs
    cases hs
theorem look_old (w : World) (B : Nat) (ks : List Int) (hb : IsSet w B ks) (x : Int) (hs : ks.contains x = true) :
    (Instr.lookup 57 (.map (some B)) (.int .i64 x) true).run Try.prog w = .ok (.tuple #[.agg #[], .bool true]) w := by
  rcases MapKept.findNow_spec (d := .int .i64) (k := .int .i64 x) rfl (setEnts ks).toList 0 (set_keys ks) with ⟨h1, h2⟩ | ⟨j, e, h1, h2, h3⟩
  · obtain ⟨e, he, hk⟩ := setEnts_has (List.contains_iff_mem.1 hs)
    exact absurd hk (h2 e he)
  · obtain ⟨k, hk, hke, hv⟩ := setEnts_mem (List.mem_of_getElem? h2)
    rw [hv] at h1
    simp [Instr.lookup, run_underlying Try.underlying57, MapKept.run_getObj_map hb, MapKept.run_checkKey Try.underlying3 (k := .int .i64 x) rfl, MapKept.run_findKey Try.underlying3 h1, Result.andThen]
theorem look_set (w : World) (B : Nat) (ks : List Int) (hb : IsSet w B ks) (x : Int) :
    (Instr.lookup 57 (.map (some B)) (.int .i64 x) true).run Try.prog w = .ok (.tuple #[.agg #[], .bool (ks.contains x)]) w := by
  cases h : ks.contains x with
  | false => exact look_new w B ks hb x h
  | true => exact look_old w B ks hb x h

/-- The world with another object in a block. -/
def putObj (w : World) (B : Nat) (o : Obj) : World := { w with heap := w.heap.setIfInBounds B o }
theorem heap_putObj {w : World} {B : Nat} {o : Obj} (k : Nat) (h : k ≠ B) : (putObj w B o).heap[k]? = w.heap[k]? := by
  simp [putObj, Ne.symm h]
theorem heap_putObj_same {w : World} {B : Nat} {o : Obj} (h : B < w.heap.size) : (putObj w B o).heap[B]? = some o := by
  simp [putObj, h]
theorem size_putObj {w : World} {B : Nat} {o : Obj} : (putObj w B o).heap.size = w.heap.size := by simp [putObj]
theorem below_put {B0 B : Nat} {w wr : World} (h : Below B0 w wr) (hB : B0 ≤ B) (o : Obj) : Below B0 w (putObj wr B o) :=
  ⟨h.os, h.tape, h.output, by rw [size_putObj]; exact h.size, fun k hk => by rw [heap_putObj k (by omega)]; exact h.block k hk⟩

theorem IsSet.lt {w : World} {B : Nat} {ks : List Int} (h : IsSet w B ks) : B < w.heap.size := (Array.getElem?_eq_some_iff.1 h).1
theorem IsSet.below {w w' : World} {B : Nat} {ks : List Int} (h : IsSet w B ks) (hb : Below w.heap.size w w') : IsSet w' B ks := (hb.block B h.lt).trans h
theorem IsSet.put {w : World} {B : Nat} {ks : List Int} (h : B < w.heap.size) : IsSet (putObj w B (.map (setEnts ks) ks.length)) B ks := heap_putObj_same h

theorem upd_set (w : World) (B : Nat) (ks : List Int) (hb : IsSet w B ks) (x : Int) (hs : ks.contains x = false) :
    (Instr.mapUpdate 57 (.map (some B)) (.int .i64 x) (.agg #[])).run Try.prog w = .ok () (putObj w B (.map (setEnts (ks ++ [x])) (ks ++ [x]).length)) := by
  rcases MapKept.findNow_spec (d := .int .i64) (k := .int .i64 x) rfl (setEnts ks).toList 0 (set_keys ks) with ⟨h1, h2⟩ | ⟨j, e, h1, h2, h3⟩
  · have e : (ks ++ [x]).length = ks.length + 1 := by simp
    rw [e]
    simp only [Instr.mapUpdate, Sem.run_bind, run_underlying Try.underlying57, MapKept.run_getObj_map hb, MapKept.run_checkKey Try.underlying3 (k := .int .i64 x) rfl, MapKept.run_findKey Try.underlying3 h1, MapKept.run_setObj_map _ hb, Result.andThen, setEnts_push, putObj]
  · obtain ⟨k, hk, hke, _⟩ := setEnts_mem (List.mem_of_getElem? h2)
    have h4 : k = x := int_inj (hke.symm.trans h3)
    rw [h4] at hk
    rw [List.contains_iff_mem.2 hk] at hs
    cases hs

set_option maxRecDepth 100000 in
set_option maxHeartbeats 400000 in
theorem sethas_any (w : World) (B : Nat) (ks : List Int) (x : Int) (hb : IsSet w B ks) :
    Calls Try.prog 41 #[.map (some B), .int .i64 x] w fun e w' => e = .returned (.bool (ks.contains x)) ∧ Below w.heap.size w w' := by
  have h1 := look_set w B ks hb x
  obtain ⟨r, hr⟩ : ∃ r, ks.contains x = r := ⟨_, rfl⟩
  rw [hr] at h1 ⊢
  clear hr
  go_enter Try.func41, Try.ntmps41
  go_wp2
  go_ret
  exact ⟨rfl, (Below.refl _ _).alloc (Nat.le_refl _) _⟩

set_option maxRecDepth 100000 in
set_option maxHeartbeats 400000 in
theorem setadd_any (w : World) (B : Nat) (ks : List Int) (x : Int) (hb : IsSet w B ks) (hs : ks.contains x = false) :
    Calls Try.prog 42 #[.map (some B), .int .i64 x] w fun e w' => e = .returned (.tuple #[]) ∧ w' = putObj w B (.map (setEnts (ks ++ [x])) (ks ++ [x]).length) := by
  have h1 := upd_set w B ks hb x hs
  go_enter Try.func42, Try.ntmps42
  go_wp2
  refine bodyPost_end (v := .tuple #[]) ?_ rfl ⟨rfl, by rw [List.length_append]; rfl⟩
  simp [results, Try.results42]

theorem set_made (w : World) : IsSet (w.alloc (.map #[] 0)) w.heap.size [] := (MapKept.heap_alloc w _).1

theorem set_made1 (w : World) (o : Obj) : IsSet ((w.alloc o).alloc (.map #[] 0)) (w.heap.size + 1) [] := by
  have := set_made (w.alloc o)
  rw [World.size_alloc] at this
  exact this

theorem make_set (x : Int) (w : World) : (Instr.makeMap 57 (some (.int .i64 x))).run Try.prog w = .ok (.map (some w.heap.size)) (w.alloc (.map #[] 0)) := by
  simp only [Instr.makeMap, Sem.run_bind, run_underlying Try.underlying57, Result.andThen]
  rfl


set_option maxRecDepth 100000 in
set_option maxHeartbeats 1000000 in
theorem index_zero (w : World) (a0 : Option Addr) (c0 : Nat) (x : Int) :
    Calls Try.prog 40 #[.slice a0 0 c0, .int .i64 x] w fun e w' => e = .returned (.int .i64 (-1)) ∧ w' = w := by
  go_enter Try.func40, Try.ntmps40
  go_wp2
  go_loopw [8] (fun i wr => i = .int .i64 0 ∧ wr = w) (fun i _ => 0)
  case atStart => exact ⟨rfl, rfl⟩
  case round =>
    obtain ⟨rfl, rfl⟩ := hrel
    go_wp2
    go_ret
    exact ⟨rfl, rfl⟩

/-- The first place of a number. -/
def ixOf (x : Int) : List Int → Nat
  | [] => 0
  | z :: r => if z = x then 0 else ixOf x r + 1
theorem ixOf_spec (x : Int) : ∀ (zs : List Int), zs.contains x = true → ixOf x zs < zs.length ∧ zs.getD (ixOf x zs) 0 = x ∧ ∀ i, i < ixOf x zs → zs.getD i 0 ≠ x
  | [], h => by simp at h
  | z :: r, h => by
    by_cases e : z = x
    · rw [ixOf, if_pos e]
      exact ⟨by simp, by simpa using e, fun i hi => by omega⟩
    · rw [ixOf, if_neg e]
      have hr : r.contains x = true := by
        rw [List.contains_iff_mem] at h ⊢
        rcases List.mem_cons.1 h with h1 | h1
        · exact absurd h1.symm e
        · exact h1
      obtain ⟨h1, h2, h3⟩ := ixOf_spec x r hr
      refine ⟨by simpa using h1, by simpa using h2, fun i hi => ?_⟩
      cases i with
      | zero => simpa using e
      | succ i => simpa using h3 i (by omega)
theorem ixOf_of {x : Int} {zs : List Int} {j : Nat} (hj : j < zs.length) (h : zs.getD j 0 = x) (h0 : ∀ i, i < j → zs.getD i 0 ≠ x) : ixOf x zs = j := by
  obtain ⟨h1, h2, h3⟩ := ixOf_spec x zs ((contains_iff zs x).2 ⟨j, hj, h⟩)
  rcases Nat.lt_trichotomy (ixOf x zs) j with h4 | h4 | h4
  · exact absurd h2 (h0 _ h4)
  · exact h4
  · exact absurd h (h3 _ h4)

set_option maxRecDepth 100000 in
set_option maxHeartbeats 1000000 in
theorem index_some (w : World) (n b0 o0 c0 : Nat) (x : Int) (hn : n ≤ maxLen) (Z : Nat → Int)
    (h0 : ∀ j, j < n → w.cell? ⟨b0, o0 + j, none⟩ = some (.int .i64 (Z j))) :
    Calls Try.prog 40 #[.slice (some ⟨b0, o0, none⟩) n c0, .int .i64 x] w fun e w' => ∃ r, e = .returned (.int .i64 r) ∧ ((r = -1 ∧ ∀ i, i < n → Z i ≠ x) ∨ ∃ j : Nat, j < n ∧ r = j ∧ Z j = x ∧ ∀ i, i < j → Z i ≠ x) ∧ w' = w := by
  unfold maxLen at hn
  have H0 := hide h0
  clear h0
  go_enter Try.func40, Try.ntmps40
  go_wp2
  go_loopw [8] (fun i wr => ∃ j : Nat, j ≤ n ∧ i = .int .i64 j ∧ wr = w ∧ ∀ i, i < j → Z i ≠ x) (fun i _ => n - (intOf i).toNat)
  case atStart => exact ⟨0, Nat.zero_le _, rfl, rfl, fun i hi => by omega⟩
  case round =>
    obtain ⟨j, hj, rfl, rfl, hne⟩ := hrel
    have HN := hide hne
    clear hne
    by_cases hlt : j < n
    · have k0 := unhide H0 j hlt
      obtain ⟨z, ez⟩ : ∃ z, Z j = z := ⟨_, rfl⟩
      rw [ez] at k0
      have HZ := hide ez
      clear ez
      have i0 : (0 : Int) ≤ (j : Int) := by omega
      have i1 : (j : Int) < (n : Int) := by omega
      by_cases hz : x = z
      · subst hz
        have hz1 : (x == x) = true := by simp
        go_wp2
        go_ret
        exact ⟨_, rfl, Or.inr ⟨j, hlt, rfl, unhide HZ, unhide HN⟩, rfl⟩
      · have hz1 : (x == z) = false := by simpa using hz
        go_wp2
        go_roundw
        case rel => exact ⟨j + 1, by omega, by go_num, by first | rfl | trivial, fun i hi => by
          by_cases e : i = j
          · subst e; rw [unhide HZ]; exact Ne.symm hz
          · exact unhide HN i (by omega)⟩
        case measure => simp [intOf]; omega
    · go_wp2
      go_ret
      exact ⟨_, rfl, Or.inl ⟨rfl, fun i hi => unhide HN i (by omega)⟩, rfl⟩

theorem index_any (w : World) (v : Value) (zs : List Int) (x : Int) (h : IsInts w v zs) (hn : zs.length ≤ maxLen) :
    Calls Try.prog 40 #[v, .int .i64 x] w fun e w' => e = .returned (.int .i64 (if zs.contains x = true then (ixOf x zs : Int) else -1)) ∧ w' = w := by
  by_cases h0 : 0 < zs.length
  · obtain ⟨b, off, c, rfl, hb, hc⟩ := h.at h0
    refine (index_some w zs.length b off c x hn _ hc).mono ?_
    rintro e w' ⟨r, rfl, hr, hb⟩
    refine ⟨?_, hb⟩
    rcases hr with ⟨rfl, h1⟩ | ⟨j, hj, rfl, h1, h2⟩
    · rw [if_neg]
      intro h2
      obtain ⟨j, hj, h3⟩ := (contains_iff zs x).1 h2
      exact h1 j hj h3
    · rw [if_pos ((contains_iff zs x).2 ⟨j, hj, h1⟩), ixOf_of hj h1 h2]
  · obtain ⟨a0, c0, rfl⟩ := Rd.form h.1
    have e0 : zs.length = 0 := by omega
    have e1 : zs = [] := List.eq_nil_of_length_eq_zero e0
    subst e1
    exact index_zero w a0 c0 x

set_option maxRecDepth 100000 in
set_option maxHeartbeats 1000000 in
theorem contains_any (w : World) (v : Value) (zs : List Int) (x : Int) (h : IsInts w v zs) (hn : zs.length ≤ maxLen) :
    Calls Try.prog 51 #[v, .int .i64 x] w fun e w' => e = .returned (.bool (zs.contains x)) ∧ w' = w := by
  have HI := hide (index_any w v zs x h hn)
  obtain ⟨r, hr⟩ : ∃ r, zs.contains x = r := ⟨_, rfl⟩
  rw [hr] at HI ⊢
  clear h hn hr
  cases r with
  | true =>
    rw [if_pos rfl] at HI
    obtain ⟨k, hk⟩ : ∃ k, ixOf x zs = k := ⟨_, rfl⟩
    rw [hk] at HI
    clear hk
    have h0 : (0 : Int) ≤ (k : Int) := by omega
    go_enter Try.func51, Try.ntmps51
    go_wp2_with (go_at_call 40; refine (unhide HI).mono ?_; rintro e w1 ⟨rfl, hw⟩; subst hw)
    go_ret
    exact ⟨rfl, rfl⟩
  | false =>
    rw [if_neg (by simp)] at HI
    go_enter Try.func51, Try.ntmps51
    go_wp2_with (go_at_call 40; refine (unhide HI).mono ?_; rintro e w1 ⟨rfl, hw⟩; subst hw)
    go_ret
    exact ⟨rfl, rfl⟩
end Go.Proofs.Ytjlcfdhghohccaa
