/-
  The map of ops by their names; code.opsByName.
-/
import Derived.Test.YtgeinjldjpaleaaDoorNb
import Derived.Maps.AppendAt
namespace Go.Proofs.YtgeinjldjpaleaaDoor
open Go.RowKit

/-- The entries of the first so many ops. -/
def nmEnts (n : Nat) : Array MapEntry := ((List.range n).map fun i => (⟨.string (nm (i + 1)), .int .i64 ((i + 1 : Nat) : Int), i⟩ : MapEntry)).toArray
theorem nmEnts_mem {n : Nat} {e : MapEntry} (h : e ∈ (nmEnts n).toList) : ∃ i, i < n ∧ e.key = .string (nm (i + 1)) ∧ e.val = .int .i64 ((i + 1 : Nat) : Int) := by
  simp only [nmEnts, List.mem_map, List.mem_range] at h
  obtain ⟨i, hi, rfl⟩ := h
  exact ⟨i, hi, rfl, rfl⟩
theorem nmEnts_has {n i : Nat} (h : i < n) : ∃ e ∈ (nmEnts n).toList, e.key = .string (nm (i + 1)) := by
  refine ⟨⟨.string (nm (i + 1)), .int .i64 ((i + 1 : Nat) : Int), i⟩, ?_, rfl⟩
  simp only [nmEnts, List.mem_map, List.mem_range]
  exact ⟨i, h, rfl⟩
theorem nmEnts_push (n : Nat) : (nmEnts n).push ⟨.string (nm (n + 1)), .int .i64 ((n + 1 : Nat) : Int), n⟩ = nmEnts (n + 1) := by
  unfold nmEnts
  rw [List.range_succ, List.map_append]
  simp
theorem nm_inj : ∀ i, i < 23 → ∀ j, j < 23 → nm i = nm j → i = j := by
  have h : ∀ i, i < 23 → ∀ j, j < 23 → nmL.getD i [] = nmL.getD j [] → i = j := by decide +kernel
  intro i hi j hj e
  refine h i hi j hj ?_
  have := congrArg (fun s : ByteArray => s.data.toList) e
  simpa [nm] using this
theorem nm_keys (n : Nat) : ∀ x ∈ (nmEnts n).toList, MapKept.IsKey .string x.key := fun x hx => by
  obtain ⟨i, _, hk, _⟩ := nmEnts_mem hx
  rw [hk]; trivial
theorem str_inj {a b : ByteArray} (h : Value.string a = Value.string b) : a = b := by injection h

theorem look_miss (w : World) (B n c : Nat) (hb : w.heap[B]? = some (.map (nmEnts n) c)) (s : ByteArray) (hs : ∀ i, i < n → nm (i + 1) ≠ s) :
    (Instr.lookup 73 (.map (some B)) (.string s) true).run Tryd.prog w = .ok (.tuple #[.int .i64 0, .bool false]) w := by
  have hz : (zeroValue 3).run Tryd.prog w = .ok (.int .i64 0) w := by kernel_rfl
  rcases MapKept.findNow_spec (d := .string) (k := .string s) trivial (nmEnts n).toList 0 (nm_keys n) with ⟨h1, h2⟩ | ⟨j, e, h1, h2, h3⟩
  · simp [Instr.lookup, run_underlying Tryd.underlying73, MapKept.run_getObj_map hb, MapKept.run_checkKey Tryd.underlying9 (k := .string s) trivial, MapKept.run_findKey Tryd.underlying9 h1, hz, Result.andThen]
  · obtain ⟨i, hi, hke, _⟩ := nmEnts_mem (List.mem_of_getElem? h2)
    exact absurd (str_inj (hke.symm.trans h3)) (hs i hi)
theorem look_hit (w : World) (B n c : Nat) (hn : n ≤ 22) (hb : w.heap[B]? = some (.map (nmEnts n) c)) (i : Nat) (hi : i < n) :
    (Instr.lookup 73 (.map (some B)) (.string (nm (i + 1))) true).run Tryd.prog w = .ok (.tuple #[.int .i64 ((i + 1 : Nat) : Int), .bool true]) w := by
  rcases MapKept.findNow_spec (d := .string) (k := .string (nm (i + 1))) trivial (nmEnts n).toList 0 (nm_keys n) with ⟨h1, h2⟩ | ⟨j, e, h1, h2, h3⟩
  · obtain ⟨e, he, hk⟩ := nmEnts_has hi
    exact absurd hk (h2 e he)
  · obtain ⟨i', hi', hke, hv⟩ := nmEnts_mem (List.mem_of_getElem? h2)
    have h4 := nm_inj _ (by omega) _ (by omega) (str_inj (hke.symm.trans h3))
    have h5 : i' = i := by omega
    subst h5
    rw [hv] at h1
    simp [Instr.lookup, run_underlying Tryd.underlying73, MapKept.run_getObj_map hb, MapKept.run_checkKey Tryd.underlying9 (k := .string (nm (i' + 1))) trivial, MapKept.run_findKey Tryd.underlying9 h1, Result.andThen]
/-- The world with another object in a block. -/
def putObj (w : World) (B : Nat) (o : Obj) : World := { w with heap := w.heap.setIfInBounds B o }
theorem upd_nm (w : World) (B n : Nat) (hn : n < 22) (hb : w.heap[B]? = some (.map (nmEnts n) n)) :
    (Instr.mapUpdate 73 (.map (some B)) (.string (nm (n + 1))) (.int .i64 ((n + 1 : Nat) : Int))).run Tryd.prog w = .ok () (putObj w B (.map (nmEnts (n + 1)) (n + 1))) := by
  rcases MapKept.findNow_spec (d := .string) (k := .string (nm (n + 1))) trivial (nmEnts n).toList 0 (nm_keys n) with ⟨h1, h2⟩ | ⟨j, e, h1, h2, h3⟩
  · simp only [Instr.mapUpdate, Sem.run_bind, run_underlying Tryd.underlying73, MapKept.run_getObj_map hb, MapKept.run_checkKey Tryd.underlying9 (k := .string (nm (n + 1))) trivial, MapKept.run_findKey Tryd.underlying9 h1, MapKept.run_setObj_map _ hb, Result.andThen, nmEnts_push, putObj]
  · obtain ⟨i', hi', hke, hv⟩ := nmEnts_mem (List.mem_of_getElem? h2)
    have h4 := nm_inj _ (by omega) _ (by omega) (str_inj (hke.symm.trans h3))
    omega
theorem put_at {w : World} {B : Nat} {o : Obj} (h : B < w.heap.size) : (putObj w B o).heap[B]? = some o := by simp [putObj, h]
theorem put_below {w W : World} {B b : Nat} (h : Below B w W) (hB : B ≤ b) (o : Obj) : Below B w (putObj W b o) :=
  ⟨h.os, h.tape, h.output, by simp [putObj]; exact h.size, fun k hk => by simp only [putObj]; rw [Array.getElem?_setIfInBounds_ne (by omega)]; exact h.block k hk⟩

set_option maxRecDepth 100000 in
set_option maxHeartbeats 1000000 in
theorem ops_any (w : World) (ht : Tabs w) :
    Calls Tryd.prog 33 #[] w fun e w' => ∃ M, e = .returned (.map (some M)) ∧ w.heap.size ≤ M ∧ w'.heap[M]? = some (.map (nmEnts 22) 22) ∧ Below w.heap.size w w' := by
  have HT := hide ht
  have hmk : (Instr.makeMap 73 none).run Tryd.prog w = .ok (.map (some w.heap.size)) (w.alloc (.map #[] 0)) := by
    simp [Instr.makeMap, go_sem]
  clear ht
  go_enter Tryd.func33, Tryd.ntmps33
  have HM0 := hide (new_block w (.map #[] 0))
  have HB0 := hide ((Below.refl w.heap.size w).alloc (Nat.le_refl _) (.map #[] 0))
  go_wp2_with fail
  go_loopw [2] (fun i W => ∃ j : Nat, j ≤ 22 ∧ i = .int .i64 ((j : Int) + 1) ∧ Hid (W.heap[w.heap.size]? = some (.map (nmEnts j) j)) ∧ Hid (Below w.heap.size w W)) (fun i _ => 23 - (intOf i).toNat)
  case atStart => exact ⟨0, Nat.zero_le _, rfl, HM0, HB0⟩
  case round =>
    obtain ⟨j, hj, rfl, HMj, HBj⟩ := hrel
    clear HM0 HB0 hmk
    by_cases hlt : j < 22
    · obtain ⟨t0, -, -⟩ := ((unhide HT).below (unhide HBj)).row (j + 1) (by omega)
      have hu := upd_nm wr w.heap.size j hlt (unhide HMj)
      obtain ⟨s, es⟩ : ∃ s, nm (j + 1) = s := ⟨_, rfl⟩
      rw [es] at t0 hu
      have e1 : ((j + 1 : Nat) : Int) = (j : Int) + 1 := by omega
      rw [e1] at hu
      have HM2 := hide (put_at (w := wr) (B := w.heap.size) (o := .map (nmEnts (j + 1)) (j + 1)) (size_of (unhide HMj)))
      have HB2 := hide (put_below (unhide HBj) (Nat.le_refl _) (.map (nmEnts (j + 1)) (j + 1)))
      obtain ⟨W2, e2⟩ : ∃ X, putObj wr w.heap.size (.map (nmEnts (j + 1)) (j + 1)) = X := ⟨_, rfl⟩
      rw [e2] at HM2 HB2 hu
      have i1 : (j : Int) + 1 < 23 := by omega
      have i0 : (0 : Int) ≤ (j : Int) + 1 := by omega
      clear es e2 e1
      go_wp2_with fail
      exact ⟨⟨j + 1, by omega, by simp, HM2, HB2⟩, by simp [intOf]; omega⟩
    · obtain rfl : j = 22 := by omega
      go_wp2_with fail
      go_ret
      exact ⟨_, rfl, Nat.le_refl _, unhide HMj, unhide HBj⟩
end Go.Proofs.YtgeinjldjpaleaaDoor
