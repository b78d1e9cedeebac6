/-
  Maps from numbers to whatever: entries, look-ups, stores.
-/
import Derived.Test.YtbnmeeabpjmcoaaXa
import Derived.MapFrom
namespace Go.Proofs.Ytbnmeeabpjmcoaa
open Go.RowKit

/-- The entries of a map from numbers. -/
def msEnts (ks : List Int) (sv : Int → Value) : Array MapEntry := ((List.range ks.length).map fun i => (⟨.int .i64 (ks.getD i 0), sv (ks.getD i 0), i⟩ : MapEntry)).toArray
theorem ms_keys (ks : List Int) (sv : Int → Value) : ∀ x ∈ (msEnts ks sv).toList, MapKept.IsKey (.int .i64) x.key := fun x hx => by
  simp only [msEnts, List.mem_map, List.mem_range] at hx
  obtain ⟨i, hi, rfl⟩ := hx
  rfl
theorem ms_at {ks : List Int} {sv : Int → Value} {j : Nat} {e : MapEntry} (h : (msEnts ks sv).toList[j]? = some e) : j < ks.length ∧ e = ⟨.int .i64 (ks.getD j 0), sv (ks.getD j 0), j⟩ := by
  unfold msEnts at h
  rw [List.getElem?_map] at h
  by_cases hj : j < ks.length
  · rw [List.getElem?_range hj] at h
    exact ⟨hj, by simpa using h.symm⟩
  · rw [List.getElem?_eq_none (by simpa using hj)] at h
    cases h
theorem ms_has {ks : List Int} {sv : Int → Value} {x : Int} (h : x ∈ ks) : ∃ e ∈ (msEnts ks sv).toList, e.key = .int .i64 x := by
  obtain ⟨i, hi, he⟩ := List.getElem_of_mem h
  refine ⟨⟨.int .i64 (ks.getD i 0), sv (ks.getD i 0), i⟩, ?_, ?_⟩
  · simp only [msEnts, List.mem_map, List.mem_range]
    exact ⟨i, hi, rfl⟩
  · simp [List.getElem?_eq_getElem hi, he]
theorem ms_push {ks : List Int} {sv : Int → Value} {x : Int} (v : Value) (h : x ∉ ks) : (msEnts ks sv).push ⟨.int .i64 x, v, ks.length⟩ = msEnts (ks ++ [x]) (updI sv x v) := by
  unfold msEnts
  rw [List.length_append]
  simp only [List.length_cons, List.length_nil, Nat.zero_add, List.range_succ, List.map_append, List.map_cons, List.map_nil, List.push_toArray]
  congr 2
  · apply List.map_congr_left
    intro i hi
    have hi' := List.mem_range.1 hi
    have e1 : (ks ++ [x]).getD i 0 = ks.getD i 0 := by simp [List.getElem?_append_left hi']
    rw [e1, updI_ne _ _ _ _ (fun e => h (by rw [← e, List.getD_eq_getElem?_getD, List.getElem?_eq_getElem hi']; exact List.getElem_mem hi'))]
  · simp [updI_same]
theorem ms_modify {ks : List Int} {sv : Int → Value} {x : Int} (v : Value) (hn : ks.Nodup) {j : Nat} (hj : j < ks.length) (hx : ks.getD j 0 = x) : (msEnts ks sv).modify j (fun e => { e with key := .int .i64 x, val := v }) = msEnts ks (updI sv x v) := by
  apply Array.ext_getElem?
  intro i
  rw [Array.getElem?_modify]
  by_cases hi : i < ks.length
  · have e1 : ∀ f : Int → Value, (msEnts ks f)[i]? = some ⟨.int .i64 (ks.getD i 0), f (ks.getD i 0), i⟩ := fun f => by
      unfold msEnts
      rw [List.getElem?_toArray, List.getElem?_map, List.getElem?_range hi]
      rfl
    rw [e1, e1]
    by_cases e : j = i
    · subst e
      rw [if_pos rfl, hx, updI_same]
      rfl
    · rw [if_neg e, updI_ne _ _ _ _ (fun e2 => e ?_)]
      have h1 : ks[i] = ks[j] := by
        rw [List.getD_eq_getElem?_getD, List.getElem?_eq_getElem hi] at e2
        rw [List.getD_eq_getElem?_getD, List.getElem?_eq_getElem hj] at hx
        simp at e2 hx
        rw [e2, hx]
      rcases Nat.lt_trichotomy i j with h | h | h
      · exact absurd h1 (List.pairwise_iff_getElem.1 hn i j hi hj h)
      · exact h.symm
      · exact absurd h1.symm (List.pairwise_iff_getElem.1 hn j i hj hi h)
  · have e1 : ∀ f : Int → Value, (msEnts ks f)[i]? = none := fun f => by
      unfold msEnts
      rw [List.getElem?_toArray, List.getElem?_map, List.getElem?_eq_none (by simpa using hi)]
      rfl
    rw [e1, e1]
    simp
theorem ms_look {t e : TypeId} (ht : Try.prog.underlying t = some (.map 3 e)) {z : Value} (hz : ∀ w, (zeroValue e).run Try.prog w = .ok z w) (w : World) (B : Nat) (ks : List Int) (sv : Int → Value) (hb : w.heap[B]? = some (.map (msEnts ks sv) ks.length)) (hn : ∀ c, c ∉ ks → sv c = z) (x : Int) :
    (Instr.lookup t (.map (some B)) (.int .i64 x) false).run Try.prog w = .ok (sv x) w := by
  rcases MapKept.findNow_spec (d := .int .i64) (k := .int .i64 x) rfl (msEnts ks sv).toList 0 (ms_keys ks sv) with ⟨h1, h2⟩ | ⟨j, e, h1, h2, h3⟩
  · have hx : x ∉ ks := fun h => by
      obtain ⟨e, he, hk⟩ := ms_has (sv := sv) h
      exact h2 e he hk
    rw [hn x hx]
    simp [Instr.lookup, run_underlying ht, MapKept.run_getObj_map hb, MapKept.run_checkKey Try.underlying3 (k := .int .i64 x) rfl, MapKept.run_findKey Try.underlying3 h1, hz, Result.andThen]
  · obtain ⟨hj, rfl⟩ := ms_at h2
    have h4 : ks.getD j 0 = x := int_inj h3
    dsimp only at h1
    rw [h4] at h1
    simp [Instr.lookup, run_underlying ht, MapKept.run_getObj_map hb, MapKept.run_checkKey Try.underlying3 (k := .int .i64 x) rfl, MapKept.run_findKey Try.underlying3 h1, Result.andThen]
theorem ms_upd {t e : TypeId} (ht : Try.prog.underlying t = some (.map 3 e)) (ks : List Int) (sv : Int → Value) (hn : ks.Nodup) (x : Int) (v : Value) :
    ∃ ks' : List Int, ks'.Nodup ∧ (∀ c, c ∈ ks' ↔ c ∈ ks ∨ c = x) ∧ ∀ (w : World) (B : Nat), w.heap[B]? = some (.map (msEnts ks sv) ks.length) → (Instr.mapUpdate t (.map (some B)) (.int .i64 x) v).run Try.prog w = .ok () (putObj w B (.map (msEnts ks' (updI sv x v)) ks'.length)) := by
  rcases MapKept.findNow_spec (d := .int .i64) (k := .int .i64 x) rfl (msEnts ks sv).toList 0 (ms_keys ks sv) with ⟨h1, h2⟩ | ⟨j, e, h1, h2, h3⟩
  · have hx : x ∉ ks := fun h => by
      obtain ⟨e, he, hk⟩ := ms_has (sv := sv) h
      exact h2 e he hk
    refine ⟨ks ++ [x], ?_, fun c => by simp, fun w B hb => ?_⟩
    · rw [List.nodup_append]
      exact ⟨hn, by simp, fun a ha b hb e => hx (by simp at hb; rw [← hb, ← e]; exact ha)⟩
    · have e : (ks ++ [x]).length = ks.length + 1 := by simp
      rw [e]
      simp only [Instr.mapUpdate, Sem.run_bind, run_underlying ht, MapKept.run_getObj_map hb, MapKept.run_checkKey Try.underlying3 (k := .int .i64 x) rfl, MapKept.run_findKey Try.underlying3 h1, MapKept.run_setObj_map _ hb, Result.andThen, ms_push v hx, putObj]
  · obtain ⟨hj, rfl⟩ := ms_at h2
    have h4 : ks.getD j 0 = x := int_inj h3
    have hmem : x ∈ ks := by
      rw [← h4, List.getD_eq_getElem?_getD, List.getElem?_eq_getElem hj]
      exact List.getElem_mem hj
    have hj0 : 0 + j = j := Nat.zero_add j
    rw [hj0] at h1
    have hg : (((msEnts ks sv)[j]?).map (·.key)).getD (.int .i64 x) = .int .i64 x := by
      have h5 : (msEnts ks sv)[j]? = some ⟨.int .i64 (ks.getD j 0), sv (ks.getD j 0), j⟩ := by simpa using h2
      rw [h5, h4]
      rfl
    refine ⟨ks, hn, fun c => ⟨Or.inl, fun h => by rcases h with h | h; exact h; rw [h]; exact hmem⟩, fun w B hb => ?_⟩
    simp only [Instr.mapUpdate, Sem.run_bind, run_underlying ht, MapKept.run_getObj_map hb, MapKept.run_checkKey Try.underlying3 (k := .int .i64 x) rfl, MapKept.run_findKey Try.underlying3 h1, hg, MapKept.run_keyThatStays (d := .int .i64) (k := .int .i64 x) rfl, MapKept.run_setObj_map _ hb, Result.andThen, ms_modify v hn hj h4, putObj]
end Go.Proofs.Ytbnmeeabpjmcoaa
