/-
  Keys that are two numbers.
-/
import Derived.Test.YtbnmeeabpjmcoaaXb
import Derived.Laws.StructEq
namespace Go.Proofs.Ytbnmeeabpjmcoaa
open Go.RowKit

/-- A struct of two numbers. -/
structure TwoT (t : TypeId) : Prop where
  und : Try.prog.underlying t = some (.struct (Try.prog.fieldsOf t))
  held : Try.prog.stoodInHeld t = false
  two : (match (Try.prog.fieldsOf t).toList with
  | [f0, f1] => (f0.name != "_") && f0.type == 3 && f0.offset == 0 && (f1.name != "_") && f1.type == 3 && f1.offset == 1
  | _ => false) = true
theorem hold_two : TwoT 92 := ⟨by kernel_rfl, by kernel_rfl, by kernel_rfl⟩
theorem guard_two : TwoT 94 := ⟨by kernel_rfl, by kernel_rfl, by kernel_rfl⟩
theorem TwoT.fields {t : TypeId} (h : TwoT t) : ∃ f0 f1, (Try.prog.fieldsOf t).toList = [f0, f1] ∧ (f0.name ≠ "_" ∧ f0.type = 3 ∧ f0.offset = 0) ∧ f1.name ≠ "_" ∧ f1.type = 3 ∧ f1.offset = 1 := by
  have h2 := h.two
  split at h2
  · next f0 f1 e =>
    simp only [Bool.and_eq_true, bne_iff_ne, beq_iff_eq] at h2
    obtain ⟨⟨⟨⟨⟨a, b⟩, c⟩, d⟩, e2⟩, f⟩ := h2
    exact ⟨f0, f1, e, ⟨a, b, c⟩, d, e2, f⟩
  · cases h2
theorem part3 (w : World) (xs : Array Value) (j : Nat) (v : Value) (hv : xs[j]? = some v) : (part 3 xs j).run Try.prog w = .ok v w := by
  obtain ⟨i0, hi, h0, h1, h2⟩ := info_parts Try.info3
  simp [part, sizeOf, typeInfo, hi, h1, hv]
def kv2 (k : Int × Int) : Value := .agg #[.int .i64 k.1, .int .i64 k.2]
theorem kv2_inj {a b : Int × Int} (h : kv2 a = kv2 b) : a = b := by
  unfold kv2 at h
  injection h with h
  have h1 := congrArg (fun x => x[0]?) h
  have h2 := congrArg (fun x => x[1]?) h
  simp at h1 h2
  exact Prod.ext h1 h2
theorem part_a (w : World) (x : Int × Int) : (part 3 #[.int .i64 x.1, .int .i64 x.2] 0).run Try.prog w = .ok (.int .i64 x.1) w := part3 w _ 0 _ rfl
theorem part_b (w : World) (x : Int × Int) : (part 3 #[.int .i64 x.1, .int .i64 x.2] 1).run Try.prog w = .ok (.int .i64 x.2) w := part3 w _ 1 _ rfl
theorem eq_two {t : TypeId} (ht : TwoT t) (w : World) (x y : Int × Int) : (Op.equal t (kv2 x) (kv2 y)).run Try.prog w = .ok (x.1 == y.1 && x.2 == y.2) w := by
  obtain ⟨f0, f1, e, ⟨a, b, c⟩, a', b', c'⟩ := ht.fields
  have he : ∀ a b : Int, (Op.equalIn 9999 3 (.int .i64 a) (.int .i64 b)).run Try.prog w = .ok (a == b) w := fun a b => run_equalIn_int w 9998 3 .i64 .i64 a b Try.underlying3
  show (Op.equalIn (9999 + 1) t (.agg _) (.agg _)).run Try.prog w = _
  rw [run_equalIn_struct w 9999 t _ _ ht.und ht.held, e]
  simp only [Op.eqFields, a, a', b, b', c, c', if_true, ne_eq, not_false_eq_true, Sem.run_bind, part_a, Result.andThen_ok, he]
  cases h1 : (x.1 == y.1) <;> cases h2 : (x.2 == y.2) <;> simp [part_b, he, h2]
theorem check_two {t : TypeId} (ht : TwoT t) (w : World) (em : Bool) (x : Int × Int) : (Instr.checkKey em 10000 t (kv2 x)).run Try.prog w = .ok () w := by
  obtain ⟨f0, f1, e, ⟨a, b, c⟩, a', b', c'⟩ := ht.fields
  have hc : ∀ a : Int, (Instr.checkKey em 9999 3 (.int .i64 a)).run Try.prog w = .ok () w := fun a => MapKept.run_checkKey (n := 9998) Try.underlying3 (k := .int .i64 a) rfl em
  show (Instr.checkKey em (9999 + 1) t (.agg _)).run Try.prog w = _
  unfold Instr.checkKey
  simp only [Sem.run_bind, run_underlying ht.und, Result.andThen_ok]
  rw [← Array.forIn_toList, e]
  simp [a, a', b, b', c, c', List.forIn_cons, part_a, part_b, hc, Result.andThen]
theorem stays_two (w : World) (x : Int × Int) : (Instr.keyThatStays (kv2 x) (kv2 x)).run Try.prog w = .ok (kv2 x) w := by
  have h : Instr.sameBits 10000 (kv2 x) (kv2 x) = true := by
    simp [Instr.sameBits, kv2]
  simp [Instr.keyThatStays, h]

/-- The entries of a map from pairs. -/
def gEnts (ks : List (Int × Int)) (sv : Int × Int → Int) : Array MapEntry := ((List.range ks.length).map fun i => (⟨kv2 (ks.getD i (0, 0)), .int .i64 (sv (ks.getD i (0, 0))), i⟩ : MapEntry)).toArray
def updP (f : Int × Int → Int) (k : Int × Int) (v : Int) : Int × Int → Int := fun j => if j = k then v else f j
theorem updP_same (f : Int × Int → Int) (k : Int × Int) (v : Int) : updP f k v k = v := by simp [updP]
theorem updP_ne (f : Int × Int → Int) {k j : Int × Int} (v : Int) (h : j ≠ k) : updP f k v j = f j := by simp [updP, h]
theorem g_get {ks : List (Int × Int)} {sv : Int × Int → Int} {i : Nat} (h : i < ks.length) : (gEnts ks sv)[i]? = some ⟨kv2 (ks.getD i (0, 0)), .int .i64 (sv (ks.getD i (0, 0))), i⟩ := by
  unfold gEnts
  rw [List.getElem?_toArray, List.getElem?_map, List.getElem?_range h]
  rfl
theorem g_none {ks : List (Int × Int)} {sv : Int × Int → Int} {i : Nat} (h : ¬ i < ks.length) : (gEnts ks sv)[i]? = none := by
  unfold gEnts
  rw [List.getElem?_toArray, List.getElem?_map, List.getElem?_eq_none (by simpa using h)]
  rfl
theorem ask_go {t : TypeId} (ht : TwoT t) (w : World) (x : Int × Int) : ∀ (es : List MapEntry) (i : Nat), (∀ e ∈ es, ∃ k, e.key = kv2 k) →
    ((Instr.findAsking t (kv2 x) es i).run Try.prog w = .ok none w ∧ ∀ e ∈ es, e.key ≠ kv2 x) ∨ ∃ j e, (Instr.findAsking t (kv2 x) es i).run Try.prog w = .ok (some (i + j, e.val)) w ∧ es[j]? = some e ∧ e.key = kv2 x
  | [], i, _ => Or.inl ⟨by simp [Instr.findAsking], by simp⟩
  | e :: es, i, h => by
    obtain ⟨k, hk⟩ := h e (List.mem_cons_self ..)
    have hq := eq_two ht w x k
    rw [← hk] at hq
    cases hb : (x.1 == k.1 && x.2 == k.2) with
    | true =>
      rw [hb] at hq
      refine Or.inr ⟨0, e, ?_, rfl, ?_⟩
      · simp [Instr.findAsking, hq, Result.andThen]
      · simp only [Bool.and_eq_true, beq_iff_eq] at hb
        rw [hk, Prod.ext hb.1 hb.2]
    | false =>
      rw [hb] at hq
      have hne : e.key ≠ kv2 x := fun q => by
        rw [hk] at q
        have := kv2_inj q
        subst this
        simp at hb
      rcases ask_go ht w x es (i + 1) (fun e he => h e (List.mem_cons_of_mem _ he)) with ⟨h1, h2⟩ | ⟨j, e', h1, h2, h3⟩
      · refine Or.inl ⟨by simp [Instr.findAsking, hq, Result.andThen, h1], fun e' he => ?_⟩
        rcases List.mem_cons.1 he with rfl | he
        · exact hne
        · exact h2 e' he
      · refine Or.inr ⟨j + 1, e', ?_, by simpa using h2, h3⟩
        simp [Instr.findAsking, hq, Result.andThen, h1, show i + 1 + j = i + (j + 1) by omega]
theorem g_find {t : TypeId} (ht : TwoT t) (w : World) (ks : List (Int × Int)) (sv : Int × Int → Int) (x : Int × Int) :
    ((Instr.findKey t (kv2 x) (gEnts ks sv).toList).run Try.prog w = .ok none w ∧ x ∉ ks) ∨ ∃ j, j < ks.length ∧ ks.getD j (0, 0) = x ∧ (Instr.findKey t (kv2 x) (gEnts ks sv).toList).run Try.prog w = .ok (some (j, .int .i64 (sv x))) w := by
  rw [run_findKey_eq w (by rw [ht.und]) (kv2 x) (gEnts ks sv).toList]
  have hat : ∀ (j : Nat) (e : MapEntry), (gEnts ks sv).toList[j]? = some e → j < ks.length ∧ e = ⟨kv2 (ks.getD j (0, 0)), .int .i64 (sv (ks.getD j (0, 0))), j⟩ := fun j e he => by
    have he' : (gEnts ks sv)[j]? = some e := by simpa using he
    by_cases hj : j < ks.length
    · rw [g_get hj] at he'
      exact ⟨hj, by simpa using he'.symm⟩
    · rw [g_none hj] at he'
      cases he'
  rcases ask_go ht w x (gEnts ks sv).toList 0 (fun e he => by
    obtain ⟨j, hj⟩ := List.getElem?_of_mem he
    exact ⟨_, by rw [(hat j e hj).2]⟩) with ⟨h1, h2⟩ | ⟨j, e, h1, h2, h3⟩
  · refine Or.inl ⟨h1, fun hx => ?_⟩
    obtain ⟨i, hi, hi2⟩ := List.getElem_of_mem hx
    have h4 : (gEnts ks sv).toList[i]? = some ⟨kv2 (ks.getD i (0, 0)), .int .i64 (sv (ks.getD i (0, 0))), i⟩ := by simpa using g_get (sv := sv) hi
    have h5 := h2 _ (List.mem_of_getElem? h4)
    exact h5 (by show kv2 (ks.getD i (0, 0)) = _; rw [List.getD_eq_getElem?_getD, List.getElem?_eq_getElem hi]; simp [hi2])
  · obtain ⟨hj, rfl⟩ := hat j e h2
    have h4 := kv2_inj h3
    rw [Nat.zero_add] at h1
    dsimp only at h1
    rw [h4] at h1
    exact Or.inr ⟨j, hj, h4, h1⟩
theorem g_push {ks : List (Int × Int)} {sv : Int × Int → Int} {x : Int × Int} (v : Int) (h : x ∉ ks) : (gEnts ks sv).push ⟨kv2 x, .int .i64 v, ks.length⟩ = gEnts (ks ++ [x]) (updP sv x v) := by
  unfold gEnts
  rw [List.length_append]
  simp only [List.length_cons, List.length_nil, Nat.zero_add, List.range_succ, List.map_append, List.map_cons, List.map_nil, List.push_toArray]
  congr 2
  · apply List.map_congr_left
    intro i hi
    have hi' := List.mem_range.1 hi
    have e1 : (ks ++ [x]).getD i (0, 0) = ks.getD i (0, 0) := by simp [List.getElem?_append_left hi']
    rw [e1, updP_ne _ _ (fun e => h (by rw [← e, List.getD_eq_getElem?_getD, List.getElem?_eq_getElem hi']; exact List.getElem_mem hi'))]
  · simp [updP_same]
theorem g_at {ks : List (Int × Int)} (hn : ks.Nodup) {i j : Nat} (hi : i < ks.length) (hj : j < ks.length) (h : ks.getD i (0, 0) = ks.getD j (0, 0)) : i = j := by
  rw [List.getD_eq_getElem?_getD, List.getD_eq_getElem?_getD, List.getElem?_eq_getElem hi, List.getElem?_eq_getElem hj] at h
  simp at h
  rcases Nat.lt_trichotomy i j with h' | h' | h'
  · exact absurd h (List.pairwise_iff_getElem.1 hn i j hi hj h')
  · exact h'
  · exact absurd h.symm (List.pairwise_iff_getElem.1 hn j i hj hi h')
theorem g_modify {ks : List (Int × Int)} {sv : Int × Int → Int} {x : Int × Int} (v : Int) (hn : ks.Nodup) {j : Nat} (hj : j < ks.length) (hx : ks.getD j (0, 0) = x) (f : MapEntry → MapEntry) (hf : f ⟨kv2 x, .int .i64 (sv x), j⟩ = ⟨kv2 x, .int .i64 v, j⟩) : (gEnts ks sv).modify j f = gEnts ks (updP sv x v) := by
  apply Array.ext_getElem?
  intro i
  rw [Array.getElem?_modify]
  by_cases hi : i < ks.length
  · rw [g_get hi, g_get hi]
    by_cases e : j = i
    · subst e
      rw [if_pos rfl, hx, updP_same, Option.map_some, hf]
    · rw [if_neg e, updP_ne _ _ (fun e2 => e (g_at hn hj hi (by rw [hx]; exact e2.symm)))]
  · rw [g_none hi, g_none hi]
    simp
theorem updP_self (f : Int × Int → Int) (k : Int × Int) : updP f k (f k) = f := by
  funext j
  unfold updP
  split
  · next e => rw [e]
  · rfl
/-- A map from pairs to numbers, that are 0 where nothing is kept. -/
structure GMap (w : World) (B : Nat) (ks : List (Int × Int)) (sv : Int × Int → Int) : Prop where
  map : w.heap[B]? = some (.map (gEnts ks sv) ks.length)
  nd : ks.Nodup
  zero : ∀ c, c ∉ ks → sv c = 0
theorem g_look {t m : TypeId} (ht : TwoT t) (hm : Try.prog.underlying m = some (.map t 3)) {w : World} {B : Nat} {ks : List (Int × Int)} {sv : Int × Int → Int} (h : GMap w B ks sv) (x : Int × Int) :
    (Instr.lookup m (.map (some B)) (kv2 x) false).run Try.prog w = .ok (.int .i64 (sv x)) w := by
  have hz : (zeroValue 3).run Try.prog w = .ok (.int .i64 0) w := by kernel_rfl
  rcases g_find ht w ks sv x with ⟨h1, h2⟩ | ⟨j, hj, hx, h1⟩
  · rw [h.zero x h2]
    simp [Instr.lookup, run_underlying hm, MapKept.run_getObj_map h.map, check_two ht, h1, hz, Result.andThen]
  · simp [Instr.lookup, run_underlying hm, MapKept.run_getObj_map h.map, check_two ht, h1, Result.andThen]
theorem g_upd {t m : TypeId} (ht : TwoT t) (hm : Try.prog.underlying m = some (.map t 3)) {ks : List (Int × Int)} {sv : Int × Int → Int} (hn : ks.Nodup) (hz : ∀ c, c ∉ ks → sv c = 0) (x : Int × Int) (v : Int) :
    ∃ ks' : List (Int × Int), ∀ (w : World) (B : Nat), w.heap[B]? = some (.map (gEnts ks sv) ks.length) → (Instr.mapUpdate m (.map (some B)) (kv2 x) (.int .i64 v)).run Try.prog w = .ok () (putObj w B (.map (gEnts ks' (updP sv x v)) ks'.length)) ∧ GMap (putObj w B (.map (gEnts ks' (updP sv x v)) ks'.length)) B ks' (updP sv x v) := by
  by_cases hx : x ∈ ks
  · refine ⟨ks, fun w B hb => ?_⟩
    rcases g_find ht w ks sv x with ⟨h1, h2⟩ | ⟨j, hj, hxj, h1⟩
    · exact absurd hx h2
    · have hg : (((gEnts ks sv)[j]?).map (·.key)).getD (kv2 x) = kv2 x := by rw [g_get hj, hxj]; rfl
      refine ⟨?_, heap_putObj_same (size_of hb), hn, fun c hc => ?_⟩
      · simp only [Instr.mapUpdate, Sem.run_bind, run_underlying hm, MapKept.run_getObj_map hb, check_two ht, h1, hg, stays_two, MapKept.run_setObj_map _ hb, Result.andThen, g_modify v hn hj hxj (fun e => { e with key := kv2 x, val := .int .i64 v }) rfl, putObj]
      · rw [updP_ne _ _ (fun e => hc (by rw [e]; exact hx))]
        exact hz c hc
  · refine ⟨ks ++ [x], fun w B hb => ?_⟩
    rcases g_find ht w ks sv x with ⟨h1, h2⟩ | ⟨j, hj, hxj, h1⟩
    · refine ⟨?_, heap_putObj_same (size_of hb), ?_, fun c hc => ?_⟩
      · have e : (ks ++ [x]).length = ks.length + 1 := by simp
        rw [e]
        simp only [Instr.mapUpdate, Sem.run_bind, run_underlying hm, MapKept.run_getObj_map hb, check_two ht, h1, MapKept.run_setObj_map _ hb, Result.andThen, g_push v hx, putObj]
      · rw [List.nodup_append]
        exact ⟨hn, by simp, fun a ha b hb e => hx (by simp at hb; rw [← hb, ← e]; exact ha)⟩
      · simp at hc
        rw [updP_ne _ _ hc.2]
        exact hz c hc.1
    · refine absurd ?_ hx
      rw [← hxj, List.getD_eq_getElem?_getD, List.getElem?_eq_getElem hj]
      exact List.getElem_mem hj
/-- m[k]++ and its like: the entry is found or made, then its value is stored. -/
theorem g_entry {t m : TypeId} (ht : TwoT t) (hm : Try.prog.underlying m = some (.map t 3)) {ks : List (Int × Int)} {sv : Int × Int → Int} (hn : ks.Nodup) (hz : ∀ c, c ∉ ks → sv c = 0) (x : Int × Int) (v : Int) :
    ∃ (ks' : List (Int × Int)) (s : Int), ∀ (w : World) (B : Nat), w.heap[B]? = some (.map (gEnts ks sv) ks.length) →
      (Instr.mapEntry m (.map (some B)) (kv2 x)).run Try.prog w = .ok (.tuple #[.int .i64 (sv x), .int .i64 s]) (putObj w B (.map (gEnts ks' sv) ks'.length)) ∧ GMap (putObj w B (.map (gEnts ks' sv) ks'.length)) B ks' sv ∧
      ∀ (W : World), W.heap[B]? = some (.map (gEnts ks' sv) ks'.length) → (Instr.entryStore m (.map (some B)) (.int .i64 s) (.int .i64 v)).run Try.prog W = .ok () (putObj W B (.map (gEnts ks' (updP sv x v)) ks'.length)) ∧ GMap (putObj W B (.map (gEnts ks' (updP sv x v)) ks'.length)) B ks' (updP sv x v) := by
  have hstore : ∀ (ks' : List (Int × Int)) (j : Nat), ks'.Nodup → (∀ c, c ∉ ks' → sv c = 0) → j < ks'.length → ks'.getD j (0, 0) = x → ∀ (W : World) (B : Nat), W.heap[B]? = some (.map (gEnts ks' sv) ks'.length) → (Instr.entryStore m (.map (some B)) (.int .i64 (j : Int)) (.int .i64 v)).run Try.prog W = .ok () (putObj W B (.map (gEnts ks' (updP sv x v)) ks'.length)) ∧ GMap (putObj W B (.map (gEnts ks' (updP sv x v)) ks'.length)) B ks' (updP sv x v) := fun ks' j hn' hz' hj hxj W B hb => by
    have hfi : (gEnts ks' sv).findIdx? (fun e => (e.born : Int) == (j : Int)) = some j := by
      rw [Array.findIdx?_eq_some_iff_getElem]
      have hsz : (gEnts ks' sv).size = ks'.length := by simp [gEnts]
      refine ⟨by omega, ?_, fun i hi => ?_⟩
      · have := g_get (sv := sv) hj
        rw [Array.getElem?_eq_getElem (by omega)] at this
        simp at this
        rw [this]
        simp
      · have := g_get (sv := sv) (show i < ks'.length by omega)
        rw [Array.getElem?_eq_getElem (by omega)] at this
        simp at this
        rw [this]
        simp
        omega
    refine ⟨?_, heap_putObj_same (size_of hb), hn', fun c hc => ?_⟩
    · have hai : (asInt (.int .i64 (j : Int))).run Try.prog W = .ok (j : Int) W := by first | rfl | simp [asInt, asIntOf] | go_simp
      simp only [Instr.entryStore, Sem.run_bind, MapKept.run_getObj_map hb, hai, Result.andThen, hfi, MapKept.run_setObj_map _ hb, g_modify v hn' hj hxj (fun e => { e with val := .int .i64 v }) rfl, putObj]
    · have hxk : x ∈ ks' := by
        rw [← hxj, List.getD_eq_getElem?_getD, List.getElem?_eq_getElem hj]
        exact List.getElem_mem hj
      rw [updP_ne _ _ (fun e => hc (by rw [e]; exact hxk))]
      exact hz' c hc
  by_cases hx : x ∈ ks
  · obtain ⟨j0, hj0, hj1⟩ := List.getElem_of_mem hx
    have hxj0 : ks.getD j0 (0, 0) = x := by rw [List.getD_eq_getElem?_getD, List.getElem?_eq_getElem hj0]; simp [hj1]
    refine ⟨ks, (j0 : Int), fun w B hb => ?_⟩
    rcases g_find ht w ks sv x with ⟨h1, h2⟩ | ⟨j, hj, hxj, h1⟩
    · exact absurd hx h2
    · obtain rfl : j = j0 := g_at hn hj hj0 (by rw [hxj, hxj0])
      have hg : (((gEnts ks sv)[j]?).map (·.key)).getD (kv2 x) = kv2 x := by rw [g_get hj, hxj]; rfl
      have hg2 : (((gEnts ks sv)[j]?).map (fun e => (e.born : Int))).getD 0 = (j : Int) := by rw [g_get hj]; rfl
      refine ⟨?_, ⟨heap_putObj_same (size_of hb), hn, hz⟩, fun W hW => hstore ks j hn hz hj hxj W B hW⟩
      have hmod := g_modify (sv := sv) (sv x) hn hj hxj (fun e => { e with key := kv2 x }) rfl
      rw [updP_self] at hmod
      simp only [Instr.mapEntry, Sem.run_bind, run_underlying hm, MapKept.run_getObj_map hb, check_two ht, h1, hg, stays_two, MapKept.run_setObj_map _ hb, Result.andThen, hmod, putObj, Sem.run_pure, hg2, goInt]
  · have hzx := hz x hx
    have hup : updP sv x 0 = sv := by rw [← hzx, updP_self]
    refine ⟨ks ++ [x], (ks.length : Int), fun w B hb => ?_⟩
    rcases g_find ht w ks sv x with ⟨h1, h2⟩ | ⟨j, hj, hxj, h1⟩
    · have hn' : (ks ++ [x]).Nodup := by
        rw [List.nodup_append]
        exact ⟨hn, by simp, fun a ha b hb e => hx (by simp at hb; rw [← hb, ← e]; exact ha)⟩
      have hz' : ∀ c, c ∉ ks ++ [x] → sv c = 0 := fun c hc => by
        simp at hc
        exact hz c hc.1
      have e : (ks ++ [x]).length = ks.length + 1 := by simp
      refine ⟨?_, ⟨heap_putObj_same (size_of hb), hn', hz'⟩, fun W hW => hstore (ks ++ [x]) ks.length hn' hz' (by simp) (by simp) W B hW⟩
      have hzz : (zeroValue 3).run Try.prog w = .ok (.int .i64 0) w := by kernel_rfl
      have hpu := g_push (sv := sv) 0 hx
      rw [hup] at hpu
      rw [e]
      simp only [Instr.mapEntry, Sem.run_bind, run_underlying hm, MapKept.run_getObj_map hb, check_two ht, h1, hzz, MapKept.run_setObj_map _ hb, Result.andThen, hpu, putObj, Sem.run_pure, hzx, goInt]
    · refine absurd ?_ hx
      rw [← hxj, List.getD_eq_getElem?_getD, List.getElem?_eq_getElem hj]
      exact List.getElem_mem hj
end Go.Proofs.Ytbnmeeabpjmcoaa
