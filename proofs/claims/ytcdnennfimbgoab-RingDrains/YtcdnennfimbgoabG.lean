/-
  ring.Take.
-/
import Derived.Test.YtcdnennfimbgoabF
import Derived.Deep.DeepCutAuto
namespace Go.Proofs.Ytcdnennfimbgoab
open Go.RowKit

/-- A boxed ring, a ring's variable and a fault's. -/
def boxed3 (w : World) (nx : Int) (v : Value) : World := (boxed w nx v).alloc (.cells #[.int .i64 0, .int .i64 0] 27)

theorem boxed3_kept (w : World) (nx : Int) (v : Value) : Kept [w.heap.size + 1, w.heap.size + 2] (boxed3 w nx v) (boxed3 w nx v) := by
  refine Kept.refl fun r hr => ?_
  have h : r = w.heap.size + 1 ∨ r = w.heap.size + 2 := by simpa using hr
  rcases h with rfl | rfl
  · have h1 := ((boxed_kept w nx v).alloc (.cells #[.int .i64 0, .int .i64 0] 27)).there (w.heap.size + 1) (by simp)
    exact ⟨by simp [boxed3, boxed], h1.2⟩
  · have := there_new (boxed w nx v) (.int .i64 0) (.int .i64 0) 27
    have e : (boxed w nx v).heap.size = w.heap.size + 2 := by simp [boxed]
    rw [e] at this
    exact ⟨by simp [boxed3, boxed], this⟩
theorem boxed3_args (w : World) (nx : Int) (v : Value) {W : World} (h : Kept [w.heap.size + 1, w.heap.size + 2] (boxed3 w nx v) W) : W.cell? ⟨w.heap.size, 0, none⟩ = some (.int .i64 nx) ∧ W.cell? ⟨w.heap.size, 1, none⟩ = some v := by
  have hh : (boxed3 w nx v).heap[w.heap.size]? = some (.cells #[.int .i64 nx, v] 25) :=
    (Below.heap_alloc (boxed w nx v) _ _ (by simp [boxed]; omega)).trans ((Below.heap_alloc (w.alloc _) _ _ (by simp)).trans (MapKept.heap_alloc w _).1)
  refine ⟨(h.cell (p := ⟨w.heap.size, 0, none⟩) (by simp [boxed3, boxed]; omega) (by simp)).trans ?_, (h.cell (p := ⟨w.heap.size, 1, none⟩) (by simp [boxed3, boxed]; omega) (by simp)).trans ?_⟩
  · simp only [World.cell?, hh]; rfl
  · simp only [World.cell?, hh]; rfl
theorem boxed3_below (w : World) (nx : Int) (v : Value) {W : World} (h : Kept [w.heap.size + 1, w.heap.size + 2] (boxed3 w nx v) W) : Below w.heap.size w W :=
  h.below ((((Below.refl _ _).alloc (Nat.le_refl _) _).alloc (by simp) _).alloc (by simp; omega) _) (by simp [boxed3, boxed]; omega) (fun r hr => by
    have h : r = w.heap.size + 1 ∨ r = w.heap.size + 2 := by simpa using hr
    omega)
theorem boxed3_size {w : World} {nx : Int} {v : Value} {W : World} (h : Kept [w.heap.size + 1, w.heap.size + 2] (boxed3 w nx v) W) : w.heap.size + 3 ≤ W.heap.size := Nat.le_trans (by simp [boxed3, boxed]) h.size

/-- What is kept, of a world that itself kept it. -/
theorem Kept.again {Rs : List Nat} {W0 W : World} (h : Kept Rs W0 W) : Kept Rs W W := Kept.refl fun r hr => ⟨Nat.lt_of_lt_of_le (h.there r hr).1 h.size, (h.there r hr).2⟩
theorem Kept.trans {Rs : List Nat} {W0 W1 W : World} (h : Kept Rs W0 W1) (k : Kept Rs W1 W) : Kept Rs W0 W :=
  ⟨k.os.trans h.os, k.tape.trans h.tape, k.output.trans h.output, Nat.le_trans h.size k.size, fun j hj hr => (k.block j (Nat.lt_of_lt_of_le hj h.size) hr).trans (h.block j hj hr), fun r hr => ⟨(h.there r hr).1, (k.there r hr).2⟩⟩

set_option maxRecDepth 100000 in
set_option maxHeartbeats 1000000 in
theorem rtake_fault (w : World) (nx : Int) (v : Value) (zs : List Int) (h : IsInts w v zs) (hn : zs.length ≤ maxLen) (x y : Int) (hf : ringF nx zs = (x, y)) (hx : x ≠ 0) :
    Calls Try.prog 7 #[.agg #[.int .i64 nx, v]] w fun e w' => e = .returned (.tuple #[.agg #[.int .i64 0, .slice none 0 0], .int .i64 0, .agg #[.int .i64 x, .int .i64 y]]) ∧ Below w.heap.size w w' := by
  obtain ⟨a, c, rfl⟩ := Rd.form h
  have hx1 : (x != 0) = true := by simpa using hx
  have HC : Hid (∀ W, Kept [w.heap.size + 1, w.heap.size + 2] (boxed3 w nx (.slice a zs.length c)) W → Calls Try.prog 18 #[.agg #[.int .i64 nx, (.slice a zs.length c)]] W fun e w' => e = .returned (.agg #[.int .i64 x, .int .i64 y]) ∧ Below W.heap.size W w') := fun W hW => by
    have := rcheck_any W nx _ zs (Rd.below h (boxed3_below _ _ _ hW)) hn
    rw [hf] at this
    exact this
  have HK0 := hide (boxed3_kept w nx (.slice a zs.length c))
  clear h hf hx
  go_enter Try.func7, Try.ntmps7
  go_wp2_with (go_at_call 18; refine (unhide HC _ (unhide HK0)).mono ?_; rintro e w1 ⟨rfl, hb1⟩; have HK1 := hide ((unhide HK0).call hb1); clear hb1)
  have HB := hide ((unhide HK1).alloc (.cells #[.int .i64 x, .int .i64 y] 27))
  have HHE := hide (MapKept.heap_alloc w1 (.cells #[.int .i64 x, .int .i64 y] 27)).1
  have HSZ : Hid (w1.heap.size < (w1.alloc (.cells #[.int .i64 x, .int .i64 y] 27)).heap.size) := by simp [Hid]
  obtain ⟨Wb, hWb⟩ : ∃ W, w1.alloc (.cells #[.int .i64 x, .int .i64 y] 27) = W := ⟨_, rfl⟩
  rw [hWb] at HB HHE HSZ ⊢
  clear hWb
  have HK := hide ((unhide HB).again)
  have HM1 : Hid (w.heap.size + 1 ∈ [w.heap.size + 1, w.heap.size + 2]) := by simp [Hid]
  have HM2 : Hid (w.heap.size + 2 ∈ [w.heap.size + 1, w.heap.size + 2]) := by simp [Hid]
  have HSS : Hid (∀ W, Kept [w.heap.size + 1, w.heap.size + 2] Wb W → W.cell? ⟨w1.heap.size, 0, none⟩ = some (.int .i64 x) ∧ W.cell? ⟨w1.heap.size, 1, none⟩ = some (.int .i64 y) ∧ (W.cell? ⟨w.heap.size + 1, 0, none⟩ = some (cellOf W (w.heap.size + 1) 0) ∧ W.frozen? ⟨w.heap.size + 1, 0, none⟩ = false ∧ W.cell? ⟨w.heap.size + 1, 1, none⟩ = some (cellOf W (w.heap.size + 1) 1) ∧ W.frozen? ⟨w.heap.size + 1, 1, none⟩ = false) ∧ (W.cell? ⟨w.heap.size + 2, 0, none⟩ = some (cellOf W (w.heap.size + 2) 0) ∧ W.frozen? ⟨w.heap.size + 2, 0, none⟩ = false ∧ W.cell? ⟨w.heap.size + 2, 1, none⟩ = some (cellOf W (w.heap.size + 2) 1) ∧ W.frozen? ⟨w.heap.size + 2, 1, none⟩ = false) ∧ Kept [w.heap.size + 1, w.heap.size + 2] Wb W) := fun W hW =>
    have hs := boxed3_size (unhide HK1)
    have hh := unhide HHE
    ⟨(hW.cell (p := ⟨w1.heap.size, 0, none⟩) (unhide HSZ) (by simp; omega)).trans (by simp only [World.cell?, hh]; rfl), (hW.cell (p := ⟨w1.heap.size, 1, none⟩) (unhide HSZ) (by simp; omega)).trans (by simp only [World.cell?, hh]; rfl), two_there (hW.there _ (by simp)).2, two_there (hW.there _ (by simp)).2, hW⟩
  obtain ⟨c0, c1, ⟨q0, q1, q2, q3⟩, ⟨p0, p1, p2, p3⟩, _⟩ := unhide HSS _ (unhide HK)
  go_region_held3 (fun W => W.cell? ⟨w1.heap.size, 0, none⟩ = some (.int .i64 x) ∧ W.cell? ⟨w1.heap.size, 1, none⟩ = some (.int .i64 y) ∧ (W.cell? ⟨w.heap.size + 1, 0, none⟩ = some (cellOf W (w.heap.size + 1) 0) ∧ W.frozen? ⟨w.heap.size + 1, 0, none⟩ = false ∧ W.cell? ⟨w.heap.size + 1, 1, none⟩ = some (cellOf W (w.heap.size + 1) 1) ∧ W.frozen? ⟨w.heap.size + 1, 1, none⟩ = false) ∧ (W.cell? ⟨w.heap.size + 2, 0, none⟩ = some (cellOf W (w.heap.size + 2) 0) ∧ W.frozen? ⟨w.heap.size + 2, 0, none⟩ = false ∧ W.cell? ⟨w.heap.size + 2, 1, none⟩ = some (cellOf W (w.heap.size + 2) 1) ∧ W.frozen? ⟨w.heap.size + 2, 1, none⟩ = false) ∧ Kept [w.heap.size + 1, w.heap.size + 2] Wb W)
    (first | with_reducible exact unhide HSS _ (unhide HK).drew | with_reducible exact unhide HSS _ ((unhide HK).set2 (unhide HM1) _ _).drew | with_reducible exact unhide HSS _ (((unhide HK).set2 (unhide HM1) _ _).set2 (unhide HM2) _ _).drew)
    (fail)
  go_wp2_with fail
  refine bodyPost_ret (v := .tuple #[.agg #[.int .i64 0, .slice none 0 0], .int .i64 0, .agg #[.int .i64 x, .int .i64 y]]) ?_ rfl ⟨rfl, boxed3_below w nx _ ((unhide HB).trans (((unhide HK).set2 (unhide HM1) _ _).set2 (unhide HM2) _ _).drew)⟩
  simp [results, Try.results7, go_sem, q0, q2, p0, p2]

set_option maxRecDepth 100000 in
set_option maxHeartbeats 1000000 in
theorem rtake_next (w : World) (nx : Int) (v : Value) (zs : List Int) (h : IsInts w v zs) (hn : zs.length ≤ maxLen) (hm : zs.length * 8 ≤ 140737488355328) (hf : ringF nx zs = (0, 0)) (hx : nx ≠ 0) :
    Calls Try.prog 7 #[.agg #[.int .i64 nx, v]] w fun e w' => ∃ a' c', e = .returned (.tuple #[.agg #[.int .i64 0, .slice a' zs.length c'], .int .i64 nx, .agg #[.int .i64 0, .int .i64 0]]) ∧ Own w.heap.size w' (.slice a' zs.length c') zs ∧ Below w.heap.size w w' := by
  obtain ⟨x, ex⟩ : ∃ x : Int, 0 = x := ⟨_, rfl⟩
  obtain ⟨y, ey⟩ : ∃ x : Int, 0 = x := ⟨_, rfl⟩
  have hf : ringF nx zs = (x, y) := by rw [hf, ← ex, ← ey]
  obtain ⟨a, c, rfl⟩ := Rd.form h
  have hx1 : (nx != 0) = true := by simpa using hx
  have HC : Hid (∀ W, Kept [w.heap.size + 1, w.heap.size + 2] (boxed3 w nx (.slice a zs.length c)) W → Calls Try.prog 18 #[.agg #[.int .i64 nx, (.slice a zs.length c)]] W fun e w' => e = .returned (.agg #[.int .i64 x, .int .i64 y]) ∧ Below W.heap.size W w') := fun W hW => by
    have := rcheck_any W nx _ zs (Rd.below h (boxed3_below _ _ _ hW)) hn
    rw [hf] at this
    exact this
  have HK0 := hide (boxed3_kept w nx (.slice a zs.length c))
  have HV := hide h
  clear h hf hx
  subst ex ey
  go_enter Try.func7, Try.ntmps7
  go_upto_region 4 with (go_at_call 18; refine (unhide HC _ (unhide HK0)).mono ?_; rintro e w1 ⟨rfl, hb1⟩; have HK1 := hide ((unhide HK0).call hb1); clear hb1)
  have HB := hide ((unhide HK1).alloc (.cells #[.int .i64 0, .int .i64 0] 27))
  have HHE := hide (MapKept.heap_alloc w1 (.cells #[.int .i64 0, .int .i64 0] 27)).1
  have HSZ : Hid (w1.heap.size < (w1.alloc (.cells #[.int .i64 0, .int .i64 0] 27)).heap.size) := by simp [Hid]
  obtain ⟨Wb, hWb⟩ : ∃ W, w1.alloc (.cells #[.int .i64 0, .int .i64 0] 27) = W := ⟨_, rfl⟩
  rw [hWb] at HB HHE HSZ ⊢
  clear hWb
  have HK := hide ((unhide HB).again)
  have HM1 : Hid (w.heap.size + 1 ∈ [w.heap.size + 1, w.heap.size + 2]) := by simp [Hid]
  have HM2 : Hid (w.heap.size + 2 ∈ [w.heap.size + 1, w.heap.size + 2]) := by simp [Hid]
  have HSS : Hid (∀ W, Kept [w.heap.size + 1, w.heap.size + 2] Wb W → W.cell? ⟨w.heap.size, 0, none⟩ = some (.int .i64 nx) ∧ W.cell? ⟨w.heap.size, 1, none⟩ = some (.slice a zs.length c) ∧ (W.cell? ⟨w.heap.size + 1, 0, none⟩ = some (cellOf W (w.heap.size + 1) 0) ∧ W.frozen? ⟨w.heap.size + 1, 0, none⟩ = false ∧ W.cell? ⟨w.heap.size + 1, 1, none⟩ = some (cellOf W (w.heap.size + 1) 1) ∧ W.frozen? ⟨w.heap.size + 1, 1, none⟩ = false) ∧ (W.cell? ⟨w.heap.size + 2, 0, none⟩ = some (cellOf W (w.heap.size + 2) 0) ∧ W.frozen? ⟨w.heap.size + 2, 0, none⟩ = false ∧ W.cell? ⟨w.heap.size + 2, 1, none⟩ = some (cellOf W (w.heap.size + 2) 1) ∧ W.frozen? ⟨w.heap.size + 2, 1, none⟩ = false) ∧ Kept [w.heap.size + 1, w.heap.size + 2] Wb W) := fun W hW =>
    ⟨(boxed3_args w nx _ ((unhide HB).trans hW)).1, (boxed3_args w nx _ ((unhide HB).trans hW)).2, two_there (hW.there _ (by simp)).2, two_there (hW.there _ (by simp)).2, hW⟩
  have HFR : Hid (∀ W, Kept [w.heap.size + 1, w.heap.size + 2] Wb W → Calls Try.prog 17 #[(.slice a zs.length c)] W fun e w' => ∃ a' c', e = .returned (.slice a' zs.length c') ∧ Own W.heap.size w' (.slice a' zs.length c') zs ∧ Below W.heap.size W w') := fun W hW => fresh_list W _ zs (Rd.below (unhide HV) (boxed3_below w nx _ ((unhide HB).trans hW))) hm
  obtain ⟨c0, c1, ⟨q0, q1, q2, q3⟩, ⟨p0, p1, p2, p3⟩, _⟩ := unhide HSS _ (unhide HK)
  go_wp2_with fail
  go_region_held3 (fun W => W.cell? ⟨w.heap.size, 0, none⟩ = some (.int .i64 nx) ∧ W.cell? ⟨w.heap.size, 1, none⟩ = some (.slice a zs.length c) ∧ (W.cell? ⟨w.heap.size + 1, 0, none⟩ = some (cellOf W (w.heap.size + 1) 0) ∧ W.frozen? ⟨w.heap.size + 1, 0, none⟩ = false ∧ W.cell? ⟨w.heap.size + 1, 1, none⟩ = some (cellOf W (w.heap.size + 1) 1) ∧ W.frozen? ⟨w.heap.size + 1, 1, none⟩ = false) ∧ (W.cell? ⟨w.heap.size + 2, 0, none⟩ = some (cellOf W (w.heap.size + 2) 0) ∧ W.frozen? ⟨w.heap.size + 2, 0, none⟩ = false ∧ W.cell? ⟨w.heap.size + 2, 1, none⟩ = some (cellOf W (w.heap.size + 2) 1) ∧ W.frozen? ⟨w.heap.size + 2, 1, none⟩ = false) ∧ Kept [w.heap.size + 1, w.heap.size + 2] Wb W)
    (first | with_reducible exact unhide HSS _ (unhide HK).drew | with_reducible exact unhide HSS _ (unhide HK2) | with_reducible exact unhide HSS _ ((unhide HK2).set2 (unhide HM1) _ _) | with_reducible exact unhide HSS _ (((unhide HK2).set2 (unhide HM1) _ _).set2 (unhide HM2) _ _))
    (first | (go_at_call 17; refine (unhide HFR _ (by go_split_ands; assumption)).mono ?_; rintro e w2 ⟨a', c', rfl, hl, hb2⟩; have HK2 : Hid (Kept [w.heap.size + 1, w.heap.size + 2] Wb w2) := Kept.call (by go_split_ands; assumption) hb2; have HL : Hid (Own (w.heap.size + 3) w2 (.slice a' zs.length c') zs) := hl.base (Nat.le_trans (boxed3_size (unhide HB)) (Kept.size (Rs := [w.heap.size + 1, w.heap.size + 2]) (by go_split_ands; assumption))); clear hl hb2))
  go_wp2_with fail
  obtain ⟨_, _, ⟨u0, u1, u2, u3⟩, ⟨t0, t1, t2, t3⟩, _⟩ := unhide HSS _ (unhide HK2)
  refine bodyPost_ret (v := .tuple #[.agg #[.int .i64 0, .slice a' zs.length c'], .int .i64 nx, .agg #[.int .i64 0, .int .i64 0]]) ?_ rfl ⟨a', c', rfl, (((unhide HL).set2 (by omega) _ _).set2 (by omega) _ _).base (by omega), boxed3_below w nx _ ((unhide HB).trans (((unhide HK2).set2 (unhide HM1) _ _).set2 (unhide HM2) _ _))⟩
  simp [results, Try.results7, go_sem, u0, u2, t0, t2]

set_option maxRecDepth 100000 in
set_option maxHeartbeats 1000000 in
theorem rtake_none (w : World) (a : Option Addr) (c : Nat) (h : IsInts w (.slice a 0 c) []) :
    Calls Try.prog 7 #[.agg #[.int .i64 0, .slice a 0 c]] w fun e w' => e = .returned (.tuple #[.agg #[.int .i64 0, .slice none 0 0], .int .i64 0, .agg #[.int .i64 6, .int .i64 0]]) ∧ Below w.heap.size w w' := by
  have HC : Hid (∀ W, Kept [w.heap.size + 1, w.heap.size + 2] (boxed3 w 0 (.slice a 0 c)) W → Calls Try.prog 18 #[.agg #[.int .i64 0, .slice a 0 c]] W fun e w' => e = .returned (.agg #[.int .i64 0, .int .i64 0]) ∧ Below W.heap.size W w') := fun W hW =>
    rcheck_any W 0 _ [] (Rd.below h (boxed3_below _ _ _ hW)) (by simp [maxLen])
  have HK0 := hide (boxed3_kept w 0 (.slice a 0 c))
  clear h
  go_enter Try.func7, Try.ntmps7
  go_upto_region 4 with (go_at_call 18; refine (unhide HC _ (unhide HK0)).mono ?_; rintro e w1 ⟨rfl, hb1⟩; have HK1 := hide ((unhide HK0).call hb1); clear hb1)
  have HB := hide ((unhide HK1).alloc (.cells #[.int .i64 0, .int .i64 0] 27))
  have HHE := hide (MapKept.heap_alloc w1 (.cells #[.int .i64 0, .int .i64 0] 27)).1
  have HSZ : Hid (w1.heap.size < (w1.alloc (.cells #[.int .i64 0, .int .i64 0] 27)).heap.size) := by simp [Hid]
  obtain ⟨Wb, hWb⟩ : ∃ W, w1.alloc (.cells #[.int .i64 0, .int .i64 0] 27) = W := ⟨_, rfl⟩
  rw [hWb] at HB HHE HSZ ⊢
  clear hWb
  have HK := hide ((unhide HB).again)
  have HM1 : Hid (w.heap.size + 1 ∈ [w.heap.size + 1, w.heap.size + 2]) := by simp [Hid]
  have HM2 : Hid (w.heap.size + 2 ∈ [w.heap.size + 1, w.heap.size + 2]) := by simp [Hid]
  obtain ⟨k0, k1⟩ := boxed3_args w 0 _ (unhide HB)
  obtain ⟨u0, u1, u2, u3⟩ := two_there ((unhide HK).there (w.heap.size + 1) (by simp)).2
  obtain ⟨t0, t1, t2, t3⟩ := two_there ((unhide HK).there (w.heap.size + 2) (by simp)).2
  go_wp2_with fail
  refine bodyPost_ret (v := .tuple #[.agg #[.int .i64 0, .slice none 0 0], .int .i64 0, .agg #[.int .i64 6, .int .i64 0]]) ?_ rfl ⟨rfl, boxed3_below w 0 _ ((unhide HB).trans (((unhide HK).set2 (unhide HM1) _ _).set2 (unhide HM2) _ _))⟩
  simp [results, Try.results7, go_sem, u0, u2, t0, t2]

end Go.Proofs.Ytcdnennfimbgoab
