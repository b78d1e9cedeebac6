/-
  ring.Put.
-/
import Derived.Test.YtcdnennfimbgoabJ
namespace Go.Proofs.Ytcdnennfimbgoab
open Go.RowKit

set_option maxRecDepth 100000 in
set_option maxHeartbeats 1000000 in
theorem put_fault (w : World) (nx : Int) (v : Value) (zs : List Int) (t : Int) (next : Bool) (h : IsInts w v zs) (hn : zs.length ≤ maxLen) (x y : Int) (hf : putF nx zs t = (x, y)) (hx : x ≠ 0) :
    Calls Try.prog 11 #[.agg #[.int .i64 nx, v], .int .i64 t, .bool next] w fun e w' => e = .returned (.tuple #[.agg #[.int .i64 0, .slice none 0 0], .slice none 0 0, .agg #[.int .i64 x, .int .i64 y]]) ∧ Below w.heap.size w w' := by
  obtain ⟨a, c, rfl⟩ := Rd.form h
  have hx1 : (x != 0) = true := by simpa using hx
  have HC : Hid (∀ W, Kept [w.heap.size + 1, w.heap.size + 2] (boxed3 w nx (.slice a zs.length c)) W → Calls Try.prog 20 #[.agg #[.int .i64 nx, (.slice a zs.length c)], .int .i64 t] W fun e w' => e = .returned (.agg #[.int .i64 x, .int .i64 y]) ∧ Below W.heap.size W w') := fun W hW => by
    have := checkPut_any W nx _ zs t (Rd.below h (boxed3_below _ _ _ hW)) hn
    rw [hf] at this
    exact this
  have HK0 := hide (boxed3_kept w nx (.slice a zs.length c))
  clear h hf hx
  go_enter Try.func11, Try.ntmps11
  go_upto_region 2 with (go_at_call 20; refine (unhide HC _ (unhide HK0)).mono ?_; rintro e w1 ⟨rfl, hb1⟩; have HK1 := hide ((unhide HK0).call hb1); clear hb1)
  have HB := hide ((unhide HK1).alloc (.cells #[.int .i64 x, .int .i64 y] 27))
  have HT5 := hide (cells_new w1 (.int .i64 x) (.int .i64 y))
  have HSZ : Hid (w1.heap.size < (w1.alloc (.cells #[.int .i64 x, .int .i64 y] 27)).heap.size) := by simp [Hid]
  obtain ⟨Wb, hWb⟩ : ∃ W, w1.alloc (.cells #[.int .i64 x, .int .i64 y] 27) = W := ⟨_, rfl⟩
  rw [hWb] at HB HT5 HSZ ⊢
  clear hWb
  have HK := hide ((unhide HB).again)
  have HM1 : Hid (w.heap.size + 1 ∈ [w.heap.size + 1, w.heap.size + 2]) := by simp [Hid]
  have HM2 : Hid (w.heap.size + 2 ∈ [w.heap.size + 1, w.heap.size + 2]) := by simp [Hid]
  have HSS : Hid (∀ W, Kept [w.heap.size + 1, w.heap.size + 2] Wb W → W.cell? ⟨w1.heap.size, 0, none⟩ = some (.int .i64 x) ∧ W.cell? ⟨w1.heap.size, 1, none⟩ = some (.int .i64 y) ∧ (W.cell? ⟨w.heap.size + 1, 0, none⟩ = some (cellOf W (w.heap.size + 1) 0) ∧ W.frozen? ⟨w.heap.size + 1, 0, none⟩ = false ∧ W.cell? ⟨w.heap.size + 1, 1, none⟩ = some (cellOf W (w.heap.size + 1) 1) ∧ W.frozen? ⟨w.heap.size + 1, 1, none⟩ = false) ∧ (W.cell? ⟨w.heap.size + 2, 0, none⟩ = some (cellOf W (w.heap.size + 2) 0) ∧ W.frozen? ⟨w.heap.size + 2, 0, none⟩ = false ∧ W.cell? ⟨w.heap.size + 2, 1, none⟩ = some (cellOf W (w.heap.size + 2) 1) ∧ W.frozen? ⟨w.heap.size + 2, 1, none⟩ = false) ∧ Kept [w.heap.size + 1, w.heap.size + 2] Wb W) := fun W hW =>
    have hs := boxed3_size (unhide HK1)
    ⟨(hW.cell (p := ⟨w1.heap.size, 0, none⟩) (unhide HSZ) (by simp; omega)).trans (unhide HT5).1, (hW.cell (p := ⟨w1.heap.size, 1, none⟩) (unhide HSZ) (by simp; omega)).trans (unhide HT5).2, two_there (hW.there _ (by simp)).2, two_there (hW.there _ (by simp)).2, hW⟩
  obtain ⟨c0, c1, ⟨q0, q1, q2, q3⟩, ⟨p0, p1, p2, p3⟩, _⟩ := unhide HSS _ (unhide HK)
  go_wp2_with fail
  go_region_held3 (fun W => W.cell? ⟨w1.heap.size, 0, none⟩ = some (.int .i64 x) ∧ W.cell? ⟨w1.heap.size, 1, none⟩ = some (.int .i64 y) ∧ (W.cell? ⟨w.heap.size + 1, 0, none⟩ = some (cellOf W (w.heap.size + 1) 0) ∧ W.frozen? ⟨w.heap.size + 1, 0, none⟩ = false ∧ W.cell? ⟨w.heap.size + 1, 1, none⟩ = some (cellOf W (w.heap.size + 1) 1) ∧ W.frozen? ⟨w.heap.size + 1, 1, none⟩ = false) ∧ (W.cell? ⟨w.heap.size + 2, 0, none⟩ = some (cellOf W (w.heap.size + 2) 0) ∧ W.frozen? ⟨w.heap.size + 2, 0, none⟩ = false ∧ W.cell? ⟨w.heap.size + 2, 1, none⟩ = some (cellOf W (w.heap.size + 2) 1) ∧ W.frozen? ⟨w.heap.size + 2, 1, none⟩ = false) ∧ Kept [w.heap.size + 1, w.heap.size + 2] Wb W)
    (first | with_reducible exact unhide HSS _ (unhide HK).drew | with_reducible exact unhide HSS _ ((unhide HK).set2 (unhide HM1) _ _).drew | with_reducible exact unhide HSS _ (((unhide HK).set2 (unhide HM1) _ _).set2 (unhide HM2) _ _).drew)
    (fail)
  go_wp2_with fail
  refine bodyPost_ret (v := .tuple #[.agg #[.int .i64 0, .slice none 0 0], .slice none 0 0, .agg #[.int .i64 x, .int .i64 y]]) ?_ rfl ⟨rfl, boxed3_below w nx _ ((unhide HB).trans (((unhide HK).set2 (unhide HM1) _ _).set2 (unhide HM2) _ _).drew)⟩
  simp [results, Try.results11, go_sem, q0, q2, p0, p2]

set_option maxRecDepth 100000 in
set_option maxHeartbeats 1000000 in
theorem put_last (w : World) (nx : Int) (v : Value) (zs : List Int) (t : Int) (h : IsInts w v zs) (hn : zs.length ≤ maxLen) (hf : putF nx zs t = (0, 0)) (L1 L2 : List Int)
    (hpl : ∀ W, IsInts W v zs → Calls Try.prog 21 #[v, .int .i64 t] W fun e w' => ∃ a1 c1 a2 c2, e = .returned (.tuple #[.slice a1 L1.length c1, .slice a2 L2.length c2]) ∧ Own W.heap.size w' (.slice a1 L1.length c1) L1 ∧ Own W.heap.size w' (.slice a2 L2.length c2) L2 ∧ Below W.heap.size W w') :
    Calls Try.prog 11 #[.agg #[.int .i64 nx, v], .int .i64 t, .bool false] w fun e w' => ∃ a1 c1 a2 c2, e = .returned (.tuple #[.agg #[.int .i64 nx, .slice a1 L1.length c1], .slice a2 L2.length c2, .agg #[.int .i64 0, .int .i64 0]]) ∧ Own w.heap.size w' (.slice a1 L1.length c1) L1 ∧ Own w.heap.size w' (.slice a2 L2.length c2) L2 ∧ Below w.heap.size w w' := by
  obtain ⟨a, c, rfl⟩ := Rd.form h
  have HC : Hid (∀ W, Kept [w.heap.size + 1, w.heap.size + 2] (boxed3 w nx (.slice a zs.length c)) W → Calls Try.prog 20 #[.agg #[.int .i64 nx, (.slice a zs.length c)], .int .i64 t] W fun e w' => e = .returned (.agg #[.int .i64 0, .int .i64 0]) ∧ Below W.heap.size W w') := fun W hW => by
    have := checkPut_any W nx _ zs t (Rd.below h (boxed3_below _ _ _ hW)) hn
    rw [hf] at this
    exact this
  have HK0 := hide (boxed3_kept w nx (.slice a zs.length c))
  have HPL : Hid (∀ W, Kept [w.heap.size + 1, w.heap.size + 2] (boxed3 w nx (.slice a zs.length c)) W → Calls Try.prog 21 #[(.slice a zs.length c), .int .i64 t] W fun e w' => ∃ a1 c1 a2 c2, e = .returned (.tuple #[.slice a1 L1.length c1, .slice a2 L2.length c2]) ∧ Own W.heap.size w' (.slice a1 L1.length c1) L1 ∧ Own W.heap.size w' (.slice a2 L2.length c2) L2 ∧ Below W.heap.size W w') := fun W hW => hpl W (Rd.below h (boxed3_below _ _ _ hW))
  obtain ⟨n1, hn1⟩ : ∃ n, L1.length = n := ⟨_, rfl⟩
  obtain ⟨n2, hn2⟩ : ∃ n, L2.length = n := ⟨_, rfl⟩
  rw [hn1, hn2] at HPL ⊢
  clear h hf hpl
  go_enter Try.func11, Try.ntmps11
  go_upto_region 2 with (go_at_call 20; refine (unhide HC _ (unhide HK0)).mono ?_; rintro e w1 ⟨rfl, hb1⟩; have HK1 := hide ((unhide HK0).call hb1); clear hb1)
  have HB := hide ((unhide HK1).alloc (.cells #[.int .i64 0, .int .i64 0] 27))
  have HT5 := hide (cells_new w1 (.int .i64 0) (.int .i64 0))
  have HSZ : Hid (w1.heap.size < (w1.alloc (.cells #[.int .i64 0, .int .i64 0] 27)).heap.size) := by simp [Hid]
  obtain ⟨Wb, hWb⟩ : ∃ W, w1.alloc (.cells #[.int .i64 0, .int .i64 0] 27) = W := ⟨_, rfl⟩
  rw [hWb] at HB HT5 HSZ ⊢
  clear hWb
  have HK := hide ((unhide HB).again)
  have HM1 : Hid (w.heap.size + 1 ∈ [w.heap.size + 1, w.heap.size + 2]) := by simp [Hid]
  have HM2 : Hid (w.heap.size + 2 ∈ [w.heap.size + 1, w.heap.size + 2]) := by simp [Hid]
  obtain ⟨k0, k1⟩ := boxed3_args w nx _ (unhide HB)
  obtain ⟨c0, c1⟩ := unhide HT5
  have HKN := HK
  go_wp2_with (go_at_call 21; refine (unhide HPL _ ((unhide HB).trans (unhide HKN))).mono ?_; rintro e w3 ⟨a1, c1, a2, c2, rfl, ho1, ho2, hb3⟩; have HK3 := hide ((unhide HKN).call hb3); have HO1 : Hid (Own (w.heap.size + 3) w3 (.slice a1 n1 c1) L1) := ho1.base (Nat.le_trans (boxed3_size (unhide HB)) (unhide HKN).size); have HO2 : Hid (Own (w.heap.size + 3) w3 (.slice a2 n2 c2) L2) := ho2.base (Nat.le_trans (boxed3_size (unhide HB)) (unhide HKN).size); obtain ⟨u0, u1, u2, u3⟩ := two_there ((unhide HK3).there (w.heap.size + 1) (by simp)).2; obtain ⟨t0, t1, t2, t3⟩ := two_there ((unhide HK3).there (w.heap.size + 2) (by simp)).2; clear ho1 ho2 hb3)
  refine bodyPost_ret (v := .tuple #[.agg #[.int .i64 nx, .slice a1 n1 c1], .slice a2 n2 c2, .agg #[.int .i64 0, .int .i64 0]]) ?_ rfl ⟨a1, c1, a2, c2, rfl, (((unhide HO1).set2 (by omega) _ _).set2 (by omega) _ _).base (by omega), (((unhide HO2).set2 (by omega) _ _).set2 (by omega) _ _).base (by omega), boxed3_below w nx _ ((unhide HB).trans (((unhide HK3).set2 (unhide HM1) _ _).set2 (unhide HM2) _ _))⟩
  simp [results, Try.results11, go_sem, u0, u2, t0, t2]

set_option maxRecDepth 100000 in
set_option maxHeartbeats 1000000 in
theorem put_next (w : World) (nx : Int) (v : Value) (zs : List Int) (t : Int) (h : IsInts w v zs) (hn : zs.length ≤ maxLen) (hf : putF nx zs t = (0, 0)) (L1 L2 : List Int)
    (hpl : ∀ W, IsInts W v zs → Calls Try.prog 21 #[v, .int .i64 nx] W fun e w' => ∃ a1 c1 a2 c2, e = .returned (.tuple #[.slice a1 L1.length c1, .slice a2 L2.length c2]) ∧ Own W.heap.size w' (.slice a1 L1.length c1) L1 ∧ Own W.heap.size w' (.slice a2 L2.length c2) L2 ∧ Below W.heap.size W w') :
    Calls Try.prog 11 #[.agg #[.int .i64 nx, v], .int .i64 t, .bool true] w fun e w' => ∃ a1 c1 a2 c2, e = .returned (.tuple #[.agg #[.int .i64 t, .slice a1 L1.length c1], .slice a2 L2.length c2, .agg #[.int .i64 0, .int .i64 0]]) ∧ Own w.heap.size w' (.slice a1 L1.length c1) L1 ∧ Own w.heap.size w' (.slice a2 L2.length c2) L2 ∧ Below w.heap.size w w' := by
  obtain ⟨a, c, rfl⟩ := Rd.form h
  have HC : Hid (∀ W, Kept [w.heap.size + 1, w.heap.size + 2] (boxed3 w nx (.slice a zs.length c)) W → Calls Try.prog 20 #[.agg #[.int .i64 nx, (.slice a zs.length c)], .int .i64 t] W fun e w' => e = .returned (.agg #[.int .i64 0, .int .i64 0]) ∧ Below W.heap.size W w') := fun W hW => by
    have := checkPut_any W nx _ zs t (Rd.below h (boxed3_below _ _ _ hW)) hn
    rw [hf] at this
    exact this
  have HK0 := hide (boxed3_kept w nx (.slice a zs.length c))
  have HPL : Hid (∀ W, Kept [w.heap.size + 1, w.heap.size + 2] (boxed3 w nx (.slice a zs.length c)) W → Calls Try.prog 21 #[(.slice a zs.length c), .int .i64 nx] W fun e w' => ∃ a1 c1 a2 c2, e = .returned (.tuple #[.slice a1 L1.length c1, .slice a2 L2.length c2]) ∧ Own W.heap.size w' (.slice a1 L1.length c1) L1 ∧ Own W.heap.size w' (.slice a2 L2.length c2) L2 ∧ Below W.heap.size W w') := fun W hW => hpl W (Rd.below h (boxed3_below _ _ _ hW))
  obtain ⟨n1, hn1⟩ : ∃ n, L1.length = n := ⟨_, rfl⟩
  obtain ⟨n2, hn2⟩ : ∃ n, L2.length = n := ⟨_, rfl⟩
  rw [hn1, hn2] at HPL ⊢
  clear h hf hpl
  go_enter Try.func11, Try.ntmps11
  go_upto_region 2 with (go_at_call 20; refine (unhide HC _ (unhide HK0)).mono ?_; rintro e w1 ⟨rfl, hb1⟩; have HK1 := hide ((unhide HK0).call hb1); clear hb1)
  have HB := hide ((unhide HK1).alloc (.cells #[.int .i64 0, .int .i64 0] 27))
  have HT5 := hide (cells_new w1 (.int .i64 0) (.int .i64 0))
  have HSZ : Hid (w1.heap.size < (w1.alloc (.cells #[.int .i64 0, .int .i64 0] 27)).heap.size) := by simp [Hid]
  obtain ⟨Wb, hWb⟩ : ∃ W, w1.alloc (.cells #[.int .i64 0, .int .i64 0] 27) = W := ⟨_, rfl⟩
  rw [hWb] at HB HT5 HSZ ⊢
  clear hWb
  have HK := hide ((unhide HB).again)
  have HM1 : Hid (w.heap.size + 1 ∈ [w.heap.size + 1, w.heap.size + 2]) := by simp [Hid]
  have HM2 : Hid (w.heap.size + 2 ∈ [w.heap.size + 1, w.heap.size + 2]) := by simp [Hid]
  obtain ⟨k0, k1⟩ := boxed3_args w nx _ (unhide HB)
  obtain ⟨c0, c1⟩ := unhide HT5
  go_wp2_with fail
  go_quiet (fail)
  have HKN := hide ((unhide HK).call (below_drewN (Below.refl _ _) nq))
  go_wp2_with (go_at_call 21; refine (unhide HPL _ ((unhide HB).trans (unhide HKN))).mono ?_; rintro e w3 ⟨a1, c1, a2, c2, rfl, ho1, ho2, hb3⟩; have HK3 := hide ((unhide HKN).call hb3); have HO1 : Hid (Own (w.heap.size + 3) w3 (.slice a1 n1 c1) L1) := ho1.base (Nat.le_trans (boxed3_size (unhide HB)) (unhide HKN).size); have HO2 : Hid (Own (w.heap.size + 3) w3 (.slice a2 n2 c2) L2) := ho2.base (Nat.le_trans (boxed3_size (unhide HB)) (unhide HKN).size); obtain ⟨u0, u1, u2, u3⟩ := two_there ((unhide HK3).there (w.heap.size + 1) (by simp)).2; obtain ⟨t0, t1, t2, t3⟩ := two_there ((unhide HK3).there (w.heap.size + 2) (by simp)).2; clear ho1 ho2 hb3)
  refine bodyPost_ret (v := .tuple #[.agg #[.int .i64 t, .slice a1 n1 c1], .slice a2 n2 c2, .agg #[.int .i64 0, .int .i64 0]]) ?_ rfl ⟨a1, c1, a2, c2, rfl, (((unhide HO1).set2 (by omega) _ _).set2 (by omega) _ _).base (by omega), (((unhide HO2).set2 (by omega) _ _).set2 (by omega) _ _).base (by omega), boxed3_below w nx _ ((unhide HB).trans (((unhide HK3).set2 (unhide HM1) _ _).set2 (unhide HM2) _ _))⟩
  simp [results, Try.results11, go_sem, u0, u2, t0, t2]

end Go.Proofs.Ytcdnennfimbgoab
