/-
  ring.Refill of a nil queue.
-/
import Derived.Test.YtcdnennfimbgoabSc
namespace Go.Proofs.Ytcdnennfimbgoab
open Go.RowKit

set_option maxRecDepth 100000 in
set_option maxHeartbeats 1000000 in
theorem refill_nil (w : World) (nx : Int) (v : Value) (zs : List Int) (p : Int) (h : IsInts w v zs) (hz : zs.length ≤ 256) (hp1 : 1 ≤ p) (hp2 : p ≤ 64) (hf : refillF nx zs [] p = (0, 0)) :
    Calls Try.prog 6 #[.agg #[.int .i64 nx, v], .slice none 0 0, .int .i64 p] w fun e w' => ∃ a1 c1 a2 c2, e = .returned (.tuple #[.agg #[.int .i64 nx, .slice a1 zs.length c1], .slice a2 0 c2, .agg #[.int .i64 0, .int .i64 0]]) ∧ Own w.heap.size w' (.slice a1 zs.length c1) zs ∧ Own w.heap.size w' (.slice a2 0 c2) [] ∧ Below w.heap.size w w' := by
  obtain ⟨a, c, rfl⟩ := Rd.form h
  have hg : ∀ W, IsInts W (.slice none 0 0) [] := fun W => ⟨rfl, Or.inl ⟨rfl, rfl⟩⟩
  have HC : Hid (∀ W, Kept [w.heap.size + 1, w.heap.size + 2] (boxed3 w nx (.slice a zs.length c)) W → Calls Try.prog 14 #[.agg #[.int .i64 nx, (.slice a zs.length c)], .slice none 0 0, .int .i64 p] W fun e w' => e = .returned (.agg #[.int .i64 0, .int .i64 0]) ∧ Below W.heap.size W w') := fun W hW => by
    have := checkRefill_any W nx _ zs p (Rd.below h (boxed3_below _ _ _ hW)) (by unfold maxLen; omega) _ [] (hg W) (by simp [maxLen])
    rw [hf] at this
    exact this
  have HK0 := hide (boxed3_kept w nx (.slice a zs.length c))
  have HV := hide h
  clear h hf
  obtain ⟨m, hm⟩ : ∃ m, zs.length = m := ⟨_, rfl⟩
  have HMZ := hide hm
  rw [hm] at hz HV HC HK0 ⊢
  clear hm
  go_enter Try.func6, Try.ntmps6
  go_upto_region 2 with (go_at_call 14; refine (unhide HC _ (unhide HK0)).mono ?_; rintro e w1 ⟨rfl, hb1⟩; have HK1 := hide ((unhide HK0).call hb1); clear hb1)
  have HB := hide ((unhide HK1).alloc (.cells #[.int .i64 0, .int .i64 0] 27))
  have HT5 := hide (cells_new w1 (.int .i64 0) (.int .i64 0))
  have HSZ : Hid (w1.heap.size < (w1.alloc (.cells #[.int .i64 0, .int .i64 0] 27)).heap.size) := by simp [Hid]
  obtain ⟨Wb, hWb⟩ : ∃ W, w1.alloc (.cells #[.int .i64 0, .int .i64 0] 27) = W := ⟨_, rfl⟩
  rw [hWb] at HB HT5 HSZ ⊢
  clear hWb
  have HK := hide ((unhide HB).again)
  have HM1 : Hid (w.heap.size + 1 ∈ [w.heap.size + 1, w.heap.size + 2]) := by simp [Hid]
  have HM2 : Hid (w.heap.size + 2 ∈ [w.heap.size + 1, w.heap.size + 2]) := by simp [Hid]
  have HSS : Hid (∀ W, Kept [w.heap.size + 1, w.heap.size + 2] Wb W → W.cell? ⟨w.heap.size, 0, none⟩ = some (.int .i64 nx) ∧ W.cell? ⟨w.heap.size, 1, none⟩ = some (.slice a m c) ∧ Kept [w.heap.size + 1, w.heap.size + 2] Wb W) := fun W hW => ⟨(boxed3_args w nx _ ((unhide HB).trans hW)).1, (boxed3_args w nx _ ((unhide HB).trans hW)).2, hW⟩
  obtain ⟨c0, c1, _⟩ := unhide HSS _ (unhide HK)
  obtain ⟨t0, t1⟩ := unhide HT5
  have pne : p ≠ 0 := by omega
  have pneb : (p == 0) = false := by simpa using pne
  go_upto_region 4 with fail
  clear t0 t1
  have hmin : ∀ (W : World) (ts : Array TypeId) (ty : TypeId), (Builtin.min_ ts ty #[.int .i64 (IntKind.i64.wrap (IntKind.i64.wrap 0 + 1)), .int .i64 0, .int .i64 128, .int .i64 (256 - (m : Int))]).run Try.prog W = .ok (.int .i64 0) W := fun W ts ty => by
    have w1 : IntKind.i64.wrap (IntKind.i64.wrap 0 + 1) = 1 := by decide
    rw [w1, run_min4]
    have : min (min (min (1 : Int) 0) 128) (256 - (m : Int)) = 0 := by omega
    rw [this]
  go_region_held3 (fun W => W.cell? ⟨w.heap.size, 0, none⟩ = some (.int .i64 nx) ∧ W.cell? ⟨w.heap.size, 1, none⟩ = some (.slice a m c) ∧ Kept [w.heap.size + 1, w.heap.size + 2] Wb W)
    (first | with_reducible exact unhide HSS _ (unhide HK).drew | with_reducible exact unhide HSS _ (unhide HK2))
    (first | (go_at_call 15; refine (room_any _ _ _ _ _ hz).mono ?_; rintro e w2 ⟨rfl, hb2⟩; have HK2 : Hid (Kept [w.heap.size + 1, w.heap.size + 2] Wb w2) := Kept.call (by go_split_ands; assumption) hb2; clear hb2))
  clear hmin c0 c1
  have HWL : Hid (∀ W, Kept [w.heap.size + 1, w.heap.size + 2] Wb W → Calls Try.prog 16 #[.agg #[.int .i64 nx, .slice a m c], .slice none 0 0] W fun e w' => ∃ a' c', e = .returned (.agg #[.int .i64 nx, .slice a' m c']) ∧ Own W.heap.size w' (.slice a' m c') zs ∧ Below W.heap.size W w') := fun W hW => by
    have := withLast_any W nx _ zs (Rd.below (unhide HV) (boxed3_below w nx _ ((unhide HB).trans hW))) _ [] (hg W) m (by rw [unhide HMZ]; rfl) (by omega)
    rw [List.append_nil] at this
    exact this
  have HFR : Hid (∀ W, Kept [w.heap.size + 1, w.heap.size + 2] Wb W → Calls Try.prog 17 #[.slice none 0 0] W fun e w' => ∃ a' c', e = .returned (.slice a' 0 c') ∧ Own W.heap.size w' (.slice a' 0 c') [] ∧ Below W.heap.size W w') := fun W hW => fresh_list W _ [] (hg W) (by simp)
  have HFR1 : Hid (∀ W, Kept [w.heap.size + 1, w.heap.size + 2] Wb W → Nat → Calls Try.prog 17 #[.slice none 0 0] W fun e w' => ∃ a' c', e = .returned (.slice a' 0 c') ∧ Own W.heap.size w' (.slice a' 0 c') [] ∧ Below W.heap.size W w') := fun W hW _ => unhide HFR W hW
  have HS5 : Hid (∀ W, Kept [w.heap.size + 1, w.heap.size + 2] Wb W → W.cell? ⟨w.heap.size, 0, none⟩ = some (.int .i64 nx) ∧ W.cell? ⟨w.heap.size, 1, none⟩ = some (.slice a m c) ∧ (W.cell? ⟨w.heap.size + 1, 0, none⟩ = some (cellOf W (w.heap.size + 1) 0) ∧ W.frozen? ⟨w.heap.size + 1, 0, none⟩ = false ∧ W.cell? ⟨w.heap.size + 1, 1, none⟩ = some (cellOf W (w.heap.size + 1) 1) ∧ W.frozen? ⟨w.heap.size + 1, 1, none⟩ = false) ∧ (W.cell? ⟨w.heap.size + 2, 0, none⟩ = some (cellOf W (w.heap.size + 2) 0) ∧ W.frozen? ⟨w.heap.size + 2, 0, none⟩ = false ∧ W.cell? ⟨w.heap.size + 2, 1, none⟩ = some (cellOf W (w.heap.size + 2) 1) ∧ W.frozen? ⟨w.heap.size + 2, 1, none⟩ = false) ∧ Kept [w.heap.size + 1, w.heap.size + 2] Wb W) := fun W hW => ⟨(boxed3_args w nx _ ((unhide HB).trans hW)).1, (boxed3_args w nx _ ((unhide HB).trans hW)).2, two_there (hW.there _ (by simp)).2, two_there (hW.there _ (by simp)).2, hW⟩
  clear HSS HC HK0 HV hg
  go_wp2_with fail
  obtain ⟨c0, c1, ⟨q0, q1, q2, q3⟩, ⟨p0, p1, p2, p3⟩, _⟩ := unhide HS5 _ (unhide HK2)
  · skip
    clear HFR
    go_region_held3 (fun W => W.cell? ⟨w.heap.size, 0, none⟩ = some (.int .i64 nx) ∧ W.cell? ⟨w.heap.size, 1, none⟩ = some (.slice a m c) ∧ (W.cell? ⟨w.heap.size + 1, 0, none⟩ = some (cellOf W (w.heap.size + 1) 0) ∧ W.frozen? ⟨w.heap.size + 1, 0, none⟩ = false ∧ W.cell? ⟨w.heap.size + 1, 1, none⟩ = some (cellOf W (w.heap.size + 1) 1) ∧ W.frozen? ⟨w.heap.size + 1, 1, none⟩ = false) ∧ (W.cell? ⟨w.heap.size + 2, 0, none⟩ = some (cellOf W (w.heap.size + 2) 0) ∧ W.frozen? ⟨w.heap.size + 2, 0, none⟩ = false ∧ W.cell? ⟨w.heap.size + 2, 1, none⟩ = some (cellOf W (w.heap.size + 2) 1) ∧ W.frozen? ⟨w.heap.size + 2, 1, none⟩ = false) ∧ Kept [w.heap.size + 1, w.heap.size + 2] Wb W)
      (first | with_reducible exact unhide HS5 _ (unhide HK2).drew | with_reducible exact unhide HS5 _ (unhide HK3) | with_reducible exact unhide HS5 _ (unhide HK4) | with_reducible exact unhide HS5 _ ((unhide HK4).set2 (unhide HM1) _ _) | with_reducible exact unhide HS5 _ (((unhide HK4).set2 (unhide HM1) _ _).set2 (unhide HM2) _ _))
      (first
        | (go_at_call 16; (with_reducible refine Calls.mono (unhide HWL w2.drew (unhide HK2).drew) ?_); rintro e w3 ⟨a3, c3, rfl, ho3, hb3⟩; have HK3 : Hid (Kept [w.heap.size + 1, w.heap.size + 2] Wb w3) := Kept.call (unhide HK2).drew hb3; have HO3 : Hid (Own (w.heap.size + 3) w3 (.slice a3 m c3) zs) := ho3.base (Nat.le_trans (boxed3_size (unhide HB)) (unhide HK2).drew.size); clear ho3 hb3)
        | (go_at_call 17; (with_reducible refine Calls.mono (unhide HFR1 w3 (unhide HK3) 0) ?_); rintro e w4 ⟨a4, c4, rfl, ho4, hb4⟩; have HK4 : Hid (Kept [w.heap.size + 1, w.heap.size + 2] Wb w4) := (unhide HK3).call hb4; have HO4 : Hid (Own (w.heap.size + 3) w4 (.slice a4 0 c4) []) := ho4.base (Nat.le_trans (boxed3_size (unhide HB)) (unhide HK3).size); have HO5 := hide ((unhide HO3).below hb4); clear ho4 hb4))
    go_wp2_with fail
    obtain ⟨_, _, ⟨u0, u1, u2, u3⟩, ⟨t0, t1, t2, t3⟩, _⟩ := unhide HS5 _ (unhide HK4)
    refine bodyPost_ret (v := .tuple #[.agg #[.int .i64 nx, .slice a3 m c3], .slice a4 0 c4, .agg #[.int .i64 0, .int .i64 0]]) ?_ rfl ⟨a3, c3, a4, c4, rfl, (((unhide HO5).set2 (by omega) _ _).set2 (by omega) _ _).base (by omega), (((unhide HO4).set2 (by omega) _ _).set2 (by omega) _ _).base (by omega), boxed3_below w nx _ ((unhide HB).trans (((unhide HK4).set2 (unhide HM1) _ _).set2 (unhide HM2) _ _))⟩
    simp [results, Try.results6, go_sem, u0, u2, t0, t2]

end Go.Proofs.Ytcdnennfimbgoab
