/-
  ring.Refill.
-/
import Derived.Test.YtcdnennfimbgoabSb
namespace Go.Proofs.Ytcdnennfimbgoab
open Go.RowKit

theorem run_min4 (w : World) (ts : Array TypeId) (t : TypeId) (x y z u : Int) : (Builtin.min_ ts t #[.int .i64 x, .int .i64 y, .int .i64 z, .int .i64 u]).run Try.prog w = .ok (.int .i64 (min (min (min x y) z) u)) w := by
  have e : ∀ a b : Int, (if b < a then b else a) = min a b := fun a b => by omega
  simp [Builtin.min_, Builtin.min2, e]

set_option maxRecDepth 100000 in
set_option maxHeartbeats 1000000 in
theorem refill_fault (w : World) (nx : Int) (v : Value) (zs : List Int) (p : Int) (h : IsInts w v zs) (hn : zs.length ≤ maxLen) (vg : Value) (gs : List Int) (hg : IsInts w vg gs) (hgm : gs.length ≤ maxLen) (x y : Int) (hf : refillF nx zs gs p = (x, y)) (hx : x ≠ 0) :
    Calls Try.prog 6 #[.agg #[.int .i64 nx, v], vg, .int .i64 p] w fun e w' => e = .returned (.tuple #[.agg #[.int .i64 0, .slice none 0 0], .slice none 0 0, .agg #[.int .i64 x, .int .i64 y]]) ∧ Below w.heap.size w w' := by
  obtain ⟨a, c, rfl⟩ := Rd.form h
  obtain ⟨ag, cg, rfl⟩ := Rd.form hg
  have hx1 : (x != 0) = true := by simpa using hx
  have HC : Hid (∀ W, Kept [w.heap.size + 1, w.heap.size + 2] (boxed3 w nx (.slice a zs.length c)) W → Calls Try.prog 14 #[.agg #[.int .i64 nx, (.slice a zs.length c)], (.slice ag gs.length cg), .int .i64 p] W fun e w' => e = .returned (.agg #[.int .i64 x, .int .i64 y]) ∧ Below W.heap.size W w') := fun W hW => by
    have := checkRefill_any W nx _ zs p (Rd.below h (boxed3_below _ _ _ hW)) hn _ gs (Rd.below hg (boxed3_below _ _ _ hW)) hgm
    rw [hf] at this
    exact this
  have HK0 := hide (boxed3_kept w nx (.slice a zs.length c))
  clear h hg hf hx
  go_enter Try.func6, Try.ntmps6
  go_upto_region 2 with (go_at_call 14; refine (unhide HC _ (unhide HK0)).mono ?_; rintro e w1 ⟨rfl, hb1⟩; have HK1 := hide ((unhide HK0).call hb1); clear hb1)
  have HB := hide ((unhide HK1).alloc (.cells #[.int .i64 x, .int .i64 y] 27))
  have HT5 := hide (cells_new w1 (.int .i64 x) (.int .i64 y))
  have HSZ : Hid (w1.heap.size < (w1.alloc (.cells #[.int .i64 x, .int .i64 y] 27)).heap.size) := by simp [Hid]
  obtain ⟨Wb, hWb⟩ : ∃ W, w1.alloc (.cells #[.int .i64 x, .int .i64 y] 27) = W := ⟨_, rfl⟩
  rw [hWb] at HB HT5 HSZ ⊢
  clear hWb
  have HK := hide ((unhide HB).again)
  have HM1 : Hid (w.heap.size + 1 ∈ [w.heap.size + 1, w.heap.size + 2]) := by simp [Hid]
  have HM2 : Hid (w.heap.size + 2 ∈ [w.heap.size + 1, w.heap.size + 2]) := by simp [Hid]
  have HSS : Hid (∀ W, Kept [w.heap.size + 1, w.heap.size + 2] Wb W → W.cell? ⟨w1.heap.size, 0, none⟩ = some (.int .i64 x) ∧ W.cell? ⟨w1.heap.size, 1, none⟩ = some (.int .i64 y) ∧ (W.cell? ⟨w.heap.size + 1, 0, none⟩ = some (cellOf W (w.heap.size + 1) 0) ∧ W.frozen? ⟨w.heap.size + 1, 0, none⟩ = false ∧ W.cell? ⟨w.heap.size + 1, 1, none⟩ = some (cellOf W (w.heap.size + 1) 1) ∧ W.frozen? ⟨w.heap.size + 1, 1, none⟩ = false) ∧ (W.cell? ⟨w.heap.size + 2, 0, none⟩ = some (cellOf W (w.heap.size + 2) 0) ∧ W.frozen? ⟨w.heap.size + 2, 0, none⟩ = false ∧ W.cell? ⟨w.heap.size + 2, 1, none⟩ = some (cellOf W (w.heap.size + 2) 1) ∧ W.frozen? ⟨w.heap.size + 2, 1, none⟩ = false) ∧ Kept [w.heap.size + 1, w.heap.size + 2] Wb W) := fun W hW =>
    have hs := boxed3_size (unhide HK1)
    ⟨(hW.cell (p := ⟨w1.heap.size, 0, none⟩) (unhide HSZ) (by simp; omega)).trans (unhide HT5).1, (hW.cell (p := ⟨w1.heap.size, 1, none⟩) (unhide HSZ) (by simp; omega)).trans (unhide HT5).2, two_there (hW.there _ (by simp)).2, two_there (hW.there _ (by simp)).2, hW⟩
  obtain ⟨c0, c1, ⟨q0, q1, q2, q3⟩, ⟨p0, p1, p2, p3⟩, _⟩ := unhide HSS _ (unhide HK)
  go_wp2_with fail
  go_region_held3 (fun W => W.cell? ⟨w1.heap.size, 0, none⟩ = some (.int .i64 x) ∧ W.cell? ⟨w1.heap.size, 1, none⟩ = some (.int .i64 y) ∧ (W.cell? ⟨w.heap.size + 1, 0, none⟩ = some (cellOf W (w.heap.size + 1) 0) ∧ W.frozen? ⟨w.heap.size + 1, 0, none⟩ = false ∧ W.cell? ⟨w.heap.size + 1, 1, none⟩ = some (cellOf W (w.heap.size + 1) 1) ∧ W.frozen? ⟨w.heap.size + 1, 1, none⟩ = false) ∧ (W.cell? ⟨w.heap.size + 2, 0, none⟩ = some (cellOf W (w.heap.size + 2) 0) ∧ W.frozen? ⟨w.heap.size + 2, 0, none⟩ = false ∧ W.cell? ⟨w.heap.size + 2, 1, none⟩ = some (cellOf W (w.heap.size + 2) 1) ∧ W.frozen? ⟨w.heap.size + 2, 1, none⟩ = false) ∧ Kept [w.heap.size + 1, w.heap.size + 2] Wb W)
    (first | with_reducible exact unhide HSS _ (unhide HK).drew | with_reducible exact unhide HSS _ ((unhide HK).set2 (unhide HM1) _ _).drew | with_reducible exact unhide HSS _ (((unhide HK).set2 (unhide HM1) _ _).set2 (unhide HM2) _ _).drew)
    (fail)
  go_wp2_with fail
  refine bodyPost_ret (v := .tuple #[.agg #[.int .i64 0, .slice none 0 0], .slice none 0 0, .agg #[.int .i64 x, .int .i64 y]]) ?_ rfl ⟨rfl, boxed3_below w nx _ ((unhide HB).trans (((unhide HK).set2 (unhide HM1) _ _).set2 (unhide HM2) _ _).drew)⟩
  simp [results, Try.results6, go_sem, q0, q2, p0, p2]

set_option maxRecDepth 100000 in
set_option maxHeartbeats 1000000 in
theorem refill_ok (w : World) (nx : Int) (v : Value) (zs : List Int) (p : Int) (h : IsInts w v zs) (hz : zs.length ≤ 256) (gb go cg : Nat) (gs : List Int) (hg : IsInts w (.slice (some ⟨gb, go, none⟩) gs.length cg) gs) (hcap : gs.length ≤ cg) (hgm : gs.length ≤ 5000) (hp1 : 1 ≤ p) (hp2 : p ≤ 64) (hf : refillF nx zs gs p = (0, 0)) (k : Nat) (hk : (k : Int) = min (min (min (gs.length / p + 1) gs.length) 128) (256 - zs.length)) :
    Calls Try.prog 6 #[.agg #[.int .i64 nx, v], .slice (some ⟨gb, go, none⟩) gs.length cg, .int .i64 p] w fun e w' => ∃ a1 c1 a2 c2, e = .returned (.tuple #[.agg #[.int .i64 nx, .slice a1 (zs.length + k) c1], .slice a2 (gs.length - k) c2, .agg #[.int .i64 0, .int .i64 0]]) ∧ Own w.heap.size w' (.slice a1 (zs.length + k) c1) (zs ++ gs.take k) ∧ Own w.heap.size w' (.slice a2 (gs.length - k) c2) (gs.drop k) ∧ Below w.heap.size w w' := by
  obtain ⟨a, c, rfl⟩ := Rd.form h
  have HC : Hid (∀ W, Kept [w.heap.size + 1, w.heap.size + 2] (boxed3 w nx (.slice a zs.length c)) W → Calls Try.prog 14 #[.agg #[.int .i64 nx, (.slice a zs.length c)], (.slice (some ⟨gb, go, none⟩) gs.length cg), .int .i64 p] W fun e w' => e = .returned (.agg #[.int .i64 0, .int .i64 0]) ∧ Below W.heap.size W w') := fun W hW => by
    have := checkRefill_any W nx _ zs p (Rd.below h (boxed3_below _ _ _ hW)) (by unfold maxLen; omega) _ gs (Rd.below hg (boxed3_below _ _ _ hW)) (by unfold maxLen; omega)
    rw [hf] at this
    exact this
  have HK0 := hide (boxed3_kept w nx (.slice a zs.length c))
  have HV := hide h; have HG := hide hg
  clear h hg hf
  obtain ⟨m, hm⟩ : ∃ m, zs.length = m := ⟨_, rfl⟩
  obtain ⟨n, hn⟩ : ∃ n, gs.length = n := ⟨_, rfl⟩
  rw [hm, hn] at hk
  have hkn : k ≤ n := by omega
  have hkr : k ≤ 256 - m := by omega
  have HKE := hide hk
  have HMZ := hide hm; have HNG := hide hn
  rw [hm] at hz HV HC HK0 ⊢
  rw [hn] at hgm HG HC hcap ⊢
  clear hk hm hn
  have d0 : (0 : Int) ≤ (n : Int) / p := Int.ediv_nonneg (by omega) (by omega)
  have d1 : (n : Int) / p ≤ (n : Int) := Int.ediv_le_self _ (by omega)
  go_enter Try.func6, Try.ntmps6
  go_upto_region 2 with (go_at_call 14; refine (unhide HC _ (unhide HK0)).mono ?_; rintro e w1 ⟨rfl, hb1⟩; have HK1 := hide ((unhide HK0).call hb1); clear hb1)
  have HB := hide ((unhide HK1).alloc (.cells #[.int .i64 0, .int .i64 0] 27))
  have HT5 := hide (cells_new w1 (.int .i64 0) (.int .i64 0))
  have HSZ : Hid (w1.heap.size < (w1.alloc (.cells #[.int .i64 0, .int .i64 0] 27)).heap.size) := by simp [Hid]
  obtain ⟨Wb, hWb⟩ : ∃ W, w1.alloc (.cells #[.int .i64 0, .int .i64 0] 27) = W := ⟨_, rfl⟩
  rw [hWb] at HB HT5 HSZ ⊢
  clear hWb
  have HK := hide ((unhide HB).again)
  have HM1 : Hid (w.heap.size + 1 ∈ [w.heap.size + 1, w.heap.size + 2]) := by simp [Hid]
  have HM2 : Hid (w.heap.size + 2 ∈ [w.heap.size + 1, w.heap.size + 2]) := by simp [Hid]
  have HSS : Hid (∀ W, Kept [w.heap.size + 1, w.heap.size + 2] Wb W → W.cell? ⟨w.heap.size, 0, none⟩ = some (.int .i64 nx) ∧ W.cell? ⟨w.heap.size, 1, none⟩ = some (.slice a m c) ∧ Kept [w.heap.size + 1, w.heap.size + 2] Wb W) := fun W hW => ⟨(boxed3_args w nx _ ((unhide HB).trans hW)).1, (boxed3_args w nx _ ((unhide HB).trans hW)).2, hW⟩
  obtain ⟨c0, c1, _⟩ := unhide HSS _ (unhide HK)
  obtain ⟨t0, t1⟩ := unhide HT5
  have pne : p ≠ 0 := by omega
  have pneb : (p == 0) = false := by simpa using pne
  go_upto_region 4 with fail
  clear t0 t1
  have wq : IntKind.i64.wrap ((n : Int) / p) = (n : Int) / p := by simp [IntKind.wrap, IntKind.bits, IntKind.signed]; omega
  have wq1 : IntKind.i64.wrap ((n : Int) / p + 1) = (n : Int) / p + 1 := by simp [IntKind.wrap, IntKind.bits, IntKind.signed]; omega
  have hmin : ∀ (W : World) (ts : Array TypeId) (ty : TypeId), (Builtin.min_ ts ty #[.int .i64 (IntKind.i64.wrap (IntKind.i64.wrap ((n : Int) / p) + 1)), .int .i64 n, .int .i64 128, .int .i64 (256 - (m : Int))]).run Try.prog W = .ok (.int .i64 k) W := fun W ts ty => by
    rw [wq, wq1, run_min4]
    rw [unhide HKE]
  clear wq wq1
  go_region_held3 (fun W => W.cell? ⟨w.heap.size, 0, none⟩ = some (.int .i64 nx) ∧ W.cell? ⟨w.heap.size, 1, none⟩ = some (.slice a m c) ∧ Kept [w.heap.size + 1, w.heap.size + 2] Wb W)
    (first | with_reducible exact unhide HSS _ (unhide HK).drew | with_reducible exact unhide HSS _ (unhide HK2))
    (first | (go_at_call 15; refine (room_any _ _ _ _ _ hz).mono ?_; rintro e w2 ⟨rfl, hb2⟩; have HK2 : Hid (Kept [w.heap.size + 1, w.heap.size + 2] Wb w2) := Kept.call (by go_split_ands; assumption) hb2; clear hb2))
  clear hmin c0 c1
  have HFT : Hid (IsInts w (.slice (some ⟨gb, go, none⟩) k cg) (gs.take k)) := part0 (unhide HG) k cg (by rw [unhide HNG]; exact hkn)
  have HFD : Hid (∀ c1, IsInts w (.slice (if cg = k then some ⟨gb, go, none⟩ else some ⟨gb, go + k, none⟩) (n - k) c1) (gs.drop k)) := fun c1 => by
    have hp := IsInts.part (unhide HG) k (n - k) c1 (by rw [unhide HNG]; omega)
    rw [List.take_of_length_le (by rw [List.length_drop, unhide HNG]; omega)] at hp
    split
    · have e0 : n - k = 0 := by omega
      have e2 : gs.drop k = [] := List.eq_nil_of_length_eq_zero (by rw [List.length_drop, unhide HNG]; exact e0)
      rw [e2, e0]
      exact ⟨rfl, Or.inr ⟨_, _, rfl, fun j u hj => by simp at hj⟩⟩
    · exact hp
  have HWL : Hid (∀ W, Kept [w.heap.size + 1, w.heap.size + 2] Wb W → Calls Try.prog 16 #[.agg #[.int .i64 nx, .slice a m c], .slice (some ⟨gb, go, none⟩) k cg] W fun e w' => ∃ a' c', e = .returned (.agg #[.int .i64 nx, .slice a' (m + k) c']) ∧ Own W.heap.size w' (.slice a' (m + k) c') (zs ++ gs.take k) ∧ Below W.heap.size W w') := fun W hW => withLast_any W nx _ zs (Rd.below (unhide HV) (boxed3_below w nx _ ((unhide HB).trans hW))) _ _ (Rd.below (unhide HFT) (boxed3_below w nx _ ((unhide HB).trans hW))) (m + k) (by rw [unhide HMZ, List.length_take, unhide HNG]; omega) (by omega)
  have HFR : Hid (∀ W, Kept [w.heap.size + 1, w.heap.size + 2] Wb W → ∀ c1, Calls Try.prog 17 #[.slice (if cg = k then some ⟨gb, go, none⟩ else some ⟨gb, go + k, none⟩) (n - k) c1] W fun e w' => ∃ a' c', e = .returned (.slice a' (n - k) c') ∧ Own W.heap.size w' (.slice a' (n - k) c') (gs.drop k) ∧ Below W.heap.size W w') := fun W hW c1 => by
    have := fresh_list W _ (gs.drop k) (Rd.below (unhide HFD c1) (boxed3_below w nx _ ((unhide HB).trans hW))) (by rw [List.length_drop, unhide HNG]; omega)
    rw [List.length_drop, unhide HNG] at this
    exact this
  have HS5 : Hid (∀ W, Kept [w.heap.size + 1, w.heap.size + 2] Wb W → W.cell? ⟨w.heap.size, 0, none⟩ = some (.int .i64 nx) ∧ W.cell? ⟨w.heap.size, 1, none⟩ = some (.slice a m c) ∧ (W.cell? ⟨w.heap.size + 1, 0, none⟩ = some (cellOf W (w.heap.size + 1) 0) ∧ W.frozen? ⟨w.heap.size + 1, 0, none⟩ = false ∧ W.cell? ⟨w.heap.size + 1, 1, none⟩ = some (cellOf W (w.heap.size + 1) 1) ∧ W.frozen? ⟨w.heap.size + 1, 1, none⟩ = false) ∧ (W.cell? ⟨w.heap.size + 2, 0, none⟩ = some (cellOf W (w.heap.size + 2) 0) ∧ W.frozen? ⟨w.heap.size + 2, 0, none⟩ = false ∧ W.cell? ⟨w.heap.size + 2, 1, none⟩ = some (cellOf W (w.heap.size + 2) 1) ∧ W.frozen? ⟨w.heap.size + 2, 1, none⟩ = false) ∧ Kept [w.heap.size + 1, w.heap.size + 2] Wb W) := fun W hW => ⟨(boxed3_args w nx _ ((unhide HB).trans hW)).1, (boxed3_args w nx _ ((unhide HB).trans hW)).2, two_there (hW.there _ (by simp)).2, two_there (hW.there _ (by simp)).2, hW⟩
  have i0 : (0 : Int) ≤ (k : Int) := by omega
  have i1 : (k : Int) ≤ (n : Int) := by omega
  have i2 : (k : Int) ≤ (cg : Int) := by omega
  have i3 : (n : Int) ≤ (cg : Int) := by omega
  clear HSS HC HK0 HV HG HFT HFD d0 d1
  go_wp2_with fail
  obtain ⟨c0, c1, ⟨q0, q1, q2, q3⟩, ⟨p0, p1, p2, p3⟩, _⟩ := unhide HS5 _ (unhide HK2)
  by_cases hck : cg = k
  · obtain rfl : n = k := by omega
    subst hck
    have HFR1 : Hid (∀ W, Kept [w.heap.size + 1, w.heap.size + 2] Wb W → ∀ c1, Calls Try.prog 17 #[.slice (some ⟨gb, go, none⟩) 0 c1] W fun e w' => ∃ a' c', e = .returned (.slice a' 0 c') ∧ Own W.heap.size w' (.slice a' 0 c') (gs.drop cg) ∧ Below W.heap.size W w') := fun W hW c1 => by
      have := unhide HFR W hW c1
      rw [if_pos rfl, Nat.sub_self] at this
      exact this
    clear hkn i1 i2 i3 hcap
    clear HFR
    go_region_held3 (fun W => W.cell? ⟨w.heap.size, 0, none⟩ = some (.int .i64 nx) ∧ W.cell? ⟨w.heap.size, 1, none⟩ = some (.slice a m c) ∧ (W.cell? ⟨w.heap.size + 1, 0, none⟩ = some (cellOf W (w.heap.size + 1) 0) ∧ W.frozen? ⟨w.heap.size + 1, 0, none⟩ = false ∧ W.cell? ⟨w.heap.size + 1, 1, none⟩ = some (cellOf W (w.heap.size + 1) 1) ∧ W.frozen? ⟨w.heap.size + 1, 1, none⟩ = false) ∧ (W.cell? ⟨w.heap.size + 2, 0, none⟩ = some (cellOf W (w.heap.size + 2) 0) ∧ W.frozen? ⟨w.heap.size + 2, 0, none⟩ = false ∧ W.cell? ⟨w.heap.size + 2, 1, none⟩ = some (cellOf W (w.heap.size + 2) 1) ∧ W.frozen? ⟨w.heap.size + 2, 1, none⟩ = false) ∧ Kept [w.heap.size + 1, w.heap.size + 2] Wb W)
      (first | with_reducible exact unhide HS5 _ (unhide HK2).drew | with_reducible exact unhide HS5 _ (unhide HK3) | with_reducible exact unhide HS5 _ (unhide HK4) | with_reducible exact unhide HS5 _ ((unhide HK4).set2 (unhide HM1) _ _) | with_reducible exact unhide HS5 _ (((unhide HK4).set2 (unhide HM1) _ _).set2 (unhide HM2) _ _))
      (first
        | (go_at_call 16; (with_reducible refine Calls.mono (unhide HWL w2.drew (unhide HK2).drew) ?_); rintro e w3 ⟨a3, c3, rfl, ho3, hb3⟩; have HK3 : Hid (Kept [w.heap.size + 1, w.heap.size + 2] Wb w3) := Kept.call (unhide HK2).drew hb3; have HO3 : Hid (Own (w.heap.size + 3) w3 (.slice a3 (m + cg) c3) (zs ++ gs.take cg)) := ho3.base (Nat.le_trans (boxed3_size (unhide HB)) (unhide HK2).drew.size); clear ho3 hb3)
        | (go_at_call 17; (with_reducible refine Calls.mono (unhide HFR1 w3 (unhide HK3) _) ?_); rintro e w4 ⟨a4, c4, rfl, ho4, hb4⟩; have HK4 : Hid (Kept [w.heap.size + 1, w.heap.size + 2] Wb w4) := (unhide HK3).call hb4; have HO4 : Hid (Own (w.heap.size + 3) w4 (.slice a4 0 c4) (gs.drop cg)) := ho4.base (Nat.le_trans (boxed3_size (unhide HB)) (unhide HK3).size); have HO5 := hide ((unhide HO3).below hb4); clear ho4 hb4))
    go_wp2_with fail
    obtain ⟨_, _, ⟨u0, u1, u2, u3⟩, ⟨t0, t1, t2, t3⟩, _⟩ := unhide HS5 _ (unhide HK4)
    refine bodyPost_ret (v := .tuple #[.agg #[.int .i64 nx, .slice a3 (m + cg) c3], .slice a4 0 c4, .agg #[.int .i64 0, .int .i64 0]]) ?_ rfl ⟨a3, c3, a4, c4, by rw [Nat.sub_self], (((unhide HO5).set2 (by omega) _ _).set2 (by omega) _ _).base (by omega), by rw [Nat.sub_self]; exact (((unhide HO4).set2 (by omega) _ _).set2 (by omega) _ _).base (by omega), boxed3_below w nx _ ((unhide HB).trans (((unhide HK4).set2 (unhide HM1) _ _).set2 (unhide HM2) _ _))⟩
    simp [results, Try.results6, go_sem, u0, u2, t0, t2]
  · have HFR1 : Hid (∀ W, Kept [w.heap.size + 1, w.heap.size + 2] Wb W → ∀ c1, Calls Try.prog 17 #[.slice (some ⟨gb, go + k, none⟩) (n - k) c1] W fun e w' => ∃ a' c', e = .returned (.slice a' (n - k) c') ∧ Own W.heap.size w' (.slice a' (n - k) c') (gs.drop k) ∧ Below W.heap.size W w') := fun W hW c1 => by
      have := unhide HFR W hW c1
      rw [if_neg hck] at this
      exact this
    clear HFR
    go_region_held3 (fun W => W.cell? ⟨w.heap.size, 0, none⟩ = some (.int .i64 nx) ∧ W.cell? ⟨w.heap.size, 1, none⟩ = some (.slice a m c) ∧ (W.cell? ⟨w.heap.size + 1, 0, none⟩ = some (cellOf W (w.heap.size + 1) 0) ∧ W.frozen? ⟨w.heap.size + 1, 0, none⟩ = false ∧ W.cell? ⟨w.heap.size + 1, 1, none⟩ = some (cellOf W (w.heap.size + 1) 1) ∧ W.frozen? ⟨w.heap.size + 1, 1, none⟩ = false) ∧ (W.cell? ⟨w.heap.size + 2, 0, none⟩ = some (cellOf W (w.heap.size + 2) 0) ∧ W.frozen? ⟨w.heap.size + 2, 0, none⟩ = false ∧ W.cell? ⟨w.heap.size + 2, 1, none⟩ = some (cellOf W (w.heap.size + 2) 1) ∧ W.frozen? ⟨w.heap.size + 2, 1, none⟩ = false) ∧ Kept [w.heap.size + 1, w.heap.size + 2] Wb W)
      (first | with_reducible exact unhide HS5 _ (unhide HK2).drew | with_reducible exact unhide HS5 _ (unhide HK3) | with_reducible exact unhide HS5 _ (unhide HK4) | with_reducible exact unhide HS5 _ ((unhide HK4).set2 (unhide HM1) _ _) | with_reducible exact unhide HS5 _ (((unhide HK4).set2 (unhide HM1) _ _).set2 (unhide HM2) _ _))
      (first
        | (go_at_call 16; (with_reducible refine Calls.mono (unhide HWL w2.drew (unhide HK2).drew) ?_); rintro e w3 ⟨a3, c3, rfl, ho3, hb3⟩; have HK3 : Hid (Kept [w.heap.size + 1, w.heap.size + 2] Wb w3) := Kept.call (unhide HK2).drew hb3; have HO3 : Hid (Own (w.heap.size + 3) w3 (.slice a3 (m + k) c3) (zs ++ gs.take k)) := ho3.base (Nat.le_trans (boxed3_size (unhide HB)) (unhide HK2).drew.size); clear ho3 hb3)
        | (go_at_call 17; (with_reducible refine Calls.mono (unhide HFR1 w3 (unhide HK3) _) ?_); rintro e w4 ⟨a4, c4, rfl, ho4, hb4⟩; have HK4 : Hid (Kept [w.heap.size + 1, w.heap.size + 2] Wb w4) := (unhide HK3).call hb4; have HO4 : Hid (Own (w.heap.size + 3) w4 (.slice a4 (n - k) c4) (gs.drop k)) := ho4.base (Nat.le_trans (boxed3_size (unhide HB)) (unhide HK3).size); have HO5 := hide ((unhide HO3).below hb4); clear ho4 hb4))
    go_wp2_with fail
    obtain ⟨_, _, ⟨u0, u1, u2, u3⟩, ⟨t0, t1, t2, t3⟩, _⟩ := unhide HS5 _ (unhide HK4)
    refine bodyPost_ret (v := .tuple #[.agg #[.int .i64 nx, .slice a3 (m + k) c3], .slice a4 (n - k) c4, .agg #[.int .i64 0, .int .i64 0]]) ?_ rfl ⟨a3, c3, a4, c4, rfl, (((unhide HO5).set2 (by omega) _ _).set2 (by omega) _ _).base (by omega), (((unhide HO4).set2 (by omega) _ _).set2 (by omega) _ _).base (by omega), boxed3_below w nx _ ((unhide HB).trans (((unhide HK4).set2 (unhide HM1) _ _).set2 (unhide HM2) _ _))⟩
    simp [results, Try.results6, go_sem, u0, u2, t0, t2]

end Go.Proofs.Ytcdnennfimbgoab
