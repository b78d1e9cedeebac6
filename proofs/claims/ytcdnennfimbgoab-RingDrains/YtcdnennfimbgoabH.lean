/-
  ring.Take, of a ring without Next.
-/
import Derived.Test.YtcdnennfimbgoabG
namespace Go.Proofs.Ytcdnennfimbgoab
open Go.RowKit

set_option maxRecDepth 100000 in
set_option maxHeartbeats 400000 in
theorem rtake_first (w : World) (b off c n : Nat) (z : Int) (zt : List Int) (hl : zt.length = n) (h : IsInts w (.slice (some ⟨b, off, none⟩) (n + 1) c) (z :: zt)) (hcap : n + 1 ≤ c) (hm : (n + 1) * 8 ≤ 140737488355328) (hf : ringF 0 (z :: zt) = (0, 0)) :
    Calls Try.prog 7 #[.agg #[.int .i64 0, (.slice (some ⟨b, off, none⟩) (n + 1) c)]] w fun e w' => ∃ a' c', e = .returned (.tuple #[.agg #[.int .i64 0, .slice a' n c'], .int .i64 z, .agg #[.int .i64 0, .int .i64 0]]) ∧ Own w.heap.size w' (.slice a' n c') zt ∧ Below w.heap.size w w' := by
  have HC : Hid (∀ W, Kept [w.heap.size + 1, w.heap.size + 2] (boxed3 w 0 (.slice (some ⟨b, off, none⟩) (n + 1) c)) W → Calls Try.prog 18 #[.agg #[.int .i64 0, (.slice (some ⟨b, off, none⟩) (n + 1) c)]] W fun e w' => e = .returned (.agg #[.int .i64 0, .int .i64 0]) ∧ Below W.heap.size W w') := fun W hW => by
    have := rcheck_any W 0 _ (z :: zt) (Rd.below h (boxed3_below _ _ _ hW)) (by simp [maxLen]; omega)
    rw [hf] at this
    exact this
  have HK0 := hide (boxed3_kept w 0 (.slice (some ⟨b, off, none⟩) (n + 1) c))
  have HZ : Hid (w.cell? ⟨b, off, none⟩ = some (.int .i64 z) ∧ b < w.heap.size) := by
    obtain ⟨b', off', c', e, hb', hc'⟩ := IsInts.at h (by simp)
    cases e
    exact ⟨hc' 0 (by simp), hb'⟩
  have HV : Hid (∀ c1, IsInts w (.slice (if c = 1 then some ⟨b, off, none⟩ else some ⟨b, off + 1, none⟩) n c1) zt) := fun c1 => by
    have h1 := IsInts.part h 1 n c1 (by simp; omega)
    have e1 : ((z :: zt).drop 1).take n = zt := by rw [List.drop_one, List.tail_cons, List.take_of_length_le (by omega)]
    rw [e1] at h1
    split
    · have e0 : n = 0 := by omega
      have e2 : zt = [] := List.eq_nil_of_length_eq_zero (by omega)
      subst e2
      subst e0
      exact ⟨rfl, Or.inr ⟨_, _, rfl, fun j u hj => by simp at hj⟩⟩
    · exact h1
  clear h hf
  go_enter Try.func7, Try.ntmps7
  go_upto_region 4 with (go_at_call 18; refine (unhide HC _ (unhide HK0)).mono ?_; rintro e w1 ⟨rfl, hb1⟩; have HK1 := hide ((unhide HK0).call hb1); clear hb1)
  have HB := hide ((unhide HK1).alloc (.cells #[.int .i64 0, .int .i64 0] 27))
  have HHE := hide (MapKept.heap_alloc w1 (.cells #[.int .i64 0, .int .i64 0] 27)).1
  have HSZ : Hid (w1.heap.size < (w1.alloc (.cells #[.int .i64 0, .int .i64 0] 27)).heap.size) := by simp [Hid]
  obtain ⟨Wb, hWb⟩ : ∃ W, w1.alloc (.cells #[.int .i64 0, .int .i64 0] 27) = W := ⟨_, rfl⟩
  rw [hWb] at HB HHE HSZ ⊢
  clear hWb
  have HK := hide ((unhide HB).again)
  have HM1 : Hid (w.heap.size + 1 ∈ [w.heap.size + 1, w.heap.size + 2]) := by simp [Hid]
  have HM2 : Hid (w.heap.size + 2 ∈ [w.heap.size + 1, w.heap.size + 2]) := by simp [Hid]
  have HSS : Hid (∀ W, Kept [w.heap.size + 1, w.heap.size + 2] Wb W → W.cell? ⟨w.heap.size, 1, none⟩ = some (.slice (some ⟨b, off, none⟩) (n + 1) c) ∧ W.cell? ⟨b, off, none⟩ = some (.int .i64 z) ∧ (W.cell? ⟨w.heap.size + 1, 0, none⟩ = some (cellOf W (w.heap.size + 1) 0) ∧ W.frozen? ⟨w.heap.size + 1, 0, none⟩ = false ∧ W.cell? ⟨w.heap.size + 1, 1, none⟩ = some (cellOf W (w.heap.size + 1) 1) ∧ W.frozen? ⟨w.heap.size + 1, 1, none⟩ = false) ∧ (W.cell? ⟨w.heap.size + 2, 0, none⟩ = some (cellOf W (w.heap.size + 2) 0) ∧ W.frozen? ⟨w.heap.size + 2, 0, none⟩ = false ∧ W.cell? ⟨w.heap.size + 2, 1, none⟩ = some (cellOf W (w.heap.size + 2) 1) ∧ W.frozen? ⟨w.heap.size + 2, 1, none⟩ = false) ∧ Kept [w.heap.size + 1, w.heap.size + 2] Wb W) := fun W hW =>
    ⟨(boxed3_args w 0 _ ((unhide HB).trans hW)).2, ((boxed3_below w 0 _ ((unhide HB).trans hW)).cell (p := ⟨b, off, none⟩) (unhide HZ).2).trans (unhide HZ).1, two_there (hW.there _ (by simp)).2, two_there (hW.there _ (by simp)).2, hW⟩
  have HFR : Hid (∀ W, Kept [w.heap.size + 1, w.heap.size + 2] Wb W → ∀ c1, Calls Try.prog 17 #[(.slice (if c = 1 then some ⟨b, off, none⟩ else some ⟨b, off + 1, none⟩) n c1)] W fun e w' => ∃ a' c', e = .returned (.slice a' n c') ∧ Own W.heap.size w' (.slice a' n c') zt ∧ Below W.heap.size W w') := fun W hW c1 => by
    have := fresh_list W _ zt (Rd.below (unhide HV c1) (boxed3_below w 0 _ ((unhide HB).trans hW))) (by omega)
    rw [hl] at this
    exact this
  have i0 : (0 : Int) ≤ (n : Int) := by omega
  have i1 : (1 : Int) ≤ (n : Int) + 1 := by omega
  have i2 : (n : Int) + 1 ≤ (c : Int) := by omega
  have i3 : (0 : Int) < (n : Int) + 1 := by omega
  have i4 : (1 : Int) ≤ (c : Int) := by omega
  have i5 : (0 : Int) ≤ (n : Int) + 1 := by omega
  obtain ⟨k1, k2, ⟨q0, q1, q2, q3⟩, ⟨p0, p1, p2, p3⟩, _⟩ := unhide HSS _ (unhide HK)
  have k0 := (boxed3_args w 0 _ (unhide HB)).1
  go_upto_region 8 with fail
  clear k0
  by_cases hc1 : c = 1
  · have HFR1 : Hid (∀ W, Kept [w.heap.size + 1, w.heap.size + 2] Wb W → ∀ c1, Calls Try.prog 17 #[.slice (some ⟨b, off, none⟩) n c1] W fun e w' => ∃ a' c', e = .returned (.slice a' n c') ∧ Own W.heap.size w' (.slice a' n c') zt ∧ Below W.heap.size W w') := fun W hW c1 => by
      have := unhide HFR W hW c1
      rw [if_pos hc1] at this
      exact this
    clear HFR
    go_region_held3 (fun W => W.cell? ⟨w.heap.size, 1, none⟩ = some (.slice (some ⟨b, off, none⟩) (n + 1) c) ∧ W.cell? ⟨b, off, none⟩ = some (.int .i64 z) ∧ (W.cell? ⟨w.heap.size + 1, 0, none⟩ = some (cellOf W (w.heap.size + 1) 0) ∧ W.frozen? ⟨w.heap.size + 1, 0, none⟩ = false ∧ W.cell? ⟨w.heap.size + 1, 1, none⟩ = some (cellOf W (w.heap.size + 1) 1) ∧ W.frozen? ⟨w.heap.size + 1, 1, none⟩ = false) ∧ (W.cell? ⟨w.heap.size + 2, 0, none⟩ = some (cellOf W (w.heap.size + 2) 0) ∧ W.frozen? ⟨w.heap.size + 2, 0, none⟩ = false ∧ W.cell? ⟨w.heap.size + 2, 1, none⟩ = some (cellOf W (w.heap.size + 2) 1) ∧ W.frozen? ⟨w.heap.size + 2, 1, none⟩ = false) ∧ Kept [w.heap.size + 1, w.heap.size + 2] Wb W)
      (first | with_reducible exact unhide HSS _ (unhide HK).drew | with_reducible exact unhide HSS _ (unhide HK2) | with_reducible exact unhide HSS _ ((unhide HK2).set2 (unhide HM1) _ _) | with_reducible exact unhide HSS _ (((unhide HK2).set2 (unhide HM1) _ _).set2 (unhide HM2) _ _))
      (first | (go_at_call 17; refine (unhide HFR1 _ (by go_split_ands; assumption) _).mono ?_; rintro e w2 ⟨a', c', rfl, hl, hb2⟩; have HK2 : Hid (Kept [w.heap.size + 1, w.heap.size + 2] Wb w2) := Kept.call (by go_split_ands; assumption) hb2; have HL : Hid (Own (w.heap.size + 3) w2 (.slice a' n c') zt) := hl.base (Nat.le_trans (boxed3_size (unhide HB)) (Kept.size (Rs := [w.heap.size + 1, w.heap.size + 2]) (by go_split_ands; assumption))); clear hl hb2))
    go_wp2_with fail
    obtain ⟨_, _, ⟨u0, u1, u2, u3⟩, ⟨t0, t1, t2, t3⟩, _⟩ := unhide HSS _ (unhide HK2)
    refine bodyPost_ret (v := .tuple #[.agg #[.int .i64 0, .slice a' n c'], .int .i64 z, .agg #[.int .i64 0, .int .i64 0]]) ?_ rfl ⟨a', c', rfl, (((unhide HL).set2 (by omega) _ _).set2 (by omega) _ _).base (by omega), boxed3_below w 0 _ ((unhide HB).trans (((unhide HK2).set2 (unhide HM1) _ _).set2 (unhide HM2) _ _))⟩
    simp [results, Try.results7, go_sem, u0, u2, t0, t2]
  · have HFR1 : Hid (∀ W, Kept [w.heap.size + 1, w.heap.size + 2] Wb W → ∀ c1, Calls Try.prog 17 #[.slice (some ⟨b, off + 1, none⟩) n c1] W fun e w' => ∃ a' c', e = .returned (.slice a' n c') ∧ Own W.heap.size w' (.slice a' n c') zt ∧ Below W.heap.size W w') := fun W hW c1 => by
      have := unhide HFR W hW c1
      rw [if_neg hc1] at this
      exact this
    clear HFR
    go_region_held3 (fun W => W.cell? ⟨w.heap.size, 1, none⟩ = some (.slice (some ⟨b, off, none⟩) (n + 1) c) ∧ W.cell? ⟨b, off, none⟩ = some (.int .i64 z) ∧ (W.cell? ⟨w.heap.size + 1, 0, none⟩ = some (cellOf W (w.heap.size + 1) 0) ∧ W.frozen? ⟨w.heap.size + 1, 0, none⟩ = false ∧ W.cell? ⟨w.heap.size + 1, 1, none⟩ = some (cellOf W (w.heap.size + 1) 1) ∧ W.frozen? ⟨w.heap.size + 1, 1, none⟩ = false) ∧ (W.cell? ⟨w.heap.size + 2, 0, none⟩ = some (cellOf W (w.heap.size + 2) 0) ∧ W.frozen? ⟨w.heap.size + 2, 0, none⟩ = false ∧ W.cell? ⟨w.heap.size + 2, 1, none⟩ = some (cellOf W (w.heap.size + 2) 1) ∧ W.frozen? ⟨w.heap.size + 2, 1, none⟩ = false) ∧ Kept [w.heap.size + 1, w.heap.size + 2] Wb W)
      (first | with_reducible exact unhide HSS _ (unhide HK).drew | with_reducible exact unhide HSS _ (unhide HK2) | with_reducible exact unhide HSS _ ((unhide HK2).set2 (unhide HM1) _ _) | with_reducible exact unhide HSS _ (((unhide HK2).set2 (unhide HM1) _ _).set2 (unhide HM2) _ _))
      (first | (go_at_call 17; refine (unhide HFR1 _ (by go_split_ands; assumption) _).mono ?_; rintro e w2 ⟨a', c', rfl, hl, hb2⟩; have HK2 : Hid (Kept [w.heap.size + 1, w.heap.size + 2] Wb w2) := Kept.call (by go_split_ands; assumption) hb2; have HL : Hid (Own (w.heap.size + 3) w2 (.slice a' n c') zt) := hl.base (Nat.le_trans (boxed3_size (unhide HB)) (Kept.size (Rs := [w.heap.size + 1, w.heap.size + 2]) (by go_split_ands; assumption))); clear hl hb2))
    go_wp2_with fail
    obtain ⟨_, _, ⟨u0, u1, u2, u3⟩, ⟨t0, t1, t2, t3⟩, _⟩ := unhide HSS _ (unhide HK2)
    refine bodyPost_ret (v := .tuple #[.agg #[.int .i64 0, .slice a' n c'], .int .i64 z, .agg #[.int .i64 0, .int .i64 0]]) ?_ rfl ⟨a', c', rfl, (((unhide HL).set2 (by omega) _ _).set2 (by omega) _ _).base (by omega), boxed3_below w 0 _ ((unhide HB).trans (((unhide HK2).set2 (unhide HM1) _ _).set2 (unhide HM2) _ _))⟩
    simp [results, Try.results7, go_sem, u0, u2, t0, t2]
end Go.Proofs.Ytcdnennfimbgoab
