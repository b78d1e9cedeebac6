/-
  taskmilllaw.ownClock; taskmillref.NoAlarm.
-/
import Derived.Test.YtidpmcanfedbdaaHb
namespace Go.Proofs.Ytidpmcanfedbdaa
open Go.RowKit

set_option maxRecDepth 100000 in
set_option maxHeartbeats 2000000 in
theorem ownClock_any (w : World) (v : Value) (now next : Int) (xs : List Al) (h : IsC w v now next xs) (hn : xs.length * 32 ≤ 140737488355328) :
    Calls Try.prog 10 #[v] w fun e w' => ∃ a c, e = .returned (.agg #[.int .i64 now, .int .i64 next, .slice a xs.length c]) ∧ IsL KA w' (.slice a xs.length c) xs ∧ Below w.heap.size w w' := by
  obtain ⟨a0, c0, rfl, hL⟩ := h.form
  have HL := hide hL
  obtain ⟨n, en⟩ : ∃ n, xs.length = n := ⟨_, rfl⟩
  rw [en] at HL hn ⊢
  have HN := hide en
  clear h hL en
  obtain ⟨W0, e0, hB, k0, k1⟩ := two_new w (.cells #[.int .i64 now, .int .i64 next, .slice a0 n c0] 24) (.cells #[.int .i64 0, .int .i64 0, .slice none 0 0] 24)
  have HX := hide hB; have HP := hide k0; have HQ := hide k1; have HE := hide e0
  clear hB k0 k1 e0
  go_enter Try.func10, Try.ntmps10
  go_upto_region 1 with fail
  rw [unhide HE]
  clear HE
  have HSS : Hid (∀ W, Below W0.heap.size W0 W → W.cell? ⟨w.heap.size, 0, none⟩ = some (.int .i64 now) ∧ W.cell? ⟨w.heap.size, 1, none⟩ = some (.int .i64 next) ∧ W.cell? ⟨w.heap.size, 2, none⟩ = some (.slice a0 n c0)) := fun W hW => (block3 (keep_below (unhide HP) hW)).1
  obtain ⟨k0, k1, k2⟩ := unhide HSS _ (Below.refl _ _)
  have HSK : Hid (∀ W : World, W.heap[w.heap.size]? = some (.cells #[.int .i64 now, .int .i64 next, .slice a0 n c0] 24 (0, 0)) → W.cell? ⟨w.heap.size, 0, none⟩ = some (.int .i64 now) ∧ W.cell? ⟨w.heap.size, 1, none⟩ = some (.int .i64 next) ∧ W.cell? ⟨w.heap.size, 2, none⟩ = some (.slice a0 n c0)) := fun W hW => (block3 hW).1
  have HLD : Hid (IsL KA W0.drew (.slice a0 n c0) xs) := ((unhide HL).below (unhide HX)).below (Below.refl _ _).drew
  have HON : Hid (Own KA W0.heap.size W0.drew (.slice none 0 0) []) := own_nil _ _
  have HNN : Hid (([] : List Al).length + xs.length = n) := by rw [unhide HN]; exact Nat.zero_add n
  go_wp2_with fail
  go_region_held3 (fun W => W.cell? ⟨w.heap.size, 0, none⟩ = some (.int .i64 now) ∧ W.cell? ⟨w.heap.size, 1, none⟩ = some (.int .i64 next) ∧ W.cell? ⟨w.heap.size, 2, none⟩ = some (.slice a0 n c0))
    (first | with_reducible exact unhide HSS _ (Below.refl _ _).drew | with_reducible exact unhide HSS _ (unhide HB6) | (refine unhide HSK _ ?_ <;> repeat' (first | with_reducible exact unhide HP6 | (with_reducible refine keep_set ?_ ?_) | omega)))
    (first | (refine step_append ka (by rfl) (.const (.slice none 0 0)) (.tmp 8) rfl W0.heap.size (.slice none 0 0) [] rfl (unhide HON) (.slice a0 n c0) xs rfl (unhide HLD) n (unhide HNN) (show n * 32 ≤ 140737488355328 from hn) (show W0.heap.size ≤ W0.drew.heap.size from Nat.le_refl _) ?_; intro a6 c6 w6 ho6 hg6; have HO6 := hide (own_nil_append ho6); have HB6 : Hid (Below W0.heap.size W0 w6) := Below.grown (Below.drew (Below.refl W0.heap.size W0)) hg6 (Nat.le_refl _) (fun k hk => nomatch hk); have HP6 := hide (keep_below (unhide HP) (unhide HB6)); have HQ6 := hide (keep_below (unhide HQ) (unhide HB6)); obtain ⟨⟨q0, q1, q2⟩, ⟨qf0, qf1, qf2⟩, ql⟩ := block3 (unhide HQ6); clear ho6 hg6))
  all_goals
    go_wp2_with fail
    refine bodyPost_ret (v := .agg #[.int .i64 now, .int .i64 next, .slice a6 n c6]) (by simp [results, Try.results10, go_sem, q0, q1, q2]) rfl ⟨a6, c6, rfl, ?_, ?_⟩
    · exact (putL_own (unhide HO6) (unhide HQ6) (by decide)).isl
    · exact putL_below (Below.next (unhide HX) (unhide HB6) (Nat.le_refl _)) (by omega)

theorem noL_take {id : Int} {xs : List Al} {j : Nat} (hj : j < xs.length) : noL id (xs.take (j + 1)) = noL id (xs.take j) ++ (if (aAt xs j).1 == id then [] else [aAt xs j]) := by
  unfold noL
  rw [left_take hj]
theorem any_take {xs : List Al} {j : Nat} (p : Al → Bool) (hj : j < xs.length) : (xs.take (j + 1)).any p = ((xs.take j).any p || p (aAt xs j)) := by
  rw [take_at hj, List.any_append]
  simp
theorem noL_cons (id : Int) (x : Al) (l : List Al) : noL id (x :: l) = if (x.1 == id) = true then noL id l else x :: noL id l := by
  unfold noL leftL
  rw [List.filter_cons]
  show (if (!(x.1 == id)) = true then x :: List.filter _ l else List.filter _ l) = _
  cases x.1 == id <;> rfl
theorem noL_was (id : Int) (xs : List Al) : decide ((noL id xs).length < xs.length) = xs.any (fun p => p.1 == id) := by
  induction xs with
  | nil => rfl
  | cons x l ih =>
    have hle : (noL id l).length ≤ l.length := (noL_sub id l).length_le
    rw [noL_cons, List.any_cons]
    cases hx : (x.1 == id) with
    | true =>
      rw [if_pos rfl, Bool.true_or, List.length_cons]
      exact decide_eq_true (by omega)
    | false =>
      rw [if_neg (by simp), Bool.false_or, List.length_cons, List.length_cons, ← ih]
      by_cases hlt : (noL id l).length < l.length
      · rw [decide_eq_true hlt, decide_eq_true (by omega)]
      · rw [decide_eq_false hlt, decide_eq_false (by omega)]

set_option maxRecDepth 100000 in
set_option maxHeartbeats 2000000 in
theorem noAlarm_any (w : World) (v : Value) (now next : Int) (xs : List Al) (id : Int) (h : IsC w v now next xs) (hn : xs.length ≤ 100000) :
    Calls Try.prog 18 #[v, .int .i64 id] w fun e w' => ∃ a c, e = .returned (.tuple #[.agg #[.int .i64 now, .int .i64 next, .slice a (noL id xs).length c], .bool (xs.any (fun p => p.1 == id))]) ∧ IsL KA w' (.slice a (noL id xs).length c) (noL id xs) ∧ Below w.heap.size w w' := by
  obtain ⟨a0, c0, rfl, hL⟩ := h.form
  have H0 := hide (hL.opens ka rfl)
  obtain ⟨n, en⟩ : ∃ n, xs.length = n := ⟨_, rfl⟩
  rw [en] at H0 hn ⊢
  have HN := hide en
  clear h hL en
  obtain ⟨W0, e0, hB, k0, k1⟩ := two_new w (.cells #[.int .i64 now, .int .i64 next, .slice a0 n c0] 24) (.cells #[.int .i64 0, .int .i64 0, .slice none 0 0] 24)
  have HX := hide hB; have HP := hide k0; have HQ := hide k1; have HE := hide e0
  clear hB k0 k1 e0
  go_enter Try.func18, Try.ntmps18
  go_upto_region 1 with fail
  rw [unhide HE]
  clear HE
  obtain ⟨⟨p0, p1, p2⟩, -, pl⟩ := block3 (unhide HP)
  go_wp2_with fail
  go_loopw [6, 7, 8] (fun o b i W => ∃ (j : Nat) (a : Option Addr) (m c : Nat) (ys : List Al) (r : Bool), j ≤ n ∧ m ≤ j ∧ i = .int .i64 j ∧ o = .slice a m c ∧ b = .bool r ∧ Hid (ys.length = m) ∧ Hid (ys = noL id (xs.take j)) ∧ Hid (r = (xs.take j).any (fun p => p.1 == id)) ∧ Hid (Own KA W0.heap.size W (.slice a m c) ys) ∧ Hid (Below W0.heap.size W0 W)) (fun _ _ i _ => n - (intOf i).toNat)
  case atStart => exact ⟨0, none, 0, 0, [], false, Nat.zero_le _, Nat.le_refl _, rfl, rfl, rfl, rfl, rfl, rfl, own_nil _ _, Below.refl _ _⟩
  case round =>
    obtain ⟨j, a, m, c, ys, r, hj, hmj, rfl, rfl, rfl, HYL, HYE, HRE, HO, HB⟩ := hrel
    have HP2 := hide (keep_below (unhide HP) (unhide HB)); have HQ2 := hide (keep_below (unhide HQ) (unhide HB))
    have HXA := hide (Below.next (unhide HX) (unhide HB) (Nat.le_refl _))
    clear p0 p1 p2 pl
    obtain ⟨⟨p0, p1, p2⟩, -, pl⟩ := block3 (unhide HP2)
    by_cases hlt : j < n
    · obtain ⟨b0, o0, rfl, hb0, l0⟩ := unhide H0 (by omega)
      have hjx : j < xs.length := by rw [unhide HN]; exact hlt
      have HT := hide (noL_take (id := id) hjx); have HA := hide (any_take (fun p => p.1 == id) hjx)
      obtain ⟨⟨t, d, u, y⟩, hx⟩ : ∃ x, aAt xs j = x := ⟨_, rfl⟩
      rw [hx] at HT HA
      have HLL := hide (l0.below (unhide HXA) hb0)
      obtain ⟨k0, k1, k2, k3⟩ := (unhide HLL).alarm (j := j) hjx hx
      have i0 : (0 : Int) ≤ (j : Int) := by omega
      have i1 : (j : Int) < (n : Int) := by omega
      have HX5 := hide hx
      clear H0 l0 hx hjx
      cases hid : (t == id) with
      | true =>
        go_wp2_with fail
        go_roundw
        case rel => exact ⟨j + 1, a, m, c, ys, true, by omega, by omega, by go_num, rfl, rfl, HYL, hide (by rw [unhide HT, ← unhide HYE, if_pos hid, List.append_nil]), hide (by rw [unhide HA]; simp only [hid, Bool.or_true]), HO, HB⟩
        case measure => simp [intOf]; omega
      | false =>
        have HI : Hid (IsL KA (wr.alloc (.cells #[.int .i64 t, .int .i64 d, .int .i64 u, .int .i64 y] 42)) (.slice (some ⟨wr.heap.size, 0, none⟩) 1 1) [(t, d, u, y)]) := isl_one ka wr (t, d, u, y)
        have HOa := hide ((unhide HO).below ((Below.refl _ _).alloc (Nat.le_refl _) (.cells #[.int .i64 t, .int .i64 d, .int .i64 u, .int .i64 y] 42)))
        have HBa := hide ((unhide HB).alloc (unhide HB).size (.cells #[.int .i64 t, .int .i64 d, .int .i64 u, .int .i64 y] 42))
        go_wp2_with (at_builtin; refine wpList_append ka rfl _ _ rfl W0.heap.size _ ys rfl (unhide HOa) _ [(t, d, u, y)] rfl (unhide HI) (m + 1) (by simp [unhide HYL]) (by simp [KA]; omega) (unhide HBa).size ?_; intro a6 c6 w6 ho6 hg6; have HO6 := hide ho6; have HB6 := hide ((unhide HBa).grown hg6 (unhide HBa).size (fun k hk => ((unhide HOa).lt k hk).1)); clear ho6 hg6)
        go_roundw
        case rel => exact ⟨j + 1, a6, m + 1, c6, ys ++ [(t, d, u, y)], r, by omega, by omega, by go_num, rfl, rfl, hide (by rw [List.length_append, unhide HYL]; rfl), hide (by rw [unhide HT, ← unhide HYE, if_neg (by rw [hid]; decide)]), hide (by rw [unhide HA, ← unhide HRE]; simp only [hid, Bool.or_false]), HO6, HB6⟩
        case measure => simp [intOf]; omega
    · have hjn : j = n := by omega
      subst hjn
      have i1 : ¬ (j : Int) < (j : Int) := by omega
      obtain ⟨⟨q0, q1, q2⟩, ⟨qf0, qf1, qf2⟩, ql⟩ := block3 (unhide HQ2)
      go_wp2_with fail
      have htk : xs.take j = xs := List.take_of_length_le (by rw [unhide HN]; exact Nat.le_refl _)
      have hye := unhide HYE
      rw [htk] at hye
      have hre := unhide HRE
      rw [htk] at hre
      refine bodyPost_ret (v := .tuple #[.agg #[.int .i64 now, .int .i64 next, .slice a m c], .bool r]) (by simp [results, Try.results18, go_sem, q0, q1, q2]) rfl ⟨a, c, ?_, ?_, ?_⟩
      · rw [← hye, ← hre, unhide HYL]
      · rw [← hye, unhide HYL]
        exact (putL_own (unhide HO) (unhide HQ2) (by decide)).isl
      · exact putL_below (unhide HXA) (by omega)

end Go.Proofs.Ytidpmcanfedbdaa
