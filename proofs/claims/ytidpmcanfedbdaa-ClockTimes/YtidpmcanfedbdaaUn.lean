/-
  taskmillref.NoAlarm, once more: its list is a row of its own.
-/
import Derived.Test.YtidpmcanfedbdaaSn
namespace Go.Proofs.Ytidpmcanfedbdaa
open Go.RowKit

set_option maxRecDepth 100000 in
set_option maxHeartbeats 2000000 in
theorem noAlarm_own (w : World) (v : Value) (now next : Int) (xs : List Al) (id : Int) (h : IsC w v now next xs) (hn : xs.length ≤ 100000) :
    Calls Try.prog 18 #[v, .int .i64 id] w fun e w' => ∃ a c, e = .returned (.tuple #[.agg #[.int .i64 now, .int .i64 next, .slice a (noL id xs).length c], .bool (xs.any (fun p => p.1 == id))]) ∧ Own KA w.heap.size w' (.slice a (noL id xs).length c) (noL id xs) ∧ Below w.heap.size w w' := by
  obtain ⟨a0, c0, rfl, hL⟩ := h.form
  have H0 := hide (hL.opens ka rfl)
  obtain ⟨n, en⟩ : ∃ n, xs.length = n := ⟨_, rfl⟩
  rw [en] at H0 hn ⊢
  have HN := hide en
  clear h hL en
  obtain ⟨W0, e0, hB, k0, k1⟩ := two_new w (.cells #[.int .i64 now, .int .i64 next, .slice a0 n c0] 24) (.cells #[.int .i64 0, .int .i64 0, .slice none 0 0] 24)
  have HX := hide hB; have HP := hide k0; have HQ := hide k1; have HE := hide e0
  clear hB k0 k1 e0
  go_enter Try.func18, Try.ntmps18
  go_upto_region 1 with fail
  rw [unhide HE]
  clear HE
  obtain ⟨⟨p0, p1, p2⟩, -, pl⟩ := block3 (unhide HP)
  go_wp2_with fail
  go_loopw [6, 7, 8] (fun o b i W => ∃ (j : Nat) (a : Option Addr) (m c : Nat) (ys : List Al) (r : Bool), j ≤ n ∧ m ≤ j ∧ i = .int .i64 j ∧ o = .slice a m c ∧ b = .bool r ∧ Hid (ys.length = m) ∧ Hid (ys = noL id (xs.take j)) ∧ Hid (r = (xs.take j).any (fun p => p.1 == id)) ∧ Hid (Own KA W0.heap.size W (.slice a m c) ys) ∧ Hid (Below W0.heap.size W0 W)) (fun _ _ i _ => n - (intOf i).toNat)
  case atStart => exact ⟨0, none, 0, 0, [], false, Nat.zero_le _, Nat.le_refl _, rfl, rfl, rfl, rfl, rfl, rfl, own_nil _ _, Below.refl _ _⟩
  case round =>
    obtain ⟨j, a, m, c, ys, r, hj, hmj, rfl, rfl, rfl, HYL, HYE, HRE, HO, HB⟩ := hrel
    have HP2 := hide (keep_below (unhide HP) (unhide HB)); have HQ2 := hide (keep_below (unhide HQ) (unhide HB))
    have HXA := hide (Below.next (unhide HX) (unhide HB) (Nat.le_refl _))
    clear p0 p1 p2 pl
    obtain ⟨⟨p0, p1, p2⟩, -, pl⟩ := block3 (unhide HP2)
    by_cases hlt : j < n
    · obtain ⟨b0, o0, rfl, hb0, l0⟩ := unhide H0 (by omega)
      have hjx : j < xs.length := by rw [unhide HN]; exact hlt
      have HT := hide (noL_take (id := id) hjx); have HA := hide (any_take (fun p => p.1 == id) hjx)
      obtain ⟨⟨t, d, u, y⟩, hx⟩ : ∃ x, aAt xs j = x := ⟨_, rfl⟩
      rw [hx] at HT HA
      have HLL := hide (l0.below (unhide HXA) hb0)
      obtain ⟨k0, k1, k2, k3⟩ := (unhide HLL).alarm (j := j) hjx hx
      have i0 : (0 : Int) ≤ (j : Int) := by omega
      have i1 : (j : Int) < (n : Int) := by omega
      have HX5 := hide hx
      clear H0 l0 hx hjx
      cases hid : (t == id) with
      | true =>
        go_wp2_with fail
        go_roundw
        case rel => exact ⟨j + 1, a, m, c, ys, true, by omega, by omega, by go_num, rfl, rfl, HYL, hide (by rw [unhide HT, ← unhide HYE, if_pos hid, List.append_nil]), hide (by rw [unhide HA]; simp only [hid, Bool.or_true]), HO, HB⟩
        case measure => simp [intOf]; omega
      | false =>
        have HI : Hid (IsL KA (wr.alloc (.cells #[.int .i64 t, .int .i64 d, .int .i64 u, .int .i64 y] 42)) (.slice (some ⟨wr.heap.size, 0, none⟩) 1 1) [(t, d, u, y)]) := isl_one ka wr (t, d, u, y)
        have HOa := hide ((unhide HO).below ((Below.refl _ _).alloc (Nat.le_refl _) (.cells #[.int .i64 t, .int .i64 d, .int .i64 u, .int .i64 y] 42)))
        have HBa := hide ((unhide HB).alloc (unhide HB).size (.cells #[.int .i64 t, .int .i64 d, .int .i64 u, .int .i64 y] 42))
        go_wp2_with (at_builtin; refine wpList_append ka rfl _ _ rfl W0.heap.size _ ys rfl (unhide HOa) _ [(t, d, u, y)] rfl (unhide HI) (m + 1) (by simp [unhide HYL]) (by simp [KA]; omega) (unhide HBa).size ?_; intro a6 c6 w6 ho6 hg6; have HO6 := hide ho6; have HB6 := hide ((unhide HBa).grown hg6 (unhide HBa).size (fun k hk => ((unhide HOa).lt k hk).1)); clear ho6 hg6)
        go_roundw
        case rel => exact ⟨j + 1, a6, m + 1, c6, ys ++ [(t, d, u, y)], r, by omega, by omega, by go_num, rfl, rfl, hide (by rw [List.length_append, unhide HYL]; rfl), hide (by rw [unhide HT, ← unhide HYE, if_neg (by rw [hid]; decide)]), hide (by rw [unhide HA, ← unhide HRE]; simp only [hid, Bool.or_false]), HO6, HB6⟩
        case measure => simp [intOf]; omega
    · have hjn : j = n := by omega
      subst hjn
      have i1 : ¬ (j : Int) < (j : Int) := by omega
      obtain ⟨⟨q0, q1, q2⟩, ⟨qf0, qf1, qf2⟩, ql⟩ := block3 (unhide HQ2)
      go_wp2_with fail
      have htk : xs.take j = xs := List.take_of_length_le (by rw [unhide HN]; exact Nat.le_refl _)
      have hye := unhide HYE
      rw [htk] at hye
      have hre := unhide HRE
      rw [htk] at hre
      refine bodyPost_ret (v := .tuple #[.agg #[.int .i64 now, .int .i64 next, .slice a m c], .bool r]) (by simp [results, Try.results18, go_sem, q0, q1, q2]) rfl ⟨a, c, ?_, ?_, ?_⟩
      · rw [← hye, ← hre, unhide HYL]
      · rw [← hye, unhide HYL]
        exact (putL_own (unhide HO) (unhide HQ2) (by decide)).base (unhide HX).size
      · exact putL_below (unhide HXA) (by omega)

end Go.Proofs.Ytidpmcanfedbdaa
