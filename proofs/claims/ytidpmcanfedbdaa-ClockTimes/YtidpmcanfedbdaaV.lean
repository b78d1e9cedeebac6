/-
  taskmillref.WithAlarm.
-/
import Derived.Test.YtidpmcanfedbdaaU
namespace Go.Proofs.Ytidpmcanfedbdaa
open Go.RowKit

theorem putAt_snoc {xs : List Al} {k j : Nat} (a : Al) (hk : k ≤ j) (hj : j < xs.length) : putAt (xs.take (j + 1)) k a = putAt (xs.take j) k a ++ [aAt xs j] := by
  unfold putAt
  rw [take_at hj, List.take_append_of_le_length (by rw [List.length_take]; omega), List.drop_append_of_le_length (by rw [List.length_take]; omega), List.append_assoc]
  rfl
theorem putAt_here {xs : List Al} {j : Nat} (a : Al) (hj : j < xs.length) : putAt (xs.take (j + 1)) j a = xs.take j ++ [a] ++ [aAt xs j] := by
  rw [putAt_snoc a (Nat.le_refl _) hj]
  unfold putAt
  rw [List.take_take, Nat.min_self, List.drop_eq_nil_of_le (by rw [List.length_take]; omega)]
theorem place_before {a : Al} {xs : List Al} {j : Nat} (h : j < placeN a xs) : ahead a (aAt xs j) = false := by
  have h2 : aAt xs j ∈ xs.takeWhile (fun b => !ahead a b) := by
    have e : aAt xs j = aAt (xs.takeWhile (fun b => !ahead a b)) j := by
      have := takeWhile_take (q := fun b => !ahead a b) xs
      unfold aAt
      rw [← this, List.getD_eq_getElem?_getD, List.getD_eq_getElem?_getD, List.getElem?_take, if_pos (show j < (xs.takeWhile (fun b => !ahead a b)).length from h)]
    rw [e]
    exact aAt_mem h
  have := mem_takeWhile_pos h2
  simpa using this
theorem place_at {a : Al} : ∀ {xs : List Al}, placeN a xs < xs.length → ahead a (aAt xs (placeN a xs)) = true
  | [], h => by simp [placeN] at h
  | x :: l, h => by
    by_cases hx : (!ahead a x) = true
    · have e : placeN a (x :: l) = placeN a l + 1 := by unfold placeN; rw [List.takeWhile_cons_of_pos (p := fun b => !ahead a b) hx, List.length_cons]
      rw [e] at h ⊢
      exact place_at (xs := l) (by rw [List.length_cons] at h; omega)
    · have e : placeN a (x :: l) = 0 := by unfold placeN; rw [List.takeWhile_cons_of_neg (p := fun b => !ahead a b) hx]; rfl
      rw [e]
      show ahead a x = true
      simpa using hx
/-- What WithAlarm has laid so far. -/
def withL (a : Al) (xs : List Al) (j : Nat) : List Al := if placeN a xs < j then putAt (xs.take j) (placeN a xs) a else xs.take j

set_option maxRecDepth 100000 in
set_option maxHeartbeats 2000000 in
theorem withAlarm_any (w : World) (v : Value) (now next : Int) (xs : List Al) (t d u y : Int) (h : IsC w v now next xs) (hn : xs.length ≤ 100000) (hx0 : 0 ≤ next) (hx1 : next ≤ 1000000000) :
    Calls Try.prog 19 #[v, .agg #[.int .i64 t, .int .i64 d, .int .i64 u, .int .i64 y]] w fun e w' => ∃ a c, e = .returned (.agg #[.int .i64 now, .int .i64 (next + 1), .slice a (xs.length + 1) c]) ∧ Own KA w.heap.size w' (.slice a (xs.length + 1) c) (insL (t, d, u, next) xs) ∧ Below w.heap.size w w' := by
  obtain ⟨a0, c0, rfl, hL⟩ := h.form
  have H0 := hide (hL.opens ka rfl)
  have hkl := placeN_le (t, d, u, next) xs
  obtain ⟨n, en⟩ : ∃ n, xs.length = n := ⟨_, rfl⟩
  rw [en] at H0 hn hkl ⊢
  have HN := hide en
  have hw2 : IntKind.i64.wrap (next + 1) = next + 1 := wrapi (by omega) (by omega)
  obtain ⟨A, eA⟩ : ∃ A : Al, A = (t, d, u, next) := ⟨_, rfl⟩
  obtain ⟨k, ek⟩ : ∃ k, placeN A xs = k := ⟨_, rfl⟩
  have HEA := hide eA; have HEK := hide ek
  have HINS : Hid (insL (t, d, u, next) xs = putAt xs k A) := hide (by unfold insL; rw [← eA, ek])
  rw [← eA, ek] at hkl
  clear h hL en eA ek
  obtain ⟨W0, e0, hB, k0, k1, k2⟩ := three_new w (.cells #[.int .i64 now, .int .i64 next, .slice a0 n c0] 24) (.cells #[.int .i64 t, .int .i64 d, .int .i64 u, .int .i64 y] 42) (.cells #[.int .i64 0, .int .i64 0, .slice none 0 0] 24)
  have HX := hide hB; have HP := hide k0; have HO := hide k1; have HQ := hide k2; have HE := hide e0
  clear hB k0 k1 k2 e0
  go_enter Try.func19, Try.ntmps19
  go_upto_region 1 with fail
  rw [unhide HE]
  clear HE
  obtain ⟨⟨p0, p1, p2⟩, ⟨pf0, pf1, pf2⟩, pl⟩ := block3 (unhide HP)
  obtain ⟨⟨o0, o1, o2, o3⟩, ⟨of0, of1, of2, of3⟩, ol⟩ := block4 (unhide HO)
  go_upto_region 2 with fail
  clear p0 p1 p2 pf0 pf1 pf2 pl o0 o1 o2 o3 of0 of1 of2 of3 ol
  have HX_1 := hide (below_set (i := 3) (unhide HX) (show w.heap.size ≤ w.heap.size + 1 by first | omega | (have := unhide HBA; omega)) (.int .i64 next))
  have Kp_1 := hide (keep_set (g := w.heap.size + 1) (o := 3) (v := .int .i64 next) (unhide HP) (by omega))
  have Ko_1 := hide (set_block4 (i := 3) (y := .int .i64 next) (unhide HO))
  have Kq_1 := hide (keep_set (g := w.heap.size + 1) (o := 3) (v := .int .i64 next) (unhide HQ) (by omega))
  obtain ⟨W1, eW1⟩ : ∃ X, W0.setCell ⟨w.heap.size + 1, 3, none⟩ (.int .i64 next) = X := ⟨_, rfl⟩
  rw [eW1] at HX_1 Kp_1 Ko_1 Kq_1 ⊢
  clear eW1 HX HP HO HQ
  simp only [List.setIfInBounds_toArray, List.set_cons_zero, List.set_cons_succ] at Ko_1
  go_wp2_with fail
  go_loopw [5, 6, 7] (fun o b i W => ∃ (j : Nat) (a : Option Addr) (m c : Nat) (ys : List Al) (r : Bool), j ≤ n ∧ m ≤ j + 1 ∧ i = .int .i64 j ∧ o = .slice a m c ∧ b = .bool r ∧ Hid (ys.length = m) ∧ Hid (ys = withL A xs j) ∧ Hid (r = decide (k < j)) ∧ Hid (Own KA W1.heap.size W (.slice a m c) ys) ∧ Hid (Below W1.heap.size W1 W)) (fun _ _ i _ => n - (intOf i).toNat)
  case atStart => exact ⟨0, none, 0, 0, [], false, Nat.zero_le _, Nat.zero_le _, rfl, rfl, rfl, rfl, hide (by unfold withL; rw [if_neg (by omega)]; rfl), hide (by rw [decide_eq_false (by omega)]), own_nil _ _, Below.refl _ _⟩
  case round =>
    obtain ⟨j, a, m, c, ys, r, hj, hmj, rfl, rfl, rfl, HYL, HYE, HRE, HOW, HB⟩ := hrel
    have HP2 := hide (keep_below (unhide Kp_1) (unhide HB)); have HO2 := hide (keep_below (unhide Ko_1) (unhide HB)); have HQ2 := hide (keep_below (unhide Kq_1) (unhide HB))
    have HXA := hide (Below.next (unhide HX_1) (unhide HB) (Nat.le_refl _))
    obtain ⟨⟨p0, p1, p2⟩, -, pl⟩ := block3 (unhide HP2)
    by_cases hlt : j < n
    · obtain ⟨b0, o0, rfl, hb0, l0⟩ := unhide H0 (by omega)
      have hjx : j < xs.length := by rw [unhide HN]; exact hlt
      obtain ⟨⟨xt, xd, xu, xy⟩, hx⟩ : ∃ x, aAt xs j = x := ⟨_, rfl⟩
      have HX5 := hide hx; have HJX := hide hjx
      have HLL : Hid (∀ W, Below w.heap.size w W → W.cell? ⟨b0, o0 + j * 4, none⟩ = some (.int .i64 xt) ∧ W.cell? ⟨b0, o0 + j * 4 + 1, none⟩ = some (.int .i64 xd) ∧ W.cell? ⟨b0, o0 + j * 4 + 2, none⟩ = some (.int .i64 xu) ∧ W.cell? ⟨b0, o0 + j * 4 + 3, none⟩ = some (.int .i64 xy)) := fun W hW => (l0.below hW hb0).alarm (j := j) hjx hx
      have i0 : (0 : Int) ≤ (j : Int) := by omega
      have i1 : (j : Int) < (n : Int) := by omega
      clear H0 l0 hx hjx
      by_cases hkj : k < j
      · have hr := unhide HRE
        rw [decide_eq_true hkj] at hr
        subst hr
        have HYN : Hid (withL A xs (j + 1) = ys ++ [(xt, xd, xu, xy)]) := hide (by
          have h1 := unhide HYE
          unfold withL at h1 ⊢
          rw [unhide HEK, if_pos hkj] at h1
          rw [unhide HEK, if_pos (by omega), putAt_snoc A (by omega) (unhide HJX), unhide HX5, ← h1])
        obtain ⟨l0, l1, l2, l3⟩ := unhide HLL _ (unhide HXA)
        go_upto_region 7 with fail
        go_wp2_with fail
        go_quiet (fail)
        have HD : Hid (Below wr.heap.size wr (wr.drewN nq)) := below_drewN (Below.refl _ _) _
        obtain ⟨V0, eV0⟩ : ∃ X, wr.drewN nq = X := ⟨_, rfl⟩
        rw [eV0] at HD ⊢
        clear eV0 p0 p1 p2 pl l0 l1 l2 l3
        have HP3 := hide (keep_below (unhide HP2) (unhide HD)); have HXB := hide (Below.next (unhide HXA) (unhide HD) (Nat.le_refl _)); have HOW3 := hide ((unhide HOW).below (unhide HD)); have HB3 := hide (Below.next (unhide HB) (unhide HD) (Nat.le_refl _))
        obtain ⟨⟨p0, p1, p2⟩, -, pl⟩ := block3 (unhide HP3)
        obtain ⟨l0, l1, l2, l3⟩ := unhide HLL _ (unhide HXB)
        have HI6 : Hid (IsL KA (V0.alloc (.cells #[.int .i64 xt, .int .i64 xd, .int .i64 xu, .int .i64 xy] 42)) (.slice (some ⟨V0.heap.size, 0, none⟩) 1 1) [(xt, xd, xu, xy)]) := isl_one ka V0 (xt, xd, xu, xy)
        have HOa6 := hide ((unhide HOW3).below ((Below.refl _ _).alloc (Nat.le_refl _) (.cells #[.int .i64 xt, .int .i64 xd, .int .i64 xu, .int .i64 xy] 42)))
        have HBa6 := hide ((unhide HB3).alloc (unhide HB3).size (.cells #[.int .i64 xt, .int .i64 xd, .int .i64 xu, .int .i64 xy] 42))
        go_wp2_with (at_builtin; refine wpList_append ka rfl _ _ rfl W1.heap.size _ ys rfl (unhide HOa6) _ [(xt, xd, xu, xy)] rfl (unhide HI6) (m + 1) (by simp [unhide HYL]) (by simp [KA]; omega) (unhide HBa6).size ?_; intro a6 c6 w6 ho6 hg6; have HO6 := hide ho6; have HB6 := hide ((unhide HBa6).grown hg6 (unhide HBa6).size (fun k hk => ((unhide HOa6).lt k hk).1)); clear ho6 hg6)
        go_roundw
        case rel => exact ⟨j + 1, a6, m + 1, c6, ys ++ [(xt, xd, xu, xy)], true, by omega, by omega, by go_num, rfl, rfl, hide (by rw [List.length_append, unhide HYL]; rfl), hide (unhide HYN).symm, hide (by rw [decide_eq_true (by omega)]), HO6, HB6⟩
        case measure => simp [intOf]; omega
      · have hr := unhide HRE
        rw [decide_eq_false hkj] at hr
        subst hr
        have HLT : Hid (∀ W, Calls Try.prog 33 #[.agg #[.int .i64 xt, .int .i64 xd, .int .i64 xu, .int .i64 xy], .agg #[.int .i64 t, .int .i64 d, .int .i64 u, .int .i64 next]] W fun e w' => e = .returned (.bool (ahead A (xt, xd, xu, xy))) ∧ Below W.heap.size W w') := fun W => by
          rw [unhide HEA]
          exact later_any W xt xd xu xy t d u next
        have HSS : Hid (∀ W, Below wr.heap.size wr W → W.cell? ⟨w.heap.size, 2, none⟩ = some (.slice (some ⟨b0, o0, none⟩) n c0) ∧ (W.cell? ⟨w.heap.size + 1, 0, none⟩ = some (.int .i64 t) ∧ W.cell? ⟨w.heap.size + 1, 1, none⟩ = some (.int .i64 d) ∧ W.cell? ⟨w.heap.size + 1, 2, none⟩ = some (.int .i64 u) ∧ W.cell? ⟨w.heap.size + 1, 3, none⟩ = some (.int .i64 next)) ∧ (W.cell? ⟨b0, o0 + j * 4, none⟩ = some (.int .i64 xt) ∧ W.cell? ⟨b0, o0 + j * 4 + 1, none⟩ = some (.int .i64 xd) ∧ W.cell? ⟨b0, o0 + j * 4 + 2, none⟩ = some (.int .i64 xu) ∧ W.cell? ⟨b0, o0 + j * 4 + 3, none⟩ = some (.int .i64 xy)) ∧ Below wr.heap.size wr W) := fun W hW => ⟨(block3 (keep_below (unhide HP2) hW)).1.2.2, (block4 (keep_below (unhide HO2) hW)).1, unhide HLL W (Below.next (unhide HXA) hW (Nat.le_refl _)), hW⟩
        have hyy := unhide HYE
        unfold withL at hyy
        rw [unhide HEK, if_neg hkj] at hyy
        have HYY := hide hyy
        obtain ⟨r, er⟩ : ∃ r, ahead A (xt, xd, xu, xy) = r := ⟨_, rfl⟩
        rw [er] at HLT
        have HER := hide er
        clear er hyy
        go_upto_region 7 with fail
        clear p0 p1 p2 pl
        obtain ⟨p2, ⟨m0, m1, m2, m3⟩, ⟨l0, l1, l2, l3⟩, -⟩ := unhide HSS _ (Below.refl _ _)
        go_wp2_with fail
        go_region_held3 (fun W => W.cell? ⟨w.heap.size, 2, none⟩ = some (.slice (some ⟨b0, o0, none⟩) n c0) ∧ (W.cell? ⟨w.heap.size + 1, 0, none⟩ = some (.int .i64 t) ∧ W.cell? ⟨w.heap.size + 1, 1, none⟩ = some (.int .i64 d) ∧ W.cell? ⟨w.heap.size + 1, 2, none⟩ = some (.int .i64 u) ∧ W.cell? ⟨w.heap.size + 1, 3, none⟩ = some (.int .i64 next)) ∧ (W.cell? ⟨b0, o0 + j * 4, none⟩ = some (.int .i64 xt) ∧ W.cell? ⟨b0, o0 + j * 4 + 1, none⟩ = some (.int .i64 xd) ∧ W.cell? ⟨b0, o0 + j * 4 + 2, none⟩ = some (.int .i64 xu) ∧ W.cell? ⟨b0, o0 + j * 4 + 3, none⟩ = some (.int .i64 xy)) ∧ Below wr.heap.size wr W)
          (first | with_reducible exact unhide HSS _ (Below.refl _ _).drew | with_reducible exact unhide HSS _ (unhide HY5))
          (first | (go_at_call 33; refine (unhide HLT _).mono ?_; rintro e w5 ⟨rfl, hb5⟩; have HY5 : Hid (Below wr.heap.size wr w5) := Below.next (by go_split_ands; assumption) hb5 (Nat.le_refl _); clear hb5))
        all_goals
          clear p2 l0 l1 l2 l3 m0 m1 m2 m3
          have HP3 := hide (keep_below (unhide HP2) (unhide HY5)); have HO3 := hide (keep_below (unhide HO2) (unhide HY5)); have HXB := hide (Below.next (unhide HXA) (unhide HY5) (Nat.le_refl _)); have HOW3 := hide ((unhide HOW).below (unhide HY5)); have HB3 := hide (Below.next (unhide HB) (unhide HY5) (Nat.le_refl _))
          obtain ⟨⟨p0, p1, p2⟩, -, pl⟩ := block3 (unhide HP3)
          obtain ⟨⟨m0, m1, m2, m3⟩, -, ml⟩ := block4 (unhide HO3)
          obtain ⟨l0, l1, l2, l3⟩ := unhide HLL _ (unhide HXB)
          cases r with
          | true =>
            have hkj2 : k = j := by
              rcases Nat.lt_or_ge j k with hh | hh
              · have h1 := place_before (a := A) (xs := xs) (j := j) (by rw [unhide HEK]; exact hh)
                rw [unhide HX5, unhide HER] at h1
                cases h1
              · omega
            have HYN : Hid (withL A xs (j + 1) = ys ++ [A] ++ [(xt, xd, xu, xy)]) := hide (by
              unfold withL
              rw [unhide HEK, if_pos (by omega), hkj2, putAt_here A (unhide HJX), unhide HX5, ← unhide HYY])
            have HRN : Hid (true = decide (k < j + 1)) := hide (by rw [decide_eq_true (by omega)])
            clear hkj2
            have HIa0 : Hid (IsL KA (w5.alloc (.cells #[.int .i64 t, .int .i64 d, .int .i64 u, .int .i64 next] 42)) (.slice (some ⟨w5.heap.size, 0, none⟩) 1 1) [A]) := by
              rw [unhide HEA]
              exact isl_one ka w5 (t, d, u, next)
            have HOa6 := hide ((unhide HOW3).below ((Below.refl _ _).alloc (Nat.le_refl _) (.cells #[.int .i64 t, .int .i64 d, .int .i64 u, .int .i64 next] 42)))
            have HBa6 := hide ((unhide HB3).alloc (unhide HB3).size (.cells #[.int .i64 t, .int .i64 d, .int .i64 u, .int .i64 next] 42))
            have HI6 := HIa0
            go_upto_region 10 with (at_builtin; refine wpList_append ka rfl _ _ rfl W1.heap.size _ ys rfl (unhide HOa6) _ [A] rfl (unhide HI6) (m + 1) (by simp [unhide HYL]) (by simp [KA]; omega) (unhide HBa6).size ?_; intro a6 c6 w6 ho6 hg6; have HO6 := hide ho6; have HB6 := hide ((unhide HBa6).grown hg6 (unhide HBa6).size (fun k hk => ((unhide HOa6).lt k hk).1)); clear ho6 hg6; clear p0 p1 p2 pl m0 m1 m2 m3 ml l0 l1 l2 l3)
            have HYB6 := hide (Below.next (unhide HX_1) (unhide HB6) (Nat.le_refl _))
            have HP7 := hide (keep_below (unhide Kp_1) (unhide HB6))
            obtain ⟨⟨p0, p1, p2⟩, -, pl⟩ := block3 (unhide HP7)
            obtain ⟨l0, l1, l2, l3⟩ := unhide HLL _ (unhide HYB6)
            have HI8 : Hid (IsL KA (w6.alloc (.cells #[.int .i64 xt, .int .i64 xd, .int .i64 xu, .int .i64 xy] 42)) (.slice (some ⟨w6.heap.size, 0, none⟩) 1 1) [(xt, xd, xu, xy)]) := isl_one ka w6 (xt, xd, xu, xy)
            have HOa8 := hide ((unhide HO6).below ((Below.refl _ _).alloc (Nat.le_refl _) (.cells #[.int .i64 xt, .int .i64 xd, .int .i64 xu, .int .i64 xy] 42)))
            have HBa8 := hide ((unhide HB6).alloc (unhide HB6).size (.cells #[.int .i64 xt, .int .i64 xd, .int .i64 xu, .int .i64 xy] 42))
            go_wp2_with (at_builtin; refine wpList_append ka rfl _ _ rfl W1.heap.size _ (ys ++ [A]) rfl (unhide HOa8) _ [(xt, xd, xu, xy)] rfl (unhide HI8) (m + 1 + 1) (by simp [List.length_append, unhide HYL]) (by simp [KA]; omega) (unhide HBa8).size ?_; intro a8 c8 w8 ho8 hg8; have HO8 := hide ho8; have HB8 := hide ((unhide HBa8).grown hg8 (unhide HBa8).size (fun k hk => ((unhide HOa8).lt k hk).1)); clear ho8 hg8)
            go_roundw
            case rel => exact ⟨j + 1, a8, m + 1 + 1, c8, ys ++ [A] ++ [(xt, xd, xu, xy)], true, by omega, by have h1 := unhide HYL; have h2 := unhide HYY; rw [h2, List.length_take, unhide HN] at h1; omega, by go_num, rfl, rfl, hide (by rw [List.length_append, List.length_append, unhide HYL]; rfl), hide (unhide HYN).symm, HRN, HO8, HB8⟩
            case measure => simp [intOf]; omega
          | false =>
            have hkj2 : j < k := by
              rcases Nat.lt_or_ge j k with hh | hh
              · exact hh
              · have h0 : k = j := by omega
                have h1 := place_at (a := A) (xs := xs) (by rw [unhide HEK, unhide HN]; omega)
                rw [unhide HEK, h0, unhide HX5, unhide HER] at h1
                cases h1
            have HYN : Hid (withL A xs (j + 1) = ys ++ [(xt, xd, xu, xy)]) := hide (by
              unfold withL
              rw [unhide HEK, if_neg (by omega), take_at (unhide HJX), unhide HX5, ← unhide HYY])
            have HRN : Hid (false = decide (k < j + 1)) := hide (by rw [decide_eq_false (by omega)])
            clear hkj2
            have HI6 : Hid (IsL KA (w5.alloc (.cells #[.int .i64 xt, .int .i64 xd, .int .i64 xu, .int .i64 xy] 42)) (.slice (some ⟨w5.heap.size, 0, none⟩) 1 1) [(xt, xd, xu, xy)]) := isl_one ka w5 (xt, xd, xu, xy)
            have HOa6 := hide ((unhide HOW3).below ((Below.refl _ _).alloc (Nat.le_refl _) (.cells #[.int .i64 xt, .int .i64 xd, .int .i64 xu, .int .i64 xy] 42)))
            have HBa6 := hide ((unhide HB3).alloc (unhide HB3).size (.cells #[.int .i64 xt, .int .i64 xd, .int .i64 xu, .int .i64 xy] 42))
            go_wp2_with (at_builtin; refine wpList_append ka rfl _ _ rfl W1.heap.size _ ys rfl (unhide HOa6) _ [(xt, xd, xu, xy)] rfl (unhide HI6) (m + 1) (by simp [unhide HYL]) (by simp [KA]; omega) (unhide HBa6).size ?_; intro a6 c6 w6 ho6 hg6; have HO6 := hide ho6; have HB6 := hide ((unhide HBa6).grown hg6 (unhide HBa6).size (fun k hk => ((unhide HOa6).lt k hk).1)); clear ho6 hg6)
            go_roundw
            case rel => exact ⟨j + 1, a6, m + 1, c6, ys ++ [(xt, xd, xu, xy)], false, by omega, by omega, by go_num, rfl, rfl, hide (by rw [List.length_append, unhide HYL]; rfl), hide (unhide HYN).symm, HRN, HO6, HB6⟩
            case measure => simp [intOf]; omega
    · have hjn : j = n := by omega
      have i1 : ¬ (j : Int) < (n : Int) := by omega
      have htk : xs.take j = xs := List.take_of_length_le (by rw [unhide HN]; omega)
      have hye := unhide HYE
      unfold withL at hye
      rw [unhide HEK, htk] at hye
      obtain ⟨⟨q0, q1, q2⟩, ⟨qf0, qf1, qf2⟩, ql⟩ := block3 (unhide HQ2)
      by_cases hkj : k < j
      · have hr := unhide HRE
        rw [decide_eq_true hkj] at hr
        subst hr
        rw [if_pos hkj] at hye
        have HYF := hide hye
        have hml : m = n + 1 := by rw [← unhide HYL, hye, putAt_len (by rw [unhide HN]; exact hkl), unhide HN]
        have HML := hide hml
        clear hye hml hjn htk
        go_wp2_with fail
        refine bodyPost_ret (v := .agg #[.int .i64 now, .int .i64 (next + 1), .slice a m c]) (by simp [results, Try.results19, go_sem, q0, q1, q2]) rfl ⟨a, c, ?_, ?_, ?_⟩
        · rw [unhide HML]
        · rw [unhide HINS, ← unhide HYF, ← unhide HML]
          exact (putL_own (unhide HOW) (unhide HQ2) (by decide)).base (unhide HX_1).size
        · exact putL_below (unhide HXA) (by omega)
      · have hr := unhide HRE
        rw [decide_eq_false hkj] at hr
        subst hr
        rw [if_neg hkj] at hye
        have hkn : k = xs.length := by rw [unhide HN]; omega
        have HYF : Hid (insL (t, d, u, next) xs = ys ++ [A]) := hide (by rw [unhide HINS, hkn, own_last, hye])
        have hml : m = n := by rw [← unhide HYL, hye, unhide HN]
        have HML := hide hml
        clear hye hml hjn htk hkn
        obtain ⟨⟨m0, m1, m2, m3⟩, -, ml⟩ := block4 (unhide HO2)
        have HI6 : Hid (IsL KA (wr.alloc (.cells #[.int .i64 t, .int .i64 d, .int .i64 u, .int .i64 next] 42)) (.slice (some ⟨wr.heap.size, 0, none⟩) 1 1) [A]) := by
          rw [unhide HEA]
          exact isl_one ka wr (t, d, u, next)
        have HOa6 := hide ((unhide HOW).below ((Below.refl _ _).alloc (Nat.le_refl _) (.cells #[.int .i64 t, .int .i64 d, .int .i64 u, .int .i64 next] 42)))
        have HBa6 := hide ((unhide HB).alloc (unhide HB).size (.cells #[.int .i64 t, .int .i64 d, .int .i64 u, .int .i64 next] 42))
        go_upto_region 13 with (at_builtin; refine wpList_append ka rfl _ _ rfl W1.heap.size _ ys rfl (unhide HOa6) _ [A] rfl (unhide HI6) (m + 1) (by simp [unhide HYL]) (by simp [KA]; omega) (unhide HBa6).size ?_; intro a6 c6 w6 ho6 hg6; have HO6 := hide ho6; have HB6 := hide ((unhide HBa6).grown hg6 (unhide HBa6).size (fun k hk => ((unhide HOa6).lt k hk).1)); clear ho6 hg6; clear p0 p1 p2 pl m0 m1 m2 m3 ml q0 q1 q2 qf0 qf1 qf2 ql)
        have HP7 := hide (keep_below (unhide Kp_1) (unhide HB6)); have HQ7 := hide (keep_below (unhide Kq_1) (unhide HB6)); have HX7 := hide (Below.next (unhide HX_1) (unhide HB6) (Nat.le_refl _))
        obtain ⟨⟨p0, p1, p2⟩, -, pl⟩ := block3 (unhide HP7)
        obtain ⟨⟨q0, q1, q2⟩, ⟨qf0, qf1, qf2⟩, ql⟩ := block3 (unhide HQ7)
        go_wp2_with fail
        refine bodyPost_ret (v := .agg #[.int .i64 now, .int .i64 (next + 1), .slice a6 (m + 1) c6]) (by simp [results, Try.results19, go_sem, q0, q1, q2]) rfl ⟨a6, c6, ?_, ?_, ?_⟩
        · rw [unhide HML]
        · rw [unhide HYF, ← unhide HML]
          exact (putL_own (unhide HO6) (unhide HQ7) (by decide)).base (unhide HX_1).size
        · exact putL_below (unhide HX7) (by omega)

end Go.Proofs.Ytidpmcanfedbdaa
