/-
  buddy.least, halved.
-/
import Derived.Test.YtomhfnjnmhdpkaaG
namespace Go.Proofs.Ytomhfnjnmhdpkaa
open Go.RowKit

def leastStep (p : Bl → Bool) (acc : Option Bl) (b : Bl) : Option Bl := if p b && (match acc with | none => true | some a => decide (b.2 < a.2)) then some b else acc
/-- The first one of the smallest blocks of which p is true. -/
def leastL (p : Bl → Bool) (xs : List Bl) : Option Bl := xs.foldl (leastStep p) none
theorem leastL_next {p : Bl → Bool} {xs : List Bl} {j : Nat} (h : j < xs.length) : leastL p (xs.take (j + 1)) = leastStep p (leastL p (xs.take j)) (aAt xs j) := by
  unfold leastL
  rw [take_at h, List.foldl_append]
  rfl
/-- What is told of it. -/
def leastV (o : Option Bl) : Value := .tuple #[.agg #[.int .i64 (o.getD (0, 0)).1, .int .i64 (o.getD (0, 0)).2], .bool o.isSome]

set_option maxRecDepth 100000 in
set_option maxHeartbeats 4000000 in
theorem least_any (w : World) (v : Value) (xs : List Bl) (h : IsL KB w v xs) (hn : xs.length ≤ 100000) (k : Nat) (hent : ∀ args w, (callFunc k args).run Try.prog w = .ok (.enter k args) w) (caps : Array Value) (p : Bl → Bool)
    (hc : ∀ W x, Below w.heap.size w W → Calls Try.prog k (#[.agg #[.int .i64 x.1, .int .i64 x.2]] ++ caps) W fun e w' => e = .returned (.bool (p x)) ∧ Below W.heap.size W w') :
    Calls Try.prog 25 #[v, .func (.func k) #[] caps] w fun e w' => e = .returned (leastV (leastL p xs)) ∧ Below w.heap.size w w' := by
  obtain ⟨a0, c0, rfl⟩ := h.form
  have H0 := hide (h.opens kb rfl)
  have HC := hide hc
  have HNXT := hide (fun j (hj : j < xs.length) => leastL_next (p := p) hj)
  have HFIN : Hid (leastL p xs = leastL p (xs.take xs.length)) := by rw [List.take_length]; exact rfl
  obtain ⟨n, en⟩ : ∃ n, xs.length = n := ⟨_, rfl⟩
  rw [en] at H0 hn HNXT HFIN ⊢
  have HN := hide en
  obtain ⟨W, e0, hB, k0, k1⟩ := two_new w (.cells #[.int .i64 0, .int .i64 0] 38) (.cells #[.int .i64 0, .int .i64 0] 38)
  have HX0 := hide hB; have HE := hide e0; have HK0 := hide k0; have HK1 := hide k1
  clear h en hc hB e0 k0 k1
  go_enter Try.func25, Try.ntmps25
  go_upto_region 4 with fail
  rw [unhide HE]
  clear HE
  go_loopw [7, 12] (fun s7 i wr => ∃ (j : Nat) (fx fy : Int) (th : Bool), j ≤ n ∧ i = .int .i64 (j : Int) ∧ s7 = .bool th ∧ Hid (leastL p (xs.take j) = if th = true then some (fx, fy) else none) ∧ Hid (th = false → fx = 0 ∧ fy = 0) ∧ Hid (wr.heap[w.heap.size]? = some (.cells #[.int .i64 0, .int .i64 0] 38 (0, 0))) ∧ Hid (wr.heap[w.heap.size + 1]? = some (.cells #[.int .i64 fx, .int .i64 fy] 38 (0, 0))) ∧ Hid (Below w.heap.size w wr)) (fun _ i _ => n - (intOf i).toNat)
  case atStart => exact ⟨0, 0, 0, false, Nat.zero_le _, rfl, rfl, hide rfl, hide (fun _ => ⟨rfl, rfl⟩), HK0, HK1, HX0⟩
  case round =>
    obtain ⟨j, fx, fy, th, hj, rfl, rfl, HL, HZ, HA, HBk, HX⟩ := hrel
    clear HX0 HK0 HK1
    by_cases hlt : j < n
    · obtain ⟨b0, o0, rfl, hb0, l0⟩ := unhide H0 (by omega)
      obtain ⟨⟨t, c⟩, hx⟩ : ∃ z, aAt xs j = z := ⟨_, rfl⟩
      obtain ⟨k0, k1⟩ := (l0.below (unhide HX) hb0).block (j := j) (by rw [unhide HN]; exact hlt) hx
      have i0 : (0 : Int) ≤ (j : Int) := by omega
      have i1 : (j : Int) < (n : Int) := by omega
      have HNJ := hide (unhide HNXT j hlt)
      rw [hx] at HNJ
      have HP0 := hide (new_block wr (.cells #[.int .i64 t, .int .i64 c] 38))
      have HX1 := hide ((unhide HX).alloc (unhide HX).size (.cells #[.int .i64 t, .int .i64 c] 38))
      have HA1 := hide (keep_alloc (unhide HA) (.cells #[.int .i64 t, .int .i64 c] 38))
      have HBk1 := hide (keep_alloc (unhide HBk) (.cells #[.int .i64 t, .int .i64 c] 38))
      have hlb := size_of (unhide HBk)
      obtain ⟨VB, eV⟩ : ∃ X, wr.heap.size = X := ⟨_, rfl⟩
      go_upto_region 6 with fail
      obtain ⟨W0, e0⟩ : ∃ X, wr.alloc (.cells #[.int .i64 t, .int .i64 c] 38) = X := ⟨_, rfl⟩
      rw [e0] at HP0 HX1 HA1 HBk1 ⊢
      rw [eV] at HP0 hlb
      have HCW : Hid (Calls Try.prog k (#[.agg #[.int .i64 t, .int .i64 c]] ++ caps) W0 fun e w' => e = .returned (.bool (p (t, c))) ∧ Below W0.heap.size W0 w') := unhide HC W0 (t, c) (unhide HX1)
      clear e0 k0 k1 eV l0 hx hb0 HA HBk HX HC H0 HNXT
      obtain ⟨P, eP⟩ : ∃ X, p (t, c) = X := ⟨_, rfl⟩
      have HNJ2 : Hid (leastL p (xs.take (j + 1)) = if P && (match (if th = true then some (fx, fy) else none : Option Bl) with | none => true | some a => decide (c < a.2)) then some (t, c) else (if th = true then some (fx, fy) else none)) := by
        rw [unhide HNJ, unhide HL]; unfold leastStep; rw [eP]; exact rfl
      rw [eP] at HCW
      clear eP HNJ HL
      obtain ⟨p0, p1, -, -, pl⟩ := block2 (unhide HP0)
      obtain ⟨q0, q1, f0, f1, ql⟩ := block2 (unhide HBk1)
      cases P with
      | false =>
        go_wp2_with (refine (unhide HCW).mono ?_; rintro e w3 ⟨rfl, hb3⟩; have HX3 := hide (Below.next (unhide HX1) hb3 (Nat.le_refl _)); have HA3 := hide (keep_below (unhide HA1) hb3); have HB3 := hide (keep_below (unhide HBk1) hb3); have HP3 := hide (keep_below (unhide HP0) hb3); clear hb3; obtain ⟨m0, m1, -, -, ml⟩ := block2 (unhide HP3); obtain ⟨n0, n1, g0, g1, nl⟩ := block2 (unhide HB3))
        go_roundw
        case rel => exact ⟨j + 1, fx, fy, th, by omega, by go_num, rfl, hide (by rw [unhide HNJ2]; cases th <;> rfl), HZ, HA3, HB3, HX3⟩
        case measure => simp [intOf]; omega
      | true =>
        cases th with
        | false =>
          go_upto_region 7 with (refine (unhide HCW).mono ?_; rintro e w3 ⟨rfl, hb3⟩; have HX3 := hide (Below.next (unhide HX1) hb3 (Nat.le_refl _)); have HA3 := hide (keep_below (unhide HA1) hb3); have HB3 := hide (keep_below (unhide HBk1) hb3); have HP3 := hide (keep_below (unhide HP0) hb3); clear hb3; obtain ⟨m0, m1, -, -, ml⟩ := block2 (unhide HP3); obtain ⟨n0, n1, g0, g1, nl⟩ := block2 (unhide HB3))
          have HX4 := hide (below_set2 (unhide HX3) (Nat.le_succ _) (.int .i64 t) (.int .i64 c) (R := w.heap.size + 1))
          have HA4 := hide ((Below.heap_setCell _ _ _ _ (by simp)).trans ((Below.heap_setCell _ _ _ _ (by simp)).trans (unhide HA3)) : ((w3.setCell ⟨w.heap.size + 1, 0, none⟩ (.int .i64 t)).setCell ⟨w.heap.size + 1, 1, none⟩ (.int .i64 c)).heap[w.heap.size]? = _)
          have HB4 := hide (set2_block (x' := .int .i64 t) (y' := .int .i64 c) (unhide HB3))
          go_wp2_with fail
          go_roundw
          case rel => exact ⟨j + 1, t, c, true, by omega, by go_num, rfl, hide (by rw [unhide HNJ2] <;> rfl), hide (fun h => by cases h), HA4, HB4, HX4⟩
          case measure => simp [intOf]; omega
        | true =>
          by_cases hcf : c < fy
          · have HNJ3 : Hid (leastL p (xs.take (j + 1)) = some (t, c)) := by
              rw [unhide HNJ2]; show (if (true && decide (c < fy)) = true then _ else _) = _; rw [decide_eq_true hcf]; exact rfl
            go_upto_region 7 with (refine (unhide HCW).mono ?_; rintro e w3 ⟨rfl, hb3⟩; have HX3 := hide (Below.next (unhide HX1) hb3 (Nat.le_refl _)); have HA3 := hide (keep_below (unhide HA1) hb3); have HB3 := hide (keep_below (unhide HBk1) hb3); have HP3 := hide (keep_below (unhide HP0) hb3); clear hb3; obtain ⟨m0, m1, -, -, ml⟩ := block2 (unhide HP3); obtain ⟨n0, n1, g0, g1, nl⟩ := block2 (unhide HB3))
            have HX4 := hide (below_set2 (unhide HX3) (Nat.le_succ _) (.int .i64 t) (.int .i64 c) (R := w.heap.size + 1))
            have HA4 := hide ((Below.heap_setCell _ _ _ _ (by simp)).trans ((Below.heap_setCell _ _ _ _ (by simp)).trans (unhide HA3)) : ((w3.setCell ⟨w.heap.size + 1, 0, none⟩ (.int .i64 t)).setCell ⟨w.heap.size + 1, 1, none⟩ (.int .i64 c)).heap[w.heap.size]? = _)
            have HB4 := hide (set2_block (x' := .int .i64 t) (y' := .int .i64 c) (unhide HB3))
            go_wp2_with fail
            go_roundw
            case rel => exact ⟨j + 1, t, c, true, by omega, by go_num, rfl, hide (by rw [unhide HNJ3] <;> rfl), hide (fun h => by cases h), HA4, HB4, HX4⟩
            case measure => simp [intOf]; omega
          · have HNJ3 : Hid (leastL p (xs.take (j + 1)) = some (fx, fy)) := by
              rw [unhide HNJ2]; show (if (true && decide (c < fy)) = true then _ else _) = _; rw [decide_eq_false hcf]; exact rfl
            go_wp2_with (refine (unhide HCW).mono ?_; rintro e w3 ⟨rfl, hb3⟩; have HX3 := hide (Below.next (unhide HX1) hb3 (Nat.le_refl _)); have HA3 := hide (keep_below (unhide HA1) hb3); have HB3 := hide (keep_below (unhide HBk1) hb3); have HP3 := hide (keep_below (unhide HP0) hb3); clear hb3; obtain ⟨m0, m1, -, -, ml⟩ := block2 (unhide HP3); obtain ⟨n0, n1, g0, g1, nl⟩ := block2 (unhide HB3))
            go_roundw
            case rel => exact ⟨j + 1, fx, fy, true, by omega, by go_num, rfl, hide (by rw [unhide HNJ3] <;> rfl), HZ, HA3, HB3, HX3⟩
            case measure => simp [intOf]; omega
    · obtain rfl : j = n := by omega
      have i1 : ¬ (j : Int) < (j : Int) := by omega
      obtain ⟨q0, q1, f0, f1, ql⟩ := block2 (unhide HBk)
      obtain ⟨r0, r1, g0, g1, rl⟩ := block2 (unhide HA)
      have HXF := hide (below_set2 (unhide HX) (Nat.le_refl _) (.int .i64 fx) (.int .i64 fy))
      have HAF := hide (set2_block (x' := .int .i64 fx) (y' := .int .i64 fy) (unhide HA))
      clear HC H0 HNXT HA HBk HX
      go_wp2_with fail
      obtain ⟨s0, s1, -⟩ := block2 (unhide HAF)
      refine bodyPost_ret (v := .tuple #[.agg #[.int .i64 fx, .int .i64 fy], .bool th]) (by simp [results, Try.results25, go_sem, s0, s1]) rfl ⟨?_, unhide HXF⟩
      rw [unhide HFIN, unhide HL]
      cases th with
      | true => rfl
      | false =>
        obtain ⟨rfl, rfl⟩ := unhide HZ rfl
        rfl

end Go.Proofs.Ytomhfnjnmhdpkaa
