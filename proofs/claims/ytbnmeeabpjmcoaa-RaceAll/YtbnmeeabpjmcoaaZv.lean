/-
  taskmillref.SameOff; the first race and all.
-/
import Derived.Test.YtbnmeeabpjmcoaaXg
import Derived.Test.YtbnmeeabpjmcoaaLi
namespace Go.Proofs.Ytbnmeeabpjmcoaa
open Go.RowKit

theorem Lies.pair {w : World} {b off : Nat} {xs : List (Int × Int)} (h : Lies KP w b off xs) {j : Nat} (hj : j < xs.length) {p q : Int} (e : xs.getD j (0, 0) = (p, q)) : w.cell? ⟨b, off + j * 2, none⟩ = some (.int .i64 p) ∧ w.cell? ⟨b, off + j * 2 + 1, none⟩ = some (.int .i64 q) := by
  have h0 := h j 0 (.int .i64 p) hj (by show (KP.f (xs.getD j (0, 0)))[0]? = _; rw [e]; rfl)
  have h1 := h j 1 (.int .i64 q) hj (by show (KP.f (xs.getD j (0, 0)))[1]? = _; rw [e]; rfl)
  exact ⟨h0, h1⟩
theorem first_pairs (hs : List Int) (l : List Ev) : ∀ n, ((List.range n).find? (racesAt hs l) = none → pairsL hs l n = []) ∧ ∀ k, (List.range n).find? (racesAt hs l) = some k → ∃ x, (pairsL hs l n).head? = some (x, (k : Int))
  | 0 => ⟨fun _ => rfl, fun k h => by cases h⟩
  | n + 1 => by
    obtain ⟨h1, h2⟩ := first_pairs hs l n
    rw [List.range_succ, List.find?_append, pairsL_succ]
    cases hf : (List.range n).find? (racesAt hs l) with
    | some j =>
      obtain ⟨x, hx⟩ := h2 j hf
      refine ⟨fun q => (by cases q), fun k q => ⟨x, ?_⟩⟩
      have e : j = k := by simpa using q
      subst e
      rw [List.head?_append, hx]
      rfl
    | none =>
      have e0 := h1 hf
      rw [e0, List.nil_append]
      cases hr : racesAt hs l n with
      | false =>
        have e1 : pairsAt hs l n = [] := by
          unfold racesAt at hr
          unfold pairsAt
          cases h : racing hs l n with
          | nil => rfl
          | cons a r => rw [h] at hr; cases hr
        refine ⟨fun _ => e1, fun k q => ?_⟩
        simp [hr] at q
      | true =>
        refine ⟨fun q => (by simp [hr] at q), fun k q => ?_⟩
        have e : n = k := by simpa [hr] using q
        subst e
        unfold racesAt at hr
        unfold pairsAt
        cases h : racing hs l n with
        | nil => rw [h] at hr; cases hr
        | cons a r => exact ⟨((a.pl : Nat) : Int), rfl⟩
theorem first_none {hs : List Int} {l : List Ev} {n : Nat} (hn : l.length = n) (h : firstR hs l = none) : (pairsL hs l n).length = 0 := by
  subst hn
  rw [(first_pairs hs l l.length).1 h]
  rfl
theorem first_some {hs : List Int} {l : List Ev} {n k : Nat} (hn : l.length = n) (h : firstR hs l = some k) : 0 < (pairsL hs l n).length ∧ ∃ x, (pairsL hs l n).getD 0 (0, 0) = (x, (k : Int)) := by
  subst hn
  obtain ⟨x, hx⟩ := (first_pairs hs l l.length).2 k h
  cases e : pairsL hs l l.length with
  | nil => rw [e] at hx; cases hx
  | cons a r =>
    rw [e] at hx
    refine ⟨Nat.succ_pos _, x, ?_⟩
    simpa using hx

set_option maxRecDepth 100000 in
set_option maxHeartbeats 4000000 in
theorem pairs_same (w : World) (v v' : Value) (xs : List (Int × Int)) (h : IsL KP w v xs) (h' : IsL KP w v' xs) (hn : xs.length ≤ 1000000) :
    Calls Try.prog 26 #[v, v'] w fun e w' => e = .returned (.bool true) ∧ Below w.heap.size w w' := by
  obtain ⟨a, c, rfl⟩ := h.form
  obtain ⟨a', c', rfl⟩ := h'.form
  have HO := hide (h.opens kp h.len)
  have HO' := hide (h'.opens kp h'.len)
  obtain ⟨n, en⟩ : ∃ X, xs.length = X := ⟨_, rfl⟩
  rw [en] at HO HO' hn ⊢
  have HN := hide en
  have xn : ((n : Int) != (n : Int)) = false := by simp
  have HX := hide (Below.refl w.heap.size w)
  clear h h' en
  go_enter Try.func26, Try.ntmps26
  go_wp2_with fail
  go_loopw [5] (fun i wr => ∃ j : Nat, j ≤ n ∧ i = .int .i64 (j : Int) ∧ Hid (Below w.heap.size w wr)) (fun i _ => n - (intOf i).toNat)
  case atStart => exact ⟨0, Nat.zero_le _, rfl, HX⟩
  case round =>
    obtain ⟨j, hj, rfl, HB⟩ := hrel
    clear HX
    by_cases hlt : j < n
    · have i0 : (0 : Int) ≤ (j : Int) := by omega
      have i1 : (j : Int) < (n : Int) := by omega
      have hw1 : IntKind.i64.wrap ((j : Int) + 1) = (j : Int) + 1 := wrapi (by omega) (by omega)
      obtain ⟨b, o, rfl, hb, hli⟩ := unhide HO (by omega)
      obtain ⟨b', o', rfl, hb', hli'⟩ := unhide HO' (by omega)
      obtain ⟨⟨p, q⟩, ex⟩ : ∃ X, xs.getD j (0, 0) = X := ⟨_, rfl⟩
      obtain ⟨k0, k1⟩ := (hli.below (unhide HB) hb).pair (j := j) (by rw [unhide HN]; exact hlt) ex
      obtain ⟨m0, m1⟩ := (hli'.below (unhide HB) hb').pair (j := j) (by rw [unhide HN]; exact hlt) ex
      have hq : ∀ W : World, (Op.equalIn 10000 55 (.agg #[.int .i64 p, .int .i64 q]) (.agg #[.int .i64 p, .int .i64 q])).run Try.prog W = .ok true W := fun W => by
        rw [arr2_eq]
        simp
      clear hli hli' ex
      go_upto_region 6 with fail
      go_quiet (fail)
      have HB2 := hide (below_drewN (unhide HB) nq)
      go_wp2_with fail
      go_roundw
      case rel => exact ⟨j + 1, by omega, by go_num, HB2⟩
      case measure => simp [intOf]; omega
    · obtain rfl : j = n := by omega
      have i1 : ¬ (j : Int) < (j : Int) := by omega
      go_wp2_with fail
      go_ret
      exact ⟨rfl, unhide HB⟩
end Go.Proofs.Ytbnmeeabpjmcoaa
