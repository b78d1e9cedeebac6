/-
  ref.F; sweep.Check.
-/
import Derived.Test.YtmkehjncnaokoaaE
namespace Go.Proofs.Ytmkehjncnaokoaa
open Go.RowKit

set_option maxRecDepth 100000 in
set_option maxHeartbeats 4000000 in
theorem F_any (w : World) (c t : Int) : Calls Try.prog 20 #[.int .i64 c, .int .i64 t] w fun e w' => e = .returned (.agg #[.int .i64 c, .int .i64 t]) ∧ Below w.heap.size w w' := by
  have HQ := hide (new_block w (.cells #[.int .i64 0, .int .i64 0] 30))
  have HX := hide ((Below.refl w.heap.size w).alloc (Nat.le_refl _) (.cells #[.int .i64 0, .int .i64 0] 30))
  obtain ⟨W0, e0⟩ : ∃ X, w.alloc (.cells #[.int .i64 0, .int .i64 0] 30) = X := ⟨_, rfl⟩
  rw [e0] at HQ HX
  have HE := hide e0
  clear e0
  go_enter Try.func20, Try.ntmps20
  go_upto_region 1 with fail
  rw [unhide HE]
  clear HE
  obtain ⟨q0, q1, f0, f1, ql⟩ := block2 (unhide HQ)
  go_wp2_with fail
  exact bodyPost_ret (v := .agg #[.int .i64 c, .int .i64 t]) (by simp [results, Try.results20, go_sem, q0, q1]) rfl ⟨rfl, below_set2 (unhide HX) (Nat.le_refl _) _ _⟩

set_option maxRecDepth 100000 in
set_option maxHeartbeats 4000000 in
theorem check_many (w : World) (ao : Option Addr) (no co : Nat) (ar : Option Addr) (nr cr : Nat) (us : List Sl) (os : List (List Int)) (rs : List Int) (hO : IsLL w (.slice ao no co) us os) (hR : IsL KI w (.slice ar nr cr) rs) (h : 500 < no ∨ 16 < nr) :
    Calls Try.prog 11 #[.agg #[.slice ao no co, .slice ar nr cr]] w fun e w' => e = .returned (.agg #[.int .i64 (heapF os rs).1, .int .i64 (heapF os rs).2]) ∧ Below w.heap.size w w' := by
  have hFF : heapF os rs = (2, 0) := by unfold heapF; rw [if_pos (by rw [← hO.len, hO.row.len, hR.len]; exact h)]
  rw [hFF]
  clear hFF
  by_cases h1 : 500 < no
  · have i1 : (500 : Int) < (no : Int) := by omega
    have hln : us.length = no := hO.row.len
    have hol : os.length = no := by rw [← hO.len]; exact hln
    have hrn := hR.len
    obtain ⟨W2, e2, hx, hh, hq⟩ := two_new w (.cells #[.slice ao no co, .slice ar nr cr] 25) (.cells #[.int .i64 0, .int .i64 0] 30)
    have HX := hide hx; have HH := hide hh; have HQ := hide hq
    have HE2 := hide e2
    have HO := hide hO; have HR := hide hR
    have HOL := hide hol; have HRN := hide hrn
    clear hx hh hq e2 hO hR hln hrn hol
    go_enter Try.func11, Try.ntmps11
    go_upto_region 1 with fail
    rw [unhide HE2]
    clear HE2
    obtain ⟨b0, b1, bf0, bf1, bl⟩ := block2 (unhide HH)
    obtain ⟨q0, q1, f0, f1, ql⟩ := block2 (unhide HQ)
    go_wp2_with fail
    exact bodyPost_ret (v := .agg #[.int .i64 2, .int .i64 0]) (by simp [results, Try.results11, go_sem, q0, q1]) rfl ⟨rfl, below_set2 (unhide HX) (Nat.le_succ _) _ _⟩
  · have i1 : ¬ (500 : Int) < (no : Int) := by omega
    have i2 : (16 : Int) < (nr : Int) := by omega
    have hln : us.length = no := hO.row.len
    have hol : os.length = no := by rw [← hO.len]; exact hln
    have hrn := hR.len
    obtain ⟨W2, e2, hx, hh, hq⟩ := two_new w (.cells #[.slice ao no co, .slice ar nr cr] 25) (.cells #[.int .i64 0, .int .i64 0] 30)
    have HX := hide hx; have HH := hide hh; have HQ := hide hq
    have HE2 := hide e2
    have HO := hide hO; have HR := hide hR
    have HOL := hide hol; have HRN := hide hrn
    clear hx hh hq e2 hO hR hln hrn hol
    go_enter Try.func11, Try.ntmps11
    go_upto_region 1 with fail
    rw [unhide HE2]
    clear HE2
    obtain ⟨b0, b1, bf0, bf1, bl⟩ := block2 (unhide HH)
    obtain ⟨q0, q1, f0, f1, ql⟩ := block2 (unhide HQ)
    go_wp2_with fail
    exact bodyPost_ret (v := .agg #[.int .i64 2, .int .i64 0]) (by simp [results, Try.results11, go_sem, q0, q1]) rfl ⟨rfl, below_set2 (unhide HX) (Nat.le_succ _) _ _⟩

set_option maxRecDepth 100000 in
set_option maxHeartbeats 4000000 in
theorem check_few (w : World) (ao : Option Addr) (no co : Nat) (ar : Option Addr) (nr cr : Nat) (us : List Sl) (os : List (List Int)) (rs : List Int) (hO : IsLL w (.slice ao no co) us os) (hR : IsL KI w (.slice ar nr cr) rs) (h : ¬ (500 < no ∨ 16 < nr)) :
    Calls Try.prog 11 #[.agg #[.slice ao no co, .slice ar nr cr]] w fun e w' => e = .returned (.agg #[.int .i64 (heapF os rs).1, .int .i64 (heapF os rs).2]) ∧ Below w.heap.size w w' := by
  have i1 : ¬ (500 : Int) < (no : Int) := by omega
  have i2 : ¬ (16 : Int) < (nr : Int) := by omega
  have hno : no ≤ 500 := by omega
  have HFF : Hid (heapF os rs = if 0 ≤ fwL (no : Int) rs then (3, fwL (no : Int) rs) else rowsA (no : Int) os 0) := by
    show _ = _
    unfold heapF
    rw [← hO.len, hO.row.len, hR.len, if_neg h]
  have HMANY : Hid (¬ (500 < os.length ∨ 16 < rs.length)) := by show ¬ _; rw [← hO.len, hO.row.len, hR.len]; exact h
  have hln : us.length = no := hO.row.len
  have hol : os.length = no := by rw [← hO.len]; exact hln
  have hrn := hR.len
  obtain ⟨W2, e2, hx, hh, hq⟩ := two_new w (.cells #[.slice ao no co, .slice ar nr cr] 25) (.cells #[.int .i64 0, .int .i64 0] 30)
  have HX := hide hx; have HH := hide hh; have HQ := hide hq
  have HE2 := hide e2
  have HO := hide hO; have HR := hide hR
  have HOL := hide hol; have HRN := hide hrn
  clear hx hh hq e2 hO hR hln hrn hol
  go_enter Try.func11, Try.ntmps11
  go_upto_region 1 with fail
  rw [unhide HE2]
  clear HE2
  obtain ⟨b0, b1, bf0, bf1, bl⟩ := block2 (unhide HH)
  obtain ⟨q0, q1, f0, f1, ql⟩ := block2 (unhide HQ)
  go_upto_region 4 with (go_at_call 24; (with_reducible refine Calls.mono (firstWrong_any _ ar nr cr rs (no : Int) ((unhide HR).below (unhide HX)) (by omega)) ?_); rintro e w3 ⟨rfl, hb3⟩; have HX3 := hide (Below.next (unhide HX) hb3 (Nat.le_refl _)); have HH3 := hide (keep_below (unhide HH) hb3); have HQ3 := hide (keep_below (unhide HQ) hb3); clear hb3)
  clear b0 b1 bf0 bf1 bl q0 q1 f0 f1 ql HX HH HQ
  obtain ⟨b0, b1, bf0, bf1, bl⟩ := block2 (unhide HH3)
  obtain ⟨q0, q1, f0, f1, ql⟩ := block2 (unhide HQ3)
  obtain ⟨f, ef⟩ : ∃ X, fwL (no : Int) rs = X := ⟨_, rfl⟩
  rw [ef]
  have HEF := hide ef
  rw [ef] at HFF
  clear ef
  by_cases hf : 0 ≤ f
  · have HF2 : Hid (heapF os rs = (3, f)) := by show _ = _; rw [unhide HFF, if_pos hf]
    go_wp2_with fail
    rw [unhide HF2]
    exact bodyPost_ret (v := .agg #[.int .i64 3, .int .i64 f]) (by simp [results, Try.results11, go_sem, q0, q1]) rfl ⟨rfl, below_set2 (unhide HX3) (Nat.le_succ _) _ _⟩
  · have HF2 : Hid (heapF os rs = rowsA (no : Int) os 0) := by show _ = _; rw [unhide HFF, if_neg hf]
    have HJ0 : Hid (∀ j, j < 0 → rowF (no : Int) (os.getD j []) = 0) := fun j hj => absurd hj (Nat.not_lt_zero _)
    go_wp2_with fail
    clear b0 b1 bf0 bf1 bl q0 q1 f0 f1 ql
    go_loopw [30] (fun s wr => ∃ k : Nat, k ≤ no ∧ s = .int .i64 (k : Int) ∧ Hid (∀ j, j < k → rowF (no : Int) (os.getD j []) = 0) ∧ Hid (Below w.heap.size w wr) ∧ Hid (wr.heap[w.heap.size]? = some (.cells #[.slice ao no co, .slice ar nr cr] 25 (0, 0))) ∧ Hid (wr.heap[w.heap.size + 1]? = some (.cells #[.int .i64 0, .int .i64 0] 30 (0, 0)))) (fun s _ => no - (intOf s).toNat)
    case atStart => exact ⟨0, Nat.zero_le _, rfl, HJ0, HX3, HH3, HQ3⟩
    case round =>
      obtain ⟨k, hk, rfl, HJ, HXk, HHk, HQk⟩ := hrel
      clear HJ0 HX3 HH3 HQ3
      obtain ⟨b0, b1, bf0, bf1, bl⟩ := block2 (unhide HHk)
      obtain ⟨q0, q1, f0, f1, ql⟩ := block2 (unhide HQk)
      by_cases hlt : k < no
      · have i4 : (0 : Int) ≤ (k : Int) := by omega
        have i5 : (k : Int) < (no : Int) := by omega
        have hw1 : IntKind.i64.wrap ((k : Int) + 1) = (k : Int) + 1 := wrapi (by omega) (by omega)
        have hko : k < os.length := by rw [unhide HOL]; exact hlt
        obtain ⟨ab, cb, hub, hrow⟩ := (unhide HO).at hko
        obtain ⟨b, o, rfl, hb, hli⟩ := (unhide HO).row.opens kl (unhide HO).row.len (by omega)
        have k0 := (hli.below (unhide HXk) hb).sls (j := k) (by rw [(unhide HO).row.len]; exact hlt)
        rw [hub] at k0
        obtain ⟨row, erow⟩ : ∃ X, os.getD k [] = X := ⟨_, rfl⟩
        rw [erow] at k0 hrow
        obtain ⟨m, em⟩ : ∃ X, row.length = X := ⟨_, rfl⟩
        rw [em] at k0 hrow
        have HROW := hide (hrow.below (unhide HXk))
        have HER := hide erow; have HEM := hide em; have HKO := hide hko
        change wr.cell? ⟨b, o + k, none⟩ = some (.slice ab m cb) at k0
        clear hub hrow hli erow em hko
        by_cases h20 : 20 < m
        · have j1 : (20 : Int) < (m : Int) := by omega
          have HF3 : Hid (heapF os rs = (8, (k : Int))) := by
            show _ = _
            have e8 : rowF (no : Int) (os.getD k []) = 8 := by rw [unhide HER]; unfold rowF; rw [if_pos (by rw [unhide HEM]; exact h20)]
            rw [unhide HF2, rowsA_at _ os 0 k (unhide HKO) (unhide HJ) (by rw [e8]; decide), e8, Nat.zero_add]
          go_wp2_with fail
          rw [unhide HF3]
          exact bodyPost_ret (v := .agg #[.int .i64 8, .int .i64 (k : Int)]) (by simp [results, Try.results11, go_sem, q0, q1]) rfl ⟨rfl, below_set2 (unhide HXk) (Nat.le_succ _) _ _⟩
        · have j1 : ¬ (20 : Int) < (m : Int) := by omega
          obtain ⟨g, eg⟩ : ∃ X, fwL (no : Int) row = X := ⟨_, rfl⟩
          have HEG := hide eg
          have HFW := hide (firstWrong_any wr ab m cb row (no : Int) (unhide HROW) (by omega))
          rw [eg] at HFW
          clear eg
          by_cases hg0 : 0 ≤ g
          · have HF3 : Hid (heapF os rs = (5, (k : Int))) := by
              show _ = _
              have e8 : rowF (no : Int) (os.getD k []) = 5 := by rw [unhide HER]; unfold rowF; rw [if_neg (by rw [unhide HEM]; exact h20), unhide HEG, if_pos hg0]
              rw [unhide HF2, rowsA_at _ os 0 k (unhide HKO) (unhide HJ) (by rw [e8]; decide), e8, Nat.zero_add]
            go_wp2_with (go_at_call 24; (with_reducible refine Calls.mono (unhide HFW) ?_); rintro e w4 ⟨rfl, hb4⟩; have HX4 := hide (Below.next (unhide HXk) hb4 (Nat.le_refl _)); have HQ4 := hide (keep_below (unhide HQk) hb4); clear hb4 q0 q1 f0 f1 ql; obtain ⟨q0, q1, f0, f1, ql⟩ := block2 (unhide HQ4))
            rw [unhide HF3]
            exact bodyPost_ret (v := .agg #[.int .i64 5, .int .i64 (k : Int)]) (by simp [results, Try.results11, go_sem, q0, q1]) rfl ⟨rfl, below_set2 (unhide HX4) (Nat.le_succ _) _ _⟩
          · have HJ2 : Hid (∀ j, j < k + 1 → rowF (no : Int) (os.getD j []) = 0) := fun j hj => by
              by_cases e : j = k
              · rw [e, unhide HER]; unfold rowF; rw [if_neg (by rw [unhide HEM]; exact h20), unhide HEG, if_neg hg0]
              · exact unhide HJ j (by omega)
            go_wp2_with (go_at_call 24; (with_reducible refine Calls.mono (unhide HFW) ?_); rintro e w4 ⟨rfl, hb4⟩; have HX4 := hide (Below.next (unhide HXk) hb4 (Nat.le_refl _)); have HH4 := hide (keep_below (unhide HHk) hb4); have HQ4 := hide (keep_below (unhide HQk) hb4); clear hb4)
            go_roundw
            case rel => exact ⟨k + 1, by omega, by go_num, HJ2, HX4, HH4, HQ4⟩
            case measure => simp [intOf]; omega
      · obtain rfl : k = no := by omega
        have i5 : ¬ (k : Int) < (k : Int) := by omega
        have HF3 : Hid (heapF os rs = (0, 0)) := by
          show _ = _
          rw [unhide HF2]
          exact rowsA_none _ os 0 (fun j hj => unhide HJ j (by rw [← unhide HOL]; exact hj))
        go_wp2_with fail
        rw [unhide HF3]
        exact bodyPost_ret (v := .agg #[.int .i64 0, .int .i64 0]) (by simp [results, Try.results11, go_sem, q0, q1]) rfl ⟨rfl, below_set2 (unhide HXk) (Nat.le_succ _) _ _⟩

theorem check_any (w : World) (ao : Option Addr) (no co : Nat) (ar : Option Addr) (nr cr : Nat) (us : List Sl) (os : List (List Int)) (rs : List Int) (hO : IsLL w (.slice ao no co) us os) (hR : IsL KI w (.slice ar nr cr) rs) :
    Calls Try.prog 11 #[.agg #[.slice ao no co, .slice ar nr cr]] w fun e w' => e = .returned (.agg #[.int .i64 (heapF os rs).1, .int .i64 (heapF os rs).2]) ∧ Below w.heap.size w w' := by
  by_cases h : 500 < no ∨ 16 < nr
  · exact check_many w ao no co ar nr cr us os rs hO hR h
  · exact check_few w ao no co ar nr cr us os rs hO hR h
end Go.Proofs.Ytmkehjncnaokoaa
