/-
  ref.HeapsFault.
-/
import Derived.Test.YtmkehjncnaokoaaO
namespace Go.Proofs.Ytmkehjncnaokoaa
open Go.RowKit

set_option maxRecDepth 100000 in
set_option maxHeartbeats 4000000 in
theorem hf_many1 (w : World) (ao : Option Addr) (no co : Nat) (ar : Option Addr) (nr cr : Nat) (us : List Sl) (os : List (List Int)) (rs : List Int) (hO : IsLL w (.slice ao no co) us os) (hR : IsL KI w (.slice ar nr cr) rs) (h : 500 < no ∨ 16 < nr) (h1 : 500 < no) :
    Calls Try.prog 13 #[.agg #[.slice ao no co, .slice ar nr cr]] w fun e w' => e = .returned (.agg #[.int .i64 (heapF os rs).1, .int .i64 (heapF os rs).2]) ∧ Below w.heap.size w w' := by
  have hFF : heapF os rs = (2, 0) := by unfold heapF; rw [if_pos (by rw [← hO.len, hO.row.len, hR.len]; exact h)]
  rw [hFF]
  clear hFF
  have i1 : (500 : Int) < (no : Int) := by omega
  have hln : us.length = no := hO.row.len
  have hol : os.length = no := by rw [← hO.len]; exact hln
  have hrn := hR.len
  obtain ⟨W2, e2, hx, hh, hq⟩ := two_new w (.cells #[.slice ao no co, .slice ar nr cr] 25) (.cells #[.int .i64 0, .int .i64 0] 30)
  have HX := hide hx; have HH := hide hh; have HQ := hide hq
  have HE2 := hide e2
  have HO := hide hO; have HR := hide hR
  have HOL := hide hol; have HRN := hide hrn
  clear hx hh hq e2 hO hR hln hrn hol
  go_enter Try.func13, Try.ntmps13
  go_upto_region 1 with fail
  rw [unhide HE2]
  clear HE2
  obtain ⟨b0, b1, bf0, bf1, bl⟩ := block2 (unhide HH)
  obtain ⟨q0, q1, f0, f1, ql⟩ := block2 (unhide HQ)
  go_wp2_with (go_at_call 20; (with_reducible refine Calls.mono (F_any _ _ _) ?_); rintro e w9 ⟨rfl, hb9⟩; have HX9 := hide (Below.next (unhide HX) hb9 (Nat.le_refl _)); have HQ9 := hide (keep_below (unhide HQ) hb9); clear hb9 q0 q1 f0 f1 ql; obtain ⟨q0, q1, f0, f1, ql⟩ := block2 (unhide HQ9))
  exact bodyPost_ret (v := .agg #[.int .i64 2, .int .i64 0]) (by simp [results, Try.results13, go_sem, q0, q1]) rfl ⟨rfl, below_set2 (unhide HX9) (Nat.le_succ _) _ _⟩

set_option maxRecDepth 100000 in
set_option maxHeartbeats 4000000 in
theorem hf_many2 (w : World) (ao : Option Addr) (no co : Nat) (ar : Option Addr) (nr cr : Nat) (us : List Sl) (os : List (List Int)) (rs : List Int) (hO : IsLL w (.slice ao no co) us os) (hR : IsL KI w (.slice ar nr cr) rs) (h : 500 < no ∨ 16 < nr) (h1 : ¬ 500 < no) :
    Calls Try.prog 13 #[.agg #[.slice ao no co, .slice ar nr cr]] w fun e w' => e = .returned (.agg #[.int .i64 (heapF os rs).1, .int .i64 (heapF os rs).2]) ∧ Below w.heap.size w w' := by
  have hFF : heapF os rs = (2, 0) := by unfold heapF; rw [if_pos (by rw [← hO.len, hO.row.len, hR.len]; exact h)]
  rw [hFF]
  clear hFF
  have i1 : ¬ (500 : Int) < (no : Int) := by omega
  have i2 : (16 : Int) < (nr : Int) := by omega
  have hln : us.length = no := hO.row.len
  have hol : os.length = no := by rw [← hO.len]; exact hln
  have hrn := hR.len
  obtain ⟨W2, e2, hx, hh, hq⟩ := two_new w (.cells #[.slice ao no co, .slice ar nr cr] 25) (.cells #[.int .i64 0, .int .i64 0] 30)
  have HX := hide hx; have HH := hide hh; have HQ := hide hq
  have HE2 := hide e2
  have HO := hide hO; have HR := hide hR
  have HOL := hide hol; have HRN := hide hrn
  clear hx hh hq e2 hO hR hln hrn hol
  go_enter Try.func13, Try.ntmps13
  go_upto_region 1 with fail
  rw [unhide HE2]
  clear HE2
  obtain ⟨b0, b1, bf0, bf1, bl⟩ := block2 (unhide HH)
  obtain ⟨q0, q1, f0, f1, ql⟩ := block2 (unhide HQ)
  go_wp2_with (go_at_call 20; (with_reducible refine Calls.mono (F_any _ _ _) ?_); rintro e w9 ⟨rfl, hb9⟩; have HX9 := hide (Below.next (unhide HX) hb9 (Nat.le_refl _)); have HQ9 := hide (keep_below (unhide HQ) hb9); clear hb9 q0 q1 f0 f1 ql; obtain ⟨q0, q1, f0, f1, ql⟩ := block2 (unhide HQ9))
  exact bodyPost_ret (v := .agg #[.int .i64 2, .int .i64 0]) (by simp [results, Try.results13, go_sem, q0, q1]) rfl ⟨rfl, below_set2 (unhide HX9) (Nat.le_succ _) _ _⟩

set_option maxRecDepth 100000 in
set_option maxHeartbeats 4000000 in
theorem hf_few (w : World) (ao : Option Addr) (no co : Nat) (ar : Option Addr) (nr cr : Nat) (us : List Sl) (os : List (List Int)) (rs : List Int) (hO : IsLL w (.slice ao no co) us os) (hR : IsL KI w (.slice ar nr cr) rs) (h : ¬ (500 < no ∨ 16 < nr)) :
    Calls Try.prog 13 #[.agg #[.slice ao no co, .slice ar nr cr]] w fun e w' => e = .returned (.agg #[.int .i64 (heapF os rs).1, .int .i64 (heapF os rs).2]) ∧ Below w.heap.size w w' := by
  have i1 : ¬ (500 : Int) < (no : Int) := by omega
  have i2 : ¬ (16 : Int) < (nr : Int) := by omega
  have hno : no ≤ 500 := by omega
  have hnr : nr ≤ 16 := by omega
  have HFF : Hid (heapF os rs = if 0 ≤ fwL (no : Int) rs then (3, fwL (no : Int) rs) else rowsA (no : Int) os 0) := by
    show _ = _
    unfold heapF
    rw [← hO.len, hO.row.len, hR.len, if_neg h]
  have hln : us.length = no := hO.row.len
  have hol : os.length = no := by rw [← hO.len]; exact hln
  have hrn := hR.len
  obtain ⟨W2, e2, hx, hh, hq⟩ := two_new w (.cells #[.slice ao no co, .slice ar nr cr] 25) (.cells #[.int .i64 0, .int .i64 0] 30)
  have HX := hide hx; have HH := hide hh; have HQ := hide hq
  have HE2 := hide e2
  have HO := hide hO; have HR := hide hR
  have HOL := hide hol; have HRN := hide hrn
  clear hx hh hq e2 hO hR hln hrn hol
  go_enter Try.func13, Try.ntmps13
  go_upto_region 1 with fail
  rw [unhide HE2]
  clear HE2
  obtain ⟨b0, b1, bf0, bf1, bl⟩ := block2 (unhide HH)
  obtain ⟨q0, q1, f0, f1, ql⟩ := block2 (unhide HQ)
  have HJ0 : Hid (∀ j, j < 0 → badIn (no : Int) (rs.getD j 0) = false) := fun j hj => absurd hj (Nat.not_lt_zero _)
  go_wp2_with fail
  clear b0 b1 bf0 bf1 bl q0 q1 f0 f1 ql
  go_loopw [3] (fun s wr => ∃ k : Nat, k ≤ nr ∧ s = .int .i64 (k : Int) ∧ Hid (∀ j, j < k → badIn (no : Int) (rs.getD j 0) = false) ∧ Hid (Below w.heap.size w wr) ∧ Hid (wr.heap[w.heap.size]? = some (.cells #[.slice ao no co, .slice ar nr cr] 25 (0, 0))) ∧ Hid (wr.heap[w.heap.size + 1]? = some (.cells #[.int .i64 0, .int .i64 0] 30 (0, 0)))) (fun s _ => nr - (intOf s).toNat)
  case atStart => exact ⟨0, Nat.zero_le _, rfl, HJ0, HX, HH, HQ⟩
  case round =>
    obtain ⟨k, hk, rfl, HJ, HXk, HHk, HQk⟩ := hrel
    clear HJ0 HX HH HQ
    obtain ⟨b0, b1, bf0, bf1, bl⟩ := block2 (unhide HHk)
    obtain ⟨q0, q1, f0, f1, ql⟩ := block2 (unhide HQk)
    by_cases hlt : k < nr
    · have i4 : (0 : Int) ≤ (k : Int) := by omega
      have i5 : (k : Int) < (nr : Int) := by omega
      have hw1 : IntKind.i64.wrap ((k : Int) + 1) = (k : Int) + 1 := wrapi (by omega) (by omega)
      have hkr : k < rs.length := by rw [unhide HRN]; exact hlt
      obtain ⟨b, o, rfl, hb, hli⟩ := (unhide HR).opens ki (unhide HR).len (by omega)
      have k0 := (hli.below (unhide HXk) hb).ints (j := k) hkr
      obtain ⟨x, ex⟩ : ∃ X, rs.getD k 0 = X := ⟨_, rfl⟩
      rw [ex] at k0
      have HEX := hide ex; have HKR := hide hkr
      clear hli ex hkr
      by_cases h1 : x < -1
      · have HF2 : Hid (heapF os rs = (3, (k : Int))) := by
          show _ = _
          have e1 : fwL (no : Int) rs = (k : Int) := fw_at (unhide HKR) (unhide HJ) (by rw [unhide HEX]; unfold badIn; rw [decide_eq_true h1]; rfl)
          rw [unhide HFF, e1, if_pos i4]
        go_upto_region 6 with fail
        go_quiet (fail)
        have hbd := below_drewN (Below.refl wr.heap.size wr) nq
        have HXd := hide (Below.next (unhide HXk) hbd (Nat.le_refl _)); have HQd := hide (keep_below (unhide HQk) hbd)
        clear q0 q1 f0 f1 ql b0 b1 bf0 bf1 bl k0
        obtain ⟨Wd, ed⟩ : ∃ X, wr.drewN nq = X := ⟨_, rfl⟩
        rw [ed] at HXd HQd
        rw [ed]
        clear hbd ed
        obtain ⟨q0, q1, f0, f1, ql⟩ := block2 (unhide HQd)
        go_wp2_with (go_at_call 20; (with_reducible refine Calls.mono (F_any _ _ _) ?_); rintro e w9 ⟨rfl, hb9⟩; have HX9 := hide (Below.next (unhide HXd) hb9 (Nat.le_refl _)); have HQ9 := hide (keep_below (unhide HQd) hb9); clear hb9 q0 q1 f0 f1 ql; obtain ⟨q0, q1, f0, f1, ql⟩ := block2 (unhide HQ9))
        rw [unhide HF2]
        exact bodyPost_ret (v := .agg #[.int .i64 3, .int .i64 (k : Int)]) (by simp [results, Try.results13, go_sem, q0, q1]) rfl ⟨rfl, below_set2 (unhide HX9) (Nat.le_succ _) _ _⟩
      · by_cases h2 : (no : Int) ≤ x
        · have HF2 : Hid (heapF os rs = (3, (k : Int))) := by
            show _ = _
            have e1 : fwL (no : Int) rs = (k : Int) := fw_at (unhide HKR) (unhide HJ) (by rw [unhide HEX]; unfold badIn; rw [decide_eq_true h2, Bool.or_true])
            rw [unhide HFF, e1, if_pos i4]
          go_upto_region 6 with fail
          go_quiet (fail)
          have hbd := below_drewN (Below.refl wr.heap.size wr) nq
          have HXd := hide (Below.next (unhide HXk) hbd (Nat.le_refl _)); have HQd := hide (keep_below (unhide HQk) hbd)
          clear q0 q1 f0 f1 ql b0 b1 bf0 bf1 bl k0
          obtain ⟨Wd, ed⟩ : ∃ X, wr.drewN nq = X := ⟨_, rfl⟩
          rw [ed] at HXd HQd
          rw [ed]
          clear hbd ed
          obtain ⟨q0, q1, f0, f1, ql⟩ := block2 (unhide HQd)
          go_wp2_with (go_at_call 20; (with_reducible refine Calls.mono (F_any _ _ _) ?_); rintro e w9 ⟨rfl, hb9⟩; have HX9 := hide (Below.next (unhide HXd) hb9 (Nat.le_refl _)); have HQ9 := hide (keep_below (unhide HQd) hb9); clear hb9 q0 q1 f0 f1 ql; obtain ⟨q0, q1, f0, f1, ql⟩ := block2 (unhide HQ9))
          rw [unhide HF2]
          exact bodyPost_ret (v := .agg #[.int .i64 3, .int .i64 (k : Int)]) (by simp [results, Try.results13, go_sem, q0, q1]) rfl ⟨rfl, below_set2 (unhide HX9) (Nat.le_succ _) _ _⟩
        · have HJ2 : Hid (∀ j, j < k + 1 → badIn (no : Int) (rs.getD j 0) = false) := fun j hj => by
            by_cases e : j = k
            · rw [e, unhide HEX]; unfold badIn; rw [decide_eq_false h1, decide_eq_false h2]; rfl
            · exact unhide HJ j (by omega)
          go_upto_region 6 with fail
          go_quiet (fail)
          have hbd := below_drewN (Below.refl wr.heap.size wr) nq
          have HXd := hide (Below.next (unhide HXk) hbd (Nat.le_refl _)); have HQd := hide (keep_below (unhide HQk) hbd); have HHd := hide (keep_below (unhide HHk) hbd)
          clear hbd
          go_wp2_with fail
          go_roundw
          case rel => exact ⟨k + 1, by omega, by go_num, HJ2, HXd, HHd, HQd⟩
          case measure => simp [intOf]; omega
    · obtain rfl : k = nr := by omega
      have i5 : ¬ (k : Int) < (k : Int) := by omega
      have HF2 : Hid (heapF os rs = rowsA (no : Int) os 0) := by
        show _ = _
        have e1 : fwL (no : Int) rs = -1 := fw_none (fun j hj => unhide HJ j (by rw [← unhide HRN]; exact hj))
        rw [unhide HFF, e1, if_neg (by decide)]
      have HI0 : Hid (∀ j, j < 0 → rowF (no : Int) (os.getD j []) = 0) := fun j hj => absurd hj (Nat.not_lt_zero _)
      clear HJ HFF
      go_wp2_with fail
      clear b0 b1 bf0 bf1 bl q0 q1 f0 f1 ql
      go_loopw [4] (fun s wr => ∃ i : Nat, i ≤ no ∧ s = .int .i64 (i : Int) ∧ Hid (∀ j, j < i → rowF (no : Int) (os.getD j []) = 0) ∧ Hid (Below w.heap.size w wr) ∧ Hid (wr.heap[w.heap.size]? = some (.cells #[.slice ao no co, .slice ar k cr] 25 (0, 0))) ∧ Hid (wr.heap[w.heap.size + 1]? = some (.cells #[.int .i64 0, .int .i64 0] 30 (0, 0)))) (fun s _ => no - (intOf s).toNat)
      case atStart => exact ⟨0, Nat.zero_le _, rfl, HI0, HXk, HHk, HQk⟩
      case round =>
        obtain ⟨i, hi, rfl, HI, HXi, HHi, HQi⟩ := hrel
        clear HI0 HXk HHk HQk
        obtain ⟨b0, b1, bf0, bf1, bl⟩ := block2 (unhide HHi)
        obtain ⟨q0, q1, f0, f1, ql⟩ := block2 (unhide HQi)
        by_cases hin : i < no
        · have i6 : (0 : Int) ≤ (i : Int) := by omega
          have i7 : (i : Int) < (no : Int) := by omega
          have hw2 : IntKind.i64.wrap ((i : Int) + 1) = (i : Int) + 1 := wrapi (by omega) (by omega)
          have hko : i < os.length := by rw [unhide HOL]; exact hin
          obtain ⟨ab, cb, hub, hrow⟩ := (unhide HO).at hko
          obtain ⟨b, o, rfl, hb, hli⟩ := (unhide HO).row.opens kl (unhide HO).row.len (by omega)
          have hcl : ∀ W, Below w.heap.size w W → W.cell? ⟨b, o + i, none⟩ = some (sl (uAt us i)) := fun W hW => (hli.below hW hb).sls (j := i) (by rw [(unhide HO).row.len]; exact hin)
          rw [hub] at hcl
          obtain ⟨row, erow⟩ : ∃ X, os.getD i [] = X := ⟨_, rfl⟩
          rw [erow] at hcl hrow
          obtain ⟨m, em⟩ : ∃ X, row.length = X := ⟨_, rfl⟩
          rw [em] at hcl hrow
          have HCL : Hid (∀ W, Below w.heap.size w W → W.cell? ⟨b, o + i, none⟩ = some (.slice ab m cb)) := hcl
          have HROW := hide hrow
          have HER := hide erow; have HEM := hide em; have HKO := hide hko
          have k0 := unhide HCL _ (unhide HXi)
          clear hub hrow hli erow em hko hcl
          have HEND : Hid (∀ c : Int, c ≠ 0 → rowF (no : Int) row = c → heapF os rs = (c, (i : Int))) := fun c hc0 hc => by
            have e8 : rowF (no : Int) (os.getD i []) = c := by rw [unhide HER]; exact hc
            rw [unhide HF2, rowsA_at _ os 0 i (unhide HKO) (unhide HI) (by rw [e8]; exact hc0), e8, Nat.zero_add]
          by_cases h20 : 20 < m
          · have j1 : (20 : Int) < (m : Int) := by omega
            have HF3 : Hid (heapF os rs = (8, (i : Int))) := unhide HEND 8 (by decide) (by unfold rowF; rw [if_pos (by rw [unhide HEM]; exact h20)])
            go_wp2_with (go_at_call 20; (with_reducible refine Calls.mono (F_any _ _ _) ?_); rintro e w9 ⟨rfl, hb9⟩; have HX9 := hide (Below.next (unhide HXi) hb9 (Nat.le_refl _)); have HQ9 := hide (keep_below (unhide HQi) hb9); clear hb9 q0 q1 f0 f1 ql; obtain ⟨q0, q1, f0, f1, ql⟩ := block2 (unhide HQ9))
            rw [unhide HF3]
            exact bodyPost_ret (v := .agg #[.int .i64 8, .int .i64 (i : Int)]) (by simp [results, Try.results13, go_sem, q0, q1]) rfl ⟨rfl, below_set2 (unhide HX9) (Nat.le_succ _) _ _⟩
          · have j1 : ¬ (20 : Int) < (m : Int) := by omega
            have HN20 : Hid (¬ 20 < row.length) := by show ¬ _; rw [unhide HEM]; exact h20
            have HL0 : Hid (∀ j, j < 0 → badIn (no : Int) (row.getD j 0) = false) := fun j hj => absurd hj (Nat.not_lt_zero _)
            go_wp2_with fail
            clear b0 b1 bf0 bf1 bl q0 q1 f0 f1 ql k0
            go_loopw [5] (fun s wr => ∃ t : Nat, t ≤ m ∧ s = .int .i64 (t : Int) ∧ Hid (∀ j, j < t → badIn (no : Int) (row.getD j 0) = false) ∧ Hid (Below w.heap.size w wr) ∧ Hid (wr.heap[w.heap.size]? = some (.cells #[.slice (some ⟨b, o, none⟩) no co, .slice ar k cr] 25 (0, 0))) ∧ Hid (wr.heap[w.heap.size + 1]? = some (.cells #[.int .i64 0, .int .i64 0] 30 (0, 0)))) (fun s _ => m - (intOf s).toNat)
            case atStart => exact ⟨0, Nat.zero_le _, rfl, HL0, HXi, HHi, HQi⟩
            case round =>
              obtain ⟨t, ht, rfl, HL, HXt, HHt, HQt⟩ := hrel
              clear HL0 HXi HHi HQi
              obtain ⟨b0, b1, bf0, bf1, bl⟩ := block2 (unhide HHt)
              obtain ⟨q0, q1, f0, f1, ql⟩ := block2 (unhide HQt)
              have k0 := unhide HCL _ (unhide HXt)
              by_cases htm : t < m
              · have t4 : (0 : Int) ≤ (t : Int) := by omega
                have t5 : (t : Int) < (m : Int) := by omega
                have hw3 : IntKind.i64.wrap ((t : Int) + 1) = (t : Int) + 1 := wrapi (by omega) (by omega)
                have htr : t < row.length := by rw [unhide HEM]; exact htm
                obtain ⟨b', o', rfl, hb', hli'⟩ := (unhide HROW).opens ki (unhide HROW).len (by omega)
                have k1 := (hli'.below (unhide HXt) hb').ints (j := t) htr
                obtain ⟨x, ex⟩ : ∃ X, row.getD t 0 = X := ⟨_, rfl⟩
                rw [ex] at k1
                have HEX := hide ex; have HTR := hide htr
                clear hli' ex htr
                by_cases h1 : x < -1
                · have HF3 : Hid (heapF os rs = (5, (i : Int))) := unhide HEND 5 (by decide) (by
                    have e1 : fwL (no : Int) row = (t : Int) := fw_at (unhide HTR) (unhide HL) (by rw [unhide HEX]; unfold badIn; rw [decide_eq_true h1]; rfl)
                    unfold rowF
                    rw [if_neg (unhide HN20), e1, if_pos t4])
                  go_upto_region 16 with fail
                  go_quiet (fail)
                  have hbd := below_drewN (Below.refl wr.heap.size wr) nq
                  have HXd := hide (Below.next (unhide HXt) hbd (Nat.le_refl _)); have HQd := hide (keep_below (unhide HQt) hbd)
                  clear q0 q1 f0 f1 ql b0 b1 bf0 bf1 bl k0 k1
                  obtain ⟨Wd, ed⟩ : ∃ X, wr.drewN nq = X := ⟨_, rfl⟩
                  rw [ed] at HXd HQd
                  rw [ed]
                  clear hbd ed
                  obtain ⟨q0, q1, f0, f1, ql⟩ := block2 (unhide HQd)
                  go_wp2_with (go_at_call 20; (with_reducible refine Calls.mono (F_any _ _ _) ?_); rintro e w9 ⟨rfl, hb9⟩; have HX9 := hide (Below.next (unhide HXd) hb9 (Nat.le_refl _)); have HQ9 := hide (keep_below (unhide HQd) hb9); clear hb9 q0 q1 f0 f1 ql; obtain ⟨q0, q1, f0, f1, ql⟩ := block2 (unhide HQ9))
                  rw [unhide HF3]
                  exact bodyPost_ret (v := .agg #[.int .i64 5, .int .i64 (i : Int)]) (by simp [results, Try.results13, go_sem, q0, q1]) rfl ⟨rfl, below_set2 (unhide HX9) (Nat.le_succ _) _ _⟩
                · by_cases h2 : (no : Int) ≤ x
                  · have HF3 : Hid (heapF os rs = (5, (i : Int))) := unhide HEND 5 (by decide) (by
                      have e1 : fwL (no : Int) row = (t : Int) := fw_at (unhide HTR) (unhide HL) (by rw [unhide HEX]; unfold badIn; rw [decide_eq_true h2, Bool.or_true])
                      unfold rowF
                      rw [if_neg (unhide HN20), e1, if_pos t4])
                    go_upto_region 16 with fail
                    go_quiet (fail)
                    have hbd := below_drewN (Below.refl wr.heap.size wr) nq
                    have HXd := hide (Below.next (unhide HXt) hbd (Nat.le_refl _)); have HQd := hide (keep_below (unhide HQt) hbd)
                    clear q0 q1 f0 f1 ql b0 b1 bf0 bf1 bl k0 k1
                    obtain ⟨Wd, ed⟩ : ∃ X, wr.drewN nq = X := ⟨_, rfl⟩
                    rw [ed] at HXd HQd
                    rw [ed]
                    clear hbd ed
                    obtain ⟨q0, q1, f0, f1, ql⟩ := block2 (unhide HQd)
                    go_wp2_with (go_at_call 20; (with_reducible refine Calls.mono (F_any _ _ _) ?_); rintro e w9 ⟨rfl, hb9⟩; have HX9 := hide (Below.next (unhide HXd) hb9 (Nat.le_refl _)); have HQ9 := hide (keep_below (unhide HQd) hb9); clear hb9 q0 q1 f0 f1 ql; obtain ⟨q0, q1, f0, f1, ql⟩ := block2 (unhide HQ9))
                    rw [unhide HF3]
                    exact bodyPost_ret (v := .agg #[.int .i64 5, .int .i64 (i : Int)]) (by simp [results, Try.results13, go_sem, q0, q1]) rfl ⟨rfl, below_set2 (unhide HX9) (Nat.le_succ _) _ _⟩
                  · have HL2 : Hid (∀ j, j < t + 1 → badIn (no : Int) (row.getD j 0) = false) := fun j hj => by
                      by_cases e : j = t
                      · rw [e, unhide HEX]; unfold badIn; rw [decide_eq_false h1, decide_eq_false h2]; rfl
                      · exact unhide HL j (by omega)
                    go_upto_region 16 with fail
                    go_quiet (fail)
                    have hbd := below_drewN (Below.refl wr.heap.size wr) nq
                    have HXd := hide (Below.next (unhide HXt) hbd (Nat.le_refl _)); have HQd := hide (keep_below (unhide HQt) hbd); have HHd := hide (keep_below (unhide HHt) hbd)
                    clear hbd
                    go_wp2_with fail
                    go_roundw
                    case rel => exact ⟨t + 1, by omega, by go_num, HL2, HXd, HHd, HQd⟩
                    case measure => simp [intOf]; omega
              · obtain rfl : t = m := by omega
                have t5 : ¬ (t : Int) < (t : Int) := by omega
                have HI2 : Hid (∀ j, j < i + 1 → rowF (no : Int) (os.getD j []) = 0) := fun j hj => by
                  by_cases e : j = i
                  · have e1 : fwL (no : Int) row = -1 := fw_none (fun j hj => unhide HL j (by rw [← unhide HEM]; exact hj))
                    rw [e, unhide HER]
                    unfold rowF
                    rw [if_neg (unhide HN20), e1, if_neg (by decide)]
                  · exact unhide HI j (by omega)
                go_wp2_with fail
                go_roundw
                case rel => exact ⟨i + 1, by omega, by go_num, HI2, HXt, HHt, HQt⟩
                case measure => simp [intOf]; omega
        · obtain rfl : i = no := by omega
          have i7 : ¬ (i : Int) < (i : Int) := by omega
          have HF3 : Hid (heapF os rs = (0, 0)) := by
            show _ = _
            rw [unhide HF2]
            exact rowsA_none _ os 0 (fun j hj => unhide HI j (by rw [← unhide HOL]; exact hj))
          go_wp2_with fail
          rw [unhide HF3]
          exact bodyPost_ret (v := .agg #[.int .i64 0, .int .i64 0]) (by simp [results, Try.results13, go_sem, q0, q1]) rfl ⟨rfl, below_set2 (unhide HXi) (Nat.le_succ _) _ _⟩

theorem heapsFault_any (w : World) (ao : Option Addr) (no co : Nat) (ar : Option Addr) (nr cr : Nat) (us : List Sl) (os : List (List Int)) (rs : List Int) (hO : IsLL w (.slice ao no co) us os) (hR : IsL KI w (.slice ar nr cr) rs) :
    Calls Try.prog 13 #[.agg #[.slice ao no co, .slice ar nr cr]] w fun e w' => e = .returned (.agg #[.int .i64 (heapF os rs).1, .int .i64 (heapF os rs).2]) ∧ Below w.heap.size w w' := by
  by_cases h : 500 < no ∨ 16 < nr
  · by_cases h1 : 500 < no
    · exact hf_many1 w ao no co ar nr cr us os rs hO hR h h1
    · exact hf_many2 w ao no co ar nr cr us os rs hO hR h h1
  · exact hf_few w ao no co ar nr cr us os rs hO hR h
end Go.Proofs.Ytmkehjncnaokoaa
