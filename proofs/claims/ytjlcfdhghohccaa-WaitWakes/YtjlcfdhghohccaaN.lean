/-
  wait.Check.
-/
import Derived.Test.YtjlcfdhghohccaaM
namespace Go.Proofs.Ytjlcfdhghohccaa
open Go.RowKit

set_option maxRecDepth 100000 in
set_option maxHeartbeats 1000000 in
theorem check_many (w : World) (a : Option Addr) (n c : Nat) (hmn : 5000 < n) (hn : n ≤ maxLen) :
    Calls Try.prog 11 #[.slice a n c] w fun e w' => e = .returned (.agg #[.int .i64 2, .int .i64 0]) ∧ Below w.heap.size w w' := by
  unfold maxLen at hn
  have h1 : (5000 : Int) < (n : Int) := by omega
  go_enter Try.func11, Try.ntmps11
  go_wp2
  exact bodyPost_ret (v := .agg #[.int .i64 2, .int .i64 0]) (by simp [results, Try.results11, go_sem]) rfl ⟨rfl, (Below.refl _ _).alloc (Nat.le_refl _) _⟩

theorem set_made2 (w : World) (o : Obj) : IsSet ((w.alloc o).alloc (.map #[] 0)) (w.heap.size + 1) [] := set_made1 w o

theorem len_set {w : World} {B : Nat} {ks : List Int} (h : IsSet w B ks) : (Builtin.len_ #[57] 3 #[.map (some B)]).run Try.prog w = .ok (.int .i64 ks.length) w := by
  rw [run_len_map (P := Try.prog) (w := w) 57 3 B _ _ (by kernel_rfl) h]
  simp [setEnts, goInt]

set_option maxRecDepth 100000 in
set_option maxHeartbeats 4000000 in
theorem check_few (w : World) (a : Option Addr) (n c : Nat) (ls : List Ln) (hl : ls.length = n) (h : IsLs w (.slice a n c) ls) (hm : n ≤ 5000) (htm : ∀ j, j < n → (lAt ls j).2.length ≤ 17592186044416) :
    Calls Try.prog 11 #[.slice a n c] w fun e w' => e = .returned (faultV (firstFrom (lineC ls) n 0)) ∧ Below w.heap.size w w' := by
  have h1 : ¬ (5000 : Int) < (n : Int) := by omega
  have hmm := make_set
  obtain ⟨V, hV⟩ : ∃ V, lineC ls = V := ⟨_, rfl⟩
  rw [hV]
  have HV : Hid (∀ j, V j = lineC ls j) := fun j => by rw [hV]
  have HA := hide (h.opens hl)
  have HL := hide hl; have HTM := hide htm; have HVI := hide h
  clear h hl htm hV
  go_enter Try.func11, Try.ntmps11
  go_wp2
  go_loopw [16] (fun i wr => ∃ j : Nat, j ≤ n ∧ i = .int .i64 j ∧ firstFrom V n 0 = firstFrom V (n - j) j ∧ IsSet wr (w.heap.size + 1) (waitL (ls.take j)) ∧ Below (w.heap.size + 1) (w.alloc (.cells #[.int .i64 0, .int .i64 0] 27)) wr) (fun i _ => n - (intOf i).toNat)
  case atStart => exact ⟨0, Nat.zero_le _, rfl, rfl, set_made2 w _, (Below.refl _ _).alloc (by simp) _⟩
  case round =>
    obtain ⟨j, hj, rfl, hfrom, hs, hnx⟩ := hrel
    have HF := hide hfrom
    have HX := hide hnx; have HS := hide hs
    clear hfrom
    by_cases hlt : j < n
    · obtain ⟨b, off, rfl, hb, hc⟩ := unhide HA (by omega)
      obtain ⟨k0, av, cv, k1, hi⟩ := hc.below (below1 hnx) hb j (by rw [unhide HL]; exact hlt)
      have hVj := unhide HV j
      unfold lineC at hVj
      have htj := unhide HTM j hlt
      obtain ⟨T, eT⟩ : ∃ T, (lAt ls j).2 = T := ⟨_, rfl⟩
      obtain ⟨x, ex⟩ : ∃ x, (lAt ls j).1 = x := ⟨_, rfl⟩
      obtain ⟨ks, eks⟩ : ∃ ks, waitL (ls.take j) = ks := ⟨_, rfl⟩
      have hnext := waitL_take (ls := ls) (j := j) (by rw [unhide HL]; exact hlt)
      rw [eT] at k1 hi hVj htj hnext
      rw [ex] at k0 hVj
      rw [eks] at hVj hnext hs
      obtain ⟨m, em⟩ : ∃ m, T.length = m := ⟨_, rfl⟩
      rw [em] at k1 hi hVj htj
      obtain ⟨q, eq⟩ : ∃ q, ks.length = q := ⟨_, rfl⟩
      have HQL : Hid ((waitL (ls.take j)).length = q) := by rw [eks]; exact eq
      rw [eq] at hVj
      have i0 : (0 : Int) ≤ (j : Int) := by omega
      have i1 : (j : Int) < (n : Int) := by omega
      obtain ⟨_, av0, cv0, k10, hi0⟩ := hc j (by rw [unhide HL]; exact hlt)
      have hsame := ((below1 hnx).cell (p := ⟨b, off + j * 2 + 1, none⟩) hb).symm.trans k1
      rw [k10] at hsame
      rw [eT, em] at hsame hi0
      cases hsame
      have HI0 := hide hi0
      have HCP : Hid (∀ W, Below w.heap.size w W → ∀ i, i < n → W.cell? ⟨b, off + i * 2, none⟩ = some (.int .i64 (lAt ls i).1)) := fun W hW i hi => (hc.below hW hb i (by rw [unhide HL]; exact hi)).1
      have HNX := hide hnext
      have HTm := hide em; have HEQ := hide eq
      have HBA := hide ((Below.refl wr.heap.size wr).alloc (Nat.le_refl _) (.cells #[.int .i64 x, .slice av m cv] 55))
      have HTB := hide (new_block wr (.cells #[.int .i64 x, .slice av m cv] 55))
      have HXb := hide (next1 (unhide HX) (unhide HBA))
      have HSb := hide (hs.below (unhide HBA))
      clear hnx hc hb hi hi0 eT ex eks em eq hnext hs k10 HS
      go_upto_region 7 with fail
      clear k0 k1
      obtain ⟨Wb, eWb⟩ : ∃ W, wr.alloc (.cells #[.int .i64 x, .slice av m cv] 55) = W := ⟨_, rfl⟩
      obtain ⟨P, eP⟩ : ∃ P, wr.heap.size = P := ⟨_, rfl⟩
      rw [eWb, eP] at HTB
      rw [eWb] at HXb HSb
      rw [eWb, eP]
      clear eWb eP HBA HX
      have hlen := len_set (unhide HSb)
      rw [unhide HEQ] at hlen
      obtain ⟨t0, t1, _, _, _⟩ := block2 (unhide HTB)
      by_cases h5 : 5000 < q + m
      · rw [if_pos h5] at hVj
        have c1 : (5000 : Int) < (q : Int) + (m : Int) := by omega
        have hq : q ≤ 17592186044416 * 5000 := by
          have h7 := waitL_bound (ls := ls) (M := 17592186044416) (by rw [unhide HL]; exact unhide HTM) j (by rw [unhide HL]; exact hj)
          have h8 : j * 17592186044416 ≤ 5000 * 17592186044416 := Nat.mul_le_mul_right _ (by omega)
          have h9 := (unhide HSb)
          have h10 := unhide HQL
          omega
        have c2 : IntKind.i64.wrap ((q : Int) + (m : Int)) = (q : Int) + (m : Int) := by simp [IntKind.wrap, IntKind.bits, IntKind.signed]; omega
        obtain ⟨r0, r1, f0, f1⟩ := res1 (unhide HXb)
        go_wp2_with fail
        refine bodyPost_ret (v := .agg #[.int .i64 2, .int .i64 (j : Int)]) (by simp [results, Try.results11, go_sem, r0, r1]) rfl ⟨ret_fault ?_, end1 (unhide HXb)⟩
        rw [unhide HF, firstFrom_here hlt (by rw [hVj]; decide), hVj]
      · rw [if_neg h5] at hVj
        have c1 : ¬ (5000 : Int) < (q : Int) + (m : Int) := by omega
        have c2 : IntKind.i64.wrap ((q : Int) + (m : Int)) = (q : Int) + (m : Int) := by simp [IntKind.wrap, IntKind.bits, IntKind.signed]; omega
        go_upto_region 9 with fail
        clear hlen
        by_cases hm0 : m = 0
        · rw [if_pos (Or.inl (List.eq_nil_of_length_eq_zero (by rw [unhide HTm]; exact hm0)))] at hVj
          have g1 : ((m : Int) == 0) = true := by simp; omega
          subst hm0
          go_quiet (fail)
          have HX9 := hide (below_drewN (unhide HXb) nq)
          obtain ⟨r0, r1, f0, f1⟩ := res1 (unhide HX9)
          clear t0 t1
          go_wp2_with fail
          refine bodyPost_ret (v := .agg #[.int .i64 5, .int .i64 (j : Int)]) (by simp [results, Try.results11, go_sem, r0, r1]) rfl ⟨ret_fault ?_, end1 (unhide HX9)⟩
          rw [unhide HF, firstFrom_here hlt (by rw [hVj]; decide), hVj]
        · have g1 : ((m : Int) == 0) = false := by simp; omega
          have hT0 : T ≠ [] := fun e => hm0 (by rw [← unhide HTm, e]; rfl)
          by_cases hj0 : 0 < j
          · obtain ⟨pj, hpj⟩ : ∃ pj, j - 1 = pj := ⟨_, rfl⟩
            rw [hpj] at hVj
            have l0 := unhide HCP Wb (below1 (unhide HXb)) pj (by omega)
            obtain ⟨y, ey⟩ : ∃ y, (lAt ls pj).1 = y := ⟨_, rfl⟩
            rw [ey] at l0 hVj
            have g2 : decide ((0 : Int) < (j : Int)) = true := decide_eq_true (by omega)
            have g3 : IntKind.i64.wrap ((j : Int) - 1) = (pj : Int) := by simp [IntKind.wrap, IntKind.bits, IntKind.signed]; omega
            have g4 : (0 : Int) ≤ (pj : Int) := by omega
            have g5 : (pj : Int) < (n : Int) := by omega
            clear ey hpj
            by_cases hxy : x ≤ y
            · rw [if_pos (Or.inr ⟨hj0, hxy⟩)] at hVj
              have g6 : decide (x ≤ y) = true := decide_eq_true hxy
              go_quiet (fail)
              have HX9 := hide (below_drewN (unhide HXb) nq)
              obtain ⟨r0, r1, f0, f1⟩ := res1 (unhide HX9)
              clear t0 t1
              go_wp2_with fail
              refine bodyPost_ret (v := .agg #[.int .i64 5, .int .i64 (j : Int)]) (by simp [results, Try.results11, go_sem, r0, r1]) rfl ⟨ret_fault ?_, end1 (unhide HX9)⟩
              rw [unhide HF, firstFrom_here hlt (by rw [hVj]; decide), hVj]
            · rw [if_neg (fun h => h.elim hT0 (fun h2 => hxy h2.2))] at hVj
              have g6 : decide (x ≤ y) = false := decide_eq_false hxy
              go_quiet (fail)
              clear l0 t0 t1
              obtain ⟨W9, eW9⟩ : ∃ W, Wb.drewN nq = W := ⟨_, rfl⟩
              have HB9 : Hid (Below Wb.heap.size Wb W9) := (by rw [← eW9]; exact below_drewN (Below.refl _ _) _)
              rw [eW9]
              clear eW9
              have HX9 := hide (next1 (unhide HXb) (unhide HB9))
              have HCT := hide (chktasks_any w W9 (w.heap.size + 1) ks av m cv T (unhide HI0) (below1 (unhide HX9)) (Nat.le_succ _) ((unhide HSb).below (unhide HB9)) (by omega))
              obtain ⟨t0, t1, _, _, _⟩ := block2 (keep_below (unhide HTB) (unhide HB9))
              have hBW : w.heap.size + 1 ≤ W9.heap.size := Nat.le_trans (by simp) (unhide HX9).size
              have HBW := hide hBW
              clear hBW
              obtain ⟨R, eR⟩ : ∃ R, tasksC ks T = R := ⟨_, rfl⟩
              rw [eR] at HCT hVj
              clear eR
              by_cases hR : R = 0
              · subst hR
                go_wp2_with (go_at_call 30; refine (unhide HCT).mono ?_; rintro e w10 ⟨rfl, hs10, hb10⟩; have HS10 := hide (hs10 rfl); have HX10 := hide ((unhide HX9).trans hb10); clear hs10 hb10 t0 t1)
                go_roundw
                case rel => exact ⟨j + 1, by omega, by go_num, (unhide HF).trans (firstFrom_next hlt hVj), by rw [unhide HNX]; exact unhide HS10, unhide HX10⟩
                case measure => simp [intOf]; omega
              · have hR1 : (R != 0) = true := by simpa using hR
                go_wp2_with (go_at_call 30; refine (unhide HCT).mono ?_; rintro e w10 ⟨rfl, hs10, hb10⟩; have HX10 := hide ((unhide HX9).trans hb10); clear hs10 hb10 t0 t1; obtain ⟨r0, r1, f0, f1⟩ := res1 (unhide HX10))
                refine bodyPost_ret (v := .agg #[.int .i64 R, .int .i64 (j : Int)]) (by simp [results, Try.results11, go_sem, r0, r1]) rfl ⟨ret_fault ?_, end1 (unhide HX10)⟩
                rw [unhide HF, firstFrom_here hlt (by rw [hVj]; exact hR), hVj]
          · rw [if_neg (fun h => h.elim hT0 (fun h2 => hj0 h2.1))] at hVj
            have g2 : decide ((0 : Int) < (j : Int)) = false := decide_eq_false (by omega)
            go_quiet (fail)
            clear t0 t1
            obtain ⟨W9, eW9⟩ : ∃ W, Wb.drewN nq = W := ⟨_, rfl⟩
            have HB9 : Hid (Below Wb.heap.size Wb W9) := (by rw [← eW9]; exact below_drewN (Below.refl _ _) _)
            rw [eW9]
            clear eW9
            have HX9 := hide (next1 (unhide HXb) (unhide HB9))
            have HCT := hide (chktasks_any w W9 (w.heap.size + 1) ks av m cv T (unhide HI0) (below1 (unhide HX9)) (Nat.le_succ _) ((unhide HSb).below (unhide HB9)) (by omega))
            obtain ⟨t0, t1, _, _, _⟩ := block2 (keep_below (unhide HTB) (unhide HB9))
            have hBW : w.heap.size + 1 ≤ W9.heap.size := Nat.le_trans (by simp) (unhide HX9).size
            have HBW := hide hBW
            clear hBW
            obtain ⟨R, eR⟩ : ∃ R, tasksC ks T = R := ⟨_, rfl⟩
            rw [eR] at HCT hVj
            clear eR
            by_cases hR : R = 0
            · subst hR
              go_wp2_with (go_at_call 30; refine (unhide HCT).mono ?_; rintro e w10 ⟨rfl, hs10, hb10⟩; have HS10 := hide (hs10 rfl); have HX10 := hide ((unhide HX9).trans hb10); clear hs10 hb10 t0 t1)
              go_roundw
              case rel => exact ⟨j + 1, by omega, by go_num, (unhide HF).trans (firstFrom_next hlt hVj), by rw [unhide HNX]; exact unhide HS10, unhide HX10⟩
              case measure => simp [intOf]; omega
            · have hR1 : (R != 0) = true := by simpa using hR
              go_wp2_with (go_at_call 30; refine (unhide HCT).mono ?_; rintro e w10 ⟨rfl, hs10, hb10⟩; have HX10 := hide ((unhide HX9).trans hb10); clear hs10 hb10 t0 t1; obtain ⟨r0, r1, f0, f1⟩ := res1 (unhide HX10))
              refine bodyPost_ret (v := .agg #[.int .i64 R, .int .i64 (j : Int)]) (by simp [results, Try.results11, go_sem, r0, r1]) rfl ⟨ret_fault ?_, end1 (unhide HX10)⟩
              rw [unhide HF, firstFrom_here hlt (by rw [hVj]; exact hR), hVj]
    · obtain ⟨r0, r1, f0, f1⟩ := res1 hnx
      clear hnx hs
      go_wp2
      refine bodyPost_ret (v := .agg #[.int .i64 0, .int .i64 0]) (by simp [results, Try.results11, go_sem, r0, r1]) rfl ⟨ret_fault ((unhide HF).trans (firstFrom_none (by omega))), end1 (unhide HX)⟩

theorem check_any (w : World) (a : Option Addr) (n c : Nat) (ls : List Ln) (h : IsLs w (.slice a n c) ls) (hm : n ≤ maxLen) (htm : ∀ j, j < n → (lAt ls j).2.length ≤ 17592186044416) :
    Calls Try.prog 11 #[.slice a n c] w fun e w' => e = .returned (faultV (linesF ls)) ∧ Below w.heap.size w w' := by
  have hl := h.len
  unfold linesF
  by_cases h1 : 5000 < ls.length
  · rw [if_pos h1]
    exact check_many w a n c (by omega) hm
  · rw [if_neg h1]
    have := check_few w a n c ls hl h (by omega) htm
    rw [← hl] at this ⊢
    exact this
end Go.Proofs.Ytjlcfdhghohccaa
