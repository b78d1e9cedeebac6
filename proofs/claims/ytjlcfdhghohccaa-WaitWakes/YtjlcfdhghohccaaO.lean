/-
  taskmillref.LinesFault.
-/
import Derived.Test.YtjlcfdhghohccaaN
namespace Go.Proofs.Ytjlcfdhghohccaa
open Go.RowKit

set_option maxRecDepth 100000 in
set_option maxHeartbeats 400000 in
theorem f_any (w : World) (a b : Int) :
    Calls Try.prog 15 #[.int .i64 a, .int .i64 b] w fun e w' => e = .returned (.agg #[.int .i64 a, .int .i64 b]) ∧ Below w.heap.size w w' := by
  go_enter Try.func15, Try.ntmps15
  go_wp2
  exact bodyPost_ret (v := .agg #[.int .i64 a, .int .i64 b]) (by simp [results, Try.results15, go_sem]) rfl ⟨rfl, ((Below.refl _ _).alloc (Nat.le_refl _) _)⟩

theorem res1b {w W W' : World} {o : Obj} (h : Below (w.heap.size + 1) (w.alloc o) W) (h' : Below W.heap.size W W') : Below (w.heap.size + 1) (w.alloc o) W' := next1 h h'

set_option maxRecDepth 100000 in
set_option maxHeartbeats 1000000 in
theorem lf_many (w : World) (a : Option Addr) (n c : Nat) (hmn : 5000 < n) (hn : n ≤ maxLen) :
    Calls Try.prog 13 #[.slice a n c] w fun e w' => e = .returned (.agg #[.int .i64 2, .int .i64 0]) ∧ Below w.heap.size w w' := by
  unfold maxLen at hn
  have h1 : (5000 : Int) < (n : Int) := by omega
  have HX := hide (Below.refl (w.heap.size + 1) (w.alloc (.cells #[.int .i64 0, .int .i64 0] 27)))
  go_enter Try.func13, Try.ntmps13
  go_wp2_with (go_at_call 15; refine (f_any _ _ _).mono ?_; rintro e w5 ⟨rfl, hb5⟩; have HX5 := hide (next1 (unhide HX) hb5); obtain ⟨r0, r1, f0, f1⟩ := res1 (unhide HX5); clear hb5)
  exact bodyPost_ret (v := .agg #[.int .i64 2, .int .i64 0]) (by simp [results, Try.results13, go_sem, r0, r1]) rfl ⟨rfl, end1 (unhide HX5)⟩

set_option maxRecDepth 100000 in
set_option maxHeartbeats 4000000 in
theorem lf_few (w : World) (a : Option Addr) (n c : Nat) (ls : List Ln) (hl : ls.length = n) (h : IsLs w (.slice a n c) ls) (hm : n ≤ 5000) (htm : ∀ j, j < n → (lAt ls j).2.length ≤ 17592186044416) :
    Calls Try.prog 13 #[.slice a n c] w fun e w' => e = .returned (faultV (firstFrom (lineC ls) n 0)) ∧ Below w.heap.size w w' := by
  have h1 : ¬ (5000 : Int) < (n : Int) := by omega
  obtain ⟨V, hV⟩ : ∃ V, lineC ls = V := ⟨_, rfl⟩
  rw [hV]
  have HV : Hid (∀ j, V j = lineC ls j) := fun j => by rw [hV]
  have HA := hide (h.opens hl)
  have HL := hide hl; have HTM := hide htm
  clear h hl htm hV
  go_enter Try.func13, Try.ntmps13
  go_wp2
  go_loopw [3, 4] (fun s i wr => ∃ (j : Nat) (ah : Option Addr) (ch : Nat), j ≤ n ∧ s = .slice ah (waitL (ls.take j)).length ch ∧ i = .int .i64 j ∧ firstFrom V n 0 = firstFrom V (n - j) j ∧ Own (w.heap.size + 1) wr (.slice ah (waitL (ls.take j)).length ch) (waitL (ls.take j)) ∧ (waitL (ls.take j)).length ≤ 5000 ∧ Below (w.heap.size + 1) (w.alloc (.cells #[.int .i64 0, .int .i64 0] 27)) wr) (fun _ i _ => n - (intOf i).toNat)
  case atStart => exact ⟨0, none, 0, Nat.zero_le _, rfl, rfl, rfl, own_nil _ _, by simp [waitL], Below.refl _ _⟩
  case round =>
    obtain ⟨j, ah, ch, hj, rfl, rfl, hfrom, ho, hq5, hnx⟩ := hrel
    have HF := hide hfrom
    have HX := hide hnx
    clear hfrom
    by_cases hlt : j < n
    · obtain ⟨b, off, rfl, hb, hc⟩ := unhide HA (by omega)
      obtain ⟨k00, av, cv, k10, hi0⟩ := hc j (by rw [unhide HL]; exact hlt)
      have hVj := unhide HV j
      unfold lineC at hVj
      have htj := unhide HTM j hlt
      obtain ⟨T, eT⟩ : ∃ T, (lAt ls j).2 = T := ⟨_, rfl⟩
      obtain ⟨x, ex⟩ : ∃ x, (lAt ls j).1 = x := ⟨_, rfl⟩
      have hnext := waitL_take (ls := ls) (j := j) (by rw [unhide HL]; exact hlt)
      obtain ⟨ks, eks⟩ : ∃ ks, waitL (ls.take j) = ks := ⟨_, rfl⟩
      rw [eT] at k10 hi0 hVj htj hnext
      rw [ex] at k00 hVj
      rw [eks] at hVj hnext ho hq5
      rw [eks]
      obtain ⟨m, em⟩ : ∃ m, T.length = m := ⟨_, rfl⟩
      rw [em] at k10 hi0 hVj htj
      obtain ⟨q, eq⟩ : ∃ q, ks.length = q := ⟨_, rfl⟩
      rw [eq] at hVj ho hq5
      rw [eq]
      have i0 : (0 : Int) ≤ (j : Int) := by omega
      have i1 : (j : Int) < (n : Int) := by omega
      have HCP : Hid (∀ W, Below w.heap.size w W → ∀ i, i < n → W.cell? ⟨b, off + i * 2, none⟩ = some (.int .i64 (lAt ls i).1)) := fun W hW i hi => (hc.below hW hb i (by rw [unhide HL]; exact hi)).1
      have HK : Hid (∀ W, Below w.heap.size w W → W.cell? ⟨b, off + j * 2, none⟩ = some (.int .i64 x) ∧ W.cell? ⟨b, off + j * 2 + 1, none⟩ = some (.slice av m cv)) := fun W hW => ⟨(hW.cell (p := ⟨b, off + j * 2, none⟩) hb).trans k00, (hW.cell (p := ⟨b, off + j * 2 + 1, none⟩) hb).trans k10⟩
      have HAT : Hid (0 < m → ∃ b1 off1, av = some ⟨b1, off1, none⟩ ∧ b1 < w.heap.size ∧ ∀ i, i < m → w.cell? ⟨b1, off1 + i, none⟩ = some (.int .i64 (T.getD i 0))) := fun hp => by
        obtain ⟨b1, off1, c', e, hb1, hc1⟩ := hi0.at (by omega)
        rw [em] at e
        cases e
        exact ⟨b1, off1, rfl, hb1, fun i hi => hc1 i (by omega)⟩
      have HNX := hide hnext; have HO := hide ho
      have HTm := hide em; have HEQ := hide eq
      obtain ⟨k0, k1⟩ := unhide HK wr (below1 hnx)
      clear hnx hc hb hi0 eT ex eks em eq hnext ho k00 k10
      by_cases h5 : 5000 < q + m
      · rw [if_pos h5] at hVj
        have c1 : (5000 : Int) < (q : Int) + (m : Int) := by omega
        have c2 : IntKind.i64.wrap ((q : Int) + (m : Int)) = (q : Int) + (m : Int) := by simp [IntKind.wrap, IntKind.bits, IntKind.signed]; omega
        go_wp2_with (go_at_call 15; refine (f_any _ _ _).mono ?_; rintro e w5 ⟨rfl, hb5⟩; have HX5 := hide (next1 (unhide HX) hb5); obtain ⟨r0, r1, f0, f1⟩ := res1 (unhide HX5); clear hb5)
        refine bodyPost_ret (v := .agg #[.int .i64 2, .int .i64 (j : Int)]) (by simp [results, Try.results13, go_sem, r0, r1]) rfl ⟨ret_fault ?_, end1 (unhide HX5)⟩
        rw [unhide HF, firstFrom_here hlt (by rw [hVj]; decide), hVj]
      · rw [if_neg h5] at hVj
        have c1 : ¬ (5000 : Int) < (q : Int) + (m : Int) := by omega
        have c2 : IntKind.i64.wrap ((q : Int) + (m : Int)) = (q : Int) + (m : Int) := by simp [IntKind.wrap, IntKind.bits, IntKind.signed]; omega
        go_upto_region 9 with fail
        by_cases hm0 : m = 0
        · rw [if_pos (Or.inl (List.eq_nil_of_length_eq_zero (by rw [unhide HTm]; exact hm0)))] at hVj
          subst hm0
          go_quiet (fail)
          have HX9 := hide (below_drewN (unhide HX) nq)
          clear k0 k1
          go_wp2_with (go_at_call 15; refine (f_any _ _ _).mono ?_; rintro e w5 ⟨rfl, hb5⟩; have HX5 := hide (next1 (unhide HX9) hb5); obtain ⟨r0, r1, f0, f1⟩ := res1 (unhide HX5); clear hb5)
          refine bodyPost_ret (v := .agg #[.int .i64 5, .int .i64 (j : Int)]) (by simp [results, Try.results13, go_sem, r0, r1]) rfl ⟨ret_fault ?_, end1 (unhide HX5)⟩
          rw [unhide HF, firstFrom_here hlt (by rw [hVj]; decide), hVj]
        · have g1 : ((m : Int) == 0) = false := by simp; omega
          have hT0 : T ≠ [] := fun e => hm0 (by rw [← unhide HTm, e]; rfl)
          by_cases hj0 : 0 < j
          · obtain ⟨pj, hpj⟩ : ∃ pj, j - 1 = pj := ⟨_, rfl⟩
            rw [hpj] at hVj
            have l0 := unhide HCP wr (below1 (unhide HX)) pj (by omega)
            obtain ⟨y, ey⟩ : ∃ y, (lAt ls pj).1 = y := ⟨_, rfl⟩
            rw [ey] at l0 hVj
            have g2 : decide ((0 : Int) < (j : Int)) = true := decide_eq_true (by omega)
            have g3 : IntKind.i64.wrap ((j : Int) - 1) = (pj : Int) := by simp [IntKind.wrap, IntKind.bits, IntKind.signed]; omega
            have g4 : (0 : Int) ≤ (pj : Int) := by omega
            have g5 : (pj : Int) < (n : Int) := by omega
            clear ey hpj
            by_cases hxy : x ≤ y
            · rw [if_pos (Or.inr ⟨hj0, hxy⟩)] at hVj
              have g6 : decide (x ≤ y) = true := decide_eq_true hxy
              go_quiet (fail)
              clear l0
              have HX9 := hide (below_drewN (unhide HX) nq)
              clear k0 k1
              go_wp2_with (go_at_call 15; refine (f_any _ _ _).mono ?_; rintro e w5 ⟨rfl, hb5⟩; have HX5 := hide (next1 (unhide HX9) hb5); obtain ⟨r0, r1, f0, f1⟩ := res1 (unhide HX5); clear hb5)
              refine bodyPost_ret (v := .agg #[.int .i64 5, .int .i64 (j : Int)]) (by simp [results, Try.results13, go_sem, r0, r1]) rfl ⟨ret_fault ?_, end1 (unhide HX5)⟩
              rw [unhide HF, firstFrom_here hlt (by rw [hVj]; decide), hVj]
            · rw [if_neg (fun h => h.elim hT0 (fun h2 => hxy h2.2))] at hVj
              have g6 : decide (x ≤ y) = false := decide_eq_false hxy
              go_quiet (fail)
              clear l0
              have HX9 := hide (below_drewN (unhide HX) nq)
              have HO9 := hide ((unhide HO).below (below_drewN (Below.refl _ _) nq))
              obtain ⟨W9, eW9⟩ : ∃ W, wr.drewN nq = W := ⟨_, rfl⟩
              rw [eW9] at HX9 HO9
              rw [eW9]
              clear eW9
              have HVR := hide hVj
              clear hVj k0 k1 HX
              go_wp2_with fail
              go_loopw [3, 5] (fun s i wr => ∃ (y : Nat) (ah : Option Addr) (ch : Nat), y ≤ m ∧ s = .slice ah (q + y) ch ∧ i = .int .i64 y ∧ Own (w.heap.size + 1) wr (.slice ah (q + y) ch) (ks ++ T.take y) ∧ V j = tasksC (ks ++ T.take y) (T.drop y) ∧ Below (w.heap.size + 1) (w.alloc (.cells #[.int .i64 0, .int .i64 0] 27)) wr) (fun _ i _ => m - (intOf i).toNat)
              case atStart => exact ⟨0, ah, ch, Nat.zero_le _, rfl, rfl, by simpa using unhide HO9, by simpa using unhide HVR, unhide HX9⟩
              case round =>
                clear HO9 HX9 HVR
                obtain ⟨y, ah2, ch2, hy, rfl, rfl, ho2, hr2, hnx2⟩ := hrel
                obtain ⟨k0, k1⟩ := unhide HK wr (below1 hnx2)
                by_cases hlt2 : y < m
                · obtain ⟨b1, off1, rfl, hb1, hc1⟩ := unhide HAT (by omega)
                  have l0 := ((below1 hnx2).cell (p := ⟨b1, off1 + y, none⟩) hb1).trans (hc1 y hlt2)
                  have hyT : y < T.length := by rw [unhide HTm]; exact hlt2
                  rw [drop_at hyT, tasksC] at hr2
                  have htk := take_at hyT
                  obtain ⟨t, et⟩ : ∃ t, T.getD y 0 = t := ⟨_, rfl⟩
                  obtain ⟨us, eu⟩ : ∃ us, ks ++ T.take y = us := ⟨_, rfl⟩
                  rw [et] at l0 hr2 htk
                  rw [eu] at hr2 ho2
                  have hul : us.length = q + y := by rw [← eu, List.length_append, unhide HEQ, List.length_take, unhide HTm]; omega
                  have g0 : (0 : Int) ≤ (y : Int) := by omega
                  have g1' : (y : Int) < (m : Int) := by omega
                  have HX2 := hide hnx2; have HO2 := hide ho2; have HTK := hide htk; have HEU := hide eu; have HUL := hide hul
                  clear hnx2 ho2 htk eu et hc1 hb1 hul
                  by_cases h1t : t < 1
                  · rw [if_pos h1t] at hr2
                    have HR := hide hr2
                    clear hr2
                    go_wp2_with (go_at_call 15; refine (f_any _ _ _).mono ?_; rintro e w5 ⟨rfl, hb5⟩; have HX5 := hide (next1 (unhide HX2) hb5); obtain ⟨r0, r1, f0, f1⟩ := res1 (unhide HX5); clear hb5)
                    refine bodyPost_ret (v := .agg #[.int .i64 3, .int .i64 (j : Int)]) (by simp [results, Try.results13, go_sem, r0, r1]) rfl ⟨ret_fault ?_, end1 (unhide HX5)⟩
                    rw [unhide HF, firstFrom_here hlt (by rw [unhide HR]; decide), unhide HR]
                  · rw [if_neg h1t] at hr2
                    have HHAS := hide (has_any wr _ us t (unhide HO2).ints (by rw [unhide HUL]; unfold maxLen; omega))
                    cases hin : us.contains t with
                    | true =>
                      rw [if_pos hin] at hr2
                      rw [hin] at HHAS
                      have HR := hide hr2
                      clear hr2 hin
                      go_wp2_with (first
                        | (go_at_call 16; refine (unhide HHAS).mono ?_; rintro e w4 ⟨rfl, hb4⟩; have HX4 := hide (next1 (unhide HX2) hb4); clear hb4)
                        | (go_at_call 15; refine (f_any _ _ _).mono ?_; rintro e w5 ⟨rfl, hb5⟩; have HX5 := hide (next1 (unhide HX4) hb5); obtain ⟨r0, r1, f0, f1⟩ := res1 (unhide HX5); clear hb5))
                      refine bodyPost_ret (v := .agg #[.int .i64 10, .int .i64 (j : Int)]) (by simp [results, Try.results13, go_sem, r0, r1]) rfl ⟨ret_fault ?_, end1 (unhide HX5)⟩
                      rw [unhide HF, firstFrom_here hlt (by rw [unhide HR]; decide), unhide HR]
                    | false =>
                      rw [if_neg (by rw [hin]; simp)] at hr2
                      rw [hin] at HHAS
                      have HR := hide hr2
                      clear hr2 hin
                      have HK2 : Hid (∀ W, Below wr.heap.size wr W → (W.cell? ⟨b, off + j * 2, none⟩ = some (.int .i64 x) ∧ W.cell? ⟨b, off + j * 2 + 1, none⟩ = some (.slice (some ⟨b1, off1, none⟩) m cv)) ∧ W.cell? ⟨b1, off1 + y, none⟩ = some (.int .i64 t)) := fun W hW => ⟨unhide HK W (Below.next (below1 (unhide HX2)) hW (Nat.le_refl _)), (hW.cell (p := ⟨b1, off1 + y, none⟩) (World.block_lt_of_cell? _ _ l0)).trans l0⟩
                      go_wp2_with (first
                        | (go_at_call 16; refine (unhide HHAS).mono ?_; rintro e w4 ⟨rfl, hb4⟩; have HX4 := hide (next1 (unhide HX2) hb4); have HO4 := hide ((unhide HO2).below hb4); obtain ⟨⟨k0', k1'⟩, l0'⟩ := unhide HK2 w4 hb4; clear hb4)
                        | (at_builtin; refine wpList_append_ints rfl (.tmp 88) (.tmp 97) rfl (w.heap.size + 1) (.slice ah2 (q + y) ch2) us rfl ((unhide HO4).below ((Below.refl _ _).alloc (Nat.le_refl _) _)) _ [t] rfl (ints_new w4 t 3) (q + (y + 1)) (by rw [unhide HUL]; rfl) (by omega) (Nat.le_trans (Nat.le_trans (by simp) (unhide HX4).size) (by simp)) ?_; intro a6 c6 w6 ho6 hg6; have HO6 := hide ho6; have HX6 := hide (((unhide HX4).alloc (Nat.le_trans (by simp) (unhide HX4).size) _).grown hg6 (Nat.le_trans (Nat.le_trans (by simp) (unhide HX4).size) (by simp)) (fun k hk => ((unhide HO4).lt k hk).1)); clear ho6 hg6))
                      go_roundw
                      case rel => exact ⟨y + 1, a6, c6, by omega, rfl, by go_num, by rw [unhide HTK, ← List.append_assoc, unhide HEU]; exact unhide HO6, by rw [unhide HTK, ← List.append_assoc, unhide HEU]; exact unhide HR, unhide HX6⟩
                      case measure => simp [intOf]; omega
                · obtain rfl : y = m := by omega
                  rw [List.take_of_length_le (by rw [unhide HTm]; exact Nat.le_refl _)] at ho2
                  rw [List.drop_eq_nil_of_le (by rw [unhide HTm]; exact Nat.le_refl _)] at hr2
                  have HX2 := hide hnx2; have HO2 := hide ho2; have HR2 : Hid (V j = 0) := hr2
                  clear hnx2 ho2 hr2
                  go_wp2_with fail
                  go_roundw
                  case rel =>
                    have hln : (waitL (ls.take (j + 1))).length = q + y := by rw [unhide HNX, List.length_append, unhide HEQ, unhide HTm]
                    exact ⟨j + 1, ah2, ch2, by omega, by rw [hln], by go_num, (unhide HF).trans (firstFrom_next hlt (unhide HR2)), by rw [hln, unhide HNX]; exact unhide HO2, by rw [hln]; omega, unhide HX2⟩
                  case measure => simp [intOf]; omega
          · rw [if_neg (fun h => h.elim hT0 (fun h2 => hj0 h2.1))] at hVj
            have g2 : decide ((0 : Int) < (j : Int)) = false := decide_eq_false (by omega)
            go_quiet (fail)
            have HX9 := hide (below_drewN (unhide HX) nq)
            have HO9 := hide ((unhide HO).below (below_drewN (Below.refl _ _) nq))
            obtain ⟨W9, eW9⟩ : ∃ W, wr.drewN nq = W := ⟨_, rfl⟩
            rw [eW9] at HX9 HO9
            rw [eW9]
            clear eW9
            have HVR := hide hVj
            clear hVj k0 k1 HX
            go_wp2_with fail
            go_loopw [3, 5] (fun s i wr => ∃ (y : Nat) (ah : Option Addr) (ch : Nat), y ≤ m ∧ s = .slice ah (q + y) ch ∧ i = .int .i64 y ∧ Own (w.heap.size + 1) wr (.slice ah (q + y) ch) (ks ++ T.take y) ∧ V j = tasksC (ks ++ T.take y) (T.drop y) ∧ Below (w.heap.size + 1) (w.alloc (.cells #[.int .i64 0, .int .i64 0] 27)) wr) (fun _ i _ => m - (intOf i).toNat)
            case atStart => exact ⟨0, ah, ch, Nat.zero_le _, rfl, rfl, by simpa using unhide HO9, by simpa using unhide HVR, unhide HX9⟩
            case round =>
              clear HO9 HX9 HVR
              obtain ⟨y, ah2, ch2, hy, rfl, rfl, ho2, hr2, hnx2⟩ := hrel
              obtain ⟨k0, k1⟩ := unhide HK wr (below1 hnx2)
              by_cases hlt2 : y < m
              · obtain ⟨b1, off1, rfl, hb1, hc1⟩ := unhide HAT (by omega)
                have l0 := ((below1 hnx2).cell (p := ⟨b1, off1 + y, none⟩) hb1).trans (hc1 y hlt2)
                have hyT : y < T.length := by rw [unhide HTm]; exact hlt2
                rw [drop_at hyT, tasksC] at hr2
                have htk := take_at hyT
                obtain ⟨t, et⟩ : ∃ t, T.getD y 0 = t := ⟨_, rfl⟩
                obtain ⟨us, eu⟩ : ∃ us, ks ++ T.take y = us := ⟨_, rfl⟩
                rw [et] at l0 hr2 htk
                rw [eu] at hr2 ho2
                have hul : us.length = q + y := by rw [← eu, List.length_append, unhide HEQ, List.length_take, unhide HTm]; omega
                have g0 : (0 : Int) ≤ (y : Int) := by omega
                have g1' : (y : Int) < (m : Int) := by omega
                have HX2 := hide hnx2; have HO2 := hide ho2; have HTK := hide htk; have HEU := hide eu; have HUL := hide hul
                clear hnx2 ho2 htk eu et hc1 hb1 hul
                by_cases h1t : t < 1
                · rw [if_pos h1t] at hr2
                  have HR := hide hr2
                  clear hr2
                  go_wp2_with (go_at_call 15; refine (f_any _ _ _).mono ?_; rintro e w5 ⟨rfl, hb5⟩; have HX5 := hide (next1 (unhide HX2) hb5); obtain ⟨r0, r1, f0, f1⟩ := res1 (unhide HX5); clear hb5)
                  refine bodyPost_ret (v := .agg #[.int .i64 3, .int .i64 (j : Int)]) (by simp [results, Try.results13, go_sem, r0, r1]) rfl ⟨ret_fault ?_, end1 (unhide HX5)⟩
                  rw [unhide HF, firstFrom_here hlt (by rw [unhide HR]; decide), unhide HR]
                · rw [if_neg h1t] at hr2
                  have HHAS := hide (has_any wr _ us t (unhide HO2).ints (by rw [unhide HUL]; unfold maxLen; omega))
                  cases hin : us.contains t with
                  | true =>
                    rw [if_pos hin] at hr2
                    rw [hin] at HHAS
                    have HR := hide hr2
                    clear hr2 hin
                    go_wp2_with (first
                      | (go_at_call 16; refine (unhide HHAS).mono ?_; rintro e w4 ⟨rfl, hb4⟩; have HX4 := hide (next1 (unhide HX2) hb4); clear hb4)
                      | (go_at_call 15; refine (f_any _ _ _).mono ?_; rintro e w5 ⟨rfl, hb5⟩; have HX5 := hide (next1 (unhide HX4) hb5); obtain ⟨r0, r1, f0, f1⟩ := res1 (unhide HX5); clear hb5))
                    refine bodyPost_ret (v := .agg #[.int .i64 10, .int .i64 (j : Int)]) (by simp [results, Try.results13, go_sem, r0, r1]) rfl ⟨ret_fault ?_, end1 (unhide HX5)⟩
                    rw [unhide HF, firstFrom_here hlt (by rw [unhide HR]; decide), unhide HR]
                  | false =>
                    rw [if_neg (by rw [hin]; simp)] at hr2
                    rw [hin] at HHAS
                    have HR := hide hr2
                    clear hr2 hin
                    have HK2 : Hid (∀ W, Below wr.heap.size wr W → (W.cell? ⟨b, off + j * 2, none⟩ = some (.int .i64 x) ∧ W.cell? ⟨b, off + j * 2 + 1, none⟩ = some (.slice (some ⟨b1, off1, none⟩) m cv)) ∧ W.cell? ⟨b1, off1 + y, none⟩ = some (.int .i64 t)) := fun W hW => ⟨unhide HK W (Below.next (below1 (unhide HX2)) hW (Nat.le_refl _)), (hW.cell (p := ⟨b1, off1 + y, none⟩) (World.block_lt_of_cell? _ _ l0)).trans l0⟩
                    go_wp2_with (first
                      | (go_at_call 16; refine (unhide HHAS).mono ?_; rintro e w4 ⟨rfl, hb4⟩; have HX4 := hide (next1 (unhide HX2) hb4); have HO4 := hide ((unhide HO2).below hb4); obtain ⟨⟨k0', k1'⟩, l0'⟩ := unhide HK2 w4 hb4; clear hb4)
                      | (at_builtin; refine wpList_append_ints rfl (.tmp 88) (.tmp 97) rfl (w.heap.size + 1) (.slice ah2 (q + y) ch2) us rfl ((unhide HO4).below ((Below.refl _ _).alloc (Nat.le_refl _) _)) _ [t] rfl (ints_new w4 t 3) (q + (y + 1)) (by rw [unhide HUL]; rfl) (by omega) (Nat.le_trans (Nat.le_trans (by simp) (unhide HX4).size) (by simp)) ?_; intro a6 c6 w6 ho6 hg6; have HO6 := hide ho6; have HX6 := hide (((unhide HX4).alloc (Nat.le_trans (by simp) (unhide HX4).size) _).grown hg6 (Nat.le_trans (Nat.le_trans (by simp) (unhide HX4).size) (by simp)) (fun k hk => ((unhide HO4).lt k hk).1)); clear ho6 hg6))
                    go_roundw
                    case rel => exact ⟨y + 1, a6, c6, by omega, rfl, by go_num, by rw [unhide HTK, ← List.append_assoc, unhide HEU]; exact unhide HO6, by rw [unhide HTK, ← List.append_assoc, unhide HEU]; exact unhide HR, unhide HX6⟩
                    case measure => simp [intOf]; omega
              · obtain rfl : y = m := by omega
                rw [List.take_of_length_le (by rw [unhide HTm]; exact Nat.le_refl _)] at ho2
                rw [List.drop_eq_nil_of_le (by rw [unhide HTm]; exact Nat.le_refl _)] at hr2
                have HX2 := hide hnx2; have HO2 := hide ho2; have HR2 : Hid (V j = 0) := hr2
                clear hnx2 ho2 hr2
                go_wp2_with fail
                go_roundw
                case rel =>
                  have hln : (waitL (ls.take (j + 1))).length = q + y := by rw [unhide HNX, List.length_append, unhide HEQ, unhide HTm]
                  exact ⟨j + 1, ah2, ch2, by omega, by rw [hln], by go_num, (unhide HF).trans (firstFrom_next hlt (unhide HR2)), by rw [hln, unhide HNX]; exact unhide HO2, by rw [hln]; omega, unhide HX2⟩
                case measure => simp [intOf]; omega
    · obtain ⟨r0, r1, f0, f1⟩ := res1 hnx
      clear hnx ho
      go_wp2
      refine bodyPost_ret (v := .agg #[.int .i64 0, .int .i64 0]) (by simp [results, Try.results13, go_sem, r0, r1]) rfl ⟨ret_fault ((unhide HF).trans (firstFrom_none (by omega))), end1 (unhide HX)⟩

theorem lf_any (w : World) (a : Option Addr) (n c : Nat) (ls : List Ln) (h : IsLs w (.slice a n c) ls) (hm : n ≤ maxLen) (htm : ∀ j, j < n → (lAt ls j).2.length ≤ 17592186044416) :
    Calls Try.prog 13 #[.slice a n c] w fun e w' => e = .returned (faultV (linesF ls)) ∧ Below w.heap.size w w' := by
  have hl := h.len
  unfold linesF
  by_cases h1 : 5000 < ls.length
  · rw [if_pos h1]
    exact lf_many w a n c (by omega) hm
  · rw [if_neg h1]
    have := lf_few w a n c ls hl h (by omega) htm
    rw [← hl] at this ⊢
    exact this
end Go.Proofs.Ytjlcfdhghohccaa
