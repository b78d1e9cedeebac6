/-
  taskmillref.LockFault, where those who wait are looked at.
-/
import Derived.Test.YtdpcbmekplcllaaR
namespace Go.Proofs.Ytdpcbmekplcllaa
open Go.RowKit

theorem tasks_has {l : List Po} {j : Nat} (hj : j ≤ l.length) (t : Int) : ((tasks (l.take j)).contains t = true) ↔ ∃ m, m < j ∧ (pAt l m).1 = t := by
  rw [List.contains_iff_mem]
  unfold tasks pAt
  rw [List.mem_map]
  constructor
  · rintro ⟨x, hx, rfl⟩
    obtain ⟨m, hm, rfl⟩ := List.getElem_of_mem hx
    rw [List.length_take] at hm
    refine ⟨m, by omega, ?_⟩
    rw [List.getElem_take, List.getD_eq_getElem?_getD, List.getElem?_eq_getElem (by omega), Option.getD_some]
  · rintro ⟨m, hm, rfl⟩
    refine ⟨l.getD m (0, false, 0), ?_, rfl⟩
    rw [List.getD_eq_getElem?_getD, List.getElem?_eq_getElem (by omega), Option.getD_some]
    have : l[m]'(by omega) = (l.take j)[m]'(by rw [List.length_take]; omega) := by rw [List.getElem_take]
    rw [this]
    exact List.getElem_mem _
theorem wantC_low {pre : List Int} {t : Int} {c : Bool} {u : Int} (h : t < 1) : wantC pre (t, c, u) = 3 := by
  unfold wantC
  rw [if_pos h]
theorem wantC_twice {pre : List Int} {t : Int} {c : Bool} {u : Int} (h : ¬ t < 1) (h2 : pre.contains t = true) : wantC pre (t, c, u) = 10 := by
  unfold wantC
  rw [if_neg h, if_pos h2]
theorem wantC_form {pre : List Int} {t : Int} {c : Bool} {u : Int} (h : ¬ t < 1) (h2 : pre.contains t = false) : wantC pre (t, c, u) = if u ≠ 0 then 5 else 0 := by
  unfold wantC
  rw [if_neg h, if_neg (by rw [h2]; simp)]

set_option maxRecDepth 100000 in
set_option maxHeartbeats 4000000 in
theorem fault_line (w : World) (v : Value) (P : Lk) (h : IsLock w v P) (h1 : ¬ 5000 < P.line.length) (h2 : ¬ P.readers < 0) (h3 : ¬ 1000000000 < P.readers) (h4 : P.writer = false ∨ ¬ 0 < P.readers) (h5 : 0 < P.line.length) (h6 : lets P.readers P.writer P.line = false) :
    Calls Try.prog 12 #[v] w fun e w' => e = .returned (.agg #[.int .i64 (lineC [] P.line 0).1, .int .i64 (lineC [] P.line 0).2]) ∧ Below w.heap.size w w' := by
  obtain ⟨r, bw, line⟩ := P
  obtain ⟨a0, c0, rfl, hL⟩ := h.form
  simp only at h1 h2 h3 h4 h5 h6 hL ⊢
  have HAD : Hid (∀ W, Below w.heap.size w W → Calls Try.prog 17 #[.agg #[.int .i64 r, .bool bw, .slice a0 line.length c0]] W fun e w' => ∃ ra ba sa na ca sb cb, e = .returned (.tuple #[.agg #[.int .i64 ra, .bool ba, .slice sa na ca], .slice sb (admR r bw line).2.length cb]) ∧ Below W.heap.size W w') := fun W hW => (refAdm_any W _ _ ⟨r, bw, line⟩ ⟨_, rfl, at_own (hL.below hW)⟩ (by simp only; omega) (by simp only; omega) (by simp only; omega) (by simp only; omega)).mono fun e w' ⟨v1, v2, q1, q2, q3, q4⟩ => by
    obtain ⟨sa, ca, rfl, -⟩ := q2.form
    obtain ⟨sb, cb, rfl⟩ := q3.form
    exact ⟨_, _, sa, _, ca, sb, cb, q1, q4⟩
  rw [admR_stay h6] at HAD
  simp only [List.length_nil] at HAD
  have h45 : (bw = false ∨ (bw = true ∧ ¬ 0 < r)) := by cases bw <;> simp_all
  obtain ⟨R, eR⟩ : ∃ R, lineC [] line 0 = R := ⟨_, rfl⟩
  rw [eR]
  have HR : Hid (lineC (tasks (line.take 0)) (line.drop 0) ((0 : Nat) : Int) = R) := eR
  have HOP := hide (hL.opens kp rfl)
  obtain ⟨n, en⟩ : ∃ n, line.length = n := ⟨_, rfl⟩
  rw [en] at HAD HOP h1 h5 ⊢
  have HN := hide en
  have j1 : ¬ (5000 : Int) < (n : Int) := by omega
  have j2 : (0 : Int) < (n : Int) := by omega
  obtain ⟨b, off, rfl, hbl, hli⟩ := unhide HOP h5
  have HLI := hide hli
  clear h hL h6 h4 eR en hli HOP
  obtain ⟨W0, e0, hB, k0, k1⟩ := two_new w (.cells #[.int .i64 r, .bool bw, .slice (some ⟨b, off, none⟩) n c0] 24) (.cells #[.int .i64 0, .int .i64 0] 28)
  have HX := hide hB; have HP := hide k0; have HQ := hide k1; have HE := hide e0
  clear hB k0 k1 e0
  go_enter Try.func12, Try.ntmps12
  go_upto_region 1 with fail
  rw [unhide HE]
  clear HE
  obtain ⟨⟨p0, p1, p2⟩, -, pl⟩ := block3 (unhide HP)
  have hg1 : (bw && decide (0 < r)) = false := by rcases h45 with rfl | ⟨rfl, h45⟩ <;> simp [*]
  have hA : Hid (∀ (bv : Bool), bv = bw → True) := fun _ _ => trivial
  clear hA
  rcases h45 with rfl | ⟨rfl, h45⟩
  · go_upto_region 9 with (go_at_call 17; refine (unhide HAD _ (unhide HX)).mono ?_; rintro e w1 ⟨ra, ba, sa, na, ca, sb, cb, rfl, hb1⟩; have HX_a1 := hide (Below.next (unhide HX) hb1 (by first | exact Nat.le_refl _ | (have := unhide HBA; omega))); have Kp_a1 := hide (keep_below (unhide HP) hb1); have Kq_a1 := hide (keep_below (unhide HQ) hb1); clear HX HP HQ; clear hb1 p0 p1 p2 pl)
    have HX_a2 := hide ((unhide HX_a1).alloc (Nat.le_trans (show w.heap.size ≤ w.heap.size from Nat.le_refl _) (unhide HX_a1).size) (.cells #[.int .i64 ra, .bool ba, .slice sa na ca] 24))
    have Kp_a2 := hide (keep_alloc (unhide Kp_a1) (.cells #[.int .i64 ra, .bool ba, .slice sa na ca] 24))
    have Kq_a2 := hide (keep_alloc (unhide Kq_a1) (.cells #[.int .i64 ra, .bool ba, .slice sa na ca] 24))
    have Km_a2 := hide (new_block w1 (.cells #[.int .i64 ra, .bool ba, .slice sa na ca] 24))
    have hlp_m : w.heap.size < w1.heap.size := size_of (unhide Kp_a1)
    have hlq_m : w.heap.size + 1 < w1.heap.size := size_of (unhide Kq_a1)
    obtain ⟨M, eM⟩ : ∃ X, w1.heap.size = X := ⟨_, rfl⟩
    obtain ⟨W2, eW2⟩ : ∃ X, w1.alloc (.cells #[.int .i64 ra, .bool ba, .slice sa na ca] 24) = X := ⟨_, rfl⟩
    rw [eM, eW2] at Km_a2; rw [eW2] at HX_a2 Kp_a2 Kq_a2; rw [eM] at hlp_m hlq_m; rw [eM, eW2]
    clear eM eW2 HX_a1 Kp_a1 Kq_a1
    go_upto_region 11 with fail
    have HXX := hide (Below.refl W2.heap.size W2)
    have HCL : Hid (∀ W m, Below W2.heap.size W2 W → m < n → W.cell? ⟨b, off + m * 3, none⟩ = some (.int .i64 (pAt line m).1) ∧ W.cell? ⟨b, off + m * 3 + 2, none⟩ = some (.int .i64 (pAt line m).2.2)) := fun W m hW hm => by
      have hB := Below.next (unhide HX_a2) hW (Nat.le_refl _)
      obtain ⟨q0, q1, q2⟩ := ((unhide HLI).below hB hbl).post (j := m) (by rw [unhide HN]; exact hm) (t := (pAt line m).1) (c := (pAt line m).2.1) (v := (pAt line m).2.2) rfl
      exact ⟨q0, q2⟩
    go_wp2_with fail
    go_loopw [5] (fun i W => ∃ j : Nat, j ≤ n ∧ i = .int .i64 j ∧ Hid (lineC (tasks (line.take j)) (line.drop j) (j : Int) = R) ∧ Hid (Below W2.heap.size W2 W)) (fun i _ => n - (intOf i).toNat)
    case atStart => exact ⟨0, Nat.zero_le _, rfl, HR, HXX⟩
    case round =>
      obtain ⟨j, hj, rfl, HRj, HXj⟩ := hrel
      clear HR HXX
      obtain ⟨⟨p0, p1, p2⟩, -, pl⟩ := block3 (keep_below (unhide Kp_a2) (unhide HXj))
      by_cases hlt : j < n
      · have hlt2 : j < line.length := by rw [unhide HN]; exact hlt
        obtain ⟨k0, k2⟩ := unhide HCL _ j (unhide HXj) hlt
        obtain ⟨⟨t, c, u⟩, hx⟩ : ∃ y, pAt line j = y := ⟨_, rfl⟩
        have HRn := unhide HRj
        rw [drop_at hlt2, hx] at HRn
        have HTT := hide (tasks_take hlt2)
        have HTH := hide (tasks_has (Nat.le_of_lt hlt2) t)
        rw [hx] at HTT k0 k2
        simp only at k0 k2
        obtain ⟨ks, eks⟩ : ∃ ks, tasks (line.take j) = ks := ⟨_, rfl⟩
        obtain ⟨ls, els⟩ : ∃ ls, line.drop (j + 1) = ls := ⟨_, rfl⟩
        rw [eks] at HRn HTT HTH; rw [els] at HRn
        have HRN := hide HRn; have HEL := hide els; have HPT : Hid ((pAt line j).1 = t) := congrArg Prod.fst hx; have HPU : Hid ((pAt line j).2.2 = u) := hide (by rw [hx])
        have i0 : (0 : Int) ≤ (j : Int) := by omega
        have i1 : (j : Int) < (n : Int) := by omega
        have hw1 : IntKind.i64.wrap ((j : Int) + 1) = (j : Int) + 1 := wrapi (by omega) (by omega)
        clear HRj HRn hx hlt2 eks els
        by_cases ht : t < 1
        · have HE2 : Hid (R = (3, (j : Int) + 1)) := by have := unhide HRN; rw [lineC_stop (wantC_low ht) (by decide)] at this; exact this.symm
          clear HRN HTH
          go_wp2_with (go_at_call 14; refine (refF_any _ _ _).mono ?_; rintro e w9 ⟨rfl, hb9⟩; have HX9 := hide (Below.next (unhide HXj) hb9 (Nat.le_refl _)); have HQ9 := hide (keep_below (unhide Kq_a2) (unhide HX9)); clear hb9; obtain ⟨q0, q1, f0, f1, ql⟩ := block2 (unhide HQ9))
          refine bodyPost_ret (v := .agg #[.int .i64 3, .int .i64 ((j : Int) + 1)]) (by simp [results, Try.results12, go_sem, q0, q1]) rfl ⟨?_, below_set2 (Below.next (unhide HX_a2) (unhide HX9) (Nat.le_refl _)) (Nat.le_succ _) _ _⟩
          rw [unhide HE2]
        · go_wp2_with fail
          go_loopw [6] (fun i W => ∃ m : Nat, m ≤ j ∧ i = .int .i64 m ∧ Hid (∀ q, q < m → (pAt line q).1 ≠ t) ∧ Hid (Below W2.heap.size W2 W)) (fun i _ => j - (intOf i).toNat)
          case atStart => exact ⟨0, Nat.zero_le _, rfl, (fun q hq => absurd hq (Nat.not_lt_zero q)), HXj⟩
          case round =>
            clear p0 p1 p2 pl k0 k2 HXj
            obtain ⟨m, hm, rfl, HNE, HXj⟩ := hrel
            obtain ⟨⟨p0, p1, p2⟩, -, pl⟩ := block3 (keep_below (unhide Kp_a2) (unhide HXj))
            obtain ⟨k0, k2⟩ := unhide HCL _ j (unhide HXj) hlt
            rw [unhide HPT] at k0; rw [unhide HPU] at k2
            by_cases hmj : m < j
            · have hm1 : (m : Int) < (j : Int) := by omega
              have hm2 : (m : Int) < (n : Int) := by omega
              have hm0 : (0 : Int) ≤ (m : Int) := by omega
              obtain ⟨l0, -⟩ := unhide HCL _ m (unhide HXj) (by omega)
              obtain ⟨z, ez⟩ : ∃ z, (pAt line m).1 = z := ⟨_, rfl⟩
              rw [ez] at l0
              have HZ := hide ez
              clear ez
              by_cases hz : z = t
              · subst hz
                have HE2 : Hid (R = (10, (j : Int) + 1)) := by have := unhide HRN; rw [lineC_stop (wantC_twice (by omega) ((unhide HTH).2 ⟨m, hmj, unhide HZ⟩)) (by decide)] at this; exact this.symm
                have hzz : (z == z) = true := by simp
                clear HRN HTH HNE
                go_wp2
                go_quiet (fail)
                have HXq : Hid (Below W2.heap.size W2 (wr.drewN nq)) := below_drewN (unhide HXj) nq
                obtain ⟨Wq, eWq⟩ : ∃ V, wr.drewN nq = V := ⟨_, rfl⟩
                rw [eWq] at HXq ⊢
                clear eWq p0 p1 p2 pl k0 k2 l0
                go_wp2_with (go_at_call 14; refine (refF_any _ _ _).mono ?_; rintro e w9 ⟨rfl, hb9⟩; have HX9 := hide (Below.next (unhide HXq) hb9 (Nat.le_refl _)); have HQ9 := hide (keep_below (unhide Kq_a2) (unhide HX9)); clear hb9; obtain ⟨q0, q1, f0, f1, ql⟩ := block2 (unhide HQ9))
                refine bodyPost_ret (v := .agg #[.int .i64 10, .int .i64 ((j : Int) + 1)]) (by simp [results, Try.results12, go_sem, q0, q1]) rfl ⟨?_, below_set2 (Below.next (unhide HX_a2) (unhide HX9) (Nat.le_refl _)) (Nat.le_succ _) _ _⟩
                rw [unhide HE2]
              · have hzz : (z == t) = false := by simpa using hz
                go_wp2
                go_quiet (fail)
                go_wp2
                go_roundw
                case rel => exact ⟨m + 1, by omega, by go_num, (fun q hq => by
                  by_cases e : q = m
                  · subst e; rw [unhide HZ]; exact hz
                  · exact unhide HNE q (by omega)), below_drewN (unhide HXj) nq⟩
                case measure => simp [intOf]; omega
            · have hmn : m = j := by omega
              subst hmn
              have hc : ks.contains t = false := by
                cases hq : ks.contains t with
                | false => rfl
                | true =>
                  obtain ⟨q, hq1, hq2⟩ := (unhide HTH).1 hq
                  exact absurd hq2 (unhide HNE q hq1)
              have hcx : ¬ (m : Int) < (m : Int) := by omega
              by_cases hu : u = 0
              · subst hu
                have HE3 : Hid (lineC (ks ++ [t]) ls ((m : Int) + 1) = R) := by have := unhide HRN; rw [lineC_go (by rw [wantC_form (by omega) hc, if_neg (by simp)])] at this; exact this
                clear HRN HTH HNE hc
                go_wp2
                go_roundw
                case rel => exact ⟨m + 1, by omega, by go_num, by rw [unhide HTT, unhide HEL]; exact HE3, HXj⟩
                case measure => simp [intOf]; omega
              · have HE2 : Hid (R = (5, (m : Int) + 1)) := by have := unhide HRN; rw [lineC_stop (by rw [wantC_form (by omega) hc, if_pos hu]) (by decide)] at this; exact this.symm
                have hu1 : (u != 0) = true := by simpa using hu
                clear HRN HTH HNE hc
                go_wp2_with (go_at_call 14; refine (refF_any _ _ _).mono ?_; rintro e w9 ⟨rfl, hb9⟩; have HX9 := hide (Below.next (unhide HXj) hb9 (Nat.le_refl _)); have HQ9 := hide (keep_below (unhide Kq_a2) (unhide HX9)); clear hb9; obtain ⟨q0, q1, f0, f1, ql⟩ := block2 (unhide HQ9))
                refine bodyPost_ret (v := .agg #[.int .i64 5, .int .i64 ((m : Int) + 1)]) (by simp [results, Try.results12, go_sem, q0, q1]) rfl ⟨?_, below_set2 (Below.next (unhide HX_a2) (unhide HX9) (Nat.le_refl _)) (Nat.le_succ _) _ _⟩
                rw [unhide HE2]
      · have hjn : j = n := by omega
        subst hjn
        have hcx : ¬ (j : Int) < (j : Int) := by omega
        have HE2 : Hid (R = (0, 0)) := by have := unhide HRj; rw [List.drop_eq_nil_of_le (by rw [unhide HN]; exact Nat.le_refl _)] at this; exact this.symm
        have HQ9 := hide (keep_below (unhide Kq_a2) (unhide HXj))
        obtain ⟨q0, q1, f0, f1, ql⟩ := block2 (unhide HQ9)
        go_wp2_with fail
        refine bodyPost_ret (v := .agg #[.int .i64 0, .int .i64 0]) (by simp [results, Try.results12, go_sem, q0, q1]) rfl ⟨?_, below_set2 (Below.next (unhide HX_a2) (unhide HXj) (Nat.le_refl _)) (Nat.le_succ _) _ _⟩
        rw [unhide HE2]
  · go_upto_region 9 with (go_at_call 17; refine (unhide HAD _ (unhide HX)).mono ?_; rintro e w1 ⟨ra, ba, sa, na, ca, sb, cb, rfl, hb1⟩; have HX_b1 := hide (Below.next (unhide HX) hb1 (by first | exact Nat.le_refl _ | (have := unhide HBA; omega))); have Kp_b1 := hide (keep_below (unhide HP) hb1); have Kq_b1 := hide (keep_below (unhide HQ) hb1); clear HX HP HQ; clear hb1 p0 p1 p2 pl)
    have HX_b2 := hide ((unhide HX_b1).alloc (Nat.le_trans (show w.heap.size ≤ w.heap.size from Nat.le_refl _) (unhide HX_b1).size) (.cells #[.int .i64 ra, .bool ba, .slice sa na ca] 24))
    have Kp_b2 := hide (keep_alloc (unhide Kp_b1) (.cells #[.int .i64 ra, .bool ba, .slice sa na ca] 24))
    have Kq_b2 := hide (keep_alloc (unhide Kq_b1) (.cells #[.int .i64 ra, .bool ba, .slice sa na ca] 24))
    have Km_b2 := hide (new_block w1 (.cells #[.int .i64 ra, .bool ba, .slice sa na ca] 24))
    have hlp_m : w.heap.size < w1.heap.size := size_of (unhide Kp_b1)
    have hlq_m : w.heap.size + 1 < w1.heap.size := size_of (unhide Kq_b1)
    obtain ⟨M, eM⟩ : ∃ X, w1.heap.size = X := ⟨_, rfl⟩
    obtain ⟨W2, eW2⟩ : ∃ X, w1.alloc (.cells #[.int .i64 ra, .bool ba, .slice sa na ca] 24) = X := ⟨_, rfl⟩
    rw [eM, eW2] at Km_b2; rw [eW2] at HX_b2 Kp_b2 Kq_b2; rw [eM] at hlp_m hlq_m; rw [eM, eW2]
    clear eM eW2 HX_b1 Kp_b1 Kq_b1
    go_upto_region 11 with fail
    have HXX := hide (Below.refl W2.heap.size W2)
    have HCL : Hid (∀ W m, Below W2.heap.size W2 W → m < n → W.cell? ⟨b, off + m * 3, none⟩ = some (.int .i64 (pAt line m).1) ∧ W.cell? ⟨b, off + m * 3 + 2, none⟩ = some (.int .i64 (pAt line m).2.2)) := fun W m hW hm => by
      have hB := Below.next (unhide HX_b2) hW (Nat.le_refl _)
      obtain ⟨q0, q1, q2⟩ := ((unhide HLI).below hB hbl).post (j := m) (by rw [unhide HN]; exact hm) (t := (pAt line m).1) (c := (pAt line m).2.1) (v := (pAt line m).2.2) rfl
      exact ⟨q0, q2⟩
    go_wp2_with fail
    go_loopw [5] (fun i W => ∃ j : Nat, j ≤ n ∧ i = .int .i64 j ∧ Hid (lineC (tasks (line.take j)) (line.drop j) (j : Int) = R) ∧ Hid (Below W2.heap.size W2 W)) (fun i _ => n - (intOf i).toNat)
    case atStart => exact ⟨0, Nat.zero_le _, rfl, HR, HXX⟩
    case round =>
      obtain ⟨j, hj, rfl, HRj, HXj⟩ := hrel
      clear HR HXX
      obtain ⟨⟨p0, p1, p2⟩, -, pl⟩ := block3 (keep_below (unhide Kp_b2) (unhide HXj))
      by_cases hlt : j < n
      · have hlt2 : j < line.length := by rw [unhide HN]; exact hlt
        obtain ⟨k0, k2⟩ := unhide HCL _ j (unhide HXj) hlt
        obtain ⟨⟨t, c, u⟩, hx⟩ : ∃ y, pAt line j = y := ⟨_, rfl⟩
        have HRn := unhide HRj
        rw [drop_at hlt2, hx] at HRn
        have HTT := hide (tasks_take hlt2)
        have HTH := hide (tasks_has (Nat.le_of_lt hlt2) t)
        rw [hx] at HTT k0 k2
        simp only at k0 k2
        obtain ⟨ks, eks⟩ : ∃ ks, tasks (line.take j) = ks := ⟨_, rfl⟩
        obtain ⟨ls, els⟩ : ∃ ls, line.drop (j + 1) = ls := ⟨_, rfl⟩
        rw [eks] at HRn HTT HTH; rw [els] at HRn
        have HRN := hide HRn; have HEL := hide els; have HPT : Hid ((pAt line j).1 = t) := congrArg Prod.fst hx; have HPU : Hid ((pAt line j).2.2 = u) := hide (by rw [hx])
        have i0 : (0 : Int) ≤ (j : Int) := by omega
        have i1 : (j : Int) < (n : Int) := by omega
        have hw1 : IntKind.i64.wrap ((j : Int) + 1) = (j : Int) + 1 := wrapi (by omega) (by omega)
        clear HRj HRn hx hlt2 eks els
        by_cases ht : t < 1
        · have HE2 : Hid (R = (3, (j : Int) + 1)) := by have := unhide HRN; rw [lineC_stop (wantC_low ht) (by decide)] at this; exact this.symm
          clear HRN HTH
          go_wp2_with (go_at_call 14; refine (refF_any _ _ _).mono ?_; rintro e w9 ⟨rfl, hb9⟩; have HX9 := hide (Below.next (unhide HXj) hb9 (Nat.le_refl _)); have HQ9 := hide (keep_below (unhide Kq_b2) (unhide HX9)); clear hb9; obtain ⟨q0, q1, f0, f1, ql⟩ := block2 (unhide HQ9))
          refine bodyPost_ret (v := .agg #[.int .i64 3, .int .i64 ((j : Int) + 1)]) (by simp [results, Try.results12, go_sem, q0, q1]) rfl ⟨?_, below_set2 (Below.next (unhide HX_b2) (unhide HX9) (Nat.le_refl _)) (Nat.le_succ _) _ _⟩
          rw [unhide HE2]
        · go_wp2_with fail
          go_loopw [6] (fun i W => ∃ m : Nat, m ≤ j ∧ i = .int .i64 m ∧ Hid (∀ q, q < m → (pAt line q).1 ≠ t) ∧ Hid (Below W2.heap.size W2 W)) (fun i _ => j - (intOf i).toNat)
          case atStart => exact ⟨0, Nat.zero_le _, rfl, (fun q hq => absurd hq (Nat.not_lt_zero q)), HXj⟩
          case round =>
            clear p0 p1 p2 pl k0 k2 HXj
            obtain ⟨m, hm, rfl, HNE, HXj⟩ := hrel
            obtain ⟨⟨p0, p1, p2⟩, -, pl⟩ := block3 (keep_below (unhide Kp_b2) (unhide HXj))
            obtain ⟨k0, k2⟩ := unhide HCL _ j (unhide HXj) hlt
            rw [unhide HPT] at k0; rw [unhide HPU] at k2
            by_cases hmj : m < j
            · have hm1 : (m : Int) < (j : Int) := by omega
              have hm2 : (m : Int) < (n : Int) := by omega
              have hm0 : (0 : Int) ≤ (m : Int) := by omega
              obtain ⟨l0, -⟩ := unhide HCL _ m (unhide HXj) (by omega)
              obtain ⟨z, ez⟩ : ∃ z, (pAt line m).1 = z := ⟨_, rfl⟩
              rw [ez] at l0
              have HZ := hide ez
              clear ez
              by_cases hz : z = t
              · subst hz
                have HE2 : Hid (R = (10, (j : Int) + 1)) := by have := unhide HRN; rw [lineC_stop (wantC_twice (by omega) ((unhide HTH).2 ⟨m, hmj, unhide HZ⟩)) (by decide)] at this; exact this.symm
                have hzz : (z == z) = true := by simp
                clear HRN HTH HNE
                go_wp2
                go_quiet (fail)
                have HXq : Hid (Below W2.heap.size W2 (wr.drewN nq)) := below_drewN (unhide HXj) nq
                obtain ⟨Wq, eWq⟩ : ∃ V, wr.drewN nq = V := ⟨_, rfl⟩
                rw [eWq] at HXq ⊢
                clear eWq p0 p1 p2 pl k0 k2 l0
                go_wp2_with (go_at_call 14; refine (refF_any _ _ _).mono ?_; rintro e w9 ⟨rfl, hb9⟩; have HX9 := hide (Below.next (unhide HXq) hb9 (Nat.le_refl _)); have HQ9 := hide (keep_below (unhide Kq_b2) (unhide HX9)); clear hb9; obtain ⟨q0, q1, f0, f1, ql⟩ := block2 (unhide HQ9))
                refine bodyPost_ret (v := .agg #[.int .i64 10, .int .i64 ((j : Int) + 1)]) (by simp [results, Try.results12, go_sem, q0, q1]) rfl ⟨?_, below_set2 (Below.next (unhide HX_b2) (unhide HX9) (Nat.le_refl _)) (Nat.le_succ _) _ _⟩
                rw [unhide HE2]
              · have hzz : (z == t) = false := by simpa using hz
                go_wp2
                go_quiet (fail)
                go_wp2
                go_roundw
                case rel => exact ⟨m + 1, by omega, by go_num, (fun q hq => by
                  by_cases e : q = m
                  · subst e; rw [unhide HZ]; exact hz
                  · exact unhide HNE q (by omega)), below_drewN (unhide HXj) nq⟩
                case measure => simp [intOf]; omega
            · have hmn : m = j := by omega
              subst hmn
              have hc : ks.contains t = false := by
                cases hq : ks.contains t with
                | false => rfl
                | true =>
                  obtain ⟨q, hq1, hq2⟩ := (unhide HTH).1 hq
                  exact absurd hq2 (unhide HNE q hq1)
              have hcx : ¬ (m : Int) < (m : Int) := by omega
              by_cases hu : u = 0
              · subst hu
                have HE3 : Hid (lineC (ks ++ [t]) ls ((m : Int) + 1) = R) := by have := unhide HRN; rw [lineC_go (by rw [wantC_form (by omega) hc, if_neg (by simp)])] at this; exact this
                clear HRN HTH HNE hc
                go_wp2
                go_roundw
                case rel => exact ⟨m + 1, by omega, by go_num, by rw [unhide HTT, unhide HEL]; exact HE3, HXj⟩
                case measure => simp [intOf]; omega
              · have HE2 : Hid (R = (5, (m : Int) + 1)) := by have := unhide HRN; rw [lineC_stop (by rw [wantC_form (by omega) hc, if_pos hu]) (by decide)] at this; exact this.symm
                have hu1 : (u != 0) = true := by simpa using hu
                clear HRN HTH HNE hc
                go_wp2_with (go_at_call 14; refine (refF_any _ _ _).mono ?_; rintro e w9 ⟨rfl, hb9⟩; have HX9 := hide (Below.next (unhide HXj) hb9 (Nat.le_refl _)); have HQ9 := hide (keep_below (unhide Kq_b2) (unhide HX9)); clear hb9; obtain ⟨q0, q1, f0, f1, ql⟩ := block2 (unhide HQ9))
                refine bodyPost_ret (v := .agg #[.int .i64 5, .int .i64 ((m : Int) + 1)]) (by simp [results, Try.results12, go_sem, q0, q1]) rfl ⟨?_, below_set2 (Below.next (unhide HX_b2) (unhide HX9) (Nat.le_refl _)) (Nat.le_succ _) _ _⟩
                rw [unhide HE2]
      · have hjn : j = n := by omega
        subst hjn
        have hcx : ¬ (j : Int) < (j : Int) := by omega
        have HE2 : Hid (R = (0, 0)) := by have := unhide HRj; rw [List.drop_eq_nil_of_le (by rw [unhide HN]; exact Nat.le_refl _)] at this; exact this.symm
        have HQ9 := hide (keep_below (unhide Kq_b2) (unhide HXj))
        obtain ⟨q0, q1, f0, f1, ql⟩ := block2 (unhide HQ9)
        go_wp2_with fail
        refine bodyPost_ret (v := .agg #[.int .i64 0, .int .i64 0]) (by simp [results, Try.results12, go_sem, q0, q1]) rfl ⟨?_, below_set2 (Below.next (unhide HX_b2) (unhide HXj) (Nat.le_refl _)) (Nat.le_succ _) _ _⟩
        rw [unhide HE2]

theorem lockF_whole {P : Lk} {c : Int} (h : wholeC P.readers P.writer P.line = c) (hc : c ≠ 0) : lockF P = (c, 0) := by
  unfold lockF
  rw [h, if_pos hc]
theorem lockF_line {P : Lk} (h : wholeC P.readers P.writer P.line = 0) : lockF P = lineC [] P.line 0 := by
  unfold lockF
  rw [if_neg (by simpa using h)]
theorem lockFault_any (w : World) (v : Value) (P : Lk) (h : IsLock w v P) : Calls Try.prog 12 #[v] w fun e w' => e = .returned (.agg #[.int .i64 (lockF P).1, .int .i64 (lockF P).2]) ∧ Below w.heap.size w w' := by
  by_cases h1 : 5000 < P.line.length
  · have e : lockF P = (2, 0) := lockF_whole (by unfold wholeC; rw [if_pos h1]) (by decide)
    rw [e]
    exact fault_many w v P h h1
  by_cases h2 : P.readers < 0
  · have e : lockF P = (3, 0) := lockF_whole (by unfold wholeC; rw [if_neg h1, if_pos (Or.inl h2)]) (by decide)
    rw [e]
    exact fault_low w v P h h1 h2
  by_cases h3 : 1000000000 < P.readers
  · have e : lockF P = (3, 0) := lockF_whole (by unfold wholeC; rw [if_neg h1, if_pos (Or.inr h3)]) (by decide)
    rw [e]
    exact fault_high w v P h h1 h2 h3
  by_cases h4 : P.writer = true ∧ 0 < P.readers
  · have e : lockF P = (5, 0) := lockF_whole (by unfold wholeC; rw [if_neg h1, if_neg (fun h => h.elim h2 h3), if_pos (Or.inl h4)]) (by decide)
    rw [e]
    exact fault_both w v P h h1 h2 h3 h4.1 h4.2
  have h4' : P.writer = false ∨ ¬ 0 < P.readers := by
    cases hb : P.writer with
    | false => exact Or.inl rfl
    | true => exact Or.inr (fun h => h4 ⟨hb, h⟩)
  cases h6 : lets P.readers P.writer P.line with
  | true =>
    have e : lockF P = (5, 0) := lockF_whole (by unfold wholeC; rw [if_neg h1, if_neg (fun h => h.elim h2 h3), if_pos (Or.inr h6)]) (by decide)
    rw [e]
    have h5 : 0 < P.line.length := by
      obtain ⟨t, c, u, l2, e2, -, -⟩ := lets_cons h6
      rw [e2]
      exact Nat.succ_pos _
    exact fault_lets w v P h h1 h2 h3 h4' h5 h6
  | false =>
    have e : lockF P = lineC [] P.line 0 := lockF_line (by
      unfold wholeC
      rw [if_neg h1, if_neg (fun h => h.elim h2 h3), if_neg (fun h => h.elim h4 (fun h => by rw [h6] at h; cases h))])
    rw [e]
    by_cases h5 : 0 < P.line.length
    · exact fault_line w v P h h1 h2 h3 h4' h5 h6
    · have e2 : P.line = [] := List.eq_nil_of_length_eq_zero (by omega)
      rw [e2]
      exact fault_empty w v P h h1 h2 h3 h4' (by rw [e2]; rfl)
end Go.Proofs.Ytdpcbmekplcllaa
