/-
  taskmillref.Given.
-/
import Derived.Test.YtpogcfdmkeebmaaJ
namespace Go.Proofs.Ytpogcfdmkeebmaa
open Go.RowKit

set_option maxRecDepth 100000 in
set_option maxHeartbeats 2000000 in
theorem refGiven_any (w : World) (o : Option Nat) (v : Value) (f : Int) (line : List Po) (h : AtG KP o w v f line) (hf0 : 0 ≤ f) (hf1 : f ≤ 4000000000) (hu : ∀ x ∈ line, 0 ≤ x.2.2) (hn : line.length ≤ 100000) :
    Calls Try.prog 29 #[v] w fun e w' => ∃ v1 v2, e = .returned (.tuple #[v1, v2]) ∧ AtG KP o w' v1 (giveR f line).1.1 (giveR f line).1.2 ∧ Own KI w.heap.size w' v2 (giveR f line).2 ∧ Below w.heap.size w w' := by
  obtain ⟨a0, c0, rfl, hL⟩ := h.form
  clear h
  have HL := hide hL
  obtain ⟨R, eR⟩ : ∃ R, giveR f line = R := ⟨_, rfl⟩
  rw [eR]
  have HR : Hid (R = ((giveR f line).1, [] ++ (giveR f line).2)) := hide (by rw [← eR]; simp)
  have HU := hide hu
  clear hL eR hu
  obtain ⟨W0, e0, hB, k0, k1⟩ := two_new w (.cells #[.int .i64 f, .slice a0 line.length c0] 51) (.cells #[.int .i64 0, .slice none 0 0] 51)
  have HB := hide hB; have HK0 := hide k0; have HK1 := hide k1; have HE := hide e0
  clear hB k0 k1 e0
  obtain ⟨N, eN⟩ : ∃ N, line.length = N := ⟨_, rfl⟩
  have HN := hide eN
  rw [eN] at hn
  clear eN
  go_enter Try.func29, Try.ntmps29
  go_upto_region 1 with fail
  rw [unhide HE]
  clear HE
  go_wp2_with fail
  go_loopw [4] (fun x W => ∃ (f1 : Int) (l1 : List Po) (s1 : Option Addr) (c1 : Nat) (ts : List Int) (s2 : Option Addr) (c2 : Nat), x = .slice s2 ts.length c2 ∧ Hid (R = ((giveR f1 l1).1, ts ++ (giveR f1 l1).2)) ∧ Hid (ts.length + l1.length = N) ∧ 0 ≤ f1 ∧ f1 ≤ 4000000000 ∧ Hid (∀ x ∈ l1, 0 ≤ x.2.2) ∧ Hid (W.heap[w.heap.size]? = some (.cells #[.int .i64 f1, .slice s1 l1.length c1] 51)) ∧ Hid (W.heap[w.heap.size + 1]? = some (.cells #[.int .i64 0, .slice none 0 0] 51)) ∧ Hid (At KP o w (.slice s1 l1.length c1) l1) ∧ Hid (Own KI w.heap.size W (.slice s2 ts.length c2) ts) ∧ Hid (Below w.heap.size w W)) (fun x _ => N - lenV x)
  case atStart => exact ⟨f, line, a0, c0, [], none, 0, rfl, HR, (by have := unhide HN; show ([] : List Int).length + line.length = N; simpa using this), hf0, hf1, HU, HK0, HK1, HL, own_nil _ _, HB⟩
  case round =>
    obtain ⟨f1, l1, s1, c1, ts, s2, c2, rfl, HR1, HM, q0, q1, HU1, HP, HQ, HW, HO, HX⟩ := hrel
    clear HR HB HK0 HK1 HL HN HU
    obtain ⟨m, em⟩ : ∃ m, ts.length = m := ⟨_, rfl⟩
    rw [em] at HO HM ⊢
    have hm : m ≤ N := by have := unhide HM; omega
    cases l1 with
    | nil =>
      have HER := HR1
      rw [giveR_stay (l := []) rfl, List.append_nil] at HER
      simp only [List.length_nil] at HP HW
      clear HR1 HM HU1
      obtain ⟨p0, p1, pf0, pf1, pl⟩ := block2 (unhide HP)
      go_wp2
      go_quiet (fail)
      obtain ⟨Wq, eWq⟩ : ∃ V, wr.drewN nq = V := ⟨_, rfl⟩
      have hbq : Below wr.heap.size wr Wq := by rw [← eWq]; exact below_drewN (Below.refl _ _) nq
      rw [eWq]
      clear eWq
      clear p0 p1 pf0 pf1 pl
      (have HX_a1 := hide (Below.next (unhide HX) hbq (by first | exact Nat.le_refl _ | (have := unhide HBA; omega))); have Kp_a1 := hide (keep_below (unhide HP) hbq); have Kq_a1 := hide (keep_below (unhide HQ) hbq); have Ot_a1 := hide ((unhide HO).below hbq); clear HX HP HQ HO; clear hbq)
      obtain ⟨p0, p1, pf0, pf1, pl⟩ := block2 (unhide Kp_a1)
      obtain ⟨q0, q1, qf0, qf1, ql⟩ := block2 (unhide Kq_a1)
      go_wp2_with fail
      clear p0 p1 pf0 pf1 pl q0 q1 qf0 qf1 ql
      have HX_a2 := hide (put2_below (y0 := .int .i64 f1) (y1 := .slice s1 0 c1) (unhide HX_a1) (show w.heap.size ≤ w.heap.size + 1 by first | omega | (have := unhide HBA; omega)))
      have Kp_a2 := hide ((put2_keep (y0 := .int .i64 f1) (y1 := .slice s1 0 c1) (show w.heap.size ≠ w.heap.size + 1 by omega)).trans (unhide Kp_a1))
      have Kq_a2 := hide (put2_new (y0 := .int .i64 f1) (y1 := .slice s1 0 c1) (unhide Kq_a1))
      have Ot_a2 := hide ((unhide Ot_a1).keep (fun k hk => put2_keep (y0 := .int .i64 f1) (y1 := .slice s1 0 c1) (Own.ne (unhide Ot_a1) (unhide Kq_a1) (by decide) k hk)))
      obtain ⟨Wf, eWf⟩ : ∃ X, put2 Wq (w.heap.size + 1) (.int .i64 f1) (.slice s1 0 c1) = X := ⟨_, rfl⟩
      rw [eWf] at HX_a2 Kp_a2 Kq_a2 Ot_a2
      have eWf2 : ((Wq).setCell ⟨w.heap.size + 1, 0, none⟩ (.int .i64 f1)).setCell ⟨w.heap.size + 1, 1, none⟩ (.slice s1 0 c1) = Wf := eWf
      rw [eWf2]
      clear eWf eWf2 HX_a1 Kp_a1 Kq_a1 Ot_a1
      obtain ⟨r0, r1, rf0, rf1, rl⟩ := block2 (unhide Kq_a2)
      refine bodyPost_ret (v := .tuple #[.agg #[.int .i64 f1, .slice s1 0 c1], .slice s2 m c2]) (by simp [results, Try.results29, go_sem, r0, r1]) rfl ⟨_, _, rfl, ?_, ?_, unhide HX_a2⟩
      · rw [unhide HER]
        exact ⟨_, rfl, (unhide HW).1.below (unhide HX_a2), (unhide HW).2⟩
      · rw [unhide HER]
        exact unhide Ot_a2
    | cons x l2 =>
      obtain ⟨t, c, u⟩ := x
      have hu0 : 0 ≤ u := unhide HU1 _ List.mem_cons_self
      obtain ⟨b, off, rfl, hbl, hli⟩ := (unhide HW).1.opens kp rfl (by simp)
      have HPF := hide (post_first hli (by simp) rfl)
      have HFT := hide (unhide HW).1.fits
      obtain ⟨n, en⟩ : ∃ n, l2.length = n := ⟨_, rfl⟩
      have en1 : ((t, c, u) :: l2).length = n + 1 := by rw [← en]; rfl
      rw [en1] at HP HW HFT HM
      have HEN := hide en
      clear hli en en1
      have i1 : (0 : Int) < ((n + 1 : Nat) : Int) := by omega
      have k0 : wr.cell? ⟨b, off, none⟩ = some (.int .i64 t) := ((unhide HX).cell (p := ⟨b, off, none⟩) hbl).trans (unhide HPF).1
      have k2 : wr.cell? ⟨b, off + 2, none⟩ = some (.int .i64 u) := ((unhide HX).cell (p := ⟨b, off + 2, none⟩) hbl).trans (unhide HPF).2.2
      by_cases huf : u ≤ f1
      · have hlet : lets f1 ((t, c, u) :: l2) = true := by simpa [lets] using huf
        have HU2 : Hid (∀ x ∈ l2, 0 ≤ x.2.2) := fun x hx => unhide HU1 x (List.mem_cons_of_mem _ hx)
        have ER := unhide HR1
        rw [giveR_go hlet] at ER
        have HER : Hid (R = ((giveR (f1 - u) l2).1, (ts ++ [t]) ++ (giveR (f1 - u) l2).2)) := hide (by rw [ER]; simp)
        obtain ⟨A, hA⟩ : ∃ A, A = (if c1 = 1 then some ⟨b, off, none⟩ else some ⟨b, off + 3, none⟩ : Option Addr) := ⟨_, rfl⟩
        have HNW : Hid (At KP o w (.slice A n (c1 - 1)) l2) := ⟨IsL.drop_if kp (unhide HW).1 (p := 1) (by omega) (by rw [hA]; rfl), fun k hk => (unhide HW).2 k (by
          rw [hA] at hk
          split at hk <;> · simp [Value.ownBlock] at hk ⊢; exact hk)⟩
        have HA2 := hide hA
        have hge : f1 ≥ u := huf
        clear hA ER HR1 HU1 hlet
        obtain ⟨p0, p1, pf0, pf1, pl⟩ := block2 (unhide HP)
        go_wp2
        go_quiet (fail)
        obtain ⟨Wq, eWq⟩ : ∃ V, wr.drewN nq = V := ⟨_, rfl⟩
        have hbq : Below wr.heap.size wr Wq := by rw [← eWq]; exact below_drewN (Below.refl _ _) nq
        rw [eWq]
        clear eWq k0 k2
        clear p0 p1 pf0 pf1 pl
        (have HX_b1 := hide (Below.next (unhide HX) hbq (by first | exact Nat.le_refl _ | (have := unhide HBA; omega))); have Kp_b1 := hide (keep_below (unhide HP) hbq); have Kq_b1 := hide (keep_below (unhide HQ) hbq); have Ot_b1 := hide ((unhide HO).below hbq); clear HX HP HQ HO; clear hbq)
        obtain ⟨p0, p1, pf0, pf1, pl⟩ := block2 (unhide Kp_b1)
        have k0 : Wq.cell? ⟨b, off, none⟩ = some (.int .i64 t) := ((unhide HX_b1).cell (p := ⟨b, off, none⟩) hbl).trans (unhide HPF).1
        have HI1 := hide (isl_one ki Wq t)
        have HO5 := hide ((unhide Ot_b1).below ((Below.refl _ _).alloc (Nat.le_refl _) (.cells #[.int .i64 t] 3)))
        go_upto_region 4 with (at_builtin; refine wpList_append ki rfl (.tmp 19) (.tmp 25) rfl w.heap.size _ ts rfl (unhide HO5) _ [t] rfl (unhide HI1) (m + 1) (by simp [em]) (by simp [KI]; omega) ((unhide HX_b1).alloc (unhide HX_b1).size (.cells #[.int .i64 t] 3)).size ?_; intro a6 c6 w6 ho6 hg6; have HO6 := hide ho6; have HX6 := hide (((unhide HX_b1).alloc (unhide HX_b1).size (.cells #[.int .i64 t] 3)).grown hg6 ((unhide HX_b1).alloc (unhide HX_b1).size (.cells #[.int .i64 t] 3)).size (fun k hk => ((unhide HO5).lt k hk).1)); have Kp_zz := hide (keep_grown (keep_alloc (unhide Kp_b1) (.cells #[.int .i64 t] 3)) hg6 (fun j hj => Own.ne (unhide HO5) (keep_alloc (unhide Kp_b1) (.cells #[.int .i64 t] 3)) (by decide) j hj)); have Kq_zz := hide (keep_grown (keep_alloc (unhide Kq_b1) (.cells #[.int .i64 t] 3)) hg6 (fun j hj => Own.ne (unhide HO5) (keep_alloc (unhide Kq_b1) (.cells #[.int .i64 t] 3)) (by decide) j hj)); clear ho6 hg6)
        clear HI1 HO5 Ot_b1 HX_b1 Kp_b1 Kq_b1 k0
        clear p0 p1 pf0 pf1 pl
        obtain ⟨p0, p1, pf0, pf1, pl⟩ := block2 (unhide Kp_zz)
        have k2 : w6.cell? ⟨b, off + 2, none⟩ = some (.int .i64 u) := ((unhide HX6).cell (p := ⟨b, off + 2, none⟩) hbl).trans (unhide HPF).2.2
        have hwu : IntKind.i64.wrap (f1 - u) = f1 - u := wrapi (by omega) (by omega)
        go_wp2_with fail
        go_region
        try rw [hwu]
        clear p0 p1 pf0 pf1 pl
        clear k2
        have HX_b2 := hide (below_set (i := 0) (unhide HX6) (show w.heap.size ≤ w.heap.size by first | omega | (have := unhide HBA; omega)) (.int .i64 (f1 - u)))
        have Kp_b2 := hide (set2b (i := 0) (y := .int .i64 (f1 - u)) (unhide Kp_zz))
        have Kq_b2 := hide (keep_set (g := w.heap.size) (o := 0) (v := .int .i64 (f1 - u)) (unhide Kq_zz) (by omega))
        have Ot_b2 := hide ((unhide HO6).keep (fun k hk => Below.heap_setCell w6 ⟨w.heap.size, 0, none⟩ (.int .i64 (f1 - u)) k (by have := Own.ne (unhide HO6) (unhide Kp_zz) (by decide) k hk; simpa using this)))
        obtain ⟨W7, eW7⟩ : ∃ X, w6.setCell ⟨w.heap.size, 0, none⟩ (.int .i64 (f1 - u)) = X := ⟨_, rfl⟩
        rw [eW7] at HX_b2 Kp_b2 Kq_b2 Ot_b2 ⊢
        clear eW7 HX6 Kp_zz Kq_zz HO6
        simp only [List.setIfInBounds_toArray, List.set_cons_zero] at Kp_b2
        have hW8 : Below W7.heap.size W7 W7.drew := (Below.refl _ _).drew
        obtain ⟨W8, eW8⟩ : ∃ X, W7.drew = X := ⟨_, rfl⟩
        rw [eW8] at hW8 ⊢
        (have HX_b3 := hide (Below.next (unhide HX_b2) hW8 (by first | exact Nat.le_refl _ | (have := unhide HBA; omega))); have Kp_b3 := hide (keep_below (unhide Kp_b2) hW8); have Kq_b3 := hide (keep_below (unhide Kq_b2) hW8); have Ot_b3 := hide ((unhide Ot_b2).below hW8); clear HX_b2 Kp_b2 Kq_b2 Ot_b2)
        clear hW8 eW8
        obtain ⟨p0, p1, pf0, pf1, pl⟩ := block2 (unhide Kp_b3)
        have i2 : (1 : Int) ≤ ((n + 1 : Nat) : Int) := by omega
        have i3 : ((n + 1 : Nat) : Int) ≤ (c1 : Int) := by have := unhide HFT; omega
        go_wp2_with fail
        clear p0 p1 pf0 pf1 pl
        have hA := unhide HA2
        rw [← hA]
        clear hA
        obtain ⟨c4, ec4⟩ : ∃ x, c1 - 1 = x := ⟨_, rfl⟩
        rw [ec4] at HNW ⊢
        clear ec4 i1 i2 i3
        have HX_b4 := hide (below_set (i := 1) (unhide HX_b3) (show w.heap.size ≤ w.heap.size by first | omega | (have := unhide HBA; omega)) (.slice A n c4))
        have Kp_b4 := hide (set2b (i := 1) (y := .slice A n c4) (unhide Kp_b3))
        have Kq_b4 := hide (keep_set (g := w.heap.size) (o := 1) (v := .slice A n c4) (unhide Kq_b3) (by omega))
        have Ot_b4 := hide ((unhide Ot_b3).keep (fun k hk => Below.heap_setCell W8 ⟨w.heap.size, 1, none⟩ (.slice A n c4) k (by have := Own.ne (unhide Ot_b3) (unhide Kp_b3) (by decide) k hk; simpa using this)))
        obtain ⟨W9, eW9⟩ : ∃ X, W8.setCell ⟨w.heap.size, 1, none⟩ (.slice A n c4) = X := ⟨_, rfl⟩
        rw [eW9] at HX_b4 Kp_b4 Kq_b4 Ot_b4 ⊢
        clear eW9 HX_b3 Kp_b3 Kq_b3 Ot_b3
        simp only [List.setIfInBounds_toArray, List.set_cons_zero, List.set_cons_succ] at Kp_b4
        go_roundw
        case rel =>
          have el : (ts ++ [t]).length = m + 1 := by simp [em]
          refine ⟨f1 - u, l2, A, c4, ts ++ [t], a6, c6, by rw [el], HER, ?_, by omega, by omega, HU2, ?_, Kq_b4, ?_, ?_, HX_b4⟩
          · have := unhide HM
            have := unhide HEN
            show (ts ++ [t]).length + l2.length = N
            omega
          · rw [unhide HEN]; exact Kp_b4
          · rw [unhide HEN]; exact HNW
          · rw [el]; exact Ot_b4
        case measure => (simp only [lenV]; have := unhide HM; omega)
      · have hlet : lets f1 ((t, c, u) :: l2) = false := by simpa [lets] using huf
        have HER := HR1
        rw [giveR_stay hlet, List.append_nil] at HER
        clear HR1 HM HU1 hlet
        obtain ⟨p0, p1, pf0, pf1, pl⟩ := block2 (unhide HP)
        go_wp2
        go_quiet (fail)
        obtain ⟨Wq, eWq⟩ : ∃ V, wr.drewN nq = V := ⟨_, rfl⟩
        have hbq : Below wr.heap.size wr Wq := by rw [← eWq]; exact below_drewN (Below.refl _ _) nq
        rw [eWq]
        clear eWq k0 k2
        clear p0 p1 pf0 pf1 pl
        (have HX_c1 := hide (Below.next (unhide HX) hbq (by first | exact Nat.le_refl _ | (have := unhide HBA; omega))); have Kp_c1 := hide (keep_below (unhide HP) hbq); have Kq_c1 := hide (keep_below (unhide HQ) hbq); have Ot_c1 := hide ((unhide HO).below hbq); clear HX HP HQ HO; clear hbq)
        obtain ⟨p0, p1, pf0, pf1, pl⟩ := block2 (unhide Kp_c1)
        obtain ⟨q0, q1, qf0, qf1, ql⟩ := block2 (unhide Kq_c1)
        go_wp2_with fail
        clear p0 p1 pf0 pf1 pl q0 q1 qf0 qf1 ql
        have HX_c2 := hide (put2_below (y0 := .int .i64 f1) (y1 := .slice (some ⟨b, off, none⟩) (n + 1) c1) (unhide HX_c1) (show w.heap.size ≤ w.heap.size + 1 by first | omega | (have := unhide HBA; omega)))
        have Kp_c2 := hide ((put2_keep (y0 := .int .i64 f1) (y1 := .slice (some ⟨b, off, none⟩) (n + 1) c1) (show w.heap.size ≠ w.heap.size + 1 by omega)).trans (unhide Kp_c1))
        have Kq_c2 := hide (put2_new (y0 := .int .i64 f1) (y1 := .slice (some ⟨b, off, none⟩) (n + 1) c1) (unhide Kq_c1))
        have Ot_c2 := hide ((unhide Ot_c1).keep (fun k hk => put2_keep (y0 := .int .i64 f1) (y1 := .slice (some ⟨b, off, none⟩) (n + 1) c1) (Own.ne (unhide Ot_c1) (unhide Kq_c1) (by decide) k hk)))
        obtain ⟨Wf, eWf⟩ : ∃ X, put2 Wq (w.heap.size + 1) (.int .i64 f1) (.slice (some ⟨b, off, none⟩) (n + 1) c1) = X := ⟨_, rfl⟩
        rw [eWf] at HX_c2 Kp_c2 Kq_c2 Ot_c2
        have eWf2 : ((Wq).setCell ⟨w.heap.size + 1, 0, none⟩ (.int .i64 f1)).setCell ⟨w.heap.size + 1, 1, none⟩ (.slice (some ⟨b, off, none⟩) (n + 1) c1) = Wf := eWf
        rw [eWf2]
        clear eWf eWf2 HX_c1 Kp_c1 Kq_c1 Ot_c1
        obtain ⟨r0, r1, rf0, rf1, rl⟩ := block2 (unhide Kq_c2)
        refine bodyPost_ret (v := .tuple #[.agg #[.int .i64 f1, .slice (some ⟨b, off, none⟩) (n + 1) c1], .slice s2 m c2]) (by simp [results, Try.results29, go_sem, r0, r1]) rfl ⟨_, _, rfl, ?_, ?_, unhide HX_c2⟩
        · rw [unhide HER]
          exact ⟨_, rfl, (unhide HW).1.below (unhide HX_c2), (unhide HW).2⟩
        · rw [unhide HER]
          exact unhide Ot_c2
end Go.Proofs.Ytpogcfdmkeebmaa
