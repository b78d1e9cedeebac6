/-
  clock.Pass.
-/
import Derived.Test.YtidpmcanfedbdaaS
namespace Go.Proofs.Ytidpmcanfedbdaa
open Go.RowKit

theorem grown_block {w w' : World} {row : Option Nat} (h : w.grownBy w' row) {k : Nat} (hk : k < w.heap.size) (hr : ∀ j, row = some j → j ≠ k) : w'.heap[k]? = w.heap[k]? := by
  obtain ⟨_, _, _, _, hb⟩ := h
  exact hb k hk (by cases row with | none => simp | some j => have := hr j rfl; simp; omega)
def lenV : Value → Nat
  | .slice _ n _ => n
  | _ => 0

set_option maxRecDepth 100000 in
set_option maxHeartbeats 2000000 in
theorem pass_run (w : World) (v : Value) (now next : Int) (xs : List Al) (ticks : Int) (h : IsC w v now next xs) (hn : xs.length ≤ maxLen) (hf : (passF now next xs ticks).1 = 0) :
    Calls Try.prog 20 #[v, .int .i64 ticks] w fun e w' => (∀ nx zs td, runL (now + ticks) 5000 next xs [] = some (nx, zs, td) → ∃ v' a c, e = .returned (.tuple #[.agg #[.int .i64 (now + ticks), .int .i64 nx, v'], .slice a td.length c, .agg #[.int .i64 0, .int .i64 0]]) ∧ New KA w.heap.size w' v' zs ∧ Own KO w.heap.size w' (.slice a td.length c) td) ∧ (runL (now + ticks) 5000 next xs [] = none → e = .returned (.tuple #[.agg #[.int .i64 0, .int .i64 0, .slice none 0 0], .slice none 0 0, .agg #[.int .i64 9, .int .i64 0]])) ∧ Below w.heap.size w w' := by
  obtain ⟨eF, gd, ht0, ht1, hE1⟩ := passF_good hf
  have gl := gd.len; have gn0 := gd.n0; have gn1 := gd.n1
  have HC : Hid (∀ W, Below w.heap.size w W → Calls Try.prog 34 #[v, .int .i64 ticks] W fun e w' => e = .returned (.agg #[.int .i64 0, .int .i64 0]) ∧ Below W.heap.size W w') := fun W hW => by
    have := checkPass_any W v now next xs ticks (h.below hW) hn
    rw [eF] at this
    exact this
  obtain ⟨a0, c0, rfl, hL⟩ := h.form
  have HFR : Hid (∀ W, Below w.heap.size w W → Calls Try.prog 35 #[.slice a0 xs.length c0] W fun e w' => ∃ a' c', e = .returned (.slice a' xs.length c') ∧ Own KA W.heap.size w' (.slice a' xs.length c') xs ∧ Below W.heap.size W w') := fun W hW => fresh_any W _ xs (hL.below hW) (by omega)
  obtain ⟨R, eR⟩ : ∃ R, runL (now + ticks) 5000 next xs [] = R := ⟨_, rfl⟩
  rw [eR]
  obtain ⟨E, eE⟩ : ∃ E, now + ticks = E := ⟨_, rfl⟩
  have hw1 : IntKind.i64.wrap (now + ticks) = E := (wrapi (by omega) (by omega)).trans eE
  rw [eE] at eR hE1 ⊢
  obtain ⟨n, en⟩ : ∃ n, xs.length = n := ⟨_, rfl⟩
  rw [en] at HC HFR hn gl ⊢
  have HN := hide en; have HR := hide eR; have HGD := hide gd
  clear h hL en eR eE eF gd hf
  obtain ⟨W0, e0, hB, k0, k1, k2⟩ := three_new w (.cells #[.int .i64 now, .int .i64 next, .slice a0 n c0] 24) (.cells #[.int .i64 0, .int .i64 0, .slice none 0 0] 24) (.cells #[.int .i64 0, .int .i64 0] 29)
  have HX := hide hB; have HP := hide k0; have HQ := hide k1; have HG := hide k2; have HE := hide e0
  clear hB k0 k1 k2 e0
  go_enter Try.func20, Try.ntmps20
  go_upto_region 1 with fail
  rw [unhide HE]
  clear HE
  obtain ⟨⟨p0, p1, p2⟩, ⟨pf0, pf1, pf2⟩, pl⟩ := block3 (unhide HP)
  go_upto_region 2 with (go_at_call 34; refine (unhide HC _ (unhide HX)).mono ?_; rintro e w1 ⟨he, hb1⟩; obtain rfl : e = .returned (.agg #[.int .i64 0, .int .i64 0]) := he; have HX_1 := hide (Below.next (unhide HX) hb1 (by first | exact Nat.le_refl _ | (have := unhide HBA; omega))); have Kp_1 := hide (keep_below (unhide HP) hb1); have Kq_1 := hide (keep_below (unhide HQ) hb1); have Kg_1 := hide (keep_below (unhide HG) hb1); clear HX HP HQ HG; clear hb1 p0 p1 p2 pf0 pf1 pf2 pl)
  have HX_2 := hide ((unhide HX_1).alloc (Nat.le_trans (show w.heap.size ≤ w.heap.size from Nat.le_refl _) (unhide HX_1).size) (.cells #[.int .i64 0, .int .i64 0] 29))
  have Kp_2 := hide (keep_alloc (unhide Kp_1) (.cells #[.int .i64 0, .int .i64 0] 29))
  have Kq_2 := hide (keep_alloc (unhide Kq_1) (.cells #[.int .i64 0, .int .i64 0] 29))
  have Kg_2 := hide (keep_alloc (unhide Kg_1) (.cells #[.int .i64 0, .int .i64 0] 29))
  have Kf_2 := hide (new_block w1 (.cells #[.int .i64 0, .int .i64 0] 29))
  have hlp_f : w.heap.size < w1.heap.size := size_of (unhide Kp_1)
  have hlq_f : w.heap.size + 1 < w1.heap.size := size_of (unhide Kq_1)
  have hlg_f : w.heap.size + 1 + 1 < w1.heap.size := size_of (unhide Kg_1)
  obtain ⟨T, eT⟩ : ∃ X, w1.heap.size = X := ⟨_, rfl⟩
  obtain ⟨W2, eW2⟩ : ∃ X, w1.alloc (.cells #[.int .i64 0, .int .i64 0] 29) = X := ⟨_, rfl⟩
  rw [eT, eW2] at Kf_2; rw [eW2] at HX_2 Kp_2 Kq_2 Kg_2; rw [eT] at hlp_f hlq_f hlg_f; rw [eT, eW2]
  clear eT eW2 HX_1 Kp_1 Kq_1 Kg_1
  obtain ⟨f0, f1, ff0, ff1, fl⟩ := block2 (unhide Kf_2)
  go_upto_region 4 with fail
  clear f0 f1 ff0 ff1 fl
  have HFR2 : Hid (∀ W, Below W2.heap.size W2 W → Calls Try.prog 35 #[.slice a0 n c0] W fun e w' => ∃ a' c', e = .returned (.slice a' n c') ∧ Own KA W.heap.size w' (.slice a' n c') xs ∧ Below W.heap.size W w') := fun W hW => unhide HFR W (Below.next (unhide HX_2) hW (Nat.le_refl _))
  have HXW2 : Hid (w.heap.size ≤ W2.heap.size) := (unhide HX_2).size
  go_cut [8] (fun s W => ∃ (Y : Nat) (a5 : Option Addr) (c5 : Nat), s = .pointer (some ⟨Y, 0, none⟩) ∧ Hid (W.heap[Y]? = some (.cells #[.int .i64 E, .int .i64 next, .slice a5 n c5] 24)) ∧ Hid (Own KA W2.heap.size W (.slice a5 n c5) xs) ∧ Hid (W2.heap.size ≤ Y) ∧ Hid (Below W2.heap.size W2 W))
  case first =>
    have HSS : Hid (∀ W, Below W2.heap.size W2 W → W.cell? ⟨w.heap.size, 0, none⟩ = some (.int .i64 now) ∧ W.cell? ⟨w.heap.size, 1, none⟩ = some (.int .i64 next) ∧ W.cell? ⟨w.heap.size, 2, none⟩ = some (.slice a0 n c0) ∧ Below W2.heap.size W2 W) := fun W hW => by
      obtain ⟨⟨k0, k1, k2⟩, -, -⟩ := block3 (keep_below (unhide Kp_2) hW)
      exact ⟨k0, k1, k2, hW⟩
    obtain ⟨k0, k1, k2, -⟩ := unhide HSS _ (Below.refl _ _)
    go_wp2_with fail
    go_region_held3 (fun W => W.cell? ⟨w.heap.size, 0, none⟩ = some (.int .i64 now) ∧ W.cell? ⟨w.heap.size, 1, none⟩ = some (.int .i64 next) ∧ W.cell? ⟨w.heap.size, 2, none⟩ = some (.slice a0 n c0) ∧ Below W2.heap.size W2 W)
      (first | with_reducible exact unhide HSS _ (Below.refl _ _).drew | with_reducible exact unhide HSS _ ((Below.refl W2.heap.size W2).alloc (Nat.le_refl _) _).drew | with_reducible exact unhide HSS _ (unhide HX3) | with_reducible exact unhide HSS _ ((unhide HX3).alloc (unhide HX3).size _) | exact unhide HSS _ (putL_below (unhide HX3) (Nat.le_refl _)))
      (first | (go_at_call 35; refine (unhide HFR2 _ (by go_split_ands; assumption)).mono ?_; rintro e w3 ⟨a3, c3, rfl, ho3, hb3⟩; have HX3 : Hid (Below W2.heap.size W2 w3) := Below.next (by go_split_ands; assumption) hb3 (Nat.le_refl _); have HO3 := hide (ho3.base (show W2.heap.size ≤ _ from (show Below W2.heap.size W2 _ by go_split_ands; assumption).size)); (try (have HZ3 : Hid (w3.heap[W2.heap.size]? = some (.cells #[.int .i64 0, .int .i64 0, .slice none 0 0] 24)) := (keep_below (w := (W2.alloc (.cells #[.int .i64 0, .int .i64 0, .slice none 0 0] 24)).drew) (new_block W2 (.cells #[.int .i64 0, .int .i64 0, .slice none 0 0] 24)) hb3); have hz := block3 (unhide HZ3); have z0 := hz.1.1; have z1 := hz.1.2.1; have z2 := hz.1.2.2; have zf0 := hz.2.1.1; have zf1 := hz.2.1.2.1; have zf2 := hz.2.1.2.2; have zl := hz.2.2)); clear ho3 hb3))
    all_goals
      go_wp2_with fail
      go_meet
      case rel =>
        first
          | exact ⟨_, a3, c3, rfl, putL_new (unhide HZ3), putL_own (unhide HO3) (unhide HZ3) (by decide), Nat.le_refl _, putL_below (unhide HX3) (Nat.le_refl _)⟩
          | exact ⟨_, a3, c3, rfl, new_block _ _, (unhide HO3).below ((Below.refl _ _).alloc (Nat.le_refl _) _), (unhide HX3).size, (unhide HX3).alloc (unhide HX3).size _⟩
  case rest =>
    obtain ⟨Y, a5, c5, rfl, HY_, HOY_, HBY_, HXY_⟩ := hcut
    have hlp_Y : w.heap.size < Y := Nat.lt_of_lt_of_le (size_of (unhide Kp_2)) (unhide HBY_)
    have hlq_Y : w.heap.size + 1 < Y := Nat.lt_of_lt_of_le (size_of (unhide Kq_2)) (unhide HBY_)
    have hlg_Y : w.heap.size + 1 + 1 < Y := Nat.lt_of_lt_of_le (size_of (unhide Kg_2)) (unhide HBY_)
    have hlf_Y : T < Y := Nat.lt_of_lt_of_le (size_of (unhide Kf_2)) (unhide HBY_)
    (have HX_3 := hide (Below.next (unhide HX_2) (unhide HXY_) (by first | exact Nat.le_refl _ | (have := unhide HBA; omega))); have Kp_3 := hide (keep_below (unhide Kp_2) (unhide HXY_)); have Kq_3 := hide (keep_below (unhide Kq_2) (unhide HXY_)); have Kg_3 := hide (keep_below (unhide Kg_2) (unhide HXY_)); have Kf_3 := hide (keep_below (unhide Kf_2) (unhide HXY_)); clear HX_2 Kp_2 Kq_2 Kg_2 Kf_2)

    have HOT : Hid (Own KO wc.heap.size (wc.alloc (.cells #[] 52)) (.slice (some ⟨wc.heap.size, 0, none⟩) 0 0) []) := own_empty (K := KO) wc
    have HXT := hide ((unhide HX_3).alloc (unhide HX_3).size (.cells #[] 52))
    have HYT := hide (keep_alloc (unhide HY_) (.cells #[] 52))
    have HQT := hide (keep_alloc (unhide Kq_3) (.cells #[] 52))
    have HGT := hide (keep_alloc (unhide Kg_3) (.cells #[] 52))
    have HPT := hide (((unhide HOY_).base (unhide HXW2)).prt.below ((Below.refl wc.heap.size wc).alloc (Nat.le_refl _) (.cells #[] 52)))
    have HOB := hide ((unhide HOT).base (show w.heap.size ≤ wc.heap.size from (unhide HX_3).size))
    have hYw : w.heap.size + 1 + 1 < Y := by omega
    go_wp2_with fail
    obtain ⟨Wt, et⟩ : ∃ X, wc.alloc (.cells #[] 52) = X := ⟨_, rfl⟩
    rw [et] at HOB HXT HYT HQT HGT HPT ⊢
    obtain ⟨tt, ett⟩ : ∃ X, wc.heap.size = X := ⟨_, rfl⟩
    rw [ett] at HOB ⊢
    clear et ett HOT
    go_loopw [9] (fun i W => ∃ (nx : Int) (zs : List Al) (td : List (Int × Int)) (a : Option Addr) (k c : Nat) (av : Option Addr) (zn cv : Nat), i = .slice a k c ∧ k ≤ 5000 ∧ Hid (td.length = k) ∧ Hid (zs.length = zn) ∧ Hid (Own KO w.heap.size W (.slice a k c) td) ∧ Hid (W.heap[Y]? = some (.cells #[.int .i64 E, .int .i64 nx, .slice av zn cv] 24 (0, 0))) ∧ Hid (Prt w.heap.size W (.slice av zn cv) zs) ∧ Hid (runL E (5000 - k) nx zs td = R) ∧ Hid (Good now nx zs) ∧ Hid (W.heap[w.heap.size + 1]? = some (.cells #[.int .i64 0, .int .i64 0, .slice none 0 0] 24 (0, 0))) ∧ Hid (W.heap[w.heap.size + 1 + 1]? = some (.cells #[.int .i64 0, .int .i64 0] 29 (0, 0))) ∧ Hid (Below w.heap.size w W)) (fun i _ => 5001 - lenV i)
    case atStart => exact ⟨next, xs, [], _, 0, 0, a5, n, c5, rfl, Nat.zero_le _, rfl, HN, HOB, HYT, HPT, HR, HGD, HQT, HGT, HXT⟩
    case round =>
      obtain ⟨nx, zs, td, a, k, c, av, zn, cv, rfl, hk, HTL, HZL, HO, HY, HPR, HRR, HGO, HQ, HG, HX⟩ := hrel
      clear HOB HYT HPT HR HGD HQT HGT HXT
      have HYC : Hid (∀ W : World, W.heap[Y]? = some (.cells #[.int .i64 E, .int .i64 nx, .slice av zn cv] 24 (0, 0)) → W.cell? ⟨Y, 0, none⟩ = some (.int .i64 E) ∧ W.cell? ⟨Y, 1, none⟩ = some (.int .i64 nx) ∧ W.cell? ⟨Y, 2, none⟩ = some (.slice av zn cv)) := fun W hW => (block3 hW).1
      obtain ⟨y0, y1, y2⟩ := unhide HYC _ (unhide HY)
      cases zs with
      | nil =>
        have HRE : Hid (R = some (nx, [], td)) := by have := unhide HRR; rw [runL_nil] at this; exact this.symm
        obtain rfl : zn = 0 := (unhide HZL).symm
        go_wp2_with fail
        go_quiet (fail)
        have HD : Hid (Below wr.heap.size wr (wr.drewN nq)) := below_drewN (Below.refl _ _) _
        obtain ⟨V0, eV0⟩ : ∃ X, wr.drewN nq = X := ⟨_, rfl⟩
        rw [eV0] at HD ⊢
        clear eV0 y0 y1 y2
        have HQ1 := hide (keep_below (unhide HQ) (unhide HD)); have HG1 := hide (keep_below (unhide HG) (unhide HD)); have HY1 := hide (keep_below (unhide HY) (unhide HD)); have HO1 := hide ((unhide HO).below (unhide HD)); have HP1 := hide ((unhide HPR).below (unhide HD)); have HX1 := hide (Below.next (unhide HX) (unhide HD) (Nat.le_refl _))
        obtain ⟨⟨y0, y1, y2⟩, -, yl⟩ := block3 (unhide HY1)
        obtain ⟨⟨q0, q1, q2⟩, ⟨qf0, qf1, qf2⟩, ql⟩ := block3 (unhide HQ1)
        obtain ⟨g0, g1, gf0, gf1, gl1⟩ := block2 (unhide HG1)
        go_wp2_with fail
        refine bodyPost_ret (v := .tuple #[.agg #[.int .i64 E, .int .i64 nx, .slice av 0 cv], .slice a k c, .agg #[.int .i64 0, .int .i64 0]]) (by simp [results, Try.results20, go_sem, q0, q1, q2, g0, g1]) rfl ⟨fun nx' zs' td' he => ?_, fun he => ?_, ?_⟩
        · rw [unhide HRE] at he
          cases he
          refine ⟨_, a, c, by rw [unhide HTL], ?_, ?_⟩
          · exact ((unhide HP1).keep (fun j hj => (put2_keep (show j ≠ w.heap.size + 1 + 1 from Prt.ne (unhide HP1) (unhide HG1) (by decide) j hj)).trans (putL_keep (show j ≠ w.heap.size + 1 from Prt.ne (unhide HP1) (unhide HQ1) (by decide) j hj)))).new
          · rw [unhide HTL]
            exact put2_own (putL_own (unhide HO1) (unhide HQ1) (by decide)) (putL_keeps (unhide HG1) (by omega)) (by decide)
        · rw [unhide HRE] at he
          cases he
        · exact put2_below (putL_below (unhide HX1) (by omega)) (by omega)
      | cons x r =>
        obtain ⟨i, e, u, y⟩ := x
        have hzn : 0 < zn := by rw [← unhide HZL]; simp
        have z1 : (0 : Int) < (zn : Int) := by omega
        have HRL : Hid (r.length + 1 = zn) := unhide HZL
        have hxr := (oor_iff now nx (i, e, u, y)).1 ((unhide HGO).rng _ (by simp))
        simp only at hxr
        have hnx0 := (unhide HGO).n2; have hnx1 := (unhide HGO).n3
        have hz5 : zn ≤ 5000 := by have := (unhide HGO).len; rw [unhide HZL] at this; exact this
        obtain ⟨gg, of, eav⟩ : ∃ gg of, av = some ⟨gg, of, none⟩ := by
          obtain ⟨b, o, c', ev, -, -⟩ := (unhide HPR).1.at ka (by simp)
          rw [unhide HZL] at ev
          cases ev
          exact ⟨b, o, rfl⟩
        subst eav
        have HLC : Hid (∀ W, IsL KA W (.slice (some ⟨gg, of, none⟩) zn cv) ((i, e, u, y) :: r) → W.cell? ⟨gg, of, none⟩ = some (.int .i64 i) ∧ W.cell? ⟨gg, of + 1, none⟩ = some (.int .i64 e)) := fun W hW => by
          obtain ⟨b, o, c', ev, hb, hli⟩ := hW.at ka (by simp)
          rw [unhide HZL] at ev
          cases ev
          have := hli.alarm (j := 0) (by simp) (t := i) (c := e) (u := u) (y := y) rfl
          simp only [Nat.zero_mul, Nat.add_zero] at this
          exact ⟨this.1, this.2.1⟩
        obtain ⟨l0, l1⟩ := unhide HLC _ (unhide HPR).1
        by_cases he : e ≤ E
        · skip
          go_wp2_with fail
          go_quiet (fail)
          have HD : Hid (Below wr.heap.size wr (wr.drewN nq)) := below_drewN (Below.refl _ _) _
          obtain ⟨V0, eV0⟩ : ∃ X, wr.drewN nq = X := ⟨_, rfl⟩
          rw [eV0] at HD ⊢
          clear eV0 y0 y1 y2 l0 l1
          have HQ1 := hide (keep_below (unhide HQ) (unhide HD)); have HG1 := hide (keep_below (unhide HG) (unhide HD)); have HY1 := hide (keep_below (unhide HY) (unhide HD)); have HO1 := hide ((unhide HO).below (unhide HD)); have HP1 := hide ((unhide HPR).below (unhide HD)); have HX1 := hide (Below.next (unhide HX) (unhide HD) (Nat.le_refl _))
          clear HQ HG HY HO HPR HX HD
          have HSS : Hid (∀ W : World, W.heap[Y]? = some (.cells #[.int .i64 E, .int .i64 nx, .slice (some ⟨gg, of, none⟩) zn cv] 24 (0, 0)) → IsL KA W (.slice (some ⟨gg, of, none⟩) zn cv) ((i, e, u, y) :: r) → W.cell? ⟨Y, 2, none⟩ = some (.slice (some ⟨gg, of, none⟩) zn cv) ∧ W.cell? ⟨gg, of, none⟩ = some (.int .i64 i) ∧ W.cell? ⟨gg, of + 1, none⟩ = some (.int .i64 e)) := fun W h1 h2 => ⟨(unhide HYC W h1).2.2, unhide HLC W h2⟩
          have HBa : Hid (Below V0.heap.size V0 (V0.alloc (.cells #[.int .i64 e, .int .i64 i] 52)).drew) := ((Below.refl _ _).alloc (Nat.le_refl _) _).drew
          have HQa := hide (keep_below (unhide HQ1) (unhide HBa)); have HGa := hide (keep_below (unhide HG1) (unhide HBa)); have HYa := hide (keep_below (unhide HY1) (unhide HBa)); have HOa := hide ((unhide HO1).below (unhide HBa)); have HPa := hide ((unhide HP1).below (unhide HBa)); have HXa := hide (Below.next (unhide HX1) (unhide HBa) (Nat.le_refl _)); have HL1 : Hid (IsL KA V0.drew (.slice (some ⟨gg, of, none⟩) zn cv) ((i, e, u, y) :: r)) := (unhide HP1).1.below (Below.refl _ _).drew; have HLa : Hid (IsL KA (V0.alloc (.cells #[.int .i64 e, .int .i64 i] 52)).drew (.slice (some ⟨gg, of, none⟩) zn cv) ((i, e, u, y) :: r)) := (unhide HPa).1
          have HIa : Hid (IsL KO (V0.alloc (.cells #[.int .i64 e, .int .i64 i] 52)).drew (.slice (some ⟨V0.heap.size, 0, none⟩) 1 1) [(e, i)]) := (isl_one ko V0 (e, i)).below (Below.refl _ _).drew
          have HNa : Hid (∀ j, (Value.slice a k c).ownBlock = some j → j ≠ Y ∧ j ≠ w.heap.size + 1 ∧ j ≠ w.heap.size + 1 + 1 ∧ j ≠ gg) := fun j hj => ⟨Own.ne (unhide HOa) (unhide HYa) (by decide) j hj, Own.ne (unhide HOa) (unhide HQa) (by decide) j hj, Own.ne (unhide HOa) (unhide HGa) (by decide) j hj, by obtain ⟨_, cur, hc⟩ := (unhide HPa).2 gg rfl; exact Own.ne (unhide HOa) hc (by decide) j hj⟩
          have HYG : Hid (gg ≠ Y ∧ gg ≠ w.heap.size + 1 ∧ gg ≠ w.heap.size + 1 + 1) := ⟨Prt.ne (unhide HPa) (unhide HYa) (by decide) gg rfl, Prt.ne (unhide HPa) (unhide HQa) (by decide) gg rfl, Prt.ne (unhide HPa) (unhide HGa) (by decide) gg rfl⟩
          obtain ⟨y2, l0, l1⟩ := unhide HSS _ (unhide HY1) (unhide HP1).1
          go_wp2_with fail
          go_region_held3 (fun W => W.cell? ⟨Y, 2, none⟩ = some (.slice (some ⟨gg, of, none⟩) zn cv) ∧ W.cell? ⟨gg, of, none⟩ = some (.int .i64 i) ∧ W.cell? ⟨gg, of + 1, none⟩ = some (.int .i64 e))
            (first | with_reducible exact unhide HSS _ (keep_below (unhide HY1) (Below.refl _ _).drew) (unhide HL1) | with_reducible exact unhide HSS _ (unhide HYa) (unhide HLa) | with_reducible exact unhide HSS _ (unhide HY2) (unhide HL2))
            (first | (refine step_append ko (by rfl) (.tmp 43) (.tmp 55) rfl w.heap.size (.slice a k c) td rfl (unhide HOa) _ [(e, i)] rfl (unhide HIa) (k + 1) (by simp [unhide HTL]) (by simp [KO]; omega) (unhide HXa).size ?_; intro a2 c2 w2 ho2 hg2; have HO2 := hide ho2; have HY2 := hide (keep_grown (unhide HYa) hg2 (fun j hj => (unhide HNa j hj).1)); have HQ2 := hide (keep_grown (unhide HQa) hg2 (fun j hj => (unhide HNa j hj).2.1)); have HG2 := hide (keep_grown (unhide HGa) hg2 (fun j hj => (unhide HNa j hj).2.2.1)); have HP2 := hide ((unhide HPa).keep (fun j hj => grown_block hg2 ((unhide HPa).lt j hj).2 (fun l hl => by have : j = gg := (Option.some.inj hj).symm; have := (unhide HNa l hl).2.2.2; omega))); have HX2 := hide ((unhide HXa).grown hg2 (unhide HXa).size (fun j hj => ((unhide HOa).lt j hj).1)); have HL2 : Hid (IsL KA w2 (.slice (some ⟨gg, of, none⟩) zn cv) ((i, e, u, y) :: r)) := (unhide HP2).1; clear ho2 hg2))
          all_goals
            clear y2 l0 l1 HQ1 HG1 HY1 HO1 HP1 HX1 HQa HGa HYa HOa HPa HXa HIa HBa HNa HL1 HLa HL2
            have HNG : Hid (∀ j, (Value.slice a2 (k + 1) c2).ownBlock = some j → j ≠ gg) := fun j hj => by obtain ⟨_, cur, hc⟩ := (unhide HP2).2 gg rfl; exact Own.ne (unhide HO2) hc (by decide) j hj
            have HGF := hide (goOff_any w2 w.heap.size E nx gg of zn (zn - 1) cv i e u y r (unhide HP2) (by omega) (by omega) (List.pairwise_cons.1 (unhide HGO).srt).2 hnx0 hnx1 (by omega) (by omega) (by omega) (by omega))
            obtain ⟨⟨ny, ys⟩, eof⟩ : ∃ o, offL nx (i, e, u, y) r = o := ⟨_, rfl⟩
            rw [eof] at HGF
            have HEF := hide eof
            clear eof
            obtain ⟨y0, y1, y2⟩ := unhide HYC _ (unhide HY2)
            go_upto_region 9 with (go_at_call 36; refine (unhide HGF).mono ?_; rintro rr w3 ⟨v3, rfl, hp3, hv3, hg3⟩; obtain ⟨av3, cv3, rfl⟩ := hp3.form; have HP3 := hide hp3; have HY3 := hide (keep_grown (unhide HY2) hg3 (fun j hj => by have : j = gg := (Option.some.inj hj).symm; have := (unhide HYG).1; omega)); have HQ3 := hide (keep_grown (unhide HQ2) hg3 (fun j hj => by have : j = gg := (Option.some.inj hj).symm; have := (unhide HYG).2.1; omega)); have HG3 := hide (keep_grown (unhide HG2) hg3 (fun j hj => by have : j = gg := (Option.some.inj hj).symm; have := (unhide HYG).2.2; omega)); have HO3 := hide ((unhide HO2).keep (fun j hj => grown_block hg3 ((unhide HO2).lt j hj).2 (fun l hl => by have : l = gg := (Option.some.inj hl).symm; have := unhide HNG j hj; omega))); have HX3 := hide ((unhide HX2).grown hg3 (unhide HX2).size (fun j hj => by have : j = gg := (Option.some.inj hj).symm; have := ((unhide HP2).lt gg rfl).1; omega)); have HV3 := hide hv3; clear hp3 hg3 hv3 y0 y1 y2; obtain ⟨⟨y0, y1, y2⟩, ⟨yf0, yf1, yf2⟩, yl⟩ := block3 (unhide HY3))
            clear y0 y1 y2 yf0 yf1 yf2 yl
            have HY4 := hide (putL_new (y0 := .int .i64 E) (y1 := .int .i64 ny) (y2 := .slice av3 ys.length cv3) (unhide HY3)); have HQ4 := hide (putL_keeps (unhide HQ3) (R := Y) (by omega) (y0 := .int .i64 E) (y1 := .int .i64 ny) (y2 := .slice av3 ys.length cv3)); have HG4 := hide (putL_keeps (unhide HG3) (R := Y) (by omega) (y0 := .int .i64 E) (y1 := .int .i64 ny) (y2 := .slice av3 ys.length cv3)); have HO4 := hide (putL_own (unhide HO3) (unhide HY3) (by decide) (y0 := .int .i64 E) (y1 := .int .i64 ny) (y2 := .slice av3 ys.length cv3)); have HP4 := hide ((unhide HP3).keep (fun j hj => putL_keep (w := w3) (R := Y) (y0 := .int .i64 E) (y1 := .int .i64 ny) (y2 := .slice av3 ys.length cv3) (Prt.ne (unhide HP3) (unhide HY3) (by decide) j hj))); have HX4 := hide (putL_below (unhide HX3) (show w.heap.size ≤ Y by omega) (y0 := .int .i64 E) (y1 := .int .i64 ny) (y2 := .slice av3 ys.length cv3))
            obtain ⟨W4, e4⟩ : ∃ X, putL w3 Y (.int .i64 E) (.int .i64 ny) (.slice av3 ys.length cv3) = X := ⟨_, rfl⟩
            rw [e4] at HY4 HQ4 HG4 HO4 HP4 HX4
            have e42 : ((w3.setCell ⟨Y, 0, none⟩ (.int .i64 E)).setCell ⟨Y, 1, none⟩ (.int .i64 ny)).setCell ⟨Y, 2, none⟩ (.slice av3 ys.length cv3) = W4 := e4
            rw [e42]
            clear e4 e42 HY3 HQ3 HG3 HO3 HP3 HX3 HY2 HQ2 HG2 HO2 HP2 HX2 HGF
            obtain ⟨m3, em3⟩ : ∃ m3, ys.length = m3 := ⟨_, rfl⟩
            rw [em3] at HY4 HP4
            have HM3 := hide em3
            clear em3
            obtain ⟨⟨y0, y1, y2⟩, -, yl⟩ := block3 (unhide HY4)
            obtain ⟨⟨q0, q1, q2⟩, ⟨qf0, qf1, qf2⟩, ql⟩ := block3 (unhide HQ4)
            obtain ⟨g0, g1, gf0, gf1, gl4⟩ := block2 (unhide HG4)
            by_cases hk5 : k = 5000
            · have j1 : (5000 : Int) < (k : Int) + 1 := by omega
              have HRE : Hid (R = none) := by have := unhide HRR; rw [hk5, Nat.sub_self, runL_zero he] at this; exact this.symm
              clear hk5
              go_wp2_with fail
              refine bodyPost_ret (v := .tuple #[.agg #[.int .i64 0, .int .i64 0, .slice none 0 0], .slice none 0 0, .agg #[.int .i64 9, .int .i64 0]]) (by simp [results, Try.results20, go_sem, q0, q1, q2, g0, g1]) rfl ⟨fun nx' zs' td' he' => ?_, fun _ => rfl, ?_⟩
              · rw [unhide HRE] at he'
                cases he'
              · exact put2_below (putL_below (unhide HX4) (by omega)) (by omega)
            have j1 : ¬ (5000 : Int) < (k : Int) + 1 := by omega
            by_cases hmu : u ≠ 0 ∧ nx = 1000000000
            · have HRE : Hid (R = none) := by have := unhide HRR; rw [runL_much he hmu] at this; exact this.symm
              have j2 : (1000000000 : Int) < ny := by
                have := unhide HEF
                unfold offL at this
                rw [if_neg hmu.1] at this
                have e1 := congrArg Prod.fst this
                simp only at e1
                omega
              clear hmu
              go_wp2_with fail
              refine bodyPost_ret (v := .tuple #[.agg #[.int .i64 0, .int .i64 0, .slice none 0 0], .slice none 0 0, .agg #[.int .i64 9, .int .i64 0]]) (by simp [results, Try.results20, go_sem, q0, q1, q2, g0, g1]) rfl ⟨fun nx' zs' td' he' => ?_, fun _ => rfl, ?_⟩
              · rw [unhide HRE] at he'
                cases he'
              · exact put2_below (putL_below (unhide HX4) (by omega)) (by omega)
            have hgo := (unhide HGO).off he hE1 hmu
            rw [unhide HEF] at hgo
            have HGO2 := hide hgo
            have j2 : ¬ (1000000000 : Int) < ny := by have := hgo.n3; simp only at this; omega
            have HRN : Hid (runL E (5000 - (k + 1)) ny ys (td ++ [(e, i)]) = R) := by
              have := unhide HRR
              rw [show 5000 - k = (5000 - (k + 1)) + 1 by omega, runL_go he hmu, unhide HEF] at this
              exact this
            clear hgo hmu
            go_wp2_with fail
            go_roundw
            case rel => exact ⟨ny, ys, td ++ [(e, i)], _, k + 1, c2, _, m3, cv3, rfl, by omega, by rw [List.length_append, unhide HTL]; rfl, HM3, HO4, HY4, HP4, HRN, HGO2, HQ4, HG4, HX4⟩
            case measure => simp [lenV]; omega
        · have HRE : Hid (R = some (nx, (i, e, u, y) :: r, td)) := by have := unhide HRR; rw [runL_stop he] at this; exact this.symm
          go_wp2_with fail
          go_quiet (fail)
          have HD : Hid (Below wr.heap.size wr (wr.drewN nq)) := below_drewN (Below.refl _ _) _
          obtain ⟨V0, eV0⟩ : ∃ X, wr.drewN nq = X := ⟨_, rfl⟩
          rw [eV0] at HD ⊢
          clear eV0 y0 y1 y2 l0 l1
          have HQ1 := hide (keep_below (unhide HQ) (unhide HD)); have HG1 := hide (keep_below (unhide HG) (unhide HD)); have HY1 := hide (keep_below (unhide HY) (unhide HD)); have HO1 := hide ((unhide HO).below (unhide HD)); have HP1 := hide ((unhide HPR).below (unhide HD)); have HX1 := hide (Below.next (unhide HX) (unhide HD) (Nat.le_refl _))
          obtain ⟨⟨y0, y1, y2⟩, -, yl⟩ := block3 (unhide HY1)
          obtain ⟨⟨q0, q1, q2⟩, ⟨qf0, qf1, qf2⟩, ql⟩ := block3 (unhide HQ1)
          obtain ⟨g0, g1, gf0, gf1, gl1⟩ := block2 (unhide HG1)
          go_wp2_with fail
          refine bodyPost_ret (v := .tuple #[.agg #[.int .i64 E, .int .i64 nx, .slice (some ⟨gg, of, none⟩) zn cv], .slice a k c, .agg #[.int .i64 0, .int .i64 0]]) (by simp [results, Try.results20, go_sem, q0, q1, q2, g0, g1]) rfl ⟨fun nx' zs' td' he => ?_, fun he => ?_, ?_⟩
          · rw [unhide HRE] at he
            cases he
            refine ⟨_, a, c, by rw [unhide HTL], ?_, ?_⟩
            · exact ((unhide HP1).keep (fun j hj => (put2_keep (show j ≠ w.heap.size + 1 + 1 from Prt.ne (unhide HP1) (unhide HG1) (by decide) j hj)).trans (putL_keep (show j ≠ w.heap.size + 1 from Prt.ne (unhide HP1) (unhide HQ1) (by decide) j hj)))).new
            · rw [unhide HTL]
              exact put2_own (putL_own (unhide HO1) (unhide HQ1) (by decide)) (putL_keeps (unhide HG1) (by omega)) (by decide)
          · rw [unhide HRE] at he
            cases he
          · exact put2_below (putL_below (unhide HX1) (by omega)) (by omega)
end Go.Proofs.Ytidpmcanfedbdaa
