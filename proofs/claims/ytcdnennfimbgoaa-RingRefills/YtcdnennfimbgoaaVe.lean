/-
  taskmilllaw.RingRefills where nothing is wrong.
-/
import Derived.Test.YtcdnennfimbgoaaVd
namespace Go.Proofs.Ytcdnennfimbgoaa
open Go.RowKit

set_option maxRecDepth 100000 in
set_option maxHeartbeats 20000000 in
theorem refills_ok (w : World) (nx : Int) (a : Option Addr) (c : Nat) (zs : List Int) (p : Int) (b off n cg : Nat) (gs : List Int) (h : IsInts w (.slice a zs.length c) zs) (hv : Fits (.slice a zs.length c)) (hn : zs.length ≤ 2000) (hg : IsInts w (.slice (some ⟨b, off, none⟩) n cg) gs) (hgn : gs.length = n) (hb : b < w.heap.size) (hc : ∀ j, j < n → w.cell? ⟨b, off + j, none⟩ = some (.int .i64 (gs.getD j 0))) (hf : refillF nx zs gs p = (0, 0)) (hcap : n ≤ cg) :
    Calls Try.prog 5 #[.agg #[.int .i64 nx, .slice a zs.length c], .slice (some ⟨b, off, none⟩) n cg, .int .i64 p] w fun e w' => e = .returned (.bool true) ∧ Below w.heap.size w w' := by
  have hnot : ∀ (x : Bool) (w : World), (Op.unary .not (.bool x)).run Try.prog w = .ok (.bool (!x)) w := fun _ _ => rfl
  obtain ⟨hf0, hr, hgl, hp1, hp2⟩ := refillF_ok (nx := nx) (zs := zs) (gs := gs) (p := p) (by rw [hf])
  have hz := ringF_len hr
  have hnn := ringF_next hr
  have hkle := refillK_le (zs := zs) (gs := gs) hp1 hz
  have hke := refillK_eq (zs := zs) (gs := gs) hp1 hz
  have h1 : ¬ (2000 : Int) < (zs.length : Int) := by omega
  have hl5 := globalF_len hgl
  rw [hgn] at hl5 hkle hke
  have h2 : ¬ (6000 : Int) < (n : Int) := by omega
  have h5' : ¬ (5000 : Int) < (n : Int) := by omega
  have hG := hgl
  unfold globalF at hG
  rw [hgn, if_neg (by omega)] at hG
  have hF1 : (firstFrom (formW gs) n 0).1 = 0 := by
    apply Decidable.byContradiction
    intro h3
    rw [if_pos h3] at hG
    exact h3 (by rw [hG])
  rw [if_neg (by simp [hF1])] at hG
  have HF1 : Hid (∀ j, j < n → ¬ gs.getD j 0 < 1) := fun j hj h3 => by
    have := firstFrom_each hF1 j (Nat.zero_le _) (by omega)
    unfold formW at this
    rw [if_pos h3] at this
    cases this
  have HF2 : Hid (∀ j, j < n → (lineL nx zs).contains (gs.getD j 0) = false ∧ (gs.take j).contains (gs.getD j 0) = false) := fun j hj => by
    have := firstFrom_each (W := sizeW nx zs gs) (f := n) (i := 0) (by rw [hG]) j (Nat.zero_le _) (by omega)
    rw [sizeW_split hnn] at this
    split at this
    · cases this
    · rename_i h3
      split at this
      · cases this
      · rename_i h4; exact ⟨by simpa using h3, by simpa using h4⟩
  have HOR : Hid (∀ W, Below (w.heap.size + 1) (w.alloc (.cells #[.int .i64 nx, .slice a zs.length c] 24)) W → Calls Try.prog 10 #[.agg #[.int .i64 nx, .slice a zs.length c]] W fun e w' => ∃ a' c', e = .returned (.agg #[.int .i64 nx, .slice a' zs.length c']) ∧ Own W.heap.size w' (.slice a' zs.length c') zs ∧ Below W.heap.size W w') := fun W hW => ownRing_any W nx _ zs (Rd.below h (below1 hW)) (by omega)
  have HOW : Hid (∀ W, Below w.heap.size w W → Calls Try.prog 23 #[.slice (some ⟨b, off, none⟩) n cg] W fun e w' => ∃ a' c', e = .returned (.slice a' n c') ∧ Own W.heap.size w' (.slice a' n c') gs ∧ Below W.heap.size W w') := fun W hW => by
    have := own_list W _ gs (IsInts.below hg hW) (by omega)
    rw [hgn] at this
    exact this
  have HOL : Hid (∀ W, Below w.heap.size w W → Calls Try.prog 23 #[.slice a zs.length c] W fun e w' => ∃ a' c', e = .returned (.slice a' zs.length c') ∧ Own W.heap.size w' (.slice a' zs.length c') zs ∧ Below W.heap.size W w') := fun W hW => own_list W _ zs (IsInts.below h hW) (by omega)
  have HRE : Hid (∀ W v' vg', IsInts W v' zs → Own w.heap.size W vg' gs → Calls Try.prog 22 #[.agg #[.int .i64 nx, v'], vg', .int .i64 p] W fun e w' => ∃ a1 c1 a2 c2, e = .returned (.tuple #[.agg #[.int .i64 nx, .slice a1 (zs.length + refillK zs gs p) c1], .slice a2 (n - refillK zs gs p) c2, .agg #[.int .i64 0, .int .i64 0]]) ∧ Own W.heap.size w' (.slice a1 (zs.length + refillK zs gs p) c1) (zs ++ gs.take (refillK zs gs p)) ∧ Own W.heap.size w' (.slice a2 (n - refillK zs gs p) c2) (gs.drop (refillK zs gs p)) ∧ Below W.heap.size W w') := fun W v' vg' hW hW' => by
    have := refill_any W nx v' zs p hW vg' gs hW'.list.1 hW'.list.2 hW'.form (by rw [hf])
    rw [hgn] at this
    exact this
  have HRF : Hid (∀ W, Below w.heap.size w W → Calls Try.prog 13 #[.agg #[.int .i64 nx, .slice a zs.length c]] W fun e w' => e = .returned (.agg #[.int .i64 0, .int .i64 0]) ∧ Below W.heap.size W w') := fun W hW => by
    have := rfault_any W nx _ zs (Rd.below h hW) hv (by unfold maxLen; omega)
    rw [hr] at this
    exact this
  have HLA : Hid (∀ W, Below w.heap.size w W → Calls Try.prog 17 #[.agg #[.int .i64 nx, .slice a zs.length c]] W fun e w' => ∃ a' c', e = .returned (.slice a' (lineL nx zs).length c') ∧ Own W.heap.size w' (.slice a' (lineL nx zs).length c') (lineL nx zs) ∧ Below W.heap.size W w') := fun W hW => line_any W nx _ zs (Rd.below h hW) (by omega)
  have HLM : Hid ((lineL nx zs).length ≤ maxLen) := by have := lineL_len nx zs; unfold Hid maxLen; omega
  obtain ⟨ln, hln⟩ : ∃ l, lineL nx zs = l := ⟨_, rfl⟩
  rw [hln] at HLA HLM HF2
  have HC := hide hc; have HN := hide hgn
  have HGI := hide hg
  obtain ⟨k, hk⟩ : ∃ k, refillK zs gs p = k := ⟨_, rfl⟩
  rw [hk] at HRE hkle hke
  have HKE := hide hke
  have hkn := hkle.1
  clear h hv hg hf hf0 hr hgl hnn hkle hke hk hgn hG hF1 hc hln
  have d0 : (0 : Int) ≤ (n : Int) / p := Int.ediv_nonneg (by omega) (by omega)
  have d1 : (n : Int) / p ≤ (n : Int) := Int.ediv_le_self _ (by omega)
  have wq : IntKind.i64.wrap ((n : Int) / p) = (n : Int) / p := by simp [IntKind.wrap, IntKind.bits, IntKind.signed]; omega
  have wq1 : IntKind.i64.wrap ((n : Int) / p + 1) = (n : Int) / p + 1 := by simp [IntKind.wrap, IntKind.bits, IntKind.signed]; omega
  have pneb : (p == 0) = false := by simp; omega
  have g1 : ¬ p < 1 := by omega
  have g2 : ¬ 64 < p := by omega
  go_enter Try.func5, Try.ntmps5
  go_upto_region 7 with (first
    | (go_at_call 9; refine (begun_any _).mono ?_; rintro e w1 ⟨rfl, hb1⟩; have hx1 := hb1.mono (show w.heap.size + 1 ≤ _ by simp); obtain ⟨x0, x1, s1⟩ := arg1 hx1; have HX1 := hide hx1; clear hb1 hx1)
    | (go_at_call 10; refine (unhide HOR _ (unhide HX1)).mono ?_; rintro e w2 ⟨a2, c2, rfl, ho2, hb2⟩; have HO2 := hide ho2; have HX2 := hide (next1 (unhide HX1) hb2); clear ho2 hb2 x0 x1 s1)
    | (go_at_call 23; refine (unhide HOW _ (below1 (unhide HX2))).mono ?_; rintro e w3 ⟨a3, c3, rfl, ho3, hb3⟩; have HO3 := hide ho3; have HI2 := hide (IsInts.below (unhide HO2).list.1 hb3); have HX3 := hide (next1 (unhide HX2) hb3); clear ho3 hb3)
    | (go_at_call 22; refine (unhide HRE _ _ _ (unhide HI2) ((unhide HO3).base (below1 (unhide HX2)).size)).mono ?_; rintro e w4 ⟨a4, c4, a5, c5, rfl, hq1, hq2, hb4⟩; have HQ1 := hide hq1; have HQ2 := hide hq2; clear hq1 hq2; have hx4 := next1 (unhide HX3) hb4; obtain ⟨x0, x1, s1⟩ := arg1 hx4; have HX4 := hide hx4; clear hb4 hx4)
    | (go_at_call 13; refine (unhide HRF _ ((below1 (unhide HX4)).trans ((below_new2 w4 _ _).mono (below1 (unhide HX4)).size))).mono ?_; rintro e w5 ⟨rfl, hb5⟩; have HB5 := hide hb5; clear hb5 x0 x1 s1))
  have HP1 := hide (IsInts.below (unhide HQ1).list.1 (puts_below4 (o12 := .cells #[.int .i64 0, .int .i64 0] 28) (unhide HB5)))
  have HP2 := hide (IsInts.below (unhide HQ2).list.1 (puts_below4 (o12 := .cells #[.int .i64 0, .int .i64 0] 28) (unhide HB5)))
  have VW6 := hide (ref_vars (x := 0) (y := 0) (unhide HX4) (unhide HB5))
  obtain ⟨W6, eW6⟩ : ∃ W, w5.alloc (.cells #[.int .i64 0, .int .i64 0] 28) = W := ⟨_, rfl⟩
  rw [eW6] at VW6 HP1 HP2 ⊢
  clear eW6
  obtain ⟨s7, e7⟩ : ∃ s, w4.heap.size = s := ⟨_, rfl⟩
  rw [e7] at VW6 ⊢
  clear e7 HB5 HX1 HX2 HX3 HX4 HO2 HO3 HI2 HOR HOW HRE HRF HQ1 HQ2
  obtain ⟨⟨q30, q31⟩, ⟨q70, q71⟩, ⟨q90, q91⟩, ⟨q100, q101⟩, z0, z1⟩ := (unhide VW6).cells
  go_wp2_with fail
  clear q30 q31 q70 q71 q90 q91 q100 q101 z0 z1
  go_loopw [11] (fun i wr => ∃ j : Nat, j ≤ n ∧ i = .int .i64 j ∧ wr = W6) (fun i _ => n - (intOf i).toNat)
  case atStart => exact ⟨0, Nat.zero_le _, rfl, rfl⟩
  case round =>
    obtain ⟨j, hj, rfl, rfl⟩ := hrel
    obtain ⟨⟨q30, q31⟩, ⟨q70, q71⟩, ⟨q90, q91⟩, ⟨q100, q101⟩, z0, z1⟩ := (unhide VW6).cells
    by_cases hlt : j < n
    · have i0 : (0 : Int) ≤ (j : Int) := by omega
      have i1 : (j : Int) < (n : Int) := by omega
      have k0 := ((unhide VW6).all.cell (p := ⟨b, off + j, none⟩) hb).trans (unhide HC j hlt)
      have hz0 := unhide HF1 j hlt
      obtain ⟨z, hz⟩ : ∃ z, gs.getD j 0 = z := ⟨_, rfl⟩
      rw [hz] at k0 hz0
      clear hz
      go_wp2_with fail
      go_roundw
      case rel => exact ⟨j + 1, by omega, by go_num, by first | rfl | trivial⟩
      case measure => simp [intOf]; omega
    · have i1 : ¬ (j : Int) < (n : Int) := by omega
      go_wp2_with fail
      clear q30 q31 q70 q71 q90 q91 q100 q101 z0 z1 i1 hlt
      go_loopw [12] (fun i wr2 => ∃ j : Nat, j ≤ n ∧ i = .int .i64 j ∧ RefVars w w5 nx (.slice a zs.length c) s7 (.int .i64 nx) (.slice a4 (zs.length + k) c4) (.int .i64 0) (.int .i64 0) 0 0 wr2 ∧ Below wr.heap.size wr wr2) (fun i _ => n - (intOf i).toNat)
      case atStart => exact ⟨0, Nat.zero_le _, rfl, unhide VW6, Below.refl _ _⟩
      case round =>
        obtain ⟨j, hj, rfl, hV, hlw⟩ := hrel
        have VV := hide hV
        have HLW := hide hlw
        clear hV hlw
        by_cases hlt : j < n
        · have i0 : (0 : Int) ≤ (j : Int) := by omega
          have i1 : (j : Int) < (n : Int) := by omega
          have i2 : (j : Int) ≤ (cg : Int) := by omega
          obtain ⟨hr1, hr2⟩ := unhide HF2 j hlt
          obtain ⟨z, hz⟩ : ∃ z, gs.getD j 0 = z := ⟨_, rfl⟩
          rw [hz] at hr1 hr2
          have HSS : Hid (∀ W, Below wr.heap.size wr W → W.cell? ⟨w.heap.size, 0, none⟩ = some (.int .i64 nx) ∧ W.cell? ⟨w.heap.size, 1, none⟩ = some (.slice a zs.length c) ∧ W.cell? ⟨b, off + j, none⟩ = some (.int .i64 z) ∧ Below wr.heap.size wr W) := fun W hW =>
            ⟨((unhide VV).keep hW).cells.1.1, ((unhide VV).keep hW).cells.1.2, (((unhide VV).keep hW).all.cell (p := ⟨b, off + j, none⟩) hb).trans (by rw [← hz]; exact unhide HC j hlt), hW⟩
          have HLN : Hid (∀ W, Below wr.heap.size wr W → Calls Try.prog 17 #[.agg #[.int .i64 nx, .slice a zs.length c]] W fun e w' => ∃ a' c', e = .returned (.slice a' ln.length c') ∧ Own W.heap.size w' (.slice a' ln.length c') ln ∧ Below W.heap.size W w') := fun W hW => unhide HLA W ((unhide VV).keep hW).all
          have HH1 : Hid (∀ W v', IsInts W v' ln → Calls Try.prog 16 #[v', .int .i64 z] W fun e w' => e = .returned (.bool false) ∧ Below W.heap.size W w') := fun W v' hW => by
            have := has_any W v' ln z hW (unhide HLM)
            rw [hr1] at this
            exact this
          have HH2 : Hid (∀ W, Below wr.heap.size wr W → ∀ c', Calls Try.prog 16 #[.slice (some ⟨b, off, none⟩) j c', .int .i64 z] W fun e w' => e = .returned (.bool false) ∧ Below W.heap.size W w') := fun W hW c' => by
            have h4 := part0 (IsInts.below (unhide HGI) ((unhide VV).keep hW).all) j c' (by rw [unhide HN]; omega)
            have := has_any W _ _ z h4 (by rw [List.length_take, unhide HN]; unfold maxLen; omega)
            rw [hr2] at this
            exact this
          have k0 := (unhide HSS wr (Below.refl _ _)).2.2.1
          obtain ⟨⟨q30, q31⟩, ⟨q70, q71⟩, ⟨q90, q91⟩, ⟨q100, q101⟩, z0, z1⟩ := (unhide VV).cells
          clear hz hr1 hr2
          go_wp2_with fail
          go_region_held3 (fun W => W.cell? ⟨w.heap.size, 0, none⟩ = some (.int .i64 nx) ∧ W.cell? ⟨w.heap.size, 1, none⟩ = some (.slice a zs.length c) ∧ W.cell? ⟨b, off + j, none⟩ = some (.int .i64 z) ∧ Below wr.heap.size wr W)
            (first | with_reducible exact unhide HSS _ (Below.refl _ _).drew | with_reducible exact unhide HSS _ (unhide HB6) | with_reducible exact unhide HSS _ (unhide HB7) | with_reducible exact unhide HSS _ (unhide HB8))
            (first
              | (go_at_call 17; refine (unhide HLN _ (by go_split_ands; assumption)).mono ?_; rintro e w6 ⟨a6, c6, rfl, ho6, hb6⟩; have HI6 := hide ho6.list.1; have HB6 : Hid (Below wr.heap.size wr w6) := Below.trans (B := wr.heap.size) (by go_split_ands; assumption) (hb6.mono (Below.size (B := wr.heap.size) (by go_split_ands; assumption))); clear ho6 hb6)
              | (go_at_call 16; (with_reducible refine Calls.mono (unhide HH1 _ _ (unhide HI6)) ?_); rintro e w7 ⟨rfl, hb7⟩; have HB7 : Hid (Below wr.heap.size wr w7) := (unhide HB6).trans (hb7.mono (unhide HB6).size); clear hb7)
              | (go_at_call 16; refine (unhide HH2 _ (unhide HB7) _).mono ?_; rintro e w8 ⟨rfl, hb8⟩; have HB8 : Hid (Below wr.heap.size wr w8) := (unhide HB7).trans (hb8.mono (unhide HB7).size); clear hb8))
          clear q30 q31 q70 q71 q90 q91 q100 q101 z0 z1 k0
          have V7 := hide ((unhide VV).keep (unhide HB8))
          have HLW8 := hide ((unhide HLW).trans ((unhide HB8).mono (unhide HLW).size))
          go_wp2_with fail
          go_roundw
          case rel => exact ⟨j + 1, by omega, by go_num, unhide V7, unhide HLW8⟩
          case measure => simp [intOf]; omega
        · have i1 : ¬ (j : Int) < (n : Int) := by omega
          have j0 : (0 : Int) ≤ (k : Int) := by omega
          have j1 : (k : Int) ≤ (n : Int) := by omega
          have j2 : (k : Int) ≤ (cg : Int) := by omega
          have j3 : (n : Int) ≤ (cg : Int) := by omega
          have HST : Hid (∀ W, Below wr.heap.size wr W → W.cell? ⟨w.heap.size, 0, none⟩ = some (.int .i64 nx) ∧ W.cell? ⟨w.heap.size, 1, none⟩ = some (.slice a zs.length c) ∧ W.cell? ⟨s7, 0, none⟩ = some (.int .i64 nx) ∧ W.cell? ⟨s7, 1, none⟩ = some (.slice a4 (zs.length + k) c4) ∧ Below wr.heap.size wr W) := fun W hW =>
            have hc := ((unhide VV).keep hW).cells
            ⟨hc.1.1, hc.1.2, hc.2.1.1, hc.2.1.2, hW⟩
          have HOM : Hid (∀ W, Below wr.heap.size wr W → Calls Try.prog 23 #[.slice a zs.length c] W fun e w' => ∃ a' c', e = .returned (.slice a' zs.length c') ∧ Own W.heap.size w' (.slice a' zs.length c') zs ∧ Below W.heap.size W w') := fun W hW => unhide HOL W ((unhide VV).keep hW).all
          have HTK : Hid (∀ W, Below wr.heap.size wr W → IsInts W (.slice (some ⟨b, off, none⟩) k cg) (gs.take k)) := fun W hW => by
            have := part0 (IsInts.below (unhide HGI) ((unhide VV).keep hW).all) k cg (by rw [unhide HN]; exact hkn)
            exact this
          have HLK : Hid (zs.length + ((gs.take k)).length = zs.length + k) := by
            show zs.length + ((gs.take k)).length = zs.length + k
            rw [List.length_take, unhide HN]; omega
          have HLM1 : Hid ((zs ++ (gs.take k)).length ≤ maxLen) := by
            show (zs ++ (gs.take k)).length ≤ maxLen
            rw [List.length_append, unhide HLK]; unfold maxLen; omega
          have HLM2 : Hid ((gs.drop k).length ≤ maxLen) := by
            show (gs.drop k).length ≤ maxLen
            rw [List.length_drop, unhide HN]; unfold maxLen; omega
          have HPP : Hid (∀ W, Below wr.heap.size wr W → IsInts W (.slice a4 (zs.length + k) c4) (zs ++ (gs.take k))) := fun W hW => IsInts.below (IsInts.below (unhide HP1) (unhide HLW)) hW
          have HPL : Hid (∀ W, Below wr.heap.size wr W → IsInts W (.slice a5 (n - k) c5) (gs.drop k)) := fun W hW => IsInts.below (IsInts.below (unhide HP2) (unhide HLW)) hW
          have HDRA : Hid (∀ W, Below wr.heap.size wr W → ∀ c1, IsInts W (.slice (if cg = k then some ⟨b, off, none⟩ else some ⟨b, off + k, none⟩) (n - k) c1) (gs.drop k)) := fun W hW c1 => by
            have hp := IsInts.part (IsInts.below (unhide HGI) ((unhide VV).keep hW).all) k (n - k) c1 (by rw [unhide HN]; omega)
            rw [List.take_of_length_le (by rw [List.length_drop, unhide HN]; omega)] at hp
            split
            · have e0 : n - k = 0 := by omega
              have e2 : gs.drop k = [] := List.eq_nil_of_length_eq_zero (by rw [List.length_drop, unhide HN]; exact e0)
              rw [e2, e0]
              exact ⟨rfl, Or.inr ⟨_, _, rfl, fun j u hj => by simp at hj⟩⟩
            · exact hp
          obtain ⟨⟨q30, q31⟩, ⟨q70, q71⟩, ⟨q90, q91⟩, ⟨q100, q101⟩, z0, z1⟩ := (unhide VV).cells
          have e1 : (nx == nx) = true := by simp
          have HD := hide (show ∀ D : Int, D = (n : Int) / p → (k : Int) = min (min (min (D + 1) n) 128) (256 - zs.length) from fun D hD => by rw [hD]; exact unhide HKE)
          go_upto_if 127 with fail
          go_cut [13] (fun v13 wB => (∃ m : Int, v13 = .int .i64 m ∧ m = min ((n : Int) / p + 1) n) ∧ wB = wr)
          case first =>
            by_cases hA : (n : Int) < (n : Int) / p + 1
            · go_wp2_with fail
              go_meet
              case rel => exact ⟨⟨_, rfl, by omega⟩, by first | rfl | trivial⟩
            · go_wp2_with fail
              go_meet
              case rel => exact ⟨⟨_, rfl, by omega⟩, by first | rfl | trivial⟩
          case rest =>
            obtain ⟨⟨m1, rfl, hm1⟩, hww⟩ := hcut
            cases hww
            have HM1 := hide hm1
            have b1 : m1 ≤ n := by omega
            clear hm1
            go_upto_if 131 with fail
            go_cut [13] (fun v13 wB => (∃ m : Int, v13 = .int .i64 m ∧ m = min m1 128) ∧ wB = wr)
            case first =>
              by_cases hA : (128 : Int) < m1
              · go_wp2_with fail
                go_meet
                case rel => exact ⟨⟨_, rfl, by omega⟩, by first | rfl | trivial⟩
              · go_wp2_with fail
                go_meet
                case rel => exact ⟨⟨_, rfl, by omega⟩, by first | rfl | trivial⟩
            case rest =>
              obtain ⟨⟨m2, rfl, hm2⟩, hww⟩ := hcut
              cases hww
              have HM2 := hide hm2
              clear hm2
              go_upto_if 137 with fail
              go_cut [13] (fun v13 wB => (∃ m : Int, v13 = .int .i64 m ∧ m = min m2 (256 - zs.length)) ∧ wB = wr)
              case first =>
                by_cases hA : 256 - (zs.length : Int) < m2
                · go_wp2_with fail
                  go_meet
                  case rel => exact ⟨⟨_, rfl, by omega⟩, by first | rfl | trivial⟩
                · go_wp2_with fail
                  go_meet
                  case rel => exact ⟨⟨_, rfl, by omega⟩, by first | rfl | trivial⟩
              case rest =>
                obtain ⟨⟨m3, rfl, hm3⟩, hww⟩ := hcut
                cases hww
                obtain rfl : m3 = (k : Int) := by have h1 := unhide HM1; have h2 := unhide HM2; have h3 := unhide HD _ rfl; omega
                clear hm3
                go_upto_region 32 with fail
                clear q30 q31 q70 q71 q90 q91 q100 q101 z0 z1
                obtain ⟨q30, q31, q70, q71, _⟩ := unhide HST _ (Below.refl _ _)
                by_cases hck : cg = k
                · have HDR : Hid (∀ W, Below wr.heap.size wr W → ∀ c1, IsInts W (.slice (some ⟨b, off, none⟩) (n - k) c1) (gs.drop k)) := fun W hW c1 => by
                    have := unhide HDRA W hW c1
                    rw [if_pos hck] at this
                    exact this
                  have HLM3 : Hid (([] : List Int).length ≤ maxLen) := Nat.zero_le _
                  have HPL0 : Hid (∀ W, Below wr.heap.size wr W → IsInts W (.slice a5 0 c5) []) := fun W hW => by
                    have := unhide HPL W hW
                    rw [show n - k = 0 by omega, List.drop_eq_nil_of_le (by rw [unhide HN]; omega)] at this
                    exact this
                  have HDR0 : Hid (∀ W, Below wr.heap.size wr W → ∀ c1, IsInts W (.slice (some ⟨b, off, none⟩) 0 c1) []) := fun W hW c1 => by
                    have := unhide HDR W hW c1
                    rw [show n - k = 0 by omega, List.drop_eq_nil_of_le (by rw [unhide HN]; omega)] at this
                    exact this
                  subst hck
                  go_region_held3 (fun W => W.cell? ⟨w.heap.size, 0, none⟩ = some (.int .i64 nx) ∧ W.cell? ⟨w.heap.size, 1, none⟩ = some (.slice a zs.length c) ∧ W.cell? ⟨s7, 0, none⟩ = some (.int .i64 nx) ∧ W.cell? ⟨s7, 1, none⟩ = some (.slice a4 (zs.length + cg) c4) ∧ Below wr.heap.size wr W)
                    (first | with_reducible exact unhide HST _ (Below.refl _ _).drew | with_reducible exact unhide HST _ (unhide HB6) | with_reducible exact unhide HST _ (unhide HB7) | with_reducible exact unhide HST _ (unhide HB8) | with_reducible exact unhide HST _ (unhide HB9))
                    (first
                      | (go_at_call 23; refine (unhide HOM _ (by go_split_ands; assumption)).mono ?_; rintro e w6 ⟨a6, c6, rfl, ho6, hb6⟩; have HO6 : Hid (Own wr.heap.size w6 (.slice a6 zs.length c6) zs) := ho6.base (Below.size (B := wr.heap.size) (by go_split_ands; assumption)); have HB6 : Hid (Below wr.heap.size wr w6) := Below.trans (B := wr.heap.size) (by go_split_ands; assumption) (hb6.mono (Below.size (B := wr.heap.size) (by go_split_ands; assumption))); clear ho6 hb6)
                      | (refine step_append_want (by rfl) (.tmp 152) (.tmp 155) rfl wr.heap.size (.slice a6 zs.length c6) zs rfl (unhide HO6) (.slice (some ⟨b, off, none⟩) cg cg) (gs.take cg) rfl (unhide HTK _ (unhide HB6)) (zs.length + cg) (unhide HLK) (by omega) (unhide HB6).size ?_; intro a7 c7 w7 ho7 hg7; have HI7 := hide ho7.list.1; have HB7 : Hid (Below wr.heap.size wr w7) := (unhide HB6).grown hg7 (unhide HB6).size (fun i hi => ((unhide HO6).lt i hi).1); clear ho7 hg7)
                      | (go_at_call 20; (with_reducible refine Calls.mono (ints_same _ _ _ _ (unhide HPP _ (unhide HB7)) (unhide HI7) (unhide HLM1)) ?_); rintro e w8 ⟨rfl, hb8⟩; have HB8 : Hid (Below wr.heap.size wr w8) := (unhide HB7).trans (hb8.mono (unhide HB7).size); clear hb8)
                      | (go_at_call 20; (with_reducible refine Calls.mono (ints_same _ _ _ _ (unhide HPL0 _ (unhide HB8)) (unhide HDR0 _ (unhide HB8) _) (unhide HLM3)) ?_); rintro e w9 ⟨rfl, hb9⟩; have HB9 : Hid (Below wr.heap.size wr w9) := (unhide HB8).trans (hb9.mono (unhide HB8).size); clear hb9))
                  go_wp2_with fail
                  go_ret
                  exact ⟨rfl, ((unhide VV).keep (unhide HB9)).all⟩
                · have HDR : Hid (∀ W, Below wr.heap.size wr W → ∀ c1, IsInts W (.slice (some ⟨b, off + k, none⟩) (n - k) c1) (gs.drop k)) := fun W hW c1 => by
                    have := unhide HDRA W hW c1
                    rw [if_neg hck] at this
                    exact this
                  go_region_held3 (fun W => W.cell? ⟨w.heap.size, 0, none⟩ = some (.int .i64 nx) ∧ W.cell? ⟨w.heap.size, 1, none⟩ = some (.slice a zs.length c) ∧ W.cell? ⟨s7, 0, none⟩ = some (.int .i64 nx) ∧ W.cell? ⟨s7, 1, none⟩ = some (.slice a4 (zs.length + k) c4) ∧ Below wr.heap.size wr W)
                    (first | with_reducible exact unhide HST _ (Below.refl _ _).drew | with_reducible exact unhide HST _ (unhide HB6) | with_reducible exact unhide HST _ (unhide HB7) | with_reducible exact unhide HST _ (unhide HB8) | with_reducible exact unhide HST _ (unhide HB9))
                    (first
                      | (go_at_call 23; refine (unhide HOM _ (by go_split_ands; assumption)).mono ?_; rintro e w6 ⟨a6, c6, rfl, ho6, hb6⟩; have HO6 : Hid (Own wr.heap.size w6 (.slice a6 zs.length c6) zs) := ho6.base (Below.size (B := wr.heap.size) (by go_split_ands; assumption)); have HB6 : Hid (Below wr.heap.size wr w6) := Below.trans (B := wr.heap.size) (by go_split_ands; assumption) (hb6.mono (Below.size (B := wr.heap.size) (by go_split_ands; assumption))); clear ho6 hb6)
                      | (refine step_append_want (by rfl) (.tmp 152) (.tmp 155) rfl wr.heap.size (.slice a6 zs.length c6) zs rfl (unhide HO6) (.slice (some ⟨b, off, none⟩) k cg) (gs.take k) rfl (unhide HTK _ (unhide HB6)) (zs.length + k) (unhide HLK) (by omega) (unhide HB6).size ?_; intro a7 c7 w7 ho7 hg7; have HI7 := hide ho7.list.1; have HB7 : Hid (Below wr.heap.size wr w7) := (unhide HB6).grown hg7 (unhide HB6).size (fun i hi => ((unhide HO6).lt i hi).1); clear ho7 hg7)
                      | (go_at_call 20; (with_reducible refine Calls.mono (ints_same _ _ _ _ (unhide HPP _ (unhide HB7)) (unhide HI7) (unhide HLM1)) ?_); rintro e w8 ⟨rfl, hb8⟩; have HB8 : Hid (Below wr.heap.size wr w8) := (unhide HB7).trans (hb8.mono (unhide HB7).size); clear hb8)
                      | (go_at_call 20; (with_reducible refine Calls.mono (ints_same _ _ _ _ (unhide HPL _ (unhide HB8)) (unhide HDR _ (unhide HB8) _) (unhide HLM2)) ?_); rintro e w9 ⟨rfl, hb9⟩; have HB9 : Hid (Below wr.heap.size wr w9) := (unhide HB8).trans (hb9.mono (unhide HB8).size); clear hb9))
                  go_wp2_with fail
                  go_ret
                  exact ⟨rfl, ((unhide VV).keep (unhide HB9)).all⟩
end Go.Proofs.Ytcdnennfimbgoaa
