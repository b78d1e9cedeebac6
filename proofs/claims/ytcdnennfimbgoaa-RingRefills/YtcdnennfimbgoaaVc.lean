/-
  taskmilllaw.RingRefills where a task of the global queue, or the number of processors, is wrong.
-/
import Derived.Test.YtcdnennfimbgoaaVb
namespace Go.Proofs.Ytcdnennfimbgoaa
open Go.RowKit

theorem next_line {nx : Int} {zs : List Int} (h : ¬ nx < 0) : nextL nx ++ zs = lineL nx zs := by
  unfold nextL lineL
  by_cases h0 : nx = 0
  · rw [if_pos h0, if_neg (by omega)]; rfl
  · rw [if_neg h0, if_pos (by omega)]; rfl

theorem sizeW_split {nx : Int} {zs gs : List Int} {j : Nat} (h : ¬ nx < 0) : sizeW nx zs gs j = if (lineL nx zs).contains (gs.getD j 0) = true then 8 else if (gs.take j).contains (gs.getD j 0) = true then 8 else 0 := by
  unfold sizeW
  rw [next_line h]
  by_cases h1 : (lineL nx zs).contains (gs.getD j 0) = true
  · rw [if_pos h1, if_pos (List.contains_iff_mem.2 (List.mem_append_left _ (List.contains_iff_mem.1 h1)))]
  · rw [if_neg h1]
    by_cases h2 : (gs.take j).contains (gs.getD j 0) = true
    · rw [if_pos h2, if_pos (List.contains_iff_mem.2 (List.mem_append_right _ (List.contains_iff_mem.1 h2)))]
    · rw [if_neg h2, if_neg]
      intro h3
      rcases List.mem_append.1 (List.contains_iff_mem.1 h3) with h4 | h4
      · exact h1 (List.contains_iff_mem.2 h4)
      · exact h2 (List.contains_iff_mem.2 h4)

theorem lineL_len (nx : Int) (zs : List Int) : (lineL nx zs).length ≤ zs.length + 1 := by unfold lineL; split <;> simp

set_option maxRecDepth 100000 in
set_option maxHeartbeats 2000000 in
theorem refills_loops (w : World) (nx : Int) (a : Option Addr) (c : Nat) (zs : List Int) (p : Int) (b off n cg : Nat) (gs : List Int) (h : IsInts w (.slice a zs.length c) zs) (hv : Fits (.slice a zs.length c)) (hn : zs.length ≤ 2000) (hg : IsInts w (.slice (some ⟨b, off, none⟩) n cg) gs) (hgn : gs.length = n) (hm : n ≤ 6000) (hb : b < w.heap.size) (hc : ∀ j, j < n → w.cell? ⟨b, off + j, none⟩ = some (.int .i64 (gs.getD j 0))) (x y : Int) (hf : refillF nx zs gs p = (x, y)) (hx : x ≠ 0) (hr : ringF nx zs = (0, 0)) (h5 : n ≤ 5000) (hp : 0 < n) (hcap : n ≤ cg) :
    Calls Try.prog 5 #[.agg #[.int .i64 nx, .slice a zs.length c], .slice (some ⟨b, off, none⟩) n cg, .int .i64 p] w fun e w' => e = .returned (.bool true) ∧ Below w.heap.size w w' := by
  have hnot : ∀ (x : Bool) (w : World), (Op.unary .not (.bool x)).run Try.prog w = .ok (.bool (!x)) w := fun _ _ => rfl
  have h1 : ¬ (2000 : Int) < (zs.length : Int) := by omega
  have h2 : ¬ (6000 : Int) < (n : Int) := by omega
  have hx1 : (x != 0) = true := by simpa using hx
  have hx2 : (x == 0) = false := by simpa using hx
  have hxx : (x == x) = true := by simp
  have hyy : (y == y) = true := by simp
  have HOR : Hid (∀ W, Below (w.heap.size + 1) (w.alloc (.cells #[.int .i64 nx, .slice a zs.length c] 24)) W → Calls Try.prog 10 #[.agg #[.int .i64 nx, .slice a zs.length c]] W fun e w' => ∃ a' c', e = .returned (.agg #[.int .i64 nx, .slice a' zs.length c']) ∧ Own W.heap.size w' (.slice a' zs.length c') zs ∧ Below W.heap.size W w') := fun W hW => ownRing_any W nx _ zs (Rd.below h (below1 hW)) (by omega)
  have HOW : Hid (∀ W, Below w.heap.size w W → Calls Try.prog 23 #[.slice (some ⟨b, off, none⟩) n cg] W fun e w' => ∃ a' c', e = .returned (.slice a' n c') ∧ Own W.heap.size w' (.slice a' n c') gs ∧ Below W.heap.size W w') := fun W hW => by
    have := own_list W _ gs (IsInts.below hg hW) (by omega)
    rw [hgn] at this
    exact this
  have HRE : Hid (∀ W v' vg', IsInts W v' zs → IsInts W vg' gs → Calls Try.prog 22 #[.agg #[.int .i64 nx, v'], vg', .int .i64 p] W fun e w' => e = .returned (.tuple #[.agg #[.int .i64 0, .slice none 0 0], .slice none 0 0, .agg #[.int .i64 x, .int .i64 y]]) ∧ Below W.heap.size W w') := fun W v' vg' hW hW' => refill_fault W nx v' zs p hW (by unfold maxLen; omega) vg' gs hW' (by rw [hgn]; unfold maxLen; omega) x y hf hx
  have HRF : Hid (∀ W, Below w.heap.size w W → Calls Try.prog 13 #[.agg #[.int .i64 nx, .slice a zs.length c]] W fun e w' => e = .returned (.agg #[.int .i64 0, .int .i64 0]) ∧ Below W.heap.size W w') := fun W hW => by
    have := rfault_any W nx _ zs (Rd.below h hW) hv (by unfold maxLen; omega)
    rw [hr] at this
    exact this
  have h5' : ¬ (5000 : Int) < (n : Int) := by omega
  obtain ⟨F1, hF1⟩ : ∃ F, F = firstFrom (formW gs) n 0 := ⟨_, rfl⟩
  obtain ⟨F2, hF2⟩ : ∃ F, F = firstFrom (sizeW nx zs gs) n 0 := ⟨_, rfl⟩
  have hnn := ringF_next hr
  have hG : globalF nx zs gs = if F1.1 ≠ 0 then F1 else F2 := by unfold globalF; rw [hgn, if_neg (by omega), hF1, hF2]
  have HFX1 : Hid (F1.1 ≠ 0 → F1 = (x, y)) := fun h1 => by
    rw [if_pos h1] at hG
    rw [← hf]; unfold refillF
    rw [hr, if_neg (by simp), hG, if_pos h1]
  have HFX2 : Hid (F1.1 = 0 → F2.1 ≠ 0 → F2 = (x, y)) := fun h1 h2 => by
    rw [if_neg (by simp [h1])] at hG
    rw [← hf]; unfold refillF
    rw [hr, if_neg (by simp), hG, if_pos h2]
  have HFX3 : Hid (F1.1 = 0 → F2.1 = 0 → (p < 1 ∨ 64 < p) ∧ x = 3 ∧ y = -1) := fun h1 h2 => by
    rw [if_neg (by simp [h1])] at hG
    unfold refillF at hf
    rw [hr, if_neg (by simp), hG, if_neg (by simp [h2])] at hf
    split at hf
    · rename_i h3; cases hf; exact ⟨h3, rfl, rfl⟩
    · cases hf; exact absurd rfl hx
  have HF1 := hide hF1; have HF2 := hide hF2; have HNN := hide hnn
  have HLA : Hid (∀ W, Below w.heap.size w W → Calls Try.prog 17 #[.agg #[.int .i64 nx, .slice a zs.length c]] W fun e w' => ∃ a' c', e = .returned (.slice a' (lineL nx zs).length c') ∧ Own W.heap.size w' (.slice a' (lineL nx zs).length c') (lineL nx zs) ∧ Below W.heap.size W w') := fun W hW => line_any W nx _ zs (Rd.below h hW) (by omega)
  have HLM : Hid ((lineL nx zs).length ≤ maxLen) := by have := lineL_len nx zs; unfold Hid maxLen; omega
  have HSW : Hid (∀ j, sizeW nx zs gs j = if (lineL nx zs).contains (gs.getD j 0) = true then 8 else if (gs.take j).contains (gs.getD j 0) = true then 8 else 0) := fun j => sizeW_split hnn
  obtain ⟨ln, hln⟩ : ∃ l, lineL nx zs = l := ⟨_, rfl⟩
  rw [hln] at HLA HLM HSW
  have HC := hide hc; have HN := hide hgn; have HGI := hide hg
  clear h hv hg hgn hf hx hr hG hF1 hF2 hnn hc hln
  go_enter Try.func5, Try.ntmps5
  go_upto_region 7 with (first
    | (go_at_call 9; refine (begun_any _).mono ?_; rintro e w1 ⟨rfl, hb1⟩; have hx1 := hb1.mono (show w.heap.size + 1 ≤ _ by simp); obtain ⟨x0, x1, s1⟩ := arg1 hx1; have HX1 := hide hx1; clear hb1 hx1)
    | (go_at_call 10; refine (unhide HOR _ (unhide HX1)).mono ?_; rintro e w2 ⟨a2, c2, rfl, ho2, hb2⟩; have HO2 := hide ho2; have HX2 := hide (next1 (unhide HX1) hb2); clear ho2 hb2 x0 x1 s1)
    | (go_at_call 23; refine (unhide HOW _ (below1 (unhide HX2))).mono ?_; rintro e w3 ⟨a3, c3, rfl, ho3, hb3⟩; have HO3 := hide ho3; have HI2 := hide (IsInts.below (unhide HO2).list.1 hb3); have HX3 := hide (next1 (unhide HX2) hb3); clear ho3 hb3)
    | (go_at_call 22; refine (unhide HRE _ _ _ (unhide HI2) (unhide HO3).list.1).mono ?_; rintro e w4 ⟨rfl, hb4⟩; have hx4 := next1 (unhide HX3) hb4; obtain ⟨x0, x1, s1⟩ := arg1 hx4; have HX4 := hide hx4; clear hb4 hx4)
    | (go_at_call 13; refine (unhide HRF _ ((below1 (unhide HX4)).trans ((below_new2 w4 _ _).mono (below1 (unhide HX4)).size))).mono ?_; rintro e w5 ⟨rfl, hb5⟩; have HB5 := hide hb5; clear hb5 x0 x1 s1))
  have VW6 := hide (ref_vars (x := 0) (y := 0) (unhide HX4) (unhide HB5))
  obtain ⟨W6, eW6⟩ : ∃ W, w5.alloc (.cells #[.int .i64 0, .int .i64 0] 28) = W := ⟨_, rfl⟩
  rw [eW6] at VW6 ⊢
  clear eW6
  obtain ⟨s7, e7⟩ : ∃ s, w4.heap.size = s := ⟨_, rfl⟩
  rw [e7] at VW6 ⊢
  clear e7 HB5 HX1 HX2 HX3 HX4 HO2 HO3 HI2 HOR HOW HRE HRF
  obtain ⟨⟨q30, q31⟩, ⟨q70, q71⟩, ⟨q90, q91⟩, ⟨q100, q101⟩, z0, z1⟩ := (unhide VW6).cells
  go_wp2_with fail
  clear q30 q31 q70 q71 q90 q91 q100 q101 z0 z1
  go_loopw [11] (fun i wr => ∃ (j : Nat) (u v : Int), j ≤ n ∧ i = .int .i64 j ∧ RefVars w w5 nx (.slice a zs.length c) s7 (.int .i64 0) (.slice none 0 0) (.int .i64 x) (.int .i64 y) u v wr ∧ ((u = 0 ∧ v = 0 ∧ F1 = firstFrom (formW gs) (n - j) j) ∨ (u ≠ 0 ∧ u = x ∧ v = y))) (fun i _ => n - (intOf i).toNat)
  case atStart => exact ⟨0, 0, 0, Nat.zero_le _, rfl, unhide VW6, Or.inl ⟨rfl, rfl, unhide HF1⟩⟩
  case round =>
    clear VW6
    obtain ⟨j, u, v, hj, rfl, hV, ⟨rfl, rfl, hfrom⟩ | ⟨_, rfl, rfl⟩⟩ := hrel
    · have VV := hide hV
      have HFR := hide hfrom
      clear hV hfrom
      by_cases hlt : j < n
      · have i0 : (0 : Int) ≤ (j : Int) := by omega
        have i1 : (j : Int) < (n : Int) := by omega
        have k0 := ((unhide VV).all.cell (p := ⟨b, off + j, none⟩) hb).trans (unhide HC j hlt)
        obtain ⟨z, hz⟩ : ∃ z, gs.getD j 0 = z := ⟨_, rfl⟩
        rw [hz] at k0
        obtain ⟨⟨q30, q31⟩, ⟨q70, q71⟩, ⟨q90, q91⟩, ⟨q100, q101⟩, z0, z1⟩ := (unhide VV).cells
        by_cases hz0 : z < 1
        · have hWj : formW gs j = 5 := by rw [formW, hz, if_pos hz0]
          have hFj : F1 = (5, (j : Int)) := by rw [unhide HFR, firstFrom_here hlt (by rw [hWj]; decide), hWj]
          have HXY : Hid (5 = x ∧ (j : Int) = y) := by
            have := unhide HFX1 (by rw [hFj]; simp)
            rw [hFj] at this
            exact ⟨congrArg Prod.fst this, congrArg Prod.snd this⟩
          clear hz hWj hFj
          go_wp2_with (go_at_call 15; refine (f_any _ _ _).mono ?_; rintro e w6 ⟨rfl, hb6⟩; have V6 := hide ((unhide VV).keep hb6); clear hb6 q30 q31 q70 q71 q90 q91 q100 q101 z0 z1 k0; obtain ⟨⟨q30, q31⟩, ⟨q70, q71⟩, ⟨q90, q91⟩, ⟨q100, q101⟩, z0, z1⟩ := (unhide V6).cells)
          go_roundw
          case rel => exact ⟨j + 1, 5, (j : Int), by omega, by go_num, (unhide V6).set 5 (j : Int), Or.inr ⟨by decide, (unhide HXY).1, (unhide HXY).2⟩⟩
          case measure => simp [intOf]; omega
        · have hWj : formW gs j = 0 := by rw [formW, hz, if_neg hz0]
          clear hz
          go_wp2_with fail
          go_roundw
          case rel => exact ⟨j + 1, 0, 0, by omega, by go_num, unhide VV, Or.inl ⟨rfl, rfl, (unhide HFR).trans (firstFrom_next hlt hWj)⟩⟩
          case measure => simp [intOf]; omega
      · have HF10 : Hid (F1.1 = 0) := by rw [unhide HFR, firstFrom_none (by omega)]; rfl
        clear HFR
        have i1 : ¬ (j : Int) < (n : Int) := by omega
        obtain ⟨⟨q30, q31⟩, ⟨q70, q71⟩, ⟨q90, q91⟩, ⟨q100, q101⟩, z0, z1⟩ := (unhide VV).cells
        go_wp2_with fail
        clear q30 q31 q70 q71 q90 q91 q100 q101 z0 z1 i1 hlt
        rename_i wr0
        go_loopw [12] (fun i wr => ∃ (j : Nat) (u v : Int), j ≤ n ∧ i = .int .i64 j ∧ RefVars w w5 nx (.slice a zs.length c) s7 (.int .i64 0) (.slice none 0 0) (.int .i64 x) (.int .i64 y) u v wr ∧ ((u = 0 ∧ v = 0 ∧ F2 = firstFrom (sizeW nx zs gs) (n - j) j) ∨ (u ≠ 0 ∧ u = x ∧ v = y))) (fun i _ => n - (intOf i).toNat)
        case atStart => exact ⟨0, 0, 0, Nat.zero_le _, rfl, unhide VV, Or.inl ⟨rfl, rfl, unhide HF2⟩⟩
        case round =>
          clear VV
          obtain ⟨j, u, v, hj, rfl, hV, ⟨rfl, rfl, hfrom⟩ | ⟨_, rfl, rfl⟩⟩ := hrel
          · have VV := hide hV
            have HFR := hide hfrom
            clear hV hfrom
            by_cases hlt : j < n
            · have i0 : (0 : Int) ≤ (j : Int) := by omega
              have i1 : (j : Int) < (n : Int) := by omega
              have i2 : (j : Int) ≤ (cg : Int) := by omega
              obtain ⟨z, hz⟩ : ∃ z, gs.getD j 0 = z := ⟨_, rfl⟩
              obtain ⟨r1, hr1⟩ : ∃ r, ln.contains z = r := ⟨_, rfl⟩
              obtain ⟨r2, hr2⟩ : ∃ r, (gs.take j).contains z = r := ⟨_, rfl⟩
              have hsw := unhide HSW j
              rw [hz, hr1, hr2] at hsw
              have HSS : Hid (∀ W, Below wr.heap.size wr W → W.cell? ⟨w.heap.size, 0, none⟩ = some (.int .i64 nx) ∧ W.cell? ⟨w.heap.size, 1, none⟩ = some (.slice a zs.length c) ∧ W.cell? ⟨b, off + j, none⟩ = some (.int .i64 z) ∧ Below wr.heap.size wr W) := fun W hW =>
                ⟨((unhide VV).keep hW).cells.1.1, ((unhide VV).keep hW).cells.1.2, (((unhide VV).keep hW).all.cell (p := ⟨b, off + j, none⟩) hb).trans (by rw [← hz]; exact unhide HC j hlt), hW⟩
              have HLN : Hid (∀ W, Below wr.heap.size wr W → Calls Try.prog 17 #[.agg #[.int .i64 nx, .slice a zs.length c]] W fun e w' => ∃ a' c', e = .returned (.slice a' ln.length c') ∧ Own W.heap.size w' (.slice a' ln.length c') ln ∧ Below W.heap.size W w') := fun W hW => unhide HLA W ((unhide VV).keep hW).all
              have HH1 : Hid (∀ W v', IsInts W v' ln → Calls Try.prog 16 #[v', .int .i64 z] W fun e w' => e = .returned (.bool r1) ∧ Below W.heap.size W w') := fun W v' hW => by
                have := has_any W v' ln z hW (unhide HLM)
                rw [hr1] at this
                exact this
              have HH2 : Hid (∀ W, Below wr.heap.size wr W → ∀ c', Calls Try.prog 16 #[.slice (some ⟨b, off, none⟩) j c', .int .i64 z] W fun e w' => e = .returned (.bool r2) ∧ Below W.heap.size W w') := fun W hW c' => by
                have h4 := part0 (IsInts.below (unhide HGI) ((unhide VV).keep hW).all) j c' (by rw [unhide HN]; omega)
                have := has_any W _ _ z h4 (by rw [List.length_take, unhide HN]; unfold maxLen; omega)
                rw [hr2] at this
                exact this
              have k0 := (unhide HSS wr (Below.refl _ _)).2.2.1
              obtain ⟨⟨q30, q31⟩, ⟨q70, q71⟩, ⟨q90, q91⟩, ⟨q100, q101⟩, z0, z1⟩ := (unhide VV).cells
              clear hz hr1 hr2
              have HXY : Hid (sizeW nx zs gs j = 8 → 8 = x ∧ (j : Int) = y) := fun hWj => by
                have hFj : F2 = (8, (j : Int)) := by rw [unhide HFR, firstFrom_here hlt (by rw [hWj]; decide), hWj]
                have := unhide HFX2 (unhide HF10) (by rw [hFj]; simp)
                rw [hFj] at this
                exact ⟨congrArg Prod.fst this, congrArg Prod.snd this⟩
              cases r1 with
              | true =>
                have HSZ := hide (show sizeW nx zs gs j = 8 by rw [hsw]; rfl)
                clear hsw
                go_wp2_with fail
                refine wp_region_held_drew (S := (fun W => W.cell? ⟨w.heap.size, 0, none⟩ = some (.int .i64 nx) ∧ W.cell? ⟨w.heap.size, 1, none⟩ = some (.slice a zs.length c) ∧ W.cell? ⟨b, off + j, none⟩ = some (.int .i64 z) ∧ Below wr.heap.size wr W)) (by kernel_rfl) (unhide HSS _ (Below.refl _ _).drew) (fun hHeld => ?_)
                refine wpAnyH_take (i := 0) (oi := { dst := some 75, op := Op.load 24 (Operand.tmp 3), type := 24, pos := "law02.go:102", after := #[], guard := none }) (v := ?v0) rfl (by kernel_rfl) (by kernel_rfl) (by kernel_rfl) (fun _ _ _ h => h) (Or.inl ⟨by rfl, ?y0⟩) (by assumption) ?r0
                case y0 => (intro w hSw; (try dsimp only at hSw); go_simp; try with_reducible rfl)
                try simp only [Act.put, List.setIfInBounds_toArray, List.set_cons_zero, List.set_cons_succ]
                refine wpAnyH_take (i := 2) (oi := { dst := some 77, op := Op.move (Operand.tmp 1), type := 22, pos := "law02.go:102", after := #[], guard := none }) (v := ?v2) rfl (by kernel_rfl) (by kernel_rfl) (by kernel_rfl) (fun _ _ _ h => h) (Or.inl ⟨by rfl, ?y2⟩) (by assumption) ?r2
                case y2 => (intro w hSw; (try dsimp only at hSw); go_simp; try with_reducible rfl)
                try simp only [Act.put, List.setIfInBounds_toArray, List.set_cons_zero, List.set_cons_succ]
                refine wpAnyH_take (i := 3) (oi := { dst := some 78, op := Op.move (Operand.tmp 12), type := 3, pos := "law02.go:102", after := #[], guard := none }) (v := ?v3) rfl (by kernel_rfl) (by kernel_rfl) (by kernel_rfl) (fun _ _ _ h => h) (Or.inl ⟨by rfl, ?y3⟩) (by assumption) ?r3
                case y3 => (intro w hSw; (try dsimp only at hSw); go_simp; try with_reducible rfl)
                try simp only [Act.put, List.setIfInBounds_toArray, List.set_cons_zero, List.set_cons_succ]
                refine wpAnyH_take (i := 4) (oi := { dst := some 79, op := Op.indexAddr 22 (Operand.tmp 77) (Operand.tmp 78), type := 0, pos := "law02.go:102", after := #[{ on := 2, ground := Ground.data }, { on := 3, ground := Ground.data }], guard := none }) (v := ?v4) rfl (by kernel_rfl) (by kernel_rfl) (by kernel_rfl) (fun _ _ _ h => h) (Or.inl ⟨by rfl, ?y4⟩) (by assumption) ?r4
                case y4 => (intro w hSw; (try dsimp only at hSw); go_simp; try with_reducible rfl)
                try simp only [Act.put, List.setIfInBounds_toArray, List.set_cons_zero, List.set_cons_succ]
                refine wpAnyH_take (i := 5) (oi := { dst := some 80, op := Op.load 3 (Operand.tmp 79), type := 3, pos := "law02.go:102", after := #[{ on := 4, ground := Ground.data }], guard := none }) (v := ?v5) rfl (by kernel_rfl) (by kernel_rfl) (by kernel_rfl) (fun _ _ _ h => h) (Or.inl ⟨by rfl, ?y5⟩) (by assumption) ?r5
                case y5 => (intro w hSw; (try dsimp only at hSw); go_simp; try with_reducible rfl)
                try simp only [Act.put, List.setIfInBounds_toArray, List.set_cons_zero, List.set_cons_succ]
                refine wpAnyH_ready (rs := [1]) (by kernel_rfl) (by simp) ?_
                refine AllReadyH.cons (o := { dst := some 76, op := Op.call { callee := Callee.value (Operand.func 17), args := #[Operand.tmp 75], argTypes := #[24] }, type := 22, pos := "law02.go:102", after := #[{ on := 0, ground := Ground.data }], guard := none }) rfl (fun K hK => ?_) AllReadyH.nil
                go_simp
                (go_at_call 17; refine (unhide HLN _ (Below.refl _ _).drew).mono ?_; rintro e w6 ⟨a6, c6, rfl, ho6, hb6⟩; have HI6 := hide ho6.list.1; have HB6 : Hid (Below wr.heap.size wr w6) := (Below.refl wr.heap.size wr).drew.trans (hb6.mono (Nat.le_refl _)); clear ho6 hb6)
                refine hK.out _ _ (unhide HSS _ (unhide HB6)) (fun hHeld => ?_)
                clear hK K
                try simp only [Act.put, List.setIfInBounds_toArray, List.set_cons_zero, List.set_cons_succ]
                refine wpAnyH_ready (rs := [6]) (by kernel_rfl) (by simp) ?_
                refine AllReadyH.cons (o := { dst := some 81, op := Op.call { callee := Callee.value (Operand.func 16), args := #[Operand.tmp 76, Operand.tmp 80], argTypes := #[22, 3] }, type := 4, pos := "law02.go:102", after := #[{ on := 1, ground := Ground.data }, { on := 5, ground := Ground.data }, { on := 1, ground := Ground.chain }], guard := none }) rfl (fun K hK => ?_) AllReadyH.nil
                go_simp
                (go_at_call 16; refine (unhide HH1 _ _ (unhide HI6)).mono ?_; rintro e w7 ⟨rfl, hb7⟩; have HB7 : Hid (Below wr.heap.size wr w7) := (unhide HB6).trans (hb7.mono (unhide HB6).size); clear hb7)
                refine hK.out _ _ (unhide HSS _ (unhide HB7)) (fun hHeld => ?_)
                clear hK K
                try simp only [Act.put, List.setIfInBounds_toArray, List.set_cons_zero, List.set_cons_succ]
                refine wpAnyH_take (i := 7) (oi := { dst := some 82, op := Op.move (Operand.tmp 81), type := 4, pos := "law02.go:102", after := #[{ on := 6, ground := Ground.data }, { on := 6, ground := Ground.chain }], guard := none }) (v := ?v7) rfl (by kernel_rfl) (by kernel_rfl) (by kernel_rfl) (fun _ _ _ h => h) (Or.inl ⟨by rfl, ?y7⟩) (by assumption) ?r7
                case y7 => (intro w hSw; (try dsimp only at hSw); go_simp; try with_reducible rfl)
                try simp only [Act.put, List.setIfInBounds_toArray, List.set_cons_zero, List.set_cons_succ]
                refine wpAnyH_take (i := 8) (oi := { dst := some 83, op := Op.move (Operand.tmp 1), type := 22, pos := "law02.go:102", after := #[{ on := 7, ground := Ground.guard }], guard := some (7, false) }) (v := undef) rfl (by kernel_rfl) (by kernel_rfl) (by kernel_rfl) (fun _ _ _ h => h) (Or.inr ⟨by rfl, rfl⟩) (by assumption) ?_
                try simp only [Act.put, List.setIfInBounds_toArray, List.set_cons_zero, List.set_cons_succ]
                refine wpAnyH_take (i := 9) (oi := { dst := some 84, op := Op.move (Operand.tmp 12), type := 3, pos := "law02.go:102", after := #[{ on := 7, ground := Ground.guard }], guard := some (7, false) }) (v := undef) rfl (by kernel_rfl) (by kernel_rfl) (by kernel_rfl) (fun _ _ _ h => h) (Or.inr ⟨by rfl, rfl⟩) (by assumption) ?_
                try simp only [Act.put, List.setIfInBounds_toArray, List.set_cons_zero, List.set_cons_succ]
                refine wpAnyH_take (i := 10) (oi := { dst := some 85, op := Op.slice 22 (Operand.tmp 83) none (some (Operand.tmp 84)) none, type := 22, pos := "law02.go:102", after := #[{ on := 8, ground := Ground.data }, { on := 9, ground := Ground.data }, { on := 7, ground := Ground.guard }], guard := some (7, false) }) (v := undef) rfl (by kernel_rfl) (by kernel_rfl) (by kernel_rfl) (fun _ _ _ h => h) (Or.inr ⟨by rfl, rfl⟩) (by assumption) ?_
                try simp only [Act.put, List.setIfInBounds_toArray, List.set_cons_zero, List.set_cons_succ]
                refine wpAnyH_take (i := 11) (oi := { dst := some 86, op := Op.move (Operand.tmp 1), type := 22, pos := "law02.go:102", after := #[{ on := 7, ground := Ground.guard }], guard := some (7, false) }) (v := undef) rfl (by kernel_rfl) (by kernel_rfl) (by kernel_rfl) (fun _ _ _ h => h) (Or.inr ⟨by rfl, rfl⟩) (by assumption) ?_
                try simp only [Act.put, List.setIfInBounds_toArray, List.set_cons_zero, List.set_cons_succ]
                refine wpAnyH_take (i := 12) (oi := { dst := some 87, op := Op.move (Operand.tmp 12), type := 3, pos := "law02.go:102", after := #[{ on := 7, ground := Ground.guard }], guard := some (7, false) }) (v := undef) rfl (by kernel_rfl) (by kernel_rfl) (by kernel_rfl) (fun _ _ _ h => h) (Or.inr ⟨by rfl, rfl⟩) (by assumption) ?_
                try simp only [Act.put, List.setIfInBounds_toArray, List.set_cons_zero, List.set_cons_succ]
                refine wpAnyH_take (i := 13) (oi := { dst := some 88, op := Op.indexAddr 22 (Operand.tmp 86) (Operand.tmp 87), type := 0, pos := "law02.go:102", after := #[{ on := 11, ground := Ground.data }, { on := 12, ground := Ground.data }, { on := 7, ground := Ground.guard }], guard := some (7, false) }) (v := undef) rfl (by kernel_rfl) (by kernel_rfl) (by kernel_rfl) (fun _ _ _ h => h) (Or.inr ⟨by rfl, rfl⟩) (by assumption) ?_
                try simp only [Act.put, List.setIfInBounds_toArray, List.set_cons_zero, List.set_cons_succ]
                refine wpAnyH_take (i := 14) (oi := { dst := some 89, op := Op.load 3 (Operand.tmp 88), type := 3, pos := "law02.go:102", after := #[{ on := 13, ground := Ground.data }, { on := 7, ground := Ground.guard }], guard := some (7, false) }) (v := undef) rfl (by kernel_rfl) (by kernel_rfl) (by kernel_rfl) (fun _ _ _ h => h) (Or.inr ⟨by rfl, rfl⟩) (by assumption) ?_
                try simp only [Act.put, List.setIfInBounds_toArray, List.set_cons_zero, List.set_cons_succ]
                refine wpAnyH_take (i := 15) (oi := { dst := some 90, op := Op.call { callee := Callee.value (Operand.func 16), args := #[Operand.tmp 85, Operand.tmp 89], argTypes := #[22, 3] }, type := 4, pos := "law02.go:102", after := #[{ on := 10, ground := Ground.data }, { on := 14, ground := Ground.data }, { on := 7, ground := Ground.chain }, { on := 7, ground := Ground.guard }], guard := some (7, false) }) (v := undef) rfl (by kernel_rfl) (by kernel_rfl) (by kernel_rfl) (fun _ _ _ h => h) (Or.inr ⟨by rfl, rfl⟩) (by assumption) ?_
                try simp only [Act.put, List.setIfInBounds_toArray, List.set_cons_zero, List.set_cons_succ]
                refine wpAnyH_take (i := 16) (oi := { dst := some 91, op := Op.pick (Operand.tmp 82) (Operand.const (Value.bool true)) (Operand.tmp 90), type := 4, pos := "law02.go:102", after := #[{ on := 7, ground := Ground.data }, { on := 15, ground := Ground.data }], guard := none }) (v := ?v16) rfl (by kernel_rfl) (by kernel_rfl) (by kernel_rfl) (fun _ _ _ h => h) (Or.inl ⟨by rfl, ?y16⟩) (by assumption) ?r16
                case y16 => (intro w hSw; (try dsimp only at hSw); go_simp; try with_reducible rfl)
                try simp only [Act.put, List.setIfInBounds_toArray, List.set_cons_zero, List.set_cons_succ]
                refine wpAnyH_done (by kernel_rfl) ?_ _
                clear q30 q31 q70 q71 q90 q91 q100 q101 z0 z1 k0
                have V7 := hide ((unhide VV).keep (unhide HB7))
                go_wp2_with (go_at_call 15; refine (f_any _ _ _).mono ?_; rintro e w9 ⟨rfl, hb9⟩; have V9 := hide ((unhide V7).keep hb9); clear hb9; obtain ⟨⟨q30, q31⟩, ⟨q70, q71⟩, ⟨q90, q91⟩, ⟨q100, q101⟩, z0, z1⟩ := (unhide V9).cells)
                go_roundw
                case rel => exact ⟨j + 1, 8, (j : Int), by omega, by go_num, (unhide V9).set 8 (j : Int), Or.inr ⟨by decide, (unhide HXY (unhide HSZ)).1, (unhide HXY (unhide HSZ)).2⟩⟩
                case measure => simp [intOf]; omega
              | false =>
                cases r2 with
                | true =>
                  have HSZ := hide (show sizeW nx zs gs j = 8 by rw [hsw]; rfl)
                  clear hsw
                  go_wp2_with fail
                  go_region_held3 (fun W => W.cell? ⟨w.heap.size, 0, none⟩ = some (.int .i64 nx) ∧ W.cell? ⟨w.heap.size, 1, none⟩ = some (.slice a zs.length c) ∧ W.cell? ⟨b, off + j, none⟩ = some (.int .i64 z) ∧ Below wr.heap.size wr W)
                    (first | with_reducible exact unhide HSS _ (Below.refl _ _).drew | with_reducible exact unhide HSS _ (unhide HB6) | with_reducible exact unhide HSS _ (unhide HB7) | with_reducible exact unhide HSS _ (unhide HB8))
                    (first
                      | (go_at_call 17; refine (unhide HLN _ (by go_split_ands; assumption)).mono ?_; rintro e w6 ⟨a6, c6, rfl, ho6, hb6⟩; have HI6 := hide ho6.list.1; have HB6 : Hid (Below wr.heap.size wr w6) := Below.trans (B := wr.heap.size) (by go_split_ands; assumption) (hb6.mono (Below.size (B := wr.heap.size) (by go_split_ands; assumption))); clear ho6 hb6)
                      | (go_at_call 16; (with_reducible refine Calls.mono (unhide HH1 _ _ (unhide HI6)) ?_); rintro e w7 ⟨rfl, hb7⟩; have HB7 : Hid (Below wr.heap.size wr w7) := (unhide HB6).trans (hb7.mono (unhide HB6).size); clear hb7)
                      | (go_at_call 16; refine (unhide HH2 _ (unhide HB7) _).mono ?_; rintro e w8 ⟨rfl, hb8⟩; have HB8 : Hid (Below wr.heap.size wr w8) := (unhide HB7).trans (hb8.mono (unhide HB7).size); clear hb8))
                  clear q30 q31 q70 q71 q90 q91 q100 q101 z0 z1 k0
                  have V7 := hide ((unhide VV).keep (unhide HB8))
                  go_wp2_with (go_at_call 15; refine (f_any _ _ _).mono ?_; rintro e w9 ⟨rfl, hb9⟩; have V9 := hide ((unhide V7).keep hb9); clear hb9; obtain ⟨⟨q30, q31⟩, ⟨q70, q71⟩, ⟨q90, q91⟩, ⟨q100, q101⟩, z0, z1⟩ := (unhide V9).cells)
                  go_roundw
                  case rel => exact ⟨j + 1, 8, (j : Int), by omega, by go_num, (unhide V9).set 8 (j : Int), Or.inr ⟨by decide, (unhide HXY (unhide HSZ)).1, (unhide HXY (unhide HSZ)).2⟩⟩
                  case measure => simp [intOf]; omega
                | false =>
                  have HSZ := hide (show sizeW nx zs gs j = 0 by rw [hsw]; rfl)
                  clear hsw
                  go_wp2_with fail
                  go_region_held3 (fun W => W.cell? ⟨w.heap.size, 0, none⟩ = some (.int .i64 nx) ∧ W.cell? ⟨w.heap.size, 1, none⟩ = some (.slice a zs.length c) ∧ W.cell? ⟨b, off + j, none⟩ = some (.int .i64 z) ∧ Below wr.heap.size wr W)
                    (first | with_reducible exact unhide HSS _ (Below.refl _ _).drew | with_reducible exact unhide HSS _ (unhide HB6) | with_reducible exact unhide HSS _ (unhide HB7) | with_reducible exact unhide HSS _ (unhide HB8))
                    (first
                      | (go_at_call 17; refine (unhide HLN _ (by go_split_ands; assumption)).mono ?_; rintro e w6 ⟨a6, c6, rfl, ho6, hb6⟩; have HI6 := hide ho6.list.1; have HB6 : Hid (Below wr.heap.size wr w6) := Below.trans (B := wr.heap.size) (by go_split_ands; assumption) (hb6.mono (Below.size (B := wr.heap.size) (by go_split_ands; assumption))); clear ho6 hb6)
                      | (go_at_call 16; (with_reducible refine Calls.mono (unhide HH1 _ _ (unhide HI6)) ?_); rintro e w7 ⟨rfl, hb7⟩; have HB7 : Hid (Below wr.heap.size wr w7) := (unhide HB6).trans (hb7.mono (unhide HB6).size); clear hb7)
                      | (go_at_call 16; refine (unhide HH2 _ (unhide HB7) _).mono ?_; rintro e w8 ⟨rfl, hb8⟩; have HB8 : Hid (Below wr.heap.size wr w8) := (unhide HB7).trans (hb8.mono (unhide HB7).size); clear hb8))
                  clear q30 q31 q70 q71 q90 q91 q100 q101 z0 z1 k0
                  have V7 := hide ((unhide VV).keep (unhide HB8))
                  go_wp2_with fail
                  go_roundw
                  case rel => exact ⟨j + 1, 0, 0, by omega, by go_num, unhide V7, Or.inl ⟨rfl, rfl, (unhide HFR).trans (firstFrom_next hlt (unhide HSZ))⟩⟩
                  case measure => simp [intOf]; omega
            · have hF20 : F2.1 = 0 := by rw [unhide HFR, firstFrom_none (by omega)]
              obtain ⟨hpp, rfl, rfl⟩ := unhide HFX3 (unhide HF10) hF20
              have i1 : ¬ (j : Int) < (n : Int) := by omega
              clear hF20 HFX1 HFX2 HFX3 HFR hx1 hx2 hxx hyy
              obtain ⟨⟨q30, q31⟩, ⟨q70, q71⟩, ⟨q90, q91⟩, ⟨q100, q101⟩, z0, z1⟩ := (unhide VV).cells
              by_cases hp1 : p < 1
              · clear hpp
                go_upto_region 21 with (go_at_call 15; refine (f_any _ _ _).mono ?_; rintro e w9 ⟨rfl, hb9⟩; have V9 := hide ((unhide VV).keep hb9); clear hb9 q30 q31 q70 q71 q90 q91 q100 q101 z0 z1; obtain ⟨⟨q30, q31⟩, ⟨q70, q71⟩, ⟨q90, q91⟩, ⟨q100, q101⟩, z0, z1⟩ := (unhide V9).cells)
                clear q30 q31 q70 q71 q90 q91 q100 q101 z0 z1
                have VW9 := hide ((unhide V9).set 3 (-1))
                obtain ⟨W9, eW9⟩ : ∃ W, (w9.setCell ⟨w5.heap.size, 0, none⟩ (.int .i64 3)).setCell ⟨w5.heap.size, 1, none⟩ (.int .i64 (-1)) = W := ⟨_, rfl⟩
                rw [eW9] at VW9 ⊢
                clear eW9
                obtain ⟨⟨q30, q31⟩, ⟨q70, q71⟩, ⟨q90, q91⟩, ⟨q100, q101⟩, z0, z1⟩ := (unhide VW9).cells
                go_wp2_with (go_at_call 18; refine (noRing_none _ _ _).mono ?_; rintro e w10 ⟨rfl, hb10⟩; have HE := hide ((unhide VW9).keep hb10).all; clear hb10)
                go_ret
                exact ⟨rfl, unhide HE⟩
              · have hp2 : 64 < p := by omega
                clear hpp
                go_upto_region 21 with (go_at_call 15; refine (f_any _ _ _).mono ?_; rintro e w9 ⟨rfl, hb9⟩; have V9 := hide ((unhide VV).keep hb9); clear hb9 q30 q31 q70 q71 q90 q91 q100 q101 z0 z1; obtain ⟨⟨q30, q31⟩, ⟨q70, q71⟩, ⟨q90, q91⟩, ⟨q100, q101⟩, z0, z1⟩ := (unhide V9).cells)
                clear q30 q31 q70 q71 q90 q91 q100 q101 z0 z1
                have VW9 := hide ((unhide V9).set 3 (-1))
                obtain ⟨W9, eW9⟩ : ∃ W, (w9.setCell ⟨w5.heap.size, 0, none⟩ (.int .i64 3)).setCell ⟨w5.heap.size, 1, none⟩ (.int .i64 (-1)) = W := ⟨_, rfl⟩
                rw [eW9] at VW9 ⊢
                clear eW9
                obtain ⟨⟨q30, q31⟩, ⟨q70, q71⟩, ⟨q90, q91⟩, ⟨q100, q101⟩, z0, z1⟩ := (unhide VW9).cells
                go_wp2_with (go_at_call 18; refine (noRing_none _ _ _).mono ?_; rintro e w10 ⟨rfl, hb10⟩; have HE := hide ((unhide VW9).keep hb10).all; clear hb10)
                go_ret
                exact ⟨rfl, unhide HE⟩
          · have VV := hide hV
            clear hV
            obtain ⟨⟨q30, q31⟩, ⟨q70, q71⟩, ⟨q90, q91⟩, ⟨q100, q101⟩, z0, z1⟩ := (unhide VV).cells
            by_cases hlt : j < n
            · have i1 : (j : Int) < (n : Int) := by omega
              go_wp2_with (go_at_call 18; refine (noRing_none _ _ _).mono ?_; rintro e w10 ⟨rfl, hb10⟩; have HE := hide ((unhide VV).keep hb10).all; clear hb10)
              go_ret
              exact ⟨rfl, unhide HE⟩
            · have i1 : ¬ (j : Int) < (n : Int) := by omega
              go_wp2_with (go_at_call 18; refine (noRing_none _ _ _).mono ?_; rintro e w10 ⟨rfl, hb10⟩; have HE := hide ((unhide VV).keep hb10).all; clear hb10)
              go_ret
              exact ⟨rfl, unhide HE⟩
    · have VV := hide hV
      clear hV
      obtain ⟨⟨q30, q31⟩, ⟨q70, q71⟩, ⟨q90, q91⟩, ⟨q100, q101⟩, z0, z1⟩ := (unhide VV).cells
      by_cases hlt : j < n
      · have i1 : (j : Int) < (n : Int) := by omega
        go_wp2_with fail
        clear q30 q31 q70 q71 q90 q91 q100 q101 z0 z1 i1
        go_loopw [12] (fun i wr2 => i = .int .i64 0 ∧ wr2 = wr) (fun i _ => 0)
        case atStart => exact ⟨rfl, rfl⟩
        case round =>
          obtain ⟨rfl, rfl⟩ := hrel
          obtain ⟨⟨q30, q31⟩, ⟨q70, q71⟩, ⟨q90, q91⟩, ⟨q100, q101⟩, z0, z1⟩ := (unhide VV).cells
          · have i9 : (0 : Int) < (n : Int) := by omega
            go_wp2_with (go_at_call 18; refine (noRing_none _ _ _).mono ?_; rintro e w9 ⟨rfl, hb9⟩; have HE := hide ((unhide VV).keep hb9).all; clear hb9)
            go_ret
            exact ⟨rfl, unhide HE⟩
      · have i1 : ¬ (j : Int) < (n : Int) := by omega
        go_wp2_with fail
        clear q30 q31 q70 q71 q90 q91 q100 q101 z0 z1 i1
        go_loopw [12] (fun i wr2 => i = .int .i64 0 ∧ wr2 = wr) (fun i _ => 0)
        case atStart => exact ⟨rfl, rfl⟩
        case round =>
          obtain ⟨rfl, rfl⟩ := hrel
          obtain ⟨⟨q30, q31⟩, ⟨q70, q71⟩, ⟨q90, q91⟩, ⟨q100, q101⟩, z0, z1⟩ := (unhide VV).cells
          · have i9 : (0 : Int) < (n : Int) := by omega
            go_wp2_with (go_at_call 18; refine (noRing_none _ _ _).mono ?_; rintro e w9 ⟨rfl, hb9⟩; have HE := hide ((unhide VV).keep hb9).all; clear hb9)
            go_ret
            exact ⟨rfl, unhide HE⟩
end Go.Proofs.Ytcdnennfimbgoaa
