/-
  ring.checkGlobal and ring.checkRefill, of whatever comes in behind a ring with which nothing is wrong.
-/
import Derived.Test.YtcdnennfimbgoabSx
namespace Go.Proofs.Ytcdnennfimbgoab
open Go.RowKit

set_option maxRecDepth 100000 in
set_option maxHeartbeats 1000000 in
theorem global_zero (w : World) (nx : Int) (v : Value) (zs : List Int) (h : IsInts w v zs) (hg : Good nx zs) (a : Option Addr) (c : Nat) :
    Calls Try.prog 22 #[.agg #[.int .i64 nx, v], .slice a 0 c] w fun e w' => e = .returned (.agg #[.int .i64 0, .int .i64 0]) ∧ Below w.heap.size w w' := by
  obtain ⟨a0, c0, rfl⟩ := Rd.form h
  have HTO : Hid (∀ W, Below w.heap.size w W → Calls Try.prog 27 #[.agg #[.int .i64 nx, .slice a0 zs.length c0]] W fun e w' => ∃ B, e = .returned (.map (some B)) ∧ W.heap.size ≤ B ∧ IsSet w' B (nextL nx ++ zs) ∧ Below W.heap.size W w') := fun W hW => tasksOf_any W nx _ zs (Rd.below h hW) hg
  clear h hg
  go_enter Try.func22, Try.ntmps22
  go_wp2
  go_loopw [16] (fun i wr => i = .int .i64 0 ∧ Below (w.heap.size + 2) ((w.alloc (.cells #[.int .i64 nx, .slice a0 zs.length c0] 25)).alloc (.cells #[.int .i64 0, .int .i64 0] 27)) wr) (fun i _ => 0)
  case atStart => exact ⟨rfl, Below.refl _ _⟩
  case round =>
    obtain ⟨rfl, hnx⟩ := hrel
    obtain ⟨x0, x1⟩ := arg_there hnx
    have HX := hide hnx
    clear hnx
    go_wp2_with (go_at_call 27; refine (unhide HTO _ (below_two (unhide HX))).mono ?_; rintro e w1 ⟨B, rfl, _, _, hb1⟩; have HX1 := hide (below_call (unhide HX) hb1); clear hb1)
    clear x0 x1 HX
    go_loopw [30] (fun i wr => i = .int .i64 0 ∧ wr = w1) (fun i _ => 0)
    case atStart => exact ⟨rfl, rfl⟩
    case round =>
      obtain ⟨rfl, rfl⟩ := hrel
      obtain ⟨r0, r1, f0, f1⟩ := res_there (unhide HX1)
      go_wp2
      refine bodyPost_ret (v := .agg #[.int .i64 0, .int .i64 0]) (by simp [results, Try.results22, go_sem, r0, r1]) rfl ⟨rfl, ?_⟩
      exact ((below_two (unhide HX1)).setCell (Nat.le_succ _) _).setCell (Nat.le_succ _) _

set_option maxRecDepth 100000 in
set_option maxHeartbeats 1000000 in
theorem global_some (w : World) (nx : Int) (v : Value) (zs : List Int) (h : IsInts w v zs) (hg : Good nx zs) (b off c : Nat) (gs : List Int) (hl : gs.length ≤ 5000) (hb : b < w.heap.size) (hc : ∀ j, j < gs.length → w.cell? ⟨b, off + j, none⟩ = some (.int .i64 (gs.getD j 0))) :
    Calls Try.prog 22 #[.agg #[.int .i64 nx, v], .slice (some ⟨b, off, none⟩) gs.length c] w fun e w' => e = .returned (faultV (globalF nx zs gs)) ∧ Below w.heap.size w w' := by
  obtain ⟨a0, c0, rfl⟩ := Rd.form h
  have HTO : Hid (∀ W, Below w.heap.size w W → Calls Try.prog 27 #[.agg #[.int .i64 nx, .slice a0 zs.length c0]] W fun e w' => ∃ B, e = .returned (.map (some B)) ∧ W.heap.size ≤ B ∧ IsSet w' B (nextL nx ++ zs) ∧ Below W.heap.size W w') := fun W hW => tasksOf_any W nx _ zs (Rd.below h hW) hg
  have HC := hide hc
  have hGF : globalF nx zs gs = if (firstFrom (formW gs) gs.length 0).1 ≠ 0 then firstFrom (formW gs) gs.length 0 else firstFrom (sizeW nx zs gs) gs.length 0 := by unfold globalF; rw [if_neg (by omega)]
  have HGF := hide hGF
  clear hGF
  obtain ⟨G, hG⟩ : ∃ G, globalF nx zs gs = G := ⟨_, rfl⟩
  rw [hG] at HGF ⊢
  clear h hg hc hG
  have h1 : ¬ (5000 : Int) < (gs.length : Int) := by omega
  obtain ⟨n, hn⟩ : ∃ n, gs.length = n := ⟨_, rfl⟩
  rw [hn] at h1 hl HGF ⊢
  have HN := hide hn
  clear hn
  go_enter Try.func22, Try.ntmps22
  go_wp2
  go_loopw [16] (fun i wr => ∃ j : Nat, j ≤ n ∧ i = .int .i64 j ∧ firstFrom (formW gs) n 0 = firstFrom (formW gs) (n - j) j ∧ Below (w.heap.size + 2) ((w.alloc (.cells #[.int .i64 nx, .slice a0 zs.length c0] 25)).alloc (.cells #[.int .i64 0, .int .i64 0] 27)) wr) (fun i _ => n - (intOf i).toNat)
  case atStart => exact ⟨0, Nat.zero_le _, rfl, rfl, Below.refl _ _⟩
  case round =>
    obtain ⟨j, hj, rfl, hfrom, hnx⟩ := hrel
    have HF := hide hfrom
    have HX := hide hnx
    clear hfrom
    by_cases hlt : j < n
    · have hlt' : j < gs.length := by rw [unhide HN]; exact hlt
      have k0 := (old_there hnx hb (off + j)).trans (unhide HC j hlt')
      obtain ⟨z, hz⟩ : ∃ z, gs.getD j 0 = z := ⟨_, rfl⟩
      rw [hz] at k0
      obtain ⟨r0, r1, f0, f1⟩ := res_there hnx
      have i0 : (0 : Int) ≤ (j : Int) := by omega
      have i1 : (j : Int) < (n : Int) := by omega
      clear hnx
      by_cases hz0 : z < 1
      · have hWj : formW gs j = 5 := by rw [formW, hz, if_pos hz0]
        clear hz
        go_wp2
        refine bodyPost_ret (v := .agg #[.int .i64 5, .int .i64 (j : Int)]) (by simp [results, Try.results22, go_sem, r0, r1]) rfl ⟨ret_fault ?_, ?_⟩
        · have hF : firstFrom (formW gs) n 0 = (5, (j : Int)) := by rw [unhide HF, firstFrom_here hlt (by rw [hWj]; decide), hWj]
          rw [unhide HGF, hF, if_pos (show (5 : Int) ≠ 0 by decide)]
        · exact ((below_two (unhide HX)).setCell (Nat.le_succ _) _).setCell (Nat.le_succ _) _
      · have hWj : formW gs j = 0 := by rw [formW, hz, if_neg hz0]
        clear hz r0 r1 f0 f1
        go_wp2
        go_roundw
        case rel => exact ⟨j + 1, by omega, by go_num, (unhide HF).trans (firstFrom_next hlt hWj), unhide HX⟩
        case measure => simp [intOf]; omega
    · have HGG : Hid (G = firstFrom (sizeW nx zs gs) n 0) := by
        have hF : firstFrom (formW gs) n 0 = (0, 0) := by rw [unhide HF, firstFrom_none (by omega)]
        have := unhide HGF
        rw [hF, if_neg (by simp)] at this
        exact this
      obtain ⟨x0, x1⟩ := arg_there hnx
      clear hnx HF HGF
      go_wp2_with (go_at_call 27; refine (unhide HTO _ (below_two (unhide HX))).mono ?_; rintro e w1 ⟨B, rfl, hB, hS, hb1⟩; have HB := hide (show w.heap.size + 2 ≤ B from Nat.le_trans (Nat.le_trans (by simp) (unhide HX).size) hB); have HS := hide hS; have HX1 := hide (below_call (unhide HX) hb1); clear hB hS hb1)
      clear x0 x1 HX hlt
      go_loopw [30] (fun i wr => ∃ j : Nat, j ≤ n ∧ i = .int .i64 j ∧ firstFrom (sizeW nx zs gs) n 0 = firstFrom (sizeW nx zs gs) (n - j) j ∧ IsSet wr B (nextL nx ++ zs ++ gs.take j) ∧ Below (w.heap.size + 2) ((w.alloc (.cells #[.int .i64 nx, .slice a0 zs.length c0] 25)).alloc (.cells #[.int .i64 0, .int .i64 0] 27)) wr) (fun i _ => n - (intOf i).toNat)
      case atStart => exact ⟨0, Nat.zero_le _, rfl, rfl, by rw [List.take_zero, List.append_nil]; exact unhide HS, unhide HX1⟩
      case round =>
        clear HS HX1
        obtain ⟨j, hj, rfl, hfrom, hS, hnx⟩ := hrel
        have HF := hide hfrom
        have HX := hide hnx
        clear hfrom
        by_cases hlt : j < n
        · have hlt' : j < gs.length := by rw [unhide HN]; exact hlt
          have k0 := (old_there hnx hb (off + j)).trans (unhide HC j hlt')
          obtain ⟨z, hz⟩ : ∃ z, gs.getD j 0 = z := ⟨_, rfl⟩
          obtain ⟨ks, hks⟩ : ∃ ks, nextL nx ++ zs ++ gs.take j = ks := ⟨_, rfl⟩
          have HT : Hid (nextL nx ++ zs ++ gs.take (j + 1) = ks ++ [z]) := by rw [take_next hlt', hz, ← hks, List.append_assoc (nextL nx ++ zs)]; rfl
          rw [hz] at k0
          rw [hks] at hS
          have HH := hide (sethas_any wr B ks z hS)
          obtain ⟨r0, r1, f0, f1⟩ := res_there hnx
          have i0 : (0 : Int) ≤ (j : Int) := by omega
          have i1 : (j : Int) < (n : Int) := by omega
          have HS := hide hS
          clear hnx hS
          by_cases hct : ks.contains z = true
          · have hWj : sizeW nx zs gs j = 8 := by rw [sizeW, hz, hks, if_pos hct]
            rw [hct] at HH
            clear hz hks hct
            go_wp2_with (go_at_call 24; refine (unhide HH).mono ?_; rintro e w3 ⟨rfl, hb3⟩; have hX3 := below_call (unhide HX) hb3; clear r0 r1 f0 f1; obtain ⟨r0, r1, f0, f1⟩ := res_there hX3; have HX3 := hide hX3; clear hb3 hX3 k0)
            refine bodyPost_ret (v := .agg #[.int .i64 8, .int .i64 (j : Int)]) (by simp [results, Try.results22, go_sem, r0, r1]) rfl ⟨ret_fault ?_, ?_⟩
            · rw [unhide HGG, unhide HF, firstFrom_here hlt (by rw [hWj]; decide), hWj]
            · exact ((below_two (unhide HX3)).setCell (Nat.le_succ _) _).setCell (Nat.le_succ _) _
          · have hcf : ks.contains z = false := by simpa using hct
            have hWj : sizeW nx zs gs j = 0 := by rw [sizeW, hz, hks, if_neg hct]
            rw [hcf] at HH
            have HCF := hide hcf
            clear hz hks hct hcf r0 r1 f0 f1
            go_wp2_with (first
              | (go_at_call 24; refine (unhide HH).mono ?_; rintro e w3 ⟨rfl, hb3⟩; have HS3 := hide ((unhide HS).below hb3); have HX3 := hide (below_call (unhide HX) hb3); clear hb3)
              | (go_at_call 25; refine (setadd_any _ _ _ _ (unhide HS3) (unhide HCF)).mono ?_; rintro e w4 ⟨rfl, rfl⟩))
            go_roundw
            case rel => exact ⟨j + 1, by omega, by go_num, (unhide HF).trans (firstFrom_next hlt hWj), by rw [unhide HT]; exact set_put (unhide HS3).lt, below_put (unhide HX3) (unhide HB) _⟩
            case measure => simp [intOf]; omega
        · obtain ⟨r0, r1, f0, f1⟩ := res_there hnx
          clear hnx hS
          go_wp2
          refine bodyPost_ret (v := .agg #[.int .i64 0, .int .i64 0]) (by simp [results, Try.results22, go_sem, r0, r1]) rfl ⟨ret_fault (by rw [unhide HGG, unhide HF, firstFrom_none (by omega)]), ?_⟩
          exact ((below_two (unhide HX)).setCell (Nat.le_succ _) _).setCell (Nat.le_succ _) _

theorem global_any (w : World) (nx : Int) (v : Value) (zs : List Int) (h : IsInts w v zs) (hg : Good nx zs) (vg : Value) (gs : List Int) (h' : IsInts w vg gs) (hm : gs.length ≤ maxLen) :
    Calls Try.prog 22 #[.agg #[.int .i64 nx, v], vg] w fun e w' => e = .returned (faultV (globalF nx zs gs)) ∧ Below w.heap.size w w' := by
  by_cases h5 : 5000 < gs.length
  · obtain ⟨a, c, rfl⟩ := Rd.form h'
    obtain ⟨a0, c0, rfl⟩ := Rd.form h
    have e : globalF nx zs gs = (2, -1) := by unfold globalF; rw [if_pos h5]
    rw [e]
    exact global_many w _ _ _ rfl ⟨_, rfl⟩ ⟨_, _, _, rfl⟩ a _ c h5 hm
  · by_cases h0 : 0 < gs.length
    · obtain ⟨b, off, c, rfl, hb, hc⟩ := h'.at h0
      exact global_some w nx v zs h hg b off c gs (by omega) hb hc
    · obtain ⟨a, c, rfl⟩ := Rd.form h'
      have e0 : gs = [] := List.eq_nil_of_length_eq_zero (by omega)
      subst e0
      exact global_zero w nx v zs h hg a c
end Go.Proofs.Ytcdnennfimbgoab
