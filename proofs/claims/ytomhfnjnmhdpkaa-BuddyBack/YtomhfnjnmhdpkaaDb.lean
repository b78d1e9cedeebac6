/-
  slices.DeleteFunc of posts.
-/
import Derived.Test.YtomhfnjnmhdpkaaDa
namespace Go.Proofs.Ytomhfnjnmhdpkaa
open Go.RowKit

theorem clear_alarms (w : World) (g o n c : Nat) (hn : 0 < n) (hc : ∀ j, j < n * 2 → (w.cell? ⟨g, o + j, none⟩).isSome = true) (hf : ∀ j, j < n * 2 → w.frozen? ⟨g, o + j, none⟩ = false) :
    ∃ L, (Builtin.clear_ #[22] 0 #[.slice (some ⟨g, o, none⟩) n c]).run Try.prog w = .ok (.tuple #[]) (w.setCells g o L) := by
  have hv : ∀ w, (zeroValue 38).run Try.prog w = .ok (.agg #[.int .i64 0, .int .i64 0]) w := fun w => Try.zeroValue38 w
  obtain ⟨L, hL⟩ : ∃ L, (Builtin.zeroCells (Value.agg #[.int .i64 0, .int .i64 0]).cells n).toList = L := ⟨_, rfl⟩
  have hcells : (Value.agg #[.int .i64 0, .int .i64 0]).cells = #[.int .i64 0, .int .i64 0] := by kernel_rfl
  have hlen : L.length = n * 2 := by
    rw [← hL, hcells]
    simp [Builtin.zeroCells]
    try omega
  have hone : ∀ v ∈ L, v.oneCell' = true := by
    intro v hv'
    rw [← hL, hcells] at hv'
    unfold Builtin.zeroCells at hv'
    simp only [Array.toList_map, List.mem_map] at hv'
    obtain ⟨a, _, rfl⟩ := hv'
    show (#[Value.int .i64 0, .int .i64 0][a % 2]!).oneCell' = true
    have hm : a % 2 = 0 ∨ a % 2 = 1 := by omega
    rcases hm with hm | hm <;> rw [hm] <;> rfl
  have hst := run_storeCells_cells (P := Try.prog) g o L 0 w (by rw [hlen]; simpa using hc) (by rw [hlen]; simpa using hf) hone
  simp only [Nat.add_zero] at hst
  obtain ⟨m, rfl⟩ : ∃ m, n = m + 1 := ⟨n - 1, by omega⟩
  refine ⟨L, ?_⟩
  simp [Builtin.clear_, run_underlying Try.underlying22, hv, hL, hst]

set_option maxRecDepth 100000 in
set_option maxHeartbeats 1000000 in
theorem deleteFunc_any (w : World) (base : Nat) (v : Value) (xs : List Bl) (h : Own KB base w v xs) (hn : xs.length ≤ maxLen) (k : Nat) (hent : ∀ args w, (callFunc k args).run Try.prog w = .ok (.enter k args) w) (caps : Array Value) (p : Bl → Bool)
    (hc : ∀ W x, w.grownBy W v.ownBlock → Calls Try.prog k (#[.agg #[.int .i64 x.1, .int .i64 x.2]] ++ caps) W fun e w' => e = .returned (.bool (p x)) ∧ Below W.heap.size W w') :
    Calls Try.prog 44 #[v, .func (.func k) #[] caps] w fun e w' => ∃ a m c, e = .returned (.slice a m c) ∧ m = (leftL p xs).length ∧ Own KB base w' (.slice a m c) (leftL p xs) ∧ (Value.slice a m c).ownBlock = v.ownBlock ∧ w.grownBy w' v.ownBlock := by
  have HI := hide (indexFunc_at w v xs h.isl hn k hent caps p (fun W x _ hW => hc W x (grown_of_below hW)))
  obtain ⟨a0, c0, rfl⟩ := h.form
  have HC := hide hc
  have HO := hide h
  have HNL := hide (fun e => @left_none p xs e)
  obtain ⟨n, en⟩ : ∃ n, xs.length = n := ⟨_, rfl⟩
  rw [en] at HI hn HO HC ⊢
  have HN := hide en
  unfold maxLen at hn
  clear h en hc
  go_enter Try.func44, Try.ntmps44
  go_upto_region 2 with (go_at_call 49; refine (unhide HI).mono ?_; rintro e w1 ⟨hr, hb1⟩; have HX := hide hb1; clear hb1; obtain ⟨r, rfl, hr2⟩ : ∃ r : Int, e = .returned (.int .i64 r) ∧ (r = -1 ∧ xs.any p = false ∨ ∃ j : Nat, r = (j : Int) ∧ j < n ∧ p (aAt xs j) = true ∧ ∀ i, i < j → p (aAt xs i) = false) := (hr.elim (fun h => ⟨_, h.1, Or.inl ⟨rfl, h.2⟩⟩) (fun ⟨j, h1, h2⟩ => ⟨_, h1, Or.inr ⟨j, rfl, h2⟩⟩)); have HR := hide hr2; clear hr hr2)
  rcases unhide HR with ⟨rfl, hany⟩ | ⟨j, rfl, hj, hp, hb⟩
  · have HA := hide hany
    clear hany HR
    go_wp2
    go_ret
    have e := unhide HNL (unhide HA)
    refine ⟨_, _, _, rfl, ?_, ?_, rfl, grown_of_below (unhide HX)⟩
    · rw [e, unhide HN]
    · rw [e]
      exact (unhide HO).below (unhide HX)
  · clear HR
    obtain ⟨g, c1, ev, hg, hgl⟩ := Own.at0 (unhide HO) (by rw [unhide HN]; omega)
    injection ev with e1 e2 e3
    subst e1
    subst e3
    clear e2
    have HS := hide (left_first (by rw [unhide HN]; exact hj) hp hb)
    have HO1 := hide ((unhide HO).below (unhide HX)); have HG1 : Hid (w.grownBy w1 (some g)) := grown_of_below (unhide HX)
    have HF := hide (unhide HO).isl.fits
    clear hp hb HO HX HI HNL hg hgl
    have i0 : ((j : Int) == -1) = false := by simp
    go_wp2
    go_loopw [5, 6] (fun a b wr => ∃ (i q : Nat) (ys : List Bl), i < q ∧ q ≤ n ∧ a = .int .i64 i ∧ b = .int .i64 q ∧ ys.length = n ∧ ys.take i = leftL p (xs.take q) ∧ ys.drop q = xs.drop q ∧ Own KB base wr (.slice (some ⟨g, 0, none⟩) n c0) ys ∧ w.grownBy wr (some g)) (fun _ b _ => n - (intOf b).toNat)
    case atStart => exact ⟨j, j + 1, xs, by omega, by omega, rfl, by go_num, unhide HN, (unhide HS).symm, rfl, unhide HO1, unhide HG1⟩
    case round =>
      obtain ⟨i, q, ys, hiq, hq, rfl, rfl, hyn, hyt, hyd, hown, hgr⟩ := hrel
      have HYN := hide hyn; have HYT := hide hyt; have HYD := hide hyd; have HOW := hide hown; have HGR := hide hgr
      clear hyn hyt hyd hown hgr HO1 HG1 HS
      by_cases hlt : q < n
      · obtain ⟨⟨t, c⟩, hx⟩ : ∃ x, aAt xs q = x := ⟨_, rfl⟩
        have hxy : aAt ys q = (t, c) := by
          have := congrArg (fun l => l.getD 0 (0, 0)) (unhide HYD)
          simp only [List.getD_eq_getElem?_getD, List.getElem?_drop, Nat.add_zero] at this
          rw [← hx]
          unfold aAt
          rw [List.getD_eq_getElem?_getD, List.getD_eq_getElem?_getD]
          exact this
        have HL := hide (left_take (p := p) (xs := xs) (j := q) (by rw [unhide HN]; exact hlt))
        rw [hx] at HL
        obtain ⟨⟨k0, k1⟩, -⟩ := own_block (unhide HOW) (by rw [unhide HYN]; exact hlt) hxy
        have i1 : (0 : Int) ≤ (q : Int) := by omega
        have i2 : (q : Int) < (n : Int) := by omega
        go_upto_region 8 with fail
        clear k0 k1
        have HO2 := hide ((unhide HOW).below ((Below.refl _ _).alloc (Nat.le_refl _) (.cells #[.int .i64 t, .int .i64 c] 38))); have HG2 := hide (grown_trans (unhide HGR) (grown_of_below ((Below.refl _ _).alloc (Nat.le_refl _) (.cells #[.int .i64 t, .int .i64 c] 38)))); have HZ := hide (new_block wr (.cells #[.int .i64 t, .int .i64 c] 38))
        obtain ⟨Z, eZ⟩ : ∃ X, wr.heap.size = X := ⟨_, rfl⟩
        obtain ⟨W2, e2⟩ : ∃ X, wr.alloc (.cells #[.int .i64 t, .int .i64 c] 38) = X := ⟨_, rfl⟩
        rw [eZ, e2] at HZ; rw [e2] at HO2 HG2; rw [eZ, e2]
        clear eZ e2 HOW HGR hx hxy
        have HCW : Hid (Calls Try.prog k (#[.agg #[.int .i64 t, .int .i64 c]] ++ caps) W2 fun e w' => e = .returned (.bool (p (t, c))) ∧ Below W2.heap.size W2 w') := unhide HC W2 (t, c) (unhide HG2)
        obtain ⟨r, hr⟩ : ∃ r, p (t, c) = r := ⟨_, rfl⟩
        rw [hr] at HL HCW
        clear hr HC
        obtain ⟨z0, z1, -, -, zl⟩ := block2 (unhide HZ)
        cases r with
        | true =>
          go_wp2_with (refine (unhide HCW).mono ?_; rintro e w3 ⟨rfl, hb3⟩; have HX3 := hide hb3; clear hb3)
          go_roundw
          case rel => exact ⟨i, q + 1, ys, by omega, by omega, rfl, by go_num, unhide HYN, by rw [unhide HYT, unhide HL]; simp, by rw [← List.drop_drop, ← List.drop_drop, unhide HYD], (unhide HO2).below (unhide HX3), grown_trans (unhide HG2) (grown_of_below (unhide HX3))⟩
          case measure => simp [intOf]; omega
        | false =>
          go_upto_region 9 with (refine (unhide HCW).mono ?_; rintro e w3 ⟨rfl, hb3⟩; have HZ3 := hide (keep_below (unhide HZ) hb3); have HO3 := hide ((unhide HO2).below hb3); have HG3 := hide (grown_trans (unhide HG2) (grown_of_below hb3)); clear hb3)
          clear z0 z1 zl HZ HO2 HG2 HCW
          obtain ⟨z0, z1, -, -, zl⟩ := block2 (unhide HZ3)
          obtain ⟨⟨t', c'⟩, hy⟩ : ∃ x, aAt ys i = x := ⟨_, rfl⟩
          obtain ⟨⟨k0, k1⟩, ⟨f0, f1⟩⟩ := own_block (unhide HO3) (by rw [unhide HYN]; omega) hy
          have i3 : (0 : Int) ≤ (i : Int) := by omega
          have i4 : (i : Int) < (n : Int) := by omega
          clear hy
          go_wp2
          obtain ⟨Wf, ef⟩ : ∃ W, putB w3 g (i * 2) t c = W := ⟨_, rfl⟩
          have HO4 := hide (putB_own (unhide HO3) (unhide HYN) i t c); have HG4 := hide (grown_trans (unhide HG3) (putB_grown w3 g (i * 2) t c))
          rw [ef] at HO4 HG4
          have ef2 : (w3.setCell ⟨g, i * 2, none⟩ (.int .i64 t)).setCell ⟨g, i * 2 + 1, none⟩ (.int .i64 c) = Wf := ef
          rw [ef2]
          go_roundw
          case rel =>
            have hyl := unhide HYN
            refine ⟨i + 1, q + 1, ys.set i (t, c), by omega, by omega, by go_num, by go_num, by rw [List.length_set]; exact hyl, ?_, ?_, unhide HO4, unhide HG4⟩
            · rw [unhide HL, ← unhide HYT]
              rw [List.take_succ_eq_append_getElem (by rw [List.length_set]; omega), List.take_set_of_le (Nat.le_refl _), List.getElem_set_self]
              rfl
            · rw [List.drop_set_of_lt (by omega), ← List.drop_drop, ← List.drop_drop, unhide HYD]
          case measure => simp [intOf]; omega
      · have hqn : q = n := by omega
        subst hqn
        have hci : ¬ c0 = i := by have := unhide HF; omega
        have i3 : (0 : Int) ≤ (i : Int) := by omega
        have i4 : (i : Int) ≤ (q : Int) := by omega
        have i5 : (q : Int) ≤ (c0 : Int) := by have := unhide HF; omega
        have hyl := unhide HYN
        obtain ⟨L, hL⟩ := clear_alarms wr g (i * 2) (q - i) (c0 - i) (by omega) (fun k hk => by
            have hk4 : i * 2 + k = ((i * 2 + k) / 2) * 2 + (i * 2 + k) % 2 := by omega
            have hlt3 : (i * 2 + k) / 2 < ys.length := by omega
            obtain ⟨⟨y0, y1⟩, -⟩ := own_block (unhide HOW) hlt3 rfl
            have hm : (i * 2 + k) % 2 = 0 ∨ (i * 2 + k) % 2 = 1 := by omega
            rcases hm with hm | hm <;> rw [hm] at hk4 <;> rw [hk4]
            · rw [Nat.add_zero, y0]; rfl
            · rw [y1]; rfl) (fun k hk => by
            have hk4 : i * 2 + k = ((i * 2 + k) / 2) * 2 + (i * 2 + k) % 2 := by omega
            have hlt3 : (i * 2 + k) / 2 < ys.length := by omega
            obtain ⟨-, y0, y1⟩ := own_block (unhide HOW) hlt3 rfl
            have hm : (i * 2 + k) % 2 = 0 ∨ (i * 2 + k) % 2 = 1 := by omega
            rcases hm with hm | hm <;> rw [hm] at hk4 <;> rw [hk4]
            · rw [Nat.add_zero, y0]
            · rw [y1])
        clear hyl
        go_wp2
        go_ret
        have hyl := unhide HYN
        have ee : ys.take i = leftL p xs := by rw [unhide HYT, List.take_of_length_le (by rw [unhide HN]; exact Nat.le_refl _)]
        refine ⟨_, _, _, rfl, ?_, ?_, rfl, grown_trans (unhide HGR) (grown_setCells _ _ _ _)⟩
        · rw [← ee, List.length_take]; omega
        · rw [← ee]
          have hrow : wr.ownsRow base 38 2 (.slice (some ⟨g, 0, none⟩) q c0) q (ys.flatMap KB.f) := by
            have := unhide HOW
            unfold Own at this
            rw [hyl] at this
            exact this
          obtain ⟨xs', h1, h2⟩ := row_setCells L (i * 2) _ _ hrow
          have h3 := row_cut (i := i) h1 (by omega)
          rw [h2] at h3
          have h4 : (ys.take i).length = i := by rw [List.length_take]; omega
          unfold Own
          rw [h4, flat_take kb]
          exact h3
end Go.Proofs.Ytomhfnjnmhdpkaa
