/-
  taskmilllaw.AlarmKeeps returns true.
-/
import Derived.Test.YtcfjpjojckngeaaW
namespace Go.Proofs.Ytcfjpjojckngeaa
open Go.RowKit

theorem fld (a b : Int) (W : World) : (Instr.field 28 (.agg #[.int .i64 a, .int .i64 b]) 0).run Try.prog W = .ok (.int .i64 a) W := by kernel_rfl

theorem riseF_at : ∀ (f : Nat) (ts : List Tm) (i : Nat), i < ts.length → tAt (riseF f ts i).1 (riseF f ts i).2 = tAt ts i
  | 0, _, _, _ => rfl
  | f + 1, ts, i, hi => by
    rw [riseF]
    split
    · rw [riseF_at f _ _ (by rw [swapT_length]; omega), tAt_swap hi (by omega), if_pos rfl]
    · rfl

set_option maxRecDepth 100000 in
set_option maxHeartbeats 1000000 in
theorem keeps_long (w : World) (a : Option Addr) (n c : Nat) (x y i : Int) (hl : 200 < n) (hm : n ≤ maxLen) :
    Calls Try.prog 6 #[.slice a n c, .agg #[.int .i64 x, .int .i64 y], .int .i64 i] w fun e w' => e = .returned (.bool true) ∧ Below w.heap.size w w' := by
  have hnot : ∀ (x : Bool) (w : World), (Op.unary .not (.bool x)).run Try.prog w = .ok (.bool (!x)) w := fun _ _ => rfl
  unfold maxLen at hm
  have h1 : (200 : Int) < (n : Int) := by omega
  go_enter Try.func6, Try.ntmps6
  go_wp2_with (go_at_call 8; refine (begun_any _).mono ?_; rintro e w1 ⟨rfl, hb1⟩; have HX1 := hide (hb1.mono (show w.heap.size + 1 ≤ _ by simp)); clear hb1)
  go_ret
  exact ⟨rfl, below1 (unhide HX1)⟩

set_option maxRecDepth 100000 in
set_option maxHeartbeats 8000000 in
theorem keeps_wrong (w : World) (a : Option Addr) (n c : Nat) (x y i : Int) (ts : List Tm) (hl : ts.length = n) (h : IsTs w (.slice a n c) ts) (hn : n ≤ 200) (u v : Int) (hf : madeF ts = (u, v)) (hu : u ≠ 0) :
    Calls Try.prog 6 #[.slice a n c, .agg #[.int .i64 x, .int .i64 y], .int .i64 i] w fun e w' => e = .returned (.bool true) ∧ Below w.heap.size w w' := by
  have hnot : ∀ (x : Bool) (w : World), (Op.unary .not (.bool x)).run Try.prog w = .ok (.bool (!x)) w := fun _ _ => rfl
  have h1 : ¬ (200 : Int) < (n : Int) := by omega
  have hu1 : (u != 0) = true := by simpa using hu
  have HMD : Hid (∀ W, Below w.heap.size w W → Calls Try.prog 19 #[.slice a n c] W fun e w' => e = .returned (.tuple #[.slice none 0 0, .agg #[.int .i64 u, .int .i64 v]]) ∧ Below W.heap.size W w') := fun W hW => made_fault W _ ts (IsTs.below h hW) (by rw [hl]; unfold maxLen; omega) u v hf hu
  clear h hf hu hl
  go_enter Try.func6, Try.ntmps6
  go_wp2_with (first
    | (go_at_call 8; refine (begun_any _).mono ?_; rintro e w1 ⟨rfl, hb1⟩; have HX1 := hide (hb1.mono (show w.heap.size + 1 ≤ _ by simp)); clear hb1)
    | (go_at_call 19; refine (unhide HMD _ (below1 (unhide HX1))).mono ?_; rintro e w2 ⟨rfl, hb2⟩; have HX2 := hide (next1 (unhide HX1) hb2); clear hb2))
  go_ret
  exact ⟨rfl, (below1 (unhide HX2)).alloc (below1 (unhide HX2)).size _⟩

set_option maxRecDepth 100000 in
set_option maxHeartbeats 8000000 in
theorem keeps_oor (w : World) (a : Option Addr) (n c : Nat) (x y i : Int) (ts : List Tm) (hl : ts.length = n) (h : IsTs w (.slice a n c) ts) (hn : n ≤ 200) (hf : madeF ts = (0, 0)) (ho : oor (x, y)) :
    Calls Try.prog 6 #[.slice a n c, .agg #[.int .i64 x, .int .i64 y], .int .i64 i] w fun e w' => e = .returned (.bool true) ∧ Below w.heap.size w w' := by
  have hnot : ∀ (x : Bool) (w : World), (Op.unary .not (.bool x)).run Try.prog w = .ok (.bool (!x)) w := fun _ _ => rfl
  have h1 : ¬ (200 : Int) < (n : Int) := by omega
  have HMD : Hid (∀ W, Below w.heap.size w W → Calls Try.prog 19 #[.slice a n c] W fun e w' => ∃ a1 c1, e = .returned (.tuple #[.slice a1 n c1, .agg #[.int .i64 0, .int .i64 0]]) ∧ Own W.heap.size w' (.slice a1 n c1) (madeL ts) ∧ Below W.heap.size W w') := fun W hW => made_ok W a n c ts hl (IsTs.below h hW) hf
  clear h hf hl
  go_enter Try.func6, Try.ntmps6
  go_upto_region 6 with (first
    | (go_at_call 8; refine (begun_any _).mono ?_; rintro e w1 ⟨rfl, hb1⟩; have HX1 := hide (hb1.mono (show w.heap.size + 1 ≤ _ by simp)); clear hb1)
    | (go_at_call 19; refine (unhide HMD _ (below1 (unhide HX1))).mono ?_; rintro e w2 ⟨am, cm, rfl, hom, hb2⟩; have HX2 := hide (next1 (unhide HX1) hb2); have HOM := hide (hom.ts); clear hom hb2))
  have B8 := hide (new_block w2 (.cells #[.int .i64 0, .int .i64 0] 28))
  have HX3 := hide ((unhide HX2).alloc (Nat.le_trans (by simp) (unhide HX2).size) (.cells #[.int .i64 0, .int .i64 0] 28))
  have HOM3 := hide (IsTs.below (unhide HOM) ((Below.refl w2.heap.size w2).alloc (Nat.le_refl _) (.cells #[.int .i64 0, .int .i64 0] 28)))
  have HS8 := hide (show w2.heap.size < (w2.alloc (.cells #[.int .i64 0, .int .i64 0] 28)).heap.size by simp)
  obtain ⟨W3, eW3⟩ : ∃ W, w2.alloc (.cells #[.int .i64 0, .int .i64 0] 28) = W := ⟨_, rfl⟩
  obtain ⟨s8, e8⟩ : ∃ s, w2.heap.size = s := ⟨_, rfl⟩
  rw [eW3, e8] at B8 HS8
  rw [eW3] at HX3 HOM3
  rw [eW3, e8]
  have HWS := hide (show w.heap.size < s8 by rw [← e8]; exact (arg1 (unhide HX2)).2.2)
  clear eW3 e8 HX1 HX2 HOM HMD
  obtain ⟨x0, x1, sx⟩ := arg1 (unhide HX3)
  obtain ⟨t0, t1, _, _, _⟩ := block2 (unhide B8)
  by_cases hy : y < 1
  · clear ho
    go_wp2_with fail
    go_ret
    exact ⟨rfl, below1 (unhide HX3)⟩
  · have hx : x < 0 := ho.resolve_left hy
    clear ho
    go_wp2_with fail
    go_ret
    exact ⟨rfl, below1 (unhide HX3)⟩

set_option maxRecDepth 100000 in
set_option maxHeartbeats 8000000 in
theorem keeps_ok (w : World) (a : Option Addr) (n c : Nat) (x y i : Int) (ts : List Tm) (hl : ts.length = n) (h : IsTs w (.slice a n c) ts) (hn : n ≤ 200) (hf : madeF ts = (0, 0)) (ho : ¬ oor (x, y)) :
    Calls Try.prog 6 #[.slice a n c, .agg #[.int .i64 x, .int .i64 y], .int .i64 i] w fun e w' => e = .returned (.bool true) ∧ Below w.heap.size w w' := by
  have hnot : ∀ (x : Bool) (w : World), (Op.unary .not (.bool x)).run Try.prog w = .ok (.bool (!x)) w := fun _ _ => rfl
  have h1 : ¬ (200 : Int) < (n : Int) := by omega
  have HMD : Hid (∀ W, Below w.heap.size w W → Calls Try.prog 19 #[.slice a n c] W fun e w' => ∃ a1 c1, e = .returned (.tuple #[.slice a1 n c1, .agg #[.int .i64 0, .int .i64 0]]) ∧ Own W.heap.size w' (.slice a1 n c1) (madeL ts) ∧ Below W.heap.size W w') := fun W hW => made_ok W a n c ts hl (IsTs.below h hW) hf
  have hmc : ∀ t, (madeL ts).count t = ts.count t := fun t => madeL_count t ts
  have hml : (madeL ts).length = n := by rw [madeL_length, hl]
  have hmo : ∀ t, t ∈ madeL ts → ¬ oor t := fun t ht => by
    obtain ⟨j, hj, e⟩ := List.getElem_of_mem (mem_of_count hmc ht)
    rw [← e, ← tAt_get hj]
    exact made_each hf hj
  have hmh := madeL_heap ts
  have hmf := heapF_good (by omega) hmo hmh
  obtain ⟨M, hM⟩ : ∃ M, madeL ts = M := ⟨_, rfl⟩
  rw [hM] at HMD hmc hml hmo hmh hmf
  have hadd : addF M (x, y) = (0, 0) := by unfold addF; rw [hmf, if_neg (by simp), if_neg ho, hml, if_neg (by omega)]
  have hah : IsHeap (riseL (M ++ [(x, y)]) n).1 := by have := add_heap hmh (x, y); rw [hml] at this; exact this
  have hac : ∀ t, (riseL (M ++ [(x, y)]) n).1.count t = (M ++ [(x, y)]).count t := fun t => by have := add_count M (x, y) t; rw [hml] at this; exact this
  have hal : (riseL (M ++ [(x, y)]) n).1.length = n + 1 := by rw [riseL, riseF_length, List.length_append, hml]; rfl
  have haq : (riseL (M ++ [(x, y)]) n).2 ≤ n := riseF_lt _ _ _
  have hat : tAt (riseL (M ++ [(x, y)]) n).1 (riseL (M ++ [(x, y)]) n).2 = (x, y) := by
    rw [riseL, riseF_at _ _ _ (by rw [List.length_append, hml]; simp), tAt_append, if_pos hml.symm]
  have HAD : Hid (∀ W a' c', IsTs W (.slice a' n c') M → Calls Try.prog 11 #[.slice a' n c', .agg #[.int .i64 x, .int .i64 y]] W fun e w' => ∃ g c', e = .returned (.tuple #[.slice (some ⟨g, 0, none⟩) (n + 1) c', .int .i64 ((riseL (M ++ [(x, y)]) n).2 : Nat), .agg #[.int .i64 0, .int .i64 0]]) ∧ Own W.heap.size w' (.slice (some ⟨g, 0, none⟩) (n + 1) c') (riseL (M ++ [(x, y)]) n).1 ∧ Below W.heap.size W w') := fun W a' c' hW => add_ok W a' n c' x y M hml hW (by omega) hadd
  obtain ⟨A, hA⟩ : ∃ A, (riseL (M ++ [(x, y)]) n).1 = A := ⟨_, rfl⟩
  obtain ⟨q, hq⟩ : ∃ q, (riseL (M ++ [(x, y)]) n).2 = q := ⟨_, rfl⟩
  rw [hA, hq] at HAD hat
  rw [hA] at hah hac hal
  rw [hq] at haq
  have hao : ∀ t, t ∈ A → ¬ oor t := fun t ht => by
    rcases List.mem_append.1 (mem_of_count hac ht) with h2 | h2
    · exact hmo t h2
    · rw [List.mem_singleton.1 h2]; exact ho
  have haf := heapF_good (by omega) hao hah
  have HCM : Hid (∀ W v', IsTs W v' M → Calls Try.prog 10 #[v'] W fun e w' => e = .returned (.agg #[.int .i64 0, .int .i64 0]) ∧ Below W.heap.size W w') := fun W v' hW => by
    have := check_any W v' M hW (by rw [hml]; unfold maxLen; omega)
    rw [hmf] at this
    exact this
  have HCA : Hid (∀ W v', IsTs W v' A → Calls Try.prog 10 #[v'] W fun e w' => e = .returned (.agg #[.int .i64 0, .int .i64 0]) ∧ Below W.heap.size W w') := fun W v' hW => by
    have := check_any W v' A hW (by rw [hal]; unfold maxLen; omega)
    rw [haf] at this
    exact this
  have HCT1 : Hid (∀ W v v', IsTs W v M → IsTs W v' ts → Calls Try.prog 22 #[v, v'] W fun e w' => e = .returned (.bool true) ∧ Below W.heap.size W w') := fun W v v' h2 h3 => counted_any W v v' M ts h2 h3 (by rw [hml, hl]) (by omega) hmc
  have HCT2 : Hid (∀ W v v', IsTs W v A → IsTs W v' (ts ++ [(x, y)]) → Calls Try.prog 22 #[v, v'] W fun e w' => e = .returned (.bool true) ∧ Below W.heap.size W w') := fun W v v' h2 h3 => counted_any W v v' A (ts ++ [(x, y)]) h2 h3 (by rw [hal, List.length_append, hl]; rfl) (by omega) (fun t => by rw [hac, List.count_append, hmc, List.count_append])
  have HOW : Hid (∀ W, Below w.heap.size w W → Calls Try.prog 9 #[.slice a n c] W fun e w' => ∃ a' c', e = .returned (.slice a' n c') ∧ Own W.heap.size w' (.slice a' n c') ts ∧ Below W.heap.size W w') := fun W hW => by
    have := own_any W _ ts (IsTs.below h hW) (by omega)
    rw [hl] at this
    exact this
  have HV := hide h; have HL := hide hl; have HAT := hide hat; have HAL := hide hal; have HAF := hide haf; have HAH := hide hah; have HAO := hide hao
  have hy1 : ¬ y < 1 := fun h2 => ho (Or.inl h2)
  have hx1 : ¬ x < 0 := fun h2 => ho (Or.inr h2)
  clear h hf hl ho hmc hml hmo hmh hmf hM hadd hah hac hal hat hA hq hao haf
  go_enter Try.func6, Try.ntmps6
  go_upto_region 6 with (first
    | (go_at_call 8; refine (begun_any _).mono ?_; rintro e w1 ⟨rfl, hb1⟩; have HX1 := hide (hb1.mono (show w.heap.size + 1 ≤ _ by simp)); clear hb1)
    | (go_at_call 19; refine (unhide HMD _ (below1 (unhide HX1))).mono ?_; rintro e w2 ⟨am, cm, rfl, hom, hb2⟩; have HX2 := hide (next1 (unhide HX1) hb2); have HOM := hide (hom.ts); clear hom hb2))
  have B8 := hide (new_block w2 (.cells #[.int .i64 0, .int .i64 0] 28))
  have HX3 := hide ((unhide HX2).alloc (Nat.le_trans (by simp) (unhide HX2).size) (.cells #[.int .i64 0, .int .i64 0] 28))
  have HOM3 := hide (IsTs.below (unhide HOM) ((Below.refl w2.heap.size w2).alloc (Nat.le_refl _) (.cells #[.int .i64 0, .int .i64 0] 28)))
  have HS8 := hide (show w2.heap.size < (w2.alloc (.cells #[.int .i64 0, .int .i64 0] 28)).heap.size by simp)
  obtain ⟨W3, eW3⟩ : ∃ W, w2.alloc (.cells #[.int .i64 0, .int .i64 0] 28) = W := ⟨_, rfl⟩
  obtain ⟨s8, e8⟩ : ∃ s, w2.heap.size = s := ⟨_, rfl⟩
  rw [eW3, e8] at B8 HS8
  rw [eW3] at HX3 HOM3
  rw [eW3, e8]
  have HWS := hide (show w.heap.size < s8 by rw [← e8]; exact (arg1 (unhide HX2)).2.2)
  clear eW3 e8 HX1 HX2 HOM HMD
  obtain ⟨x0, x1, sx⟩ := arg1 (unhide HX3)
  obtain ⟨t0, t1, _, _, _⟩ := block2 (unhide B8)
  go_upto_region 9 with (go_at_call 11; refine (unhide HAD _ _ _ (unhide HOM3)).mono ?_; rintro e w3 ⟨g, ca, rfl, hoa, hb3⟩; have HX4 := hide (next1 (unhide HX3) hb3); have HOA := hide hoa; have HB3 := hide hb3; clear hoa hb3 x0 x1 sx t0 t1)
  have B11 := hide (new_block w3 (.cells #[.int .i64 0, .int .i64 0] 28))
  have HX5 := hide ((unhide HX4).alloc (Nat.le_trans (by simp) (unhide HX4).size) (.cells #[.int .i64 0, .int .i64 0] 28))
  have HOA5 := hide ((unhide HOA).below ((Below.refl w3.heap.size w3).alloc (Nat.le_refl _) (.cells #[.int .i64 0, .int .i64 0] 28)))
  have HOM5 := hide (IsTs.below (IsTs.below (unhide HOM3) (unhide HB3)) ((Below.refl w3.heap.size w3).alloc (Nat.le_refl _) (.cells #[.int .i64 0, .int .i64 0] 28)))
  have B85 := hide (keep_alloc (keep_below (unhide B8) (unhide HB3)) (.cells #[.int .i64 0, .int .i64 0] 28))
  obtain ⟨W4, eW4⟩ : ∃ W, w3.alloc (.cells #[.int .i64 0, .int .i64 0] 28) = W := ⟨_, rfl⟩
  obtain ⟨s11, e11⟩ : ∃ s, w3.heap.size = s := ⟨_, rfl⟩
  rw [eW4, e11] at B11
  rw [eW4] at HX5 HOA5 HOM5 B85
  rw [eW4, e11]
  clear eW4 e11 HX3 HX4 HOA HOM3 HB3 B8
  obtain ⟨g', cg, ev, hgw, hrow⟩ := (unhide HOA5).row (by rw [unhide HAL]; omega)
  rw [unhide HAL] at ev
  cases ev
  have HRW := hide hrow
  have HFA : Hid (∀ W, Below W4.heap.size W4 W → (W.cell? ⟨s11, 0, none⟩ = some (.int .i64 0) ∧ W.cell? ⟨s11, 1, none⟩ = some (.int .i64 0)) ∧ (W.cell? ⟨w.heap.size, 0, none⟩ = some (.int .i64 x) ∧ W.cell? ⟨w.heap.size, 1, none⟩ = some (.int .i64 y)) ∧ (W.cell? ⟨g, q * 2, none⟩ = some (.int .i64 x) ∧ W.cell? ⟨g, q * 2 + 1, none⟩ = some (.int .i64 y)) ∧ Below W4.heap.size W4 W) := fun W hW =>
    have c1 := block2 (keep_below (unhide B11) hW)
    have c2 := arg1 (next1 (unhide HX5) hW)
    have c3 := ((unhide HRW).below hW (unhide HRW).lt).at (by rw [unhide HAL]; omega) (unhide HAT)
    ⟨⟨c1.1, c1.2.1⟩, ⟨c2.1, c2.2.1⟩, c3, hW⟩
  have HIM : Hid (∀ W, Below W4.heap.size W4 W → IsTs W (.slice am n cm) M) := fun W hW => IsTs.below (unhide HOM5) hW
  have HIA : Hid (∀ W, Below W4.heap.size W4 W → IsTs W (.slice (some ⟨g, 0, none⟩) (n + 1) ca) A) := fun W hW => IsTs.below (unhide HOA5).ts hW
  have HIT : Hid (∀ W, Below W4.heap.size W4 W → IsTs W (.slice a n c) ts) := fun W hW => IsTs.below (unhide HV) (below1 (next1 (unhide HX5) hW))
  have HFR : Hid (∀ W, Below W4.heap.size W4 W → Calls Try.prog 9 #[.slice a n c] W fun e w' => ∃ a' c', e = .returned (.slice a' n c') ∧ Own W.heap.size w' (.slice a' n c') ts ∧ Below W.heap.size W w') := fun W hW => unhide HOW W (below1 (next1 (unhide HX5) hW))
  have hf1 := fld
  have g1 : (0 : Int) ≤ (q : Int) := by omega
  have g2 : (q : Int) < (n : Int) + 1 := by omega
  have g3 : ¬ (q : Int) < 0 := by omega
  have g5 : decide ((n : Int) + 1 ≤ (q : Int)) = false := by simp; omega
  have g6 : ¬ (n : Int) < (q : Int) := by omega
  have g7 : decide ((n : Int) < (q : Int)) = false := by simp; omega
  have e1 : (x == x) = true := by simp
  have e2 : (y == y) = true := by simp
  clear hrow hgw
  go_region_held3 (fun W => (W.cell? ⟨s11, 0, none⟩ = some (.int .i64 0) ∧ W.cell? ⟨s11, 1, none⟩ = some (.int .i64 0)) ∧ (W.cell? ⟨w.heap.size, 0, none⟩ = some (.int .i64 x) ∧ W.cell? ⟨w.heap.size, 1, none⟩ = some (.int .i64 y)) ∧ (W.cell? ⟨g, q * 2, none⟩ = some (.int .i64 x) ∧ W.cell? ⟨g, q * 2 + 1, none⟩ = some (.int .i64 y)) ∧ Below W4.heap.size W4 W)
    (first | with_reducible exact unhide HFA _ (Below.refl _ _).drew | with_reducible exact unhide HFA _ (unhide HC1) | with_reducible exact unhide HFA _ (unhide HC2) | with_reducible exact unhide HFA _ (unhide HC3) | with_reducible exact unhide HFA _ (unhide HB3) | with_reducible exact unhide HFA _ ((unhide HB3).alloc (unhide HB3).size _) | with_reducible exact unhide HFA _ ((unhide HC3).alloc (unhide HC3).size _) | with_reducible exact unhide HFA _ (unhide HB4) | with_reducible exact unhide HFA _ (unhide HC5))
    (first
      | (go_at_call 10; (with_reducible refine Calls.mono (unhide HCM _ _ (unhide HIM _ (Below.refl _ _).drew)) ?_); rintro e wc1 ⟨rfl, hbX⟩; have HC1 : Hid (Below W4.heap.size W4 wc1) := (Below.refl W4.heap.size W4).drew.trans (hbX.mono (Nat.le_refl _)); clear hbX)
      | (go_at_call 10; (with_reducible refine Calls.mono (unhide HCA _ _ (unhide HIA _ (unhide HC1))) ?_); rintro e wc2 ⟨rfl, hbX⟩; have HC2 : Hid (Below W4.heap.size W4 wc2) := (unhide HC1).trans (hbX.mono (unhide HC1).size); clear hbX)
      | (go_at_call 22; (with_reducible refine Calls.mono (unhide HCT1 _ _ _ (unhide HIM _ (unhide HC2)) (unhide HIT _ (unhide HC2))) ?_); rintro e wc3 ⟨rfl, hbX⟩; have HC3 : Hid (Below W4.heap.size W4 wc3) := (unhide HC2).trans (hbX.mono (unhide HC2).size); clear hbX)
      | (go_at_call 9; (first | with_reducible refine Calls.mono (unhide HFR wc3 (unhide HC3)) ?_ | with_reducible refine Calls.mono (unhide HFR (wc3.alloc _) ((unhide HC3).alloc (unhide HC3).size _)) ?_); rintro e w3' ⟨a3, c3, rfl, ho3, hb3⟩; have HO3 := hide (ho3.base (show wc3.heap.size ≤ _ by first | exact Nat.le_refl _ | simp)); have HBC : Hid (Below wc3.heap.size wc3 w3') := (by first | exact hb3 | exact ((Below.refl _ _).alloc (Nat.le_refl _) _).trans (hb3.mono (by simp))); have HB3 : Hid (Below W4.heap.size W4 w3') := (unhide HC3).trans ((unhide HBC).mono (unhide HC3).size); have HBX3 := hide hb3; clear ho3 hb3)
      | (refine step_append_ts (by rfl) (.tmp 68) (.tmp 70) rfl wc3.heap.size (.slice a3 n c3) ts rfl (by first | exact unhide HO3 | exact Own.below (unhide HO3) ((Below.refl _ _).alloc (Nat.le_refl _) _)) _ [(x, y)] rfl (by first | exact ts_new w3' x y | exact IsTs.below (ts_new wc3 x y) (unhide HBX3)) (n + 1) (by rw [unhide HL]; rfl) (by omega) (by first | exact (unhide HBC).size | exact Nat.le_trans (unhide HBC).size (by simp)) ?_; intro a4 c4 w4 ho4 hg4; have HI4 := hide ho4.ts; have HBD : Hid (Below wc3.heap.size wc3 w4) := (by first | exact (unhide HBC).grown hg4 (unhide HBC).size (fun k hk => ((unhide HO3).lt k hk).1) | exact ((unhide HBC).alloc (unhide HBC).size _).grown hg4 (Nat.le_trans (unhide HBC).size (by simp)) (fun k hk => ((unhide HO3).lt k hk).1)); have HB4 : Hid (Below W4.heap.size W4 w4) := (unhide HC3).trans ((unhide HBD).mono (unhide HC3).size); clear ho4 hg4)
      | (go_at_call 22; (with_reducible refine Calls.mono (unhide HCT2 _ _ _ (unhide HIA _ (unhide HB4)) (unhide HI4)) ?_); rintro e wc5 ⟨rfl, hbX⟩; have HC5 : Hid (Below W4.heap.size W4 wc5) := (unhide HB4).trans (hbX.mono (unhide HB4).size); clear hbX))
  all_goals
    have HX9 := hide (next1 (unhide HX5) (unhide HC5))
    by_cases hi : i < 0
    · go_wp2_with fail
      go_ret
      exact ⟨rfl, below1 (unhide HX9)⟩
    · by_cases hi2 : (n : Int) + 1 ≤ i
      · have hi3 : decide ((n : Int) + 1 ≤ i) = true := decide_eq_true hi2
        go_wp2_with fail
        go_ret
        exact ⟨rfl, below1 (unhide HX9)⟩
      · obtain ⟨k, rfl⟩ : ∃ k : Nat, i = k := ⟨i.toNat, by omega⟩
        have hkn : k ≤ n := by omega
        obtain ⟨dx, dy, hd⟩ : ∃ dx dy, tAt A k = (dx, dy) := ⟨_, _, rfl⟩
        have hR9 := (unhide HRW).below (unhide HC5) (unhide HRW).lt
        have HDR := hide (drop_ok wc5 g 0 n ca k dx dy A (unhide HAL) (unhide HIA _ (unhide HC5)) hR9.lt hR9.cells (unhide HAF) hkn hd)
        have hdl := dropL_length (unhide HAL) hkn
        have hdh := drop_heap_at (unhide HAL) hkn (unhide HAH)
        have hdc := drop_count (unhide HAL) hkn
        rw [hd] at hdc
        have hdf := heapF_good (by omega) (fun t ht => unhide HAO t (mem_of_count hdc (List.mem_append_left _ ht))) hdh
        obtain ⟨D, hD⟩ : ∃ D, dropL A k = D := ⟨_, rfl⟩
        rw [hD] at HDR hdl hdf hdc
        have HCD : Hid (∀ W v', IsTs W v' D → Calls Try.prog 10 #[v'] W fun e w' => e = .returned (.agg #[.int .i64 0, .int .i64 0]) ∧ Below W.heap.size W w') := fun W v' hW => by
          have := check_any W v' D hW (by rw [hdl]; unfold maxLen; omega)
          rw [hdf] at this
          exact this
        have HCT3 : Hid (∀ W v v', IsTs W v (D ++ [(dx, dy)]) → IsTs W v' A → Calls Try.prog 22 #[v, v'] W fun e w' => e = .returned (.bool true) ∧ Below W.heap.size W w') := fun W v v' h2 h3 => counted_any W v v' (D ++ [(dx, dy)]) A h2 h3 (by rw [List.length_append, hdl, unhide HAL]; rfl) (by rw [List.length_append, hdl]; simp; omega) hdc
        have HDL := hide hdl; have HD := hide hd
        obtain ⟨r0, r1, f0, f1, _⟩ := block2 (keep_below (unhide B85) (unhide HC5))
        have g8 : (0 : Int) ≤ (k : Int) := by omega
        have g9 : (k : Int) < (n : Int) + 1 := by omega
        have g10 : decide ((n : Int) + 1 ≤ (k : Int)) = false := decide_eq_false hi2
        have e3 : (dx == dx) = true := by simp
        have e4 : (dy == dy) = true := by simp
        clear hdh hdc hdf hdl hd hD hi hi2 hR9
        go_upto_region 14 with (go_at_call 17; refine (unhide HDR).mono ?_; rintro e w10 ⟨gd, cd, rfl, hod, hb10⟩; have HOD := hide hod; have HB10 := hide hb10; clear hod hb10 r0 r1 f0 f1; obtain ⟨r0, r1, f0, f1, lt8⟩ := block2 (keep_below (keep_below (unhide B85) (unhide HC5)) (unhide HB10)))
        have hs8g : s8 < W3.heap.size := unhide HS8
        have B8s := hide (block2_set (x' := .int .i64 0) (y' := .int .i64 0) (keep_below (keep_below (unhide B85) (unhide HC5)) (unhide HB10)))
        have hsz : ((w10.setCell ⟨s8, 0, none⟩ (.int .i64 0)).setCell ⟨s8, 1, none⟩ (.int .i64 0)).heap.size = w10.heap.size := by simp [World.setCell]
        have HOA10 : Hid (Own W3.heap.size ((w10.setCell ⟨s8, 0, none⟩ (.int .i64 0)).setCell ⟨s8, 1, none⟩ (.int .i64 0)) (.slice (some ⟨g, 0, none⟩) (n + 1) ca) A) := (((unhide HOA5).below (unhide HC5)).below (unhide HB10)).set2 hs8g _ _
        have hs85 : s8 < wc5.heap.size := Nat.lt_of_lt_of_le (block2 (unhide B85)).2.2.2.2 (unhide HC5).size
        have HOD10 : Hid (Own wc5.heap.size ((w10.setCell ⟨s8, 0, none⟩ (.int .i64 0)).setCell ⟨s8, 1, none⟩ (.int .i64 0)) (.slice (some ⟨gd, 0, none⟩) n cd) D) := (unhide HOD).set2 hs85 _ _
        have HXA : Hid (Below w.heap.size w ((w10.setCell ⟨s8, 0, none⟩ (.int .i64 0)).setCell ⟨s8, 1, none⟩ (.int .i64 0))) := (((below1 (unhide HX9)).trans ((unhide HB10).mono (below1 (unhide HX9)).size)).setCell (p := ⟨s8, 0, none⟩) (Nat.le_of_lt (unhide HWS)) _).setCell (p := ⟨s8, 1, none⟩) (Nat.le_of_lt (unhide HWS)) _
        have B13 := hide (new_block ((w10.setCell ⟨s8, 0, none⟩ (.int .i64 0)).setCell ⟨s8, 1, none⟩ (.int .i64 0)) (.cells #[.int .i64 dx, .int .i64 dy] 24))
        rw [hsz] at B13
        have HBA := hide ((Below.refl _ _).alloc (Nat.le_refl _) (.cells #[.int .i64 dx, .int .i64 dy] 24) : Below ((w10.setCell ⟨s8, 0, none⟩ (.int .i64 0)).setCell ⟨s8, 1, none⟩ (.int .i64 0)).heap.size ((w10.setCell ⟨s8, 0, none⟩ (.int .i64 0)).setCell ⟨s8, 1, none⟩ (.int .i64 0)) (((w10.setCell ⟨s8, 0, none⟩ (.int .i64 0)).setCell ⟨s8, 1, none⟩ (.int .i64 0)).alloc (.cells #[.int .i64 dx, .int .i64 dy] 24)))
        have B811 := hide (keep_alloc (unhide B8s) (.cells #[.int .i64 dx, .int .i64 dy] 24))
        have HOA11 := hide ((unhide HOA10).below (unhide HBA))
        have HOD11 := hide ((unhide HOD10).below (unhide HBA))
        have HX11 := hide ((unhide HXA).trans ((unhide HBA).mono (unhide HXA).size))
        obtain ⟨W11, eW11⟩ : ∃ W, ((w10.setCell ⟨s8, 0, none⟩ (.int .i64 0)).setCell ⟨s8, 1, none⟩ (.int .i64 0)).alloc (.cells #[.int .i64 dx, .int .i64 dy] 24) = W := ⟨_, rfl⟩
        obtain ⟨s13, e13⟩ : ∃ s, w10.heap.size = s := ⟨_, rfl⟩
        rw [eW11, e13] at B13
        rw [eW11] at B811 HOA11 HOD11 HX11
        rw [eW11, e13]
        clear eW11 e13 hsz HBA B8s HOA10 HOD10 HXA r0 r1 f0 f1 lt8
        obtain ⟨g2, cg2, ev2, hgw2, hrow2⟩ := (unhide HOA11).row (by rw [unhide HAL]; omega)
        rw [unhide HAL] at ev2
        cases ev2
        have HRW2 := hide hrow2
        have HFB : Hid (∀ W, Below W11.heap.size W11 W → (W.cell? ⟨s8, 0, none⟩ = some (.int .i64 0) ∧ W.cell? ⟨s8, 1, none⟩ = some (.int .i64 0)) ∧ (W.cell? ⟨s13, 0, none⟩ = some (.int .i64 dx) ∧ W.cell? ⟨s13, 1, none⟩ = some (.int .i64 dy)) ∧ (W.cell? ⟨g, k * 2, none⟩ = some (.int .i64 dx) ∧ W.cell? ⟨g, k * 2 + 1, none⟩ = some (.int .i64 dy)) ∧ Below W11.heap.size W11 W) := fun W hW =>
          have c1 := block2 (keep_below (unhide B811) hW)
          have c2 := block2 (keep_below (unhide B13) hW)
          have c3 := ((unhide HRW2).below hW (unhide HRW2).lt).at (by rw [unhide HAL]; omega) (unhide HD)
          ⟨⟨c1.1, c1.2.1⟩, ⟨c2.1, c2.2.1⟩, c3, hW⟩
        have HID : Hid (∀ W, Below W11.heap.size W11 W → IsTs W (.slice (some ⟨gd, 0, none⟩) n cd) D) := fun W hW => IsTs.below (unhide HOD11).ts hW
        have HIA2 : Hid (∀ W, Below W11.heap.size W11 W → IsTs W (.slice (some ⟨g, 0, none⟩) (n + 1) ca) A) := fun W hW => IsTs.below (unhide HOA11).ts hW
        have HFD : Hid (∀ W, Below W11.heap.size W11 W → Calls Try.prog 9 #[.slice (some ⟨gd, 0, none⟩) n cd] W fun e w' => ∃ a' c', e = .returned (.slice a' n c') ∧ Own W.heap.size w' (.slice a' n c') D ∧ Below W.heap.size W w') := fun W hW => by
          have := own_any W _ D (unhide HID W hW) (by rw [unhide HDL]; omega)
          rw [unhide HDL] at this
          exact this
        clear hrow2 hgw2
        go_region_held3 (fun W => (W.cell? ⟨s8, 0, none⟩ = some (.int .i64 0) ∧ W.cell? ⟨s8, 1, none⟩ = some (.int .i64 0)) ∧ (W.cell? ⟨s13, 0, none⟩ = some (.int .i64 dx) ∧ W.cell? ⟨s13, 1, none⟩ = some (.int .i64 dy)) ∧ (W.cell? ⟨g, k * 2, none⟩ = some (.int .i64 dx) ∧ W.cell? ⟨g, k * 2 + 1, none⟩ = some (.int .i64 dy)) ∧ Below W11.heap.size W11 W)
          (first | with_reducible exact unhide HFB _ (Below.refl _ _).drew | with_reducible exact unhide HFB _ (unhide HK1) | with_reducible exact unhide HFB _ (unhide HL3) | with_reducible exact unhide HFB _ ((unhide HL3).alloc (unhide HL3).size _) | with_reducible exact unhide HFB _ ((unhide HK1).alloc (unhide HK1).size _) | with_reducible exact unhide HFB _ (unhide HL4) | with_reducible exact unhide HFB _ (unhide HK5))
          (first
            | (go_at_call 10; (with_reducible refine Calls.mono (unhide HCD _ _ (unhide HID _ (Below.refl _ _).drew)) ?_); rintro e wk1 ⟨rfl, hbX⟩; have HK1 : Hid (Below W11.heap.size W11 wk1) := (Below.refl W11.heap.size W11).drew.trans (hbX.mono (Nat.le_refl _)); clear hbX)
            | (go_at_call 9; (first | with_reducible refine Calls.mono (unhide HFD wk1 (unhide HK1)) ?_ | with_reducible refine Calls.mono (unhide HFD (wk1.alloc _) ((unhide HK1).alloc (unhide HK1).size _)) ?_); rintro e wl3 ⟨a5, c5, rfl, ho5, hb5⟩; have HO5 := hide (ho5.base (show wk1.heap.size ≤ _ by first | exact Nat.le_refl _ | simp)); have HKC : Hid (Below wk1.heap.size wk1 wl3) := (by first | exact hb5 | exact ((Below.refl _ _).alloc (Nat.le_refl _) _).trans (hb5.mono (by simp))); have HL3 : Hid (Below W11.heap.size W11 wl3) := (unhide HK1).trans ((unhide HKC).mono (unhide HK1).size); have HBX5 := hide hb5; clear ho5 hb5)
            | (refine step_append_ts (by rfl) (.tmp 127) (.tmp 129) rfl wk1.heap.size (.slice a5 n c5) D rfl (by first | exact unhide HO5 | exact Own.below (unhide HO5) ((Below.refl _ _).alloc (Nat.le_refl _) _)) _ [(dx, dy)] rfl (by first | exact ts_new wl3 dx dy | exact IsTs.below (ts_new wk1 dx dy) (unhide HBX5)) (n + 1) (by rw [unhide HDL]; rfl) (by omega) (by first | exact (unhide HKC).size | exact Nat.le_trans (unhide HKC).size (by simp)) ?_; intro a6 c6 wl4 ho6 hg6; have HI6 := hide ho6.ts; have HKD : Hid (Below wk1.heap.size wk1 wl4) := (by first | exact (unhide HKC).grown hg6 (unhide HKC).size (fun k hk => ((unhide HO5).lt k hk).1) | exact ((unhide HKC).alloc (unhide HKC).size _).grown hg6 (Nat.le_trans (unhide HKC).size (by simp)) (fun k hk => ((unhide HO5).lt k hk).1)); have HL4 : Hid (Below W11.heap.size W11 wl4) := (unhide HK1).trans ((unhide HKD).mono (unhide HK1).size); clear ho6 hg6)
            | (go_at_call 22; (with_reducible refine Calls.mono (unhide HCT3 _ _ _ (unhide HI6) (unhide HIA2 _ (unhide HL4))) ?_); rintro e wk5 ⟨rfl, hbX⟩; have HK5 : Hid (Below W11.heap.size W11 wk5) := (unhide HL4).trans (hbX.mono (unhide HL4).size); clear hbX))
        all_goals go_wp2_with fail
        all_goals go_ret
        all_goals exact ⟨rfl, (unhide HX11).trans ((unhide HK5).mono (unhide HX11).size)⟩

theorem keeps_walk (w : World) (v : Value) (ts : List Tm) (x y i : Int) (h : IsTs w v ts) (hm : ts.length ≤ maxLen) :
    Calls Try.prog 6 #[v, .agg #[.int .i64 x, .int .i64 y], .int .i64 i] w fun e w' => e = .returned (.bool true) ∧ Below w.heap.size w w' := by
  obtain ⟨a, c, rfl⟩ := Rd.form h
  by_cases hl : 200 < ts.length
  · exact keeps_long w a _ c x y i hl hm
  · have hn : ts.length ≤ 200 := by omega
    by_cases h1 : (madeF ts).1 = 0
    · have h0 := madeF_zero h1
      by_cases ho : oor (x, y)
      · exact keeps_oor w a _ c x y i ts rfl h hn h0 ho
      · exact keeps_ok w a _ c x y i ts rfl h hn h0 ho
    · exact keeps_wrong w a _ c x y i ts rfl h hn _ _ rfl h1
end Go.Proofs.Ytcfjpjojckngeaa
