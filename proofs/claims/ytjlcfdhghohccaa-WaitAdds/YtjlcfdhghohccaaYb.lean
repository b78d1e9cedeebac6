/-
  taskmilllaw.WaitAdds returns true.
-/
import Derived.Test.YtjlcfdhghohccaaYa
namespace Go.Proofs.Ytjlcfdhghohccaa
open Go.RowKit

/-- Four new blocks. -/
theorem four_alloc (w : World) (o1 o2 o3 o4 : Obj) :
    ((((w.alloc o1).alloc o2).alloc o3).alloc o4).heap[w.heap.size]? = some o1 ∧ ((((w.alloc o1).alloc o2).alloc o3).alloc o4).heap[w.heap.size + 1]? = some o2 ∧ ((((w.alloc o1).alloc o2).alloc o3).alloc o4).heap[w.heap.size + 2]? = some o3 ∧ ((((w.alloc o1).alloc o2).alloc o3).alloc o4).heap[w.heap.size + 3]? = some o4 ∧ Below w.heap.size w ((((w.alloc o1).alloc o2).alloc o3).alloc o4) := by
  obtain ⟨b1, b2, b3, hb, hs⟩ := three_new w o1 o2 o3
  refine ⟨keep_alloc b1 _, keep_alloc b2 _, keep_alloc b3 _, ?_, hb.alloc (by rw [hs]; omega) _⟩
  have := new_block (((w.alloc o1).alloc o2).alloc o3) o4
  rw [hs] at this
  exact this

set_option maxRecDepth 100000 in
set_option maxHeartbeats 8000000 in
theorem adds_ok (w : World) (a : Option Addr) (n c : Nat) (x task : Int) (fst : Bool) (ls : List Ln) (h : IsLs w (.slice a n c) ls) (hg : Good ls) (hf : addF ls task = (0, 0)) :
    Calls Try.prog 3 #[.slice a n c, .int .i64 x, .int .i64 task, .bool fst] w fun e w' => e = .returned (.bool true) ∧ Below w.heap.size w w' := by
  have hnot : ∀ (x : Bool) (w : World), (Op.unary .not (.bool x)).run Try.prog w = .ok (.bool (!x)) w := fun _ _ => rfl
  have hl := h.len
  have harg := hg.arg h
  have hn5 := hg.len
  have hq5 := hg.few
  have hf2 := hf
  unfold addF at hf2
  rw [good_to hg, if_neg (by simp)] at hf2
  have ht1 : ¬ task < 1 := fun h2 => by rw [if_pos h2] at hf2; cases hf2
  rw [if_neg ht1] at hf2
  have hin : (waitL ls).contains task = false := by
    cases hc : (waitL ls).contains task with
    | false => rfl
    | true => rw [if_pos hc] at hf2; cases hf2
  rw [if_neg (by rw [hin]; simp)] at hf2
  have hq : ¬ (waitL ls).length = 5000 := fun h2 => by rw [if_pos h2] at hf2; cases hf2
  have hgd := add_good hg x (t := task) fst (fun h2 => by rw [← List.contains_iff_mem, hin] at h2; cases h2) (by omega) (by omega)
  obtain ⟨b1, b2, b3, b4, hb0⟩ := four_alloc w (.cells #[.slice a n c] 22) (.cells #[.int .i64 x] 3) (.cells #[.int .i64 task] 3) (.cells #[.bool fst] 4)
  have HVS : Hid (∀ W, Below w.heap.size w W → Calls Try.prog 9 #[.slice a n c] W fun e w' => e = .returned (.bool false) ∧ Below W.heap.size W w') := fun W hW => by
    have := vast_bool W a n c ls hl (h.below hW) harg.max harg.each
    rw [decide_eq_false (by omega)] at this
    refine this.mono ?_
    rintro e w' ⟨h1, h2⟩
    exact ⟨h1, by rw [h2]; exact Below.refl _ _⟩
  have HOL : Hid (∀ W, Below w.heap.size w W → Calls Try.prog 10 #[.slice a n c] W fun e w' => ∃ a' c', e = .returned (.slice a' n c') ∧ IsLs w' (.slice a' n c') ls ∧ Below W.heap.size W w') := fun W hW => ownlines_any W a n c ls hl (h.below hW) (by omega) (by omega)
  have HCK : Hid (∀ W a c, IsLs W (.slice a n c) ls → Calls Try.prog 11 #[.slice a n c] W fun e w' => e = .returned (.agg #[.int .i64 0, .int .i64 0]) ∧ Below W.heap.size W w') := fun W a c hi => by
    have := check_any W a n c ls hi harg.max harg.each
    rw [good_to hg] at this
    exact this
  have HAD : Hid (∀ W a c, IsLs W (.slice a n c) ls → Calls Try.prog 12 #[.slice a n c, .int .i64 x, .int .i64 task, .bool fst] W fun e w' => ∃ a' c', e = .returned (.tuple #[.slice a' (addL ls x task fst).length c', .agg #[.int .i64 0, .int .i64 0]]) ∧ IsLs w' (.slice a' (addL ls x task fst).length c') (addL ls x task fst) ∧ Below W.heap.size W w') := fun W a c hi => by
    refine (add_ok W a n c x task fst ls hi hf hg).mono ?_
    rintro e w' ⟨a', c', h1, h2, h3⟩
    exact ⟨a', c', h1, h2.ls, h3⟩
  have HLF : Hid (∀ W, Below w.heap.size w W → Calls Try.prog 13 #[.slice a n c] W fun e w' => e = .returned (.agg #[.int .i64 0, .int .i64 0]) ∧ Below W.heap.size W w') := fun W hW => by
    have := lf_any W a n c ls (h.below hW) harg.max harg.each
    rw [good_to hg] at this
    exact this
  have HSM : Hid (∀ W a1 c1, Below w.heap.size w W → IsLs W (.slice a1 n c1) ls → Calls Try.prog 14 #[.slice a1 n c1, .slice a n c] W fun e w' => e = .returned (.bool true) ∧ Below W.heap.size W w') := fun W a1 c1 hW h1 => samelines_any W a1 a n c1 c ls hl h1 (h.below hW) (by omega) (by omega)
  have HWA : Hid (∀ W, Below w.heap.size w W → Calls Try.prog 17 #[.slice a n c] W fun e w' => ∃ a' c', e = .returned (.slice a' (waitL ls).length c') ∧ IsInts w' (.slice a' (waitL ls).length c') (waitL ls) ∧ Below W.heap.size W w') := fun W hW => waiting_any W a n c ls hl (h.below hW) (by omega) (by omega)
  have HHS : Hid (∀ W v, IsInts W v (waitL ls) → Calls Try.prog 16 #[v, .int .i64 task] W fun e w' => e = .returned (.bool false) ∧ Below W.heap.size W w') := fun W v hi => by
    have := has_any W v (waitL ls) task hi (by unfold maxLen; omega)
    rw [hin] at this
    exact this
  have HLA : Hid (∀ W a1 c1, Below w.heap.size w W → W.heap[w.heap.size]? = some (.cells #[.slice a n c] 22 (0, 0)) → W.heap[w.heap.size + 1]? = some (.cells #[.int .i64 x] 3 (0, 0)) → W.heap[w.heap.size + 2]? = some (.cells #[.int .i64 task] 3 (0, 0)) → W.heap[w.heap.size + 3]? = some (.cells #[.bool fst] 4 (0, 0)) → IsLs W (.slice a1 (addL ls x task fst).length c1) (addL ls x task fst) → Calls Try.prog 18 #[.slice a1 (addL ls x task fst).length c1, .agg #[.int .i64 0, .int .i64 0], .agg #[.int .i64 0, .int .i64 0], .func (.func 19) #[] #[.pointer (some ⟨w.heap.size + 3, 0, none⟩), .pointer (some ⟨w.heap.size, 0, none⟩), .pointer (some ⟨w.heap.size + 1, 0, none⟩), .pointer (some ⟨w.heap.size + 2, 0, none⟩)]] W fun e w' => e = .returned (.bool true) ∧ Below W.heap.size W w') := fun W a1 c1 hW q1 q2 q3 q4 hi =>
    linesas_ok W a1 _ c1 _ rfl hi (by have := hgd.1.len; omega) (by have := hgd.1.few; omega) 19 enters19 _ (fun W1 hW1 => adds19_any W1 (w.heap.size + 3) w.heap.size (w.heap.size + 1) (w.heap.size + 2) fst a n c x task ls ((h.below hW).below hW1) hg (keep_below q4 hW1) (keep_below q1 hW1) (keep_below q2 hW1) (keep_below q3 hW1))
  obtain ⟨R, eR⟩ : ∃ R, addL ls x task fst = R := ⟨_, rfl⟩
  rw [eR] at HAD HLA
  obtain ⟨rn, ern⟩ : ∃ k, R.length = k := ⟨_, rfl⟩
  rw [ern] at HAD HLA
  obtain ⟨q, eq⟩ : ∃ q, (waitL ls).length = q := ⟨_, rfl⟩
  rw [eq] at HWA hq
  have c5 : ((q : Int) == 5000) = false := by simp; omega
  have HB0 := hide hb0; have B1 := hide b1; have B2 := hide b2; have B3 := hide b3; have B4 := hide b4
  clear h hg hf hf2 hl harg hn5 hq5 hin hgd eR ern eq hb0 b1 b2 b3 b4
  go_enter Try.func3, Try.ntmps3
  go_upto_region 1 with fail
  obtain ⟨W0, eW0⟩ : ∃ W, (((w.alloc (.cells #[.slice a n c] 22)).alloc (.cells #[.int .i64 x] 3)).alloc (.cells #[.int .i64 task] 3)).alloc (.cells #[.bool fst] 4) = W := ⟨_, rfl⟩
  rw [eW0] at HB0 B1 B2 B3 B4
  rw [eW0]
  clear eW0
  have HF : Hid (∀ W, Below W0.heap.size W0 W → W.cell? ⟨w.heap.size, 0, none⟩ = some (.slice a n c) ∧ W.cell? ⟨w.heap.size + 1, 0, none⟩ = some (.int .i64 x) ∧ W.cell? ⟨w.heap.size + 2, 0, none⟩ = some (.int .i64 task) ∧ W.cell? ⟨w.heap.size + 3, 0, none⟩ = some (.bool fst)) := fun W hW => ⟨(block1 (keep_below (unhide B1) hW)).1, (block1 (keep_below (unhide B2) hW)).1, (block1 (keep_below (unhide B3) hW)).1, (block1 (keep_below (unhide B4) hW)).1⟩
  have HW : Hid (∀ W, Below W0.heap.size W0 W → Below w.heap.size w W) := fun W hW => Below.next (unhide HB0) hW (Nat.le_refl _)
  go_upto_region 7 with (first
    | (go_at_call 8; refine (begun_any _).mono ?_; rintro e w1 ⟨rfl, hb1⟩; have HX1 := hide hb1; obtain ⟨q0, _⟩ := unhide HF w1 hb1; clear hb1)
    | (go_at_call 9; refine (unhide HVS _ (unhide HW _ (unhide HX1))).mono ?_; rintro e w2 ⟨rfl, hb2⟩; have HX2 := hide (Below.next (unhide HX1) hb2 (Nat.le_refl _)); clear q0 hb2; obtain ⟨q0, _⟩ := unhide HF w2 (unhide HX2))
    | (go_at_call 10; refine (unhide HOL _ (unhide HW _ (unhide HX2))).mono ?_; rintro e w3 ⟨a3, c3, rfl, hi3, hb3⟩; have HI3 := hide hi3; have HX3 := hide (Below.next (unhide HX2) hb3 (Nat.le_refl _)); clear hi3 hb3 q0)
    | (go_at_call 11; refine (unhide HCK _ _ _ (unhide HI3)).mono ?_; rintro e w4 ⟨rfl, hb4⟩; have HI4 := hide ((unhide HI3).below hb4); have HX4 := hide (Below.next (unhide HX3) hb4 (Nat.le_refl _)); clear hb4))
  have B10 := hide (new_block w4 (.cells #[.int .i64 0, .int .i64 0] 27))
  have HBA := hide ((Below.refl w4.heap.size w4).alloc (Nat.le_refl _) (.cells #[.int .i64 0, .int .i64 0] 27))
  have HX5 := hide (Below.next (unhide HX4) (unhide HBA) (Nat.le_refl _))
  have HI5 := hide ((unhide HI4).below (unhide HBA))
  obtain ⟨T10, h10⟩ : ∃ T, w4.heap.size = T := ⟨_, rfl⟩
  obtain ⟨W5, hW5⟩ : ∃ W, w4.alloc (.cells #[.int .i64 0, .int .i64 0] 27) = W := ⟨_, rfl⟩
  rw [h10, hW5] at B10
  rw [hW5] at HX5 HI5
  rw [h10, hW5]
  clear h10 hW5 HBA HX1 HX2 HX3 HX4 HI3 HI4 HVS HOL HCK
  obtain ⟨_, qx, qt, qf⟩ := unhide HF W5 (unhide HX5)
  go_upto_region 8 with (go_at_call 12; refine (unhide HAD _ _ _ (unhide HI5)).mono ?_; rintro e w6 ⟨a6, c6, rfl, hi6, hb6⟩; have HG6 := hide hi6; have HB6 := hide hb6; clear hi6 hb6 qx qt qf)
  have B12 := hide (new_block w6 (.cells #[.int .i64 0, .int .i64 0] 27))
  have HBA := hide ((Below.refl w6.heap.size w6).alloc (Nat.le_refl _) (.cells #[.int .i64 0, .int .i64 0] 27))
  have HB7 := hide (Below.next (unhide HB6) (unhide HBA) (Nat.le_refl _))
  have HG7 := hide ((unhide HG6).below (unhide HBA))
  obtain ⟨T12, h12⟩ : ∃ T, w6.heap.size = T := ⟨_, rfl⟩
  obtain ⟨W7, hW7⟩ : ∃ W, w6.alloc (.cells #[.int .i64 0, .int .i64 0] 27) = W := ⟨_, rfl⟩
  rw [h12, hW7] at B12
  rw [hW7] at HB7 HG7
  rw [h12, hW7]
  have HX7 := hide (Below.next (unhide HX5) (unhide HB7) (Nat.le_refl _))
  have HI7 := hide ((unhide HI5).below (unhide HB7))
  have B107 := hide (keep_below (unhide B10) (unhide HB7))
  clear h12 hW7 HBA HB6 HB7 HG6 HX5 HI5 B10 HAD
  obtain ⟨q0, _⟩ := unhide HF W7 (unhide HX7)
  go_upto_region 9 with (go_at_call 13; refine (unhide HLF _ (unhide HW _ (unhide HX7))).mono ?_; rintro e w8 ⟨rfl, hb8⟩; have HB8 := hide hb8; clear hb8 q0)
  have B13 := hide (new_block w8 (.cells #[.int .i64 0, .int .i64 0] 27))
  have HBA := hide ((Below.refl w8.heap.size w8).alloc (Nat.le_refl _) (.cells #[.int .i64 0, .int .i64 0] 27))
  have HB9 := hide (Below.next (unhide HB8) (unhide HBA) (Nat.le_refl _))
  obtain ⟨T13, h13⟩ : ∃ T, w8.heap.size = T := ⟨_, rfl⟩
  obtain ⟨W9, hW9⟩ : ∃ W, w8.alloc (.cells #[.int .i64 0, .int .i64 0] 27) = W := ⟨_, rfl⟩
  rw [h13, hW9] at B13
  rw [hW9] at HB9
  rw [h13, hW9]
  have HX9 := hide (Below.next (unhide HX7) (unhide HB9) (Nat.le_refl _))
  have HI9 := hide ((unhide HI7).below (unhide HB9))
  have HG9 := hide ((unhide HG7).below (unhide HB9))
  have B109 := hide (keep_below (unhide B107) (unhide HB9))
  have B129 := hide (keep_below (unhide B12) (unhide HB9))
  clear h13 hW9 HBA HB8 HB9 HX7 HI7 HG7 B107 B12 HLF
  obtain ⟨q0, _, qt, _⟩ := unhide HF W9 (unhide HX9)
  obtain ⟨t0, t1, _, _, _⟩ := block2 (unhide B109)
  obtain ⟨u0, u1, _, _, _⟩ := block2 (unhide B13)
  go_upto_region 13 with (go_at_call 14; refine (unhide HSM _ _ _ (unhide HW _ (unhide HX9)) (unhide HI9)).mono ?_; rintro e w10 ⟨rfl, hb10⟩; have HB10 := hide hb10; clear hb10 q0 qt t0 t1 u0 u1; obtain ⟨q0, _, qt, _⟩ := unhide HF w10 (Below.next (unhide HX9) (unhide HB10) (Nat.le_refl _)); obtain ⟨u0, u1, _, _, _⟩ := block2 (keep_below (unhide B13) (unhide HB10)))
  have HX10 := hide (Below.next (unhide HX9) (unhide HB10) (Nat.le_refl _))
  have HG10 := hide ((unhide HG9).below (unhide HB10))
  have B1210 := hide (keep_below (unhide B129) (unhide HB10))
  have B1310 := hide (keep_below (unhide B13) (unhide HB10))
  clear HX9 HG9 B129 B13 HB10 HI9 B109 q0 qt u0 u1 HSM
  have HQ : Hid (∀ W, Below w10.heap.size w10 W → W.cell? ⟨T13, 0, none⟩ = some (.int .i64 0) ∧ W.cell? ⟨w.heap.size, 0, none⟩ = some (.slice a n c) ∧ W.cell? ⟨w.heap.size + 2, 0, none⟩ = some (.int .i64 task) ∧ Below w10.heap.size w10 W) := fun W hW => by
    have h1 := block2 (keep_below (unhide B1310) hW)
    have h2 := unhide HF W (Below.next (unhide HX10) hW (Nat.le_refl _))
    exact ⟨h1.1, h2.1, h2.2.2.1, hW⟩
  have HBD := hide (Below.refl w10.heap.size w10).drew
  go_region_held3 (fun W => W.cell? ⟨T13, 0, none⟩ = some (.int .i64 0) ∧ W.cell? ⟨w.heap.size, 0, none⟩ = some (.slice a n c) ∧ W.cell? ⟨w.heap.size + 2, 0, none⟩ = some (.int .i64 task) ∧ Below w10.heap.size w10 W)
    (first | with_reducible exact unhide HQ _ (unhide HBD) | with_reducible exact unhide HQ _ (unhide HB11) | with_reducible exact unhide HQ _ (unhide HB12))
    (first
      | (go_at_call 17; (with_reducible refine Calls.mono (unhide HWA _ (unhide HW _ (Below.next (unhide HX10) (unhide HBD) (Nat.le_refl _)))) ?_); rintro e w11 ⟨a11, c11, rfl, hi11, hb11⟩; have HI11 := hide hi11; have HB11 := hide (Below.next (unhide HBD) hb11 (Nat.le_refl _)); clear hi11 hb11)
      | (go_at_call 16; (with_reducible refine Calls.mono (unhide HHS _ _ (unhide HI11)) ?_); rintro e w12 ⟨rfl, hb12⟩; have HB12 := hide (Below.next (unhide HB11) hb12 (Nat.le_refl _)); clear hb12))
  all_goals
    have HX12 := hide (Below.next (unhide HX10) (unhide HB12) (Nat.le_refl _))
    have HG12 := hide ((unhide HG10).below (unhide HB12))
    obtain ⟨u0, q0, _, _⟩ := unhide HQ w12 (unhide HB12)
    go_upto_region 17 with (go_at_call 17; refine (unhide HWA _ (unhide HW _ (unhide HX12))).mono ?_; rintro e w13 ⟨a13, c13, rfl, _, hb13⟩; have HB13 := hide hb13; clear hb13 q0 u0)
    have HX13 := hide (Below.next (unhide HX12) (unhide HB13) (Nat.le_refl _))
    have HG13 := hide ((unhide HG12).below (unhide HB13))
    have HB1013 := hide (Below.next (unhide HB12) (unhide HB13) (Nat.le_refl _))
    obtain ⟨t0, t1, _, _, _⟩ := block2 (keep_below (unhide B1210) (unhide HB1013))
    obtain ⟨u0, u1, _, _, _⟩ := block2 (keep_below (unhide B1310) (unhide HB1013))
    have HLAW := hide (unhide HLA w13 a6 c6 (unhide HW _ (unhide HX13)) (keep_below (unhide B1) (unhide HX13)) (keep_below (unhide B2) (unhide HX13)) (keep_below (unhide B3) (unhide HX13)) (keep_below (unhide B4) (unhide HX13)) (unhide HG13))
    go_wp2_with (go_at_call 18; refine (unhide HLAW).mono ?_; rintro e w14 ⟨rfl, hb14⟩; have HX14 := hide (Below.next (unhide HW _ (unhide HX13)) hb14 (Nat.le_refl _)); clear hb14)
    go_ret
    exact ⟨rfl, unhide HX14⟩
end Go.Proofs.Ytjlcfdhghohccaa
