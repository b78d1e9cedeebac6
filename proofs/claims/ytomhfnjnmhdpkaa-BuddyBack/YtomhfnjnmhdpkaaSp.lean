/-
  taskmilllaw.ownBlocks, ownSpace, vastSpace, buddyBegun.
-/
import Derived.Test.YtomhfnjnmhdpkaaW
import Derived.Test.YtomhfnjnmhdpkaaX
namespace Go.Proofs.Ytomhfnjnmhdpkaa
open Go.RowKit

theorem cell_oth {w : World} {b o b' o' : Nat} {u v : Value} (h : w.cell? ⟨b, o, none⟩ = some u) (hne : b ≠ b') : (w.setCell ⟨b', o', none⟩ v).cell? ⟨b, o, none⟩ = some u := by
  rw [World.cell?_of_block (w := w) (a := ⟨b, o, none⟩) (Below.heap_setCell _ _ _ _ (by simpa using hne))]
  exact h

set_option maxRecDepth 100000 in
set_option maxHeartbeats 4000000 in
theorem ownBlocks_any (w : World) (v : Value) (xs : List Bl) (hr : IsL KB w v xs) (hn : xs.length * 16 ≤ 140737488355328) :
    Calls Try.prog 20 #[v] w fun e w' => ∃ a' c', e = .returned (.slice a' xs.length c') ∧ Own KB w.heap.size w' (.slice a' xs.length c') xs ∧ Below w.heap.size w w' := by
  obtain ⟨a, c, rfl⟩ := hr.form
  have HR := hide hr
  clear hr
  go_enter Try.func20, Try.ntmps20
  go_wp2_with (at_builtin; refine wpList_append kb rfl (.const (.slice none 0 0)) (.tmp 3) rfl w.heap.size _ [] rfl (own_nil _ _) _ xs rfl (unhide HR) xs.length (by simp) hn (Nat.le_refl _) ?_; intro a' c' w1 ho hg; have HO := hide (own_nil_append ho); have HB := hide ((Below.refl w.heap.size w).grown hg (Nat.le_refl _) (fun k hk => by cases hk)); clear ho hg)
  go_ret
  exact ⟨a', c', rfl, unhide HO, unhide HB⟩

set_option maxRecDepth 100000 in
set_option maxHeartbeats 4000000 in
theorem ownSpace_any (w : World) (v : Value) (b : Int) (us fs : List Bl) (h : IsS w v b us fs) (hn : us.length ≤ 1000000) (hm : fs.length ≤ 1000000) :
    Calls Try.prog 9 #[v] w fun e w' => ∃ sv, e = .returned sv ∧ NewS w.heap.size w' sv b us fs ∧ Below w.heap.size w w' := by
  obtain ⟨a0, c0, a1, c1, rfl, hu, hf⟩ := h.form
  have HO1 : Hid (∀ W, Below w.heap.size w W → Calls Try.prog 20 #[.slice a0 us.length c0] W fun e w' => ∃ a' c', e = .returned (.slice a' us.length c') ∧ Own KB W.heap.size w' (.slice a' us.length c') us ∧ Below W.heap.size W w') := fun W hW => ownBlocks_any W _ us (hu.below hW) (by omega)
  have HO2 : Hid (∀ W, Below w.heap.size w W → Calls Try.prog 20 #[.slice a1 fs.length c1] W fun e w' => ∃ a' c', e = .returned (.slice a' fs.length c') ∧ Own KB W.heap.size w' (.slice a' fs.length c') fs ∧ Below W.heap.size W w') := fun W hW => ownBlocks_any W _ fs (hf.below hW) (by omega)
  obtain ⟨n, en⟩ : ∃ n, us.length = n := ⟨_, rfl⟩
  obtain ⟨m, em⟩ : ∃ m, fs.length = m := ⟨_, rfl⟩
  rw [en] at HO1 hn ⊢
  rw [em] at HO2 hm ⊢
  have HN1 := hide en; have HN2 := hide em
  obtain ⟨W0, e0, hB, k0, k1⟩ := two_new w (.cells #[.int .i64 b, .slice a0 n c0, .slice a1 m c1] 24) (.cells #[.int .i64 0, .slice none 0 0, .slice none 0 0] 24)
  have HX := hide hB; have HE := hide e0; have HP := hide k0; have HQ := hide k1
  clear h hu hf en em hB e0 k0 k1
  go_enter Try.func9, Try.ntmps9
  go_upto_region 1 with fail
  rw [unhide HE]
  clear HE
  have HSS : Hid (∀ W, Below W0.heap.size W0 W → (W.cell? ⟨w.heap.size, 0, none⟩ = some (.int .i64 b) ∧ W.cell? ⟨w.heap.size, 1, none⟩ = some (.slice a0 n c0) ∧ W.cell? ⟨w.heap.size, 2, none⟩ = some (.slice a1 m c1))) := fun W hW => (block3 (keep_below (unhide HP) hW)).1
  have HWX : Hid (∀ W, Below W0.heap.size W0 W → Below w.heap.size w W) := fun W hW => Below.next (unhide HX) hW (Nat.le_refl _)
  have hql := size_of (unhide HQ)
  obtain ⟨p0, p1, p2⟩ := unhide HSS _ (Below.refl _ _)
  go_region_held3 (fun W => (W.cell? ⟨w.heap.size, 0, none⟩ = some (.int .i64 b) ∧ W.cell? ⟨w.heap.size, 1, none⟩ = some (.slice a0 n c0) ∧ W.cell? ⟨w.heap.size, 2, none⟩ = some (.slice a1 m c1)))
    (first | with_reducible exact unhide HSS _ (Below.refl _ _).drew | with_reducible exact unhide HSS _ (unhide HY5) | with_reducible exact unhide HSS _ (unhide HY6) | (obtain ⟨y0, y1, y2⟩ := unhide HSS _ (unhide HY6); exact ⟨cell_oth y0 (by omega), cell_oth y1 (by omega), cell_oth y2 (by omega)⟩) | (obtain ⟨y0, y1, y2⟩ := unhide HSS _ (unhide HY6); exact ⟨cell_oth (cell_oth y0 (by omega)) (by omega), cell_oth (cell_oth y1 (by omega)) (by omega), cell_oth (cell_oth y2 (by omega)) (by omega)⟩) | (obtain ⟨y0, y1, y2⟩ := unhide HSS _ (unhide HY6); exact ⟨cell_oth (cell_oth (cell_oth y0 (by omega)) (by omega)) (by omega), cell_oth (cell_oth (cell_oth y1 (by omega)) (by omega)) (by omega), cell_oth (cell_oth (cell_oth y2 (by omega)) (by omega)) (by omega)⟩))
    (first
      | (go_at_call 20; (first
          | ((with_reducible refine Calls.mono (unhide HO1 _ (unhide HWX _ (Below.refl _ _).drew)) ?_); rintro e w5 ⟨a5, c5, rfl, ho5, hb5⟩; have HY5 : Hid (Below W0.heap.size W0 w5) := Below.next (Below.refl _ _).drew hb5 (Nat.le_refl _); have HF5 := hide (ho5.base (base' := W0.heap.size) (Nat.le_refl _)); clear ho5 hb5)
          | ((with_reducible refine Calls.mono (unhide HO2 _ (unhide HWX _ (unhide HY5))) ?_); rintro e w6 ⟨a6, c6, rfl, ho6, hb6⟩; have HY6 : Hid (Below W0.heap.size W0 w6) := Below.next (unhide HY5) hb6 (Nat.le_refl _); have HF6 := hide (ho6.base (base' := W0.heap.size) (unhide HY5).size); have HG6 := hide ((unhide HF5).below hb6); obtain ⟨⟨q0, q1, q2⟩, ⟨qf0, qf1, qf2⟩, ql⟩ := block3 (keep_below (unhide HQ) (unhide HY6)); clear ho6 hb6))))
  all_goals
    have HQ6 := hide (keep_below (unhide HQ) (unhide HY6))
    have HX6 := hide (unhide HWX _ (unhide HY6))
    clear q0 q1 q2 qf0 qf1 qf2 ql
    have HX_E1 := hide (putL_below (y0 := .int .i64 b) (y1 := .slice a5 n c5) (y2 := .slice a6 m c6) (unhide HX6) (show w.heap.size ≤ w.heap.size + 1 by first | omega | (have := unhide HBA; omega)))
    have Kq_E1 := hide (putL_new (y0 := .int .i64 b) (y1 := .slice a5 n c5) (y2 := .slice a6 m c6) (unhide HQ6))
    have Ou_E1 := hide ((unhide HG6).keep (fun k hk => putL_keep (y0 := .int .i64 b) (y1 := .slice a5 n c5) (y2 := .slice a6 m c6) (Own.ne (unhide HG6) (unhide HQ6) (by decide) k hk)))
    have Oj_E1 := hide ((unhide HF6).keep (fun k hk => putL_keep (y0 := .int .i64 b) (y1 := .slice a5 n c5) (y2 := .slice a6 m c6) (Own.ne (unhide HF6) (unhide HQ6) (by decide) k hk)))
    obtain ⟨V1, eV1⟩ : ∃ X, putL w6 (w.heap.size + 1) (.int .i64 b) (.slice a5 n c5) (.slice a6 m c6) = X := ⟨_, rfl⟩
    rw [eV1] at HX_E1 Kq_E1 Ou_E1 Oj_E1
    have eV12 : (((w6).setCell ⟨w.heap.size + 1, 0, none⟩ (.int .i64 b)).setCell ⟨w.heap.size + 1, 1, none⟩ (.slice a5 n c5)).setCell ⟨w.heap.size + 1, 2, none⟩ (.slice a6 m c6) = V1 := eV1
    rw [eV12]
    clear eV1 eV12 HX6 HQ6 HG6 HF6
    obtain ⟨⟨q0, q1, q2⟩, ⟨qf0, qf1, qf2⟩, ql⟩ := block3 (unhide Kq_E1)
    have hw0 := (unhide HX).size
    go_wp2_with fail
    refine bodyPost_ret (v := .agg #[.int .i64 b, .slice a5 n c5, .slice a6 m c6]) (by simp [results, Try.results9, go_sem, q0, q1, q2]) rfl ⟨_, rfl, ⟨a5, c5, a6, c6, ?_, ?_, ?_⟩, unhide HX_E1⟩
    · rw [unhide HN1, unhide HN2]
    · rw [unhide HN1]; exact (unhide Ou_E1).new.base (by omega)
    · rw [unhide HN2]; exact (unhide Oj_E1).new.base (by omega)

set_option maxRecDepth 100000 in
set_option maxHeartbeats 4000000 in
theorem vastSpace_any (w : World) (v : Value) (b : Int) (us fs : List Bl) (h : IsS w v b us fs) (hn : us.length ≤ 1000000000000000) (hm : fs.length ≤ 1000000000000000) :
    Calls Try.prog 8 #[v] w fun e w' => e = .returned (.bool (decide (6000 < us.length + fs.length))) ∧ Below w.heap.size w w' := by
  obtain ⟨a0, c0, a1, c1, rfl, hu, hf⟩ := h.form
  generalize us.length = n at *
  generalize fs.length = m at *
  have HX := hide ((Below.refl w.heap.size w).alloc (Nat.le_refl _) (.cells #[.int .i64 b, .slice a0 n c0, .slice a1 m c1] 24))
  have HP := hide (new_block w (.cells #[.int .i64 b, .slice a0 n c0, .slice a1 m c1] 24))
  obtain ⟨W0, e0⟩ : ∃ W, w.alloc (.cells #[.int .i64 b, .slice a0 n c0, .slice a1 m c1] 24) = W := ⟨_, rfl⟩
  rw [e0] at HX HP
  have HE := hide e0
  have hs : IntKind.i64.wrap ((n : Int) + (m : Int)) = (n : Int) + (m : Int) := wrapi (by omega) (by omega)
  have hd : decide ((6000 : Int) < (n : Int) + (m : Int)) = decide (6000 < n + m) := decide_eq_decide.2 (by omega)
  have HD := hide hd
  clear e0 h hu hf hd
  go_enter Try.func8, Try.ntmps8
  go_upto_region 1 with fail
  rw [unhide HE]
  clear HE
  obtain ⟨⟨p0, p1, p2⟩, -, pl⟩ := block3 (unhide HP)
  go_wp2_with fail
  go_ret
  exact ⟨by rw [← unhide HD] <;> rfl, unhide HX⟩

set_option maxRecDepth 100000 in
set_option maxHeartbeats 4000000 in
theorem begun_any (w : World) : Calls Try.prog 7 #[] w fun e w' => e = .returned (.bool true) ∧ Below w.heap.size w w' := by
  have HN : Hid (∀ W : World, Calls Try.prog 12 #[.int .i64 3] W fun e w' => ∃ sv, e = .returned (.tuple #[sv, .agg #[.int .i64 0, .int .i64 0]]) ∧ NewS W.heap.size w' sv 3 [] [(0, 8)] ∧ Below W.heap.size W w') := fun W => new_ok W 3 (by decide) (by decide)
  have HT : Hid (∀ (W : World) (sv : Value), IsS W sv 3 [] [(0, 8)] → Calls Try.prog 11 #[sv, .int .i64 3] W fun e w' => ∃ sv2, e = .returned (.tuple #[sv2, .int .i64 0, .agg #[.int .i64 0, .int .i64 0]]) ∧ NewS W.heap.size w' sv2 3 [(0, 4)] [(4, 4)] ∧ Below W.heap.size W w') := fun W sv hs =>
    take_ok W sv 3 [] [(0, 8)] 3 hs (by simp) (by simp) (fun x hx => by cases hx) (fun x hx => by rw [List.mem_singleton.1 hx]; decide) (by decide +kernel) (by decide) (by decide) (0, 8) (by decide +kernel) (by decide +kernel)
  go_enter Try.func7, Try.ntmps7
  go_upto_region 2 with (go_at_call 12; refine (unhide HN _).mono ?_; rintro e w1 ⟨sv, rfl, hs1, hb1⟩; obtain ⟨a1, c1, a2, c2, rfl, hu1, hf1⟩ := hs1; have HU1 := hide hu1.1; have HF1 := hide hf1.1; have HX1 := hide hb1; clear hu1 hf1 hb1)
  have hw1 := (unhide HX1).size
  obtain ⟨W2, eW2, hBW2, k0_1, k1_1⟩ := two_new w1 (.cells #[.int .i64 3, .slice a1 0 c1, .slice a2 1 c2] 24) (.cells #[.int .i64 0, .int .i64 0] 29)
  rw [eW2]
  clear eW2
  (have HX_1 := hide (Below.next (unhide HX1) hBW2 (by first | exact Nat.le_refl _ | (have := unhide HBA; omega))); clear HX1)
  obtain ⟨T, eT⟩ : ∃ X, w1.heap.size = X := ⟨_, rfl⟩
  rw [eT] at k0_1 k1_1 ⊢
  have Ks_1 := hide k0_1
  have Kf_1 := hide k1_1
  have HBW := hBW2
  clear eT hBW2 k0_1 k1_1
  have HI2 : Hid (IsS W2 (.agg #[.int .i64 3, .slice a1 0 c1, .slice a2 1 c2]) 3 [] [(0, 8)]) := ⟨_, _, rfl, (unhide HU1).below HBW, (unhide HF1).below HBW⟩
  obtain ⟨⟨p0, p1, p2⟩, ⟨pf0, pf1, pf2⟩, pl⟩ := block3 (unhide Ks_1)
  obtain ⟨q0, q1, qf0, qf1, ql⟩ := block2 (unhide Kf_1)
  clear HBW
  go_upto_region 3 with (go_at_call 11; refine (unhide HT _ _ (unhide HI2)).mono ?_; rintro e w3 ⟨sv2, rfl, hs3, hb3⟩; obtain ⟨a3, c3, a4, c4, rfl, hu3, hf3⟩ := hs3; have HF3 := hide hf3.1; have HX_2 := hide (Below.next (unhide HX_1) hb3 (by first | exact Nat.le_refl _ | (have := unhide HBA; omega))); have Ks_2 := hide (keep_below (unhide Ks_1) hb3); have Kf_2 := hide (keep_below (unhide Kf_1) hb3); clear HX_1 Ks_1 Kf_1; clear hu3 hf3 hb3 p0 p1 p2 pf0 pf1 pf2 pl q0 q1 qf0 qf1 ql)
  obtain ⟨W4, eW4, hBW4, k0_3, k1_3⟩ := two_new w3 (.cells #[.int .i64 3, .slice a3 1 c3, .slice a4 1 c4] 24) (.cells #[.int .i64 0, .int .i64 0] 29)
  rw [eW4]
  clear eW4
  have hls_t : T < w3.heap.size := size_of (unhide Ks_2)
  have hlf_t : T + 1 < w3.heap.size := size_of (unhide Kf_2)
  (have HX_3 := hide (Below.next (unhide HX_2) hBW4 (by first | exact Nat.le_refl _ | (have := unhide HBA; omega))); have Ks_3 := hide (keep_below (unhide Ks_2) hBW4); have Kf_3 := hide (keep_below (unhide Kf_2) hBW4); clear HX_2 Ks_2 Kf_2)
  obtain ⟨T2, eT2⟩ : ∃ X, w3.heap.size = X := ⟨_, rfl⟩
  rw [eT2] at k0_3 k1_3 hls_t hlf_t ⊢
  have Kt_3 := hide k0_3
  have Kg_3 := hide k1_3
  have HBW := hBW4
  clear eT2 hBW4 k0_3 k1_3
  have HF4 := hide ((unhide HF3).below HBW)
  clear HBW HF3
  obtain ⟨q0, q1, qf0, qf1, ql⟩ := block2 (unhide Kf_3)
  obtain ⟨⟨r0, r1, r2⟩, ⟨rf0, rf1, rf2⟩, rl⟩ := block3 (unhide Kt_3)
  obtain ⟨g0, g1, gf0, gf1, gl⟩ := block2 (unhide Kg_3)
  have HSB : Hid (Calls Try.prog 19 #[.slice a4 1 c4, .slice (some ⟨W4.heap.size, 0, none⟩) 1 1] (W4.alloc (.cells #[.int .i64 4, .int .i64 4] 38)) fun e w' => e = .returned (.bool true) ∧ Below (W4.alloc (.cells #[.int .i64 4, .int .i64 4] 38)).heap.size (W4.alloc (.cells #[.int .i64 4, .int .i64 4] 38)) w') := sameBlocks_same _ _ _ [(4, 4)] ((unhide HF4).below ((Below.refl _ _).alloc (Nat.le_refl _) _)) (isl_one kb W4 (4, 4)) (by simp)
  have HXE := hide ((unhide HX_3).alloc (unhide HX_3).size (.cells #[.int .i64 4, .int .i64 4] 38))
  go_wp2_with (go_at_call 19; refine (unhide HSB).mono ?_; rintro e w5 ⟨rfl, hb5⟩; have HX5 := hide (Below.next (unhide HXE) hb5 (Nat.le_refl _)); clear hb5)
  go_ret
  exact ⟨rfl, unhide HX5⟩
end Go.Proofs.Ytomhfnjnmhdpkaa
