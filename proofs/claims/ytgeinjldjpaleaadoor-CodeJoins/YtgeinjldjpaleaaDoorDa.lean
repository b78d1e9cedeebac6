/-
  taskmilllaw.own, ownCode, ownProgram, sameCode.
-/
import Derived.Test.YtgeinjldjpaleaaDoorI
namespace Go.Proofs.YtgeinjldjpaleaaDoor
open Go.RowKit

set_option maxRecDepth 100000 in
set_option maxHeartbeats 1000000 in
theorem own_any (w : World) (v : Value) (xs : List Int) (hr : IsL KI w v xs) (hn : xs.length * 8 ≤ 140737488355328) :
    Calls Tryd.prog 22 #[v] w fun e w' => ∃ a' c', e = .returned (.slice a' xs.length c') ∧ Own KI w.heap.size w' (.slice a' xs.length c') xs ∧ Below w.heap.size w w' := by
  obtain ⟨a, c, rfl⟩ := hr.form
  have HR := hide hr
  clear hr
  go_enter Tryd.func22, Tryd.ntmps22
  go_wp2_with (at_builtin; refine wpList_append ki rfl (.const (.slice none 0 0)) (.tmp 3) rfl w.heap.size _ [] rfl (own_nil _ _) _ xs rfl (unhide HR) xs.length (by simp) hn (Nat.le_refl _) ?_; intro a' c' w1 ho hg; have HO := hide (own_nil_append ho); have HB := hide ((Below.refl w.heap.size w).grown hg (Nat.le_refl _) (fun k hk => by cases hk)); clear ho hg)
  go_ret
  exact ⟨a', c', rfl, unhide HO, unhide HB⟩

set_option maxRecDepth 100000 in
set_option maxHeartbeats 1000000 in
theorem ownCode_any (w : World) (v : Value) (xs : List In) (hr : IsL KC w v xs) (hn : xs.length * 24 ≤ 140737488355328) :
    Calls Tryd.prog 21 #[v] w fun e w' => ∃ a' c', e = .returned (.slice a' xs.length c') ∧ Own KC w.heap.size w' (.slice a' xs.length c') xs ∧ Below w.heap.size w w' := by
  obtain ⟨a, c, rfl⟩ := hr.form
  have HR := hide hr
  clear hr
  go_enter Tryd.func21, Tryd.ntmps21
  go_wp2_with (at_builtin; refine wpList_append kc rfl (.const (.slice none 0 0)) (.tmp 3) rfl w.heap.size _ [] rfl (own_nil _ _) _ xs rfl (unhide HR) xs.length (by simp) hn (Nat.le_refl _) ?_; intro a' c' w1 ho hg; have HO := hide (own_nil_append ho); have HB := hide ((Below.refl w.heap.size w).grown hg (Nat.le_refl _) (fun k hk => by cases hk)); clear ho hg)
  go_ret
  exact ⟨a', c', rfl, unhide HO, unhide HB⟩
theorem frozen5 {w : World} {R i : Nat} {x0 x1 x2 x3 x4 : Value} {t : TypeId} (h : w.heap[R]? = some (.cells #[x0, x1, x2, x3, x4] t (0, 0))) : w.frozen? ⟨R, i, none⟩ = false := by
  simp [World.frozen?, h]

set_option maxRecDepth 100000 in
set_option maxHeartbeats 1000000 in
theorem ownProgram_any (w : World) (v : Value) (p : Pg) (h : IsP w v p) (hn : p.code.length * 24 ≤ 140737488355328) (hm : p.pipes.length * 8 ≤ 140737488355328) :
    Calls Tryd.prog 9 #[v] w fun e w' => ∃ v', e = .returned v' ∧ IsP w' v' p ∧ Below w.heap.size w w' := by
  obtain ⟨a, c, b, d, rfl, hc, hp⟩ := h.form
  obtain ⟨W0, e0, hB, k0, k1⟩ := two_new w (.cells #[.slice a p.code.length c, .int .i64 p.cells, .slice b p.pipes.length d, .int .i64 p.locks, .int .i64 p.groups] 25) (.cells #[.slice none 0 0, .int .i64 0, .slice none 0 0, .int .i64 0, .int .i64 0] 25)
  have HX := hide hB; have HE := hide e0; have HK := hide k0; have HQ := hide k1
  have HOC := hide fun W (hW : Below W0.heap.size W0 W) => ownCode_any W _ p.code ((hc.below hB).below hW) hn
  have HOI := hide fun W (hW : Below W0.heap.size W0 W) => own_any W _ p.pipes ((hp.below hB).below hW) hm
  obtain ⟨n, en⟩ : ∃ n, p.code.length = n := ⟨_, rfl⟩
  obtain ⟨m, em⟩ : ∃ m, p.pipes.length = m := ⟨_, rfl⟩
  rw [en] at HE HK HOC hn; rw [em] at HE HK HOI hm; rw [en, em]
  have hw2 : w.heap.size + 1 < W0.heap.size := size_of (unhide HQ)
  clear hB e0 k0 k1 h hc hp en em
  go_enter Tryd.func9, Tryd.ntmps9
  go_upto_region 1 with fail
  rw [unhide HE]
  clear HE
  have HSS : Hid (∀ W : World, W.heap[w.heap.size]? = some (.cells #[.slice a n c, .int .i64 p.cells, .slice b m d, .int .i64 p.locks, .int .i64 p.groups] 25 (0, 0)) → W.cell? ⟨w.heap.size, 0, none⟩ = some (.slice a n c) ∧ W.cell? ⟨w.heap.size, 1, none⟩ = some (.int .i64 p.cells) ∧ W.cell? ⟨w.heap.size, 2, none⟩ = some (.slice b m d) ∧ W.cell? ⟨w.heap.size, 3, none⟩ = some (.int .i64 p.locks) ∧ W.cell? ⟨w.heap.size, 4, none⟩ = some (.int .i64 p.groups)) := fun W h => (block5 h).1
  refine wp_region_held_drew (S := (fun W => W.cell? ⟨w.heap.size, 0, none⟩ = some (.slice a n c) ∧ W.cell? ⟨w.heap.size, 1, none⟩ = some (.int .i64 p.cells) ∧ W.cell? ⟨w.heap.size, 2, none⟩ = some (.slice b m d) ∧ W.cell? ⟨w.heap.size, 3, none⟩ = some (.int .i64 p.locks) ∧ W.cell? ⟨w.heap.size, 4, none⟩ = some (.int .i64 p.groups))) (by kernel_rfl) (unhide HSS _ (unhide HK)) (fun hHeld => ?_)
  refine wpAnyH_take (i := 0) (oi := { dst := some 3, op := Op.fieldAddr 25 (Operand.tmp 1) 0, type := 0, pos := "law11.go:20", after := #[], guard := none }) (v := ?v0) rfl (by kernel_rfl) (by kernel_rfl) (by kernel_rfl) (fun _ _ _ h => h) (Or.inl ⟨by rfl, ?y0⟩) (by assumption) ?r0
  case y0 => (intro w hSw; (try dsimp only at hSw); go_simp; try with_reducible rfl)
  try simp only [Act.put, List.setIfInBounds_toArray, List.set_cons_zero, List.set_cons_succ]
  refine wpAnyH_take (i := 1) (oi := { dst := some 4, op := Op.load 22 (Operand.tmp 3), type := 22, pos := "law11.go:20", after := #[{ on := 0, ground := Ground.data }], guard := none }) (v := ?v1) rfl (by kernel_rfl) (by kernel_rfl) (by kernel_rfl) (fun _ _ _ h => h) (Or.inl ⟨by rfl, ?y1⟩) (by assumption) ?r1
  case y1 => (intro w hSw; (try dsimp only at hSw); go_simp; try with_reducible rfl)
  try simp only [Act.put, List.setIfInBounds_toArray, List.set_cons_zero, List.set_cons_succ]
  refine wpAnyH_take (i := 3) (oi := { dst := some 6, op := Op.fieldAddr 25 (Operand.tmp 1) 1, type := 0, pos := "law11.go:20", after := #[], guard := none }) (v := ?v3) rfl (by kernel_rfl) (by kernel_rfl) (by kernel_rfl) (fun _ _ _ h => h) (Or.inl ⟨by rfl, ?y3⟩) (by assumption) ?r3
  case y3 => (intro w hSw; (try dsimp only at hSw); go_simp; try with_reducible rfl)
  try simp only [Act.put, List.setIfInBounds_toArray, List.set_cons_zero, List.set_cons_succ]
  refine wpAnyH_take (i := 4) (oi := { dst := some 7, op := Op.load 3 (Operand.tmp 6), type := 3, pos := "law11.go:20", after := #[{ on := 3, ground := Ground.data }], guard := none }) (v := ?v4) rfl (by kernel_rfl) (by kernel_rfl) (by kernel_rfl) (fun _ _ _ h => h) (Or.inl ⟨by rfl, ?y4⟩) (by assumption) ?r4
  case y4 => (intro w hSw; (try dsimp only at hSw); go_simp; try with_reducible rfl)
  try simp only [Act.put, List.setIfInBounds_toArray, List.set_cons_zero, List.set_cons_succ]
  refine wpAnyH_take (i := 5) (oi := { dst := some 8, op := Op.fieldAddr 25 (Operand.tmp 1) 2, type := 0, pos := "law11.go:20", after := #[], guard := none }) (v := ?v5) rfl (by kernel_rfl) (by kernel_rfl) (by kernel_rfl) (fun _ _ _ h => h) (Or.inl ⟨by rfl, ?y5⟩) (by assumption) ?r5
  case y5 => (intro w hSw; (try dsimp only at hSw); go_simp; try with_reducible rfl)
  try simp only [Act.put, List.setIfInBounds_toArray, List.set_cons_zero, List.set_cons_succ]
  refine wpAnyH_take (i := 6) (oi := { dst := some 9, op := Op.load 23 (Operand.tmp 8), type := 23, pos := "law11.go:20", after := #[{ on := 5, ground := Ground.data }], guard := none }) (v := ?v6) rfl (by kernel_rfl) (by kernel_rfl) (by kernel_rfl) (fun _ _ _ h => h) (Or.inl ⟨by rfl, ?y6⟩) (by assumption) ?r6
  case y6 => (intro w hSw; (try dsimp only at hSw); go_simp; try with_reducible rfl)
  try simp only [Act.put, List.setIfInBounds_toArray, List.set_cons_zero, List.set_cons_succ]
  refine wpAnyH_take (i := 8) (oi := { dst := some 11, op := Op.fieldAddr 25 (Operand.tmp 1) 3, type := 0, pos := "law11.go:20", after := #[], guard := none }) (v := ?v8) rfl (by kernel_rfl) (by kernel_rfl) (by kernel_rfl) (fun _ _ _ h => h) (Or.inl ⟨by rfl, ?y8⟩) (by assumption) ?r8
  case y8 => (intro w hSw; (try dsimp only at hSw); go_simp; try with_reducible rfl)
  try simp only [Act.put, List.setIfInBounds_toArray, List.set_cons_zero, List.set_cons_succ]
  refine wpAnyH_take (i := 9) (oi := { dst := some 12, op := Op.load 3 (Operand.tmp 11), type := 3, pos := "law11.go:20", after := #[{ on := 8, ground := Ground.data }], guard := none }) (v := ?v9) rfl (by kernel_rfl) (by kernel_rfl) (by kernel_rfl) (fun _ _ _ h => h) (Or.inl ⟨by rfl, ?y9⟩) (by assumption) ?r9
  case y9 => (intro w hSw; (try dsimp only at hSw); go_simp; try with_reducible rfl)
  try simp only [Act.put, List.setIfInBounds_toArray, List.set_cons_zero, List.set_cons_succ]
  refine wpAnyH_take (i := 10) (oi := { dst := some 13, op := Op.fieldAddr 25 (Operand.tmp 1) 4, type := 0, pos := "law11.go:20", after := #[], guard := none }) (v := ?v10) rfl (by kernel_rfl) (by kernel_rfl) (by kernel_rfl) (fun _ _ _ h => h) (Or.inl ⟨by rfl, ?y10⟩) (by assumption) ?r10
  case y10 => (intro w hSw; (try dsimp only at hSw); go_simp; try with_reducible rfl)
  try simp only [Act.put, List.setIfInBounds_toArray, List.set_cons_zero, List.set_cons_succ]
  refine wpAnyH_take (i := 11) (oi := { dst := some 14, op := Op.load 3 (Operand.tmp 13), type := 3, pos := "law11.go:20", after := #[{ on := 10, ground := Ground.data }], guard := none }) (v := ?v11) rfl (by kernel_rfl) (by kernel_rfl) (by kernel_rfl) (fun _ _ _ h => h) (Or.inl ⟨by rfl, ?y11⟩) (by assumption) ?r11
  case y11 => (intro w hSw; (try dsimp only at hSw); go_simp; try with_reducible rfl)
  try simp only [Act.put, List.setIfInBounds_toArray, List.set_cons_zero, List.set_cons_succ]
  refine wpAnyH_ready (rs := [2]) (by kernel_rfl) (by simp) ?_
  refine AllReadyH.cons (o := { dst := some 5, op := Op.call { callee := Callee.value (Operand.func 21), args := #[Operand.tmp 4], argTypes := #[22] }, type := 22, pos := "law11.go:20", after := #[{ on := 1, ground := Ground.data }], guard := none }) rfl (fun K hK => ?_) AllReadyH.nil
  go_simp
  (refine (unhide HOC _ (Below.refl _ _).drew).mono ?_; rintro e w5 ⟨a5, c5, rfl, ho5, b5⟩; have HY5 : Hid (Below W0.heap.size W0 w5) := Below.next (Below.refl _ _).drew b5 (Nat.le_refl _); have HO5 := hide ho5; have HK5 := hide (keep_below (unhide HK) (unhide HY5)); clear ho5 b5; go_simp)
  refine hK.out _ _ (unhide HSS _ (unhide HK5)) (fun hHeld => ?_)
  clear hK K
  try simp only [Act.put, List.setIfInBounds_toArray, List.set_cons_zero, List.set_cons_succ]
  refine wpAnyH_ready (rs := [7]) (by kernel_rfl) (by simp) ?_
  refine AllReadyH.cons (o := { dst := some 10, op := Op.call { callee := Callee.value (Operand.func 22), args := #[Operand.tmp 9], argTypes := #[23] }, type := 23, pos := "law11.go:20", after := #[{ on := 6, ground := Ground.data }, { on := 2, ground := Ground.chain }], guard := none }) rfl (fun K hK => ?_) AllReadyH.nil
  go_simp
  (refine (unhide HOI _ (unhide HY5)).mono ?_; rintro e w6 ⟨a6, c6, rfl, ho6, b6⟩; have HY6 : Hid (Below W0.heap.size W0 w6) := Below.next (unhide HY5) b6 (Nat.le_refl _); have HO6 := hide (ho6.base (unhide HY5).size); have HO56 := hide ((unhide HO5).below b6); have HK6 := hide (keep_below (unhide HK) (unhide HY6)); have HQ6 := hide (keep_below (unhide HQ) (unhide HY6)); clear ho6 b6; obtain ⟨⟨u0, u1, u2, u3, u4⟩, ul⟩ := block5 (unhide HQ6); have uf := fun i => frozen5 (i := i) (unhide HQ6); go_simp)
  refine hK.out _ _ (unhide HSS _ (unhide HK6)) (fun hHeld => ?_)
  clear hK K
  try simp only [Act.put, List.setIfInBounds_toArray, List.set_cons_zero, List.set_cons_succ]
  refine wpAnyH_take (i := 12) (oi := { dst := some 15, op := Op.build 25 #[(0, Operand.tmp 5), (1, Operand.tmp 7), (2, Operand.tmp 10), (3, Operand.tmp 12), (4, Operand.tmp 14)], type := 25, pos := "law11.go:20", after := #[{ on := 2, ground := Ground.data }, { on := 4, ground := Ground.data }, { on := 7, ground := Ground.data }, { on := 9, ground := Ground.data }, { on := 11, ground := Ground.data }], guard := none }) (v := ?v12) rfl (by kernel_rfl) (by kernel_rfl) (by kernel_rfl) (fun _ _ _ h => h) (Or.inl ⟨by rfl, ?y12⟩) (by assumption) ?r12
  case y12 => (intro w hSw; (try dsimp only at hSw); go_simp; try with_reducible rfl)
  try simp only [Act.put, List.setIfInBounds_toArray, List.set_cons_zero, List.set_cons_succ]
  refine wpAnyH_ready (rs := [13]) (by kernel_rfl) (by simp) ?_
  refine AllReadyH.cons (o := { dst := none, op := Op.store 25 (Operand.tmp 2) (Operand.tmp 15), type := 0, pos := "law11.go:20", after := #[{ on := 12, ground := Ground.data }, { on := 7, ground := Ground.chain }, { on := 0, ground := Ground.phase }, { on := 1, ground := Ground.phase }, { on := 2, ground := Ground.phase }, { on := 3, ground := Ground.phase }, { on := 4, ground := Ground.phase }, { on := 5, ground := Ground.phase }, { on := 6, ground := Ground.phase }, { on := 7, ground := Ground.phase }, { on := 8, ground := Ground.phase }, { on := 9, ground := Ground.phase }, { on := 10, ground := Ground.phase }, { on := 11, ground := Ground.phase }, { on := 12, ground := Ground.phase }], guard := none }) rfl (fun K hK => ?_) AllReadyH.nil
  go_simp
  skip
  refine hK.out _ _ (unhide HSS _ (keep_set (keep_set (keep_set (keep_set (keep_set (unhide HK6) (by omega)) (by omega)) (by omega)) (by omega)) (by omega))) (fun hHeld => ?_)
  clear hK K
  try simp only [Act.put, List.setIfInBounds_toArray, List.set_cons_zero, List.set_cons_succ]
  refine wpAnyH_done (by kernel_rfl) ?_ _
  go_wp2_with fail
  refine bodyPost_ret (v := .agg #[.slice a5 n c5, .int .i64 p.cells, .slice a6 m c6, .int .i64 p.locks, .int .i64 p.groups]) (by simp [results, Tryd.results9, go_sem, u0, u1, u2, u3, u4]) rfl ⟨_, rfl, ⟨_, _, rfl, ?_, ?_⟩, ?_⟩
  · exact (((((Own.set (unhide HO56) hw2).set hw2).set hw2).set hw2).set hw2).isl
  · exact (((((Own.set (unhide HO6) hw2).set hw2).set hw2).set hw2).set hw2).isl
  · exact (((((Below.next (unhide HX) (unhide HY6) (Nat.le_refl _)).setCell (p := ⟨w.heap.size + 1, 0, none⟩) (Nat.le_succ _) _).setCell (p := ⟨w.heap.size + 1, 1, none⟩) (Nat.le_succ _) _).setCell (p := ⟨w.heap.size + 1, 2, none⟩) (Nat.le_succ _) _).setCell (p := ⟨w.heap.size + 1, 3, none⟩) (Nat.le_succ _) _).setCell (p := ⟨w.heap.size + 1, 4, none⟩) (Nat.le_succ _) _

set_option maxRecDepth 100000 in
set_option maxHeartbeats 1000000 in
theorem code_same (w : World) (v v' : Value) (xs : List In) (h : IsL KC w v xs) (h' : IsL KC w v' xs) (hn : xs.length ≤ maxLen) :
    Calls Tryd.prog 13 #[v, v'] w fun e w' => e = .returned (.bool true) ∧ Below w.heap.size w w' := by
  obtain ⟨a0, c0, rfl⟩ := h.form
  obtain ⟨a1, c1, rfl⟩ := h'.form
  have H0 := hide (h.opens kc rfl); have H1 := hide (h'.opens kc rfl)
  obtain ⟨n, en⟩ : ∃ n, xs.length = n := ⟨_, rfl⟩
  rw [en] at H0 H1 hn ⊢
  have HN := hide en
  unfold maxLen at hn
  clear h h' en
  go_enter Tryd.func13, Tryd.ntmps13
  go_wp2
  go_loopw [5] (fun i wr => ∃ j : Nat, j ≤ n ∧ i = .int .i64 j ∧ Below w.heap.size w wr) (fun i _ => n - (intOf i).toNat)
  case atStart => exact ⟨0, Nat.zero_le _, rfl, Below.refl _ _⟩
  case round =>
    obtain ⟨j, hj, rfl, hnx⟩ := hrel
    by_cases hlt : j < n
    · obtain ⟨b0, o0, rfl, hb0, l0⟩ := unhide H0 (by omega)
      obtain ⟨b1, o1, rfl, hb1, l1⟩ := unhide H1 (by omega)
      obtain ⟨⟨t, x, y⟩, hx⟩ : ∃ x, xs.getD j (0, 0, 0) = x := ⟨_, rfl⟩
      obtain ⟨k0, k1, k2⟩ := (l0.below hnx hb0).instr (j := j) (by rw [unhide HN]; exact hlt) hx
      obtain ⟨m0, m1, m2⟩ := (l1.below hnx hb1).instr (j := j) (by rw [unhide HN]; exact hlt) hx
      have i0 : (0 : Int) ≤ (j : Int) := by omega
      have i1 : (j : Int) < (n : Int) := by omega
      have HX := hide hnx
      clear hnx hx H0 H1 l0 l1
      go_wp2
      go_quiet (fail)
      go_wp2
      go_roundw
      case rel => exact ⟨j + 1, by omega, by go_num, below_drewN (unhide HX) _⟩
      case measure => simp [intOf]; omega
    · have HX := hide hnx
      clear hnx
      go_wp2
      go_ret
      exact ⟨rfl, unhide HX⟩

end Go.Proofs.YtgeinjldjpaleaaDoor
