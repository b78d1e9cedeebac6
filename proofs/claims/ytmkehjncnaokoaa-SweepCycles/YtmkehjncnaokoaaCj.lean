/-
  sweep.cycle.born: one white object more, that is not white.
-/
import Derived.Test.YtmkehjncnaokoaaCi
namespace Go.Proofs.Ytmkehjncnaokoaa
open Go.RowKit

theorem infoB : (Try.prog.info? 4).map (fun i => (i.zero, i.size, i.bytes)) = some (some (.bool false), 1, 1) := by kernel_rfl
/-- What one white object more leaves. -/
structure Born2 (w w' : World) (b wb n g' cw' : Nat) (vO vR vL : Value) (olds : List Value) : Prop where
  blk : w'.heap[b]? = some (.cells #[vO, vR, .slice (some ⟨g', 0, none⟩) (n + 1) cw', vL] 62 (0, 0))
  cells : ∀ j u, (olds ++ [.bool false])[j]? = some u → w'.cell? ⟨g', j, none⟩ = some u
  th : w'.there g' 0 cw'
  le : n + 1 ≤ cw'
  lt : g' < w'.heap.size
  src : g' = wb ∨ w.heap.size ≤ g'
  keep : ∀ j, j < w.heap.size → j ≠ b → j ≠ wb → w'.heap[j]? = w.heap[j]?
  size : w.heap.size ≤ w'.heap.size
  below : ∀ lo, lo ≤ b → lo ≤ wb → lo ≤ w.heap.size → Below lo w w'

set_option maxRecDepth 100000 in
set_option maxHeartbeats 4000000 in
theorem born_2 (Wt : World) (cb b wb n cw : Nat) (z : Int) (vO vR vL : Value) (olds : List Value) (hC : Wt.heap[cb]? = some (.cells #[.pointer (some ⟨b, 0, none⟩), .int .i64 z] 60 (0, 0))) (hM : Wt.heap[b]? = some (.cells #[vO, vR, .slice (some ⟨wb, 0, none⟩) n cw, vL] 62 (0, 0))) (hlo : olds.length = n) (holds : ∀ j u, olds[j]? = some u → Wt.cell? ⟨wb, j, none⟩ = some u) (hth : Wt.there wb 0 cw) (hle : n ≤ cw) (hbo : wb < Wt.heap.size) (hbb : b ≠ wb) (hcb : cb ≠ b) (hco : cb ≠ wb) (hn5 : n + 1 ≤ 1000000)
    {s1 s2 s3 s4 s5 s6 s7 s8 s9 s10 s11 s12 s13 s14 s15 s16 s17 s18 s19 s20 s21 s22 s23 s24 s25 s26 s27 s28 s29 s30 s31 s32 s33 s34 s35 s36 s37 s38 s39 s40 s41 s42 s43 s44 s45 s46 s47 s48 s49 : Value} (K : Act → World → Prop) (R : Exit → Act → World → Prop) (x : Code) (hcut : (Try.f46.body.bind (cutAt 2)).map Prod.fst = some x)
    (hK : ∀ (s25 s26 s27 s28 s29 s30 s31 s32 s33 s34 s35 s36 s37 s38 s39 : Value) (g' cw' : Nat) (W' : World), Born2 Wt W' b wb n g' cw' vO vR vL olds → Exit.then K R Exit.normal { tmps := (.pointer (some ⟨cb, 0, none⟩) :: s1 :: s2 :: s3 :: s4 :: s5 :: s6 :: s7 :: s8 :: s9 :: s10 :: s11 :: s12 :: s13 :: s14 :: s15 :: s16 :: s17 :: s18 :: s19 :: s20 :: s21 :: s22 :: s23 :: s24 :: s25 :: s26 :: s27 :: s28 :: s29 :: s30 :: s31 :: s32 :: s33 :: s34 :: s35 :: s36 :: s37 :: s38 :: s39 :: s40 :: s41 :: s42 :: s43 :: s44 :: s45 :: s46 :: s47 :: s48 :: s49 :: []).toArray, defers := [] } W') :
    x.wp Try.prog (Exit.then K R) { tmps := (.pointer (some ⟨cb, 0, none⟩) :: s1 :: s2 :: s3 :: s4 :: s5 :: s6 :: s7 :: s8 :: s9 :: s10 :: s11 :: s12 :: s13 :: s14 :: s15 :: s16 :: s17 :: s18 :: s19 :: s20 :: s21 :: s22 :: s23 :: s24 :: s25 :: s26 :: s27 :: s28 :: s29 :: s30 :: s31 :: s32 :: s33 :: s34 :: s35 :: s36 :: s37 :: s38 :: s39 :: s40 :: s41 :: s42 :: s43 :: s44 :: s45 :: s46 :: s47 :: s48 :: s49 :: []).toArray, defers := [] } Wt := by
  have hcc : (Try.f46.body.bind (cutAt 2)).map Prod.fst = some (.region _ _ _) := rfl
  rw [hcc] at hcut
  cases hcut
  clear hcc
  have HK := hide hK
  have hY0 : Below Wt.heap.size Wt Wt.drew := (Below.refl _ _).drew
  obtain ⟨V1, e1⟩ : ∃ X, Wt.drew.alloc (.cells #[.bool false] 4) = X := ⟨_, rfl⟩
  have hY1 : Below Wt.heap.size Wt V1 := by rw [← e1]; exact hY0.alloc (Nat.le_refl _) _
  have HBS1 : Hid ((Instr.buildSlice 37 1 #[(0, .bool false)]).run Try.prog Wt.drew = .ok (.slice (some ⟨Wt.heap.size, 0, none⟩) 1 1) V1) := by rw [← e1]; exact bs_bool Wt.drew
  have HN1 : Hid (V1.cell? ⟨Wt.heap.size, 0, none⟩ = some (.bool false)) := by rw [← e1]; exact (block1 (new_block Wt.drew (.cells #[.bool false] 4))).1
  have HFN : Hid (∀ (w4 : World) (g4 c4 : Nat), PushR V1 w4 wb n g4 c4 (olds ++ [.bool false]) → w4.cell? ⟨cb, 0, none⟩ = some (.pointer (some ⟨b, 0, none⟩)) ∧ (w4.setCell ⟨b, 2, none⟩ (.slice (some ⟨g4, 0, none⟩) (n + 1) c4)).cell? ⟨cb, 0, none⟩ = some (.pointer (some ⟨b, 0, none⟩)) ∧ (∃ x, w4.cell? ⟨b, 2, none⟩ = some x ∧ w4.frozen? ⟨b, 2, none⟩ = false) ∧ Born2 Wt (w4.setCell ⟨b, 2, none⟩ (.slice (some ⟨g4, 0, none⟩) (n + 1) c4)) b wb n g4 c4 vO vR vL olds) := fun w4 g4 c4 h4 => by
    have k4 : ∀ j, j < Wt.heap.size → j ≠ wb → w4.heap[j]? = Wt.heap[j]? := fun j hj hj2 => (h4.keep j (Nat.lt_of_lt_of_le hj hY1.size) hj2).trans (hY1.block j hj)
    have hcl := size_of hC; have hml := size_of hM
    have hm4 := (k4 b hml hbb).trans hM
    have hc4 := (k4 cb hcl hco).trans hC
    have hw4 : V1.heap.size ≤ w4.heap.size := (h4.below 0 (Nat.zero_le _) (Nat.zero_le _)).size
    have hbg : b ≠ g4 := by have := hY1.size; rcases h4.src with q | q <;> omega
    refine ⟨(block2 hc4).1, cell_other (block2 hc4).1 (Or.inl hcb) _, ⟨_, (block4 hm4).1.2.2.1, (block4 hm4).2.1.2.2.1⟩, mk_set2 hm4, fun j u hu => cell_other (h4.cells j u hu) (Or.inl (Ne.symm hbg)) _, there_set h4.th _, h4.le, by rw [size_set]; exact h4.lt, ?_, fun j hj h5 h6 => (Below.heap_setCell _ _ _ _ h5).trans (k4 j hj h6), by rw [size_set]; exact Nat.le_trans hY1.size hw4, fun lo l1 l2 l3 => ((hY1.mono l3).trans (h4.below lo l2 (Nat.le_trans l3 hY1.size))).setCell (p := ⟨b, 2, none⟩) l1 _⟩
    rcases h4.src with q | q
    · exact Or.inl q
    · exact Or.inr (Nat.le_trans hY1.size q)
  have HHO : Hid (∀ j u, olds[j]? = some u → Wt.cell? ⟨wb, j, none⟩ = some u) := holds
  have HTH : Hid (Wt.there wb 0 cw) := hth
  have hwb0 : wb < Wt.heap.size := hbo
  have HS0 : Hid (Wt.drew.cell? ⟨cb, 0, none⟩ = some (.pointer (some ⟨b, 0, none⟩))) := (block2 (keep_below hC hY0)).1
  have p0 : Wt.drew.cell? ⟨b, 2, none⟩ = some (.slice (some ⟨wb, 0, none⟩) n cw) := (block4 (keep_below hM hY0)).1.2.2.1
  have HS1 : Hid (V1.cell? ⟨cb, 0, none⟩ = some (.pointer (some ⟨b, 0, none⟩))) := (block2 (keep_below hC hY1)).1
  have p1 : V1.cell? ⟨b, 2, none⟩ = some (.slice (some ⟨wb, 0, none⟩) n cw) := (block4 (keep_below hM hY1)).1.2.2.1
  have HY1 := hide hY1
  clear hK hC hM hth holds hY1 e1 hY0 hbo hbb hcb hco
  refine wp_region_noPanic ?_
  refine wp_region_held_drew (S := fun W' => W'.cell? ⟨cb, 0, none⟩ = some (.pointer (some ⟨b, 0, none⟩))) (by kernel_rfl) (unhide HS0) (fun hHeld => ?_)
  refine wpAnyH_take (i := 0) (oi := { dst := some 25, op := Op.move (Operand.tmp 0), type := 55, pos := "cycle.go:119", after := #[], guard := none }) (v := ?v0) rfl (by kernel_rfl) (by kernel_rfl) (by kernel_rfl) (fun _ _ _ h => h) (Or.inl ⟨by rfl, ?y0⟩) (by assumption) ?r0
  case y0 => (intro w hSw; (try dsimp only at hSw); go_simp; try with_reducible rfl)
  try simp only [Act.put, List.setIfInBounds_toArray, List.set_cons_zero, List.set_cons_succ]
  refine wpAnyH_take (i := 1) (oi := { dst := some 26, op := Op.nilCheck (Operand.tmp 25), type := 0, pos := "cycle.go:119", after := #[{ on := 0, ground := Ground.data }], guard := none }) (v := ?v1) rfl (by kernel_rfl) (by kernel_rfl) (by kernel_rfl) (fun _ _ _ h => h) (Or.inl ⟨by rfl, ?y1⟩) (by assumption) ?r1
  case y1 => (intro w hSw; (try dsimp only at hSw); go_simp; try with_reducible rfl)
  try simp only [Act.put, List.setIfInBounds_toArray, List.set_cons_zero, List.set_cons_succ]
  refine wpAnyH_take (i := 2) (oi := { dst := some 27, op := Op.fieldAddr 60 (Operand.tmp 26) 0, type := 0, pos := "cycle.go:119", after := #[{ on := 1, ground := Ground.data }], guard := none }) (v := ?v2) rfl (by kernel_rfl) (by kernel_rfl) (by kernel_rfl) (fun _ _ _ h => h) (Or.inl ⟨by rfl, ?y2⟩) (by assumption) ?r2
  case y2 => (intro w hSw; (try dsimp only at hSw); go_simp; try with_reducible rfl)
  try simp only [Act.put, List.setIfInBounds_toArray, List.set_cons_zero, List.set_cons_succ]
  refine wpAnyH_take (i := 3) (oi := { dst := some 28, op := Op.load 51 (Operand.tmp 27), type := 51, pos := "cycle.go:119", after := #[{ on := 2, ground := Ground.data }], guard := none }) (v := ?v3) rfl (by kernel_rfl) (by kernel_rfl) (by kernel_rfl) (fun _ _ _ h => h) (Or.inl ⟨by rfl, ?y3⟩) (by assumption) ?r3
  case y3 => (intro w hSw; (try dsimp only at hSw); go_simp; try with_reducible rfl)
  try simp only [Act.put, List.setIfInBounds_toArray, List.set_cons_zero, List.set_cons_succ]
  refine wpAnyH_take (i := 4) (oi := { dst := some 29, op := Op.move (Operand.tmp 0), type := 55, pos := "cycle.go:119", after := #[], guard := none }) (v := ?v4) rfl (by kernel_rfl) (by kernel_rfl) (by kernel_rfl) (fun _ _ _ h => h) (Or.inl ⟨by rfl, ?y4⟩) (by assumption) ?r4
  case y4 => (intro w hSw; (try dsimp only at hSw); go_simp; try with_reducible rfl)
  try simp only [Act.put, List.setIfInBounds_toArray, List.set_cons_zero, List.set_cons_succ]
  refine wpAnyH_take (i := 5) (oi := { dst := some 30, op := Op.nilCheck (Operand.tmp 29), type := 0, pos := "cycle.go:119", after := #[{ on := 4, ground := Ground.data }], guard := none }) (v := ?v5) rfl (by kernel_rfl) (by kernel_rfl) (by kernel_rfl) (fun _ _ _ h => h) (Or.inl ⟨by rfl, ?y5⟩) (by assumption) ?r5
  case y5 => (intro w hSw; (try dsimp only at hSw); go_simp; try with_reducible rfl)
  try simp only [Act.put, List.setIfInBounds_toArray, List.set_cons_zero, List.set_cons_succ]
  refine wpAnyH_take (i := 6) (oi := { dst := some 31, op := Op.fieldAddr 60 (Operand.tmp 30) 0, type := 0, pos := "cycle.go:119", after := #[{ on := 5, ground := Ground.data }], guard := none }) (v := ?v6) rfl (by kernel_rfl) (by kernel_rfl) (by kernel_rfl) (fun _ _ _ h => h) (Or.inl ⟨by rfl, ?y6⟩) (by assumption) ?r6
  case y6 => (intro w hSw; (try dsimp only at hSw); go_simp; try with_reducible rfl)
  try simp only [Act.put, List.setIfInBounds_toArray, List.set_cons_zero, List.set_cons_succ]
  refine wpAnyH_take (i := 7) (oi := { dst := some 32, op := Op.load 51 (Operand.tmp 31), type := 51, pos := "cycle.go:119", after := #[{ on := 6, ground := Ground.data }], guard := none }) (v := ?v7) rfl (by kernel_rfl) (by kernel_rfl) (by kernel_rfl) (fun _ _ _ h => h) (Or.inl ⟨by rfl, ?y7⟩) (by assumption) ?r7
  case y7 => (intro w hSw; (try dsimp only at hSw); go_simp; try with_reducible rfl)
  try simp only [Act.put, List.setIfInBounds_toArray, List.set_cons_zero, List.set_cons_succ]
  refine wpAnyH_take (i := 8) (oi := { dst := some 33, op := Op.nilCheck (Operand.tmp 32), type := 0, pos := "cycle.go:119", after := #[{ on := 7, ground := Ground.data }], guard := none }) (v := ?v8) rfl (by kernel_rfl) (by kernel_rfl) (by kernel_rfl) (fun _ _ _ h => h) (Or.inl ⟨by rfl, ?y8⟩) (by assumption) ?r8
  case y8 => (intro w hSw; (try dsimp only at hSw); go_simp; try with_reducible rfl)
  try simp only [Act.put, List.setIfInBounds_toArray, List.set_cons_zero, List.set_cons_succ]
  refine wpAnyH_take (i := 9) (oi := { dst := some 34, op := Op.fieldAddr 62 (Operand.tmp 33) 1, type := 0, pos := "cycle.go:119", after := #[{ on := 8, ground := Ground.data }], guard := none }) (v := ?v9) rfl (by kernel_rfl) (by kernel_rfl) (by kernel_rfl) (fun _ _ _ h => h) (Or.inl ⟨by rfl, ?y9⟩) (by assumption) ?r9
  case y9 => (intro w hSw; (try dsimp only at hSw); go_simp; try with_reducible rfl)
  try simp only [Act.put, List.setIfInBounds_toArray, List.set_cons_zero, List.set_cons_succ]
  refine wpAnyH_ready (rs := [10, 11]) (by kernel_rfl) (by simp) ?_
  refine AllReadyH.cons (o := { dst := some 35, op := Op.load 37 (Operand.tmp 34), type := 37, pos := "cycle.go:119", after := #[{ on := 9, ground := Ground.data }], guard := none }) rfl (fun K hK => ?_) (AllReadyH.cons (o := { dst := some 36, op := Op.buildSlice 37 1 #[(0, Operand.const (Value.bool false))], type := 37, pos := "cycle.go:119", after := #[], guard := none }) rfl (fun K hK => ?_) AllReadyH.nil)
  · go_simp
    refine hK.out _ _ (unhide HS0) (fun hHeld => ?_)
    clear hK K
    try simp only [Act.put, List.setIfInBounds_toArray, List.set_cons_zero, List.set_cons_succ]
    refine wpAnyH_ready (rs := [11]) (by kernel_rfl) (by simp) ?_
    refine AllReadyH.cons (o := { dst := some 36, op := Op.buildSlice 37 1 #[(0, Operand.const (Value.bool false))], type := 37, pos := "cycle.go:119", after := #[], guard := none }) rfl (fun K hK => ?_) AllReadyH.nil
    refine step_run rfl (val_run (by simp only [List.map_toArray, List.map_cons, List.map_nil]; exact unhide HBS1)) ?_
    refine hK.out _ _ (unhide HS1) (fun hHeld => ?_)
    clear hK K
    try simp only [Act.put, List.setIfInBounds_toArray, List.set_cons_zero, List.set_cons_succ]
    refine wpAnyH_ready (rs := [12]) (by kernel_rfl) (by simp) ?_
    refine AllReadyH.cons (o := { dst := some 37, op := Op.call { callee := Callee.builtin Builtin.append, args := #[Operand.tmp 35, Operand.tmp 36], argTypes := #[37, 37] }, type := 37, pos := "cycle.go:119", after := #[{ on := 10, ground := Ground.data }, { on := 11, ground := Ground.data }], guard := none }) rfl (fun K hK => ?_) AllReadyH.nil
    (refine step_push rfl (.tmp 35) (.tmp 36) 37 4 (.bool false) 1 rfl Try.underlying37 infoB rfl wb n cw olds rfl hlo (fun j u hu => cell_of (unhide HHO j u hu) ((unhide HY1).block wb hwb0)) (there_keep (unhide HTH) ((unhide HY1).block wb hwb0)) hle (Nat.lt_of_lt_of_le hwb0 (unhide HY1).size) Wt.heap.size (.bool false) rfl (unhide HN1) rfl hn5 (by decide) ?_; intro g4 c4 w4 hp4; have hfin := unhide HFN w4 g4 c4 hp4; have HS4 := hide hfin.1; have HS5 := hide hfin.2.1; obtain ⟨x4, q4, f4⟩ := hfin.2.2.1; have HBN := hide hfin.2.2.2; clear hfin hp4)
    refine hK.out _ _ (unhide HS4) (fun hHeld => ?_)
    clear hK K
    try simp only [Act.put, List.setIfInBounds_toArray, List.set_cons_zero, List.set_cons_succ]
    refine wpAnyH_take (i := 13) (oi := { dst := some 38, op := Op.nilCheck (Operand.tmp 28), type := 0, pos := "cycle.go:119", after := #[{ on := 3, ground := Ground.data }, { on := 0, ground := Ground.phase }, { on := 1, ground := Ground.phase }, { on := 2, ground := Ground.phase }, { on := 3, ground := Ground.phase }, { on := 4, ground := Ground.phase }, { on := 5, ground := Ground.phase }, { on := 6, ground := Ground.phase }, { on := 7, ground := Ground.phase }, { on := 8, ground := Ground.phase }, { on := 9, ground := Ground.phase }, { on := 10, ground := Ground.phase }, { on := 11, ground := Ground.phase }, { on := 12, ground := Ground.phase }], guard := none }) (v := ?v13a) rfl (by kernel_rfl) (by kernel_rfl) (by kernel_rfl) (fun _ _ _ h => h) (Or.inl ⟨by rfl, ?y13a⟩) (by assumption) ?r13a
    case y13a => (intro w hSw; (try dsimp only at hSw); go_simp; try with_reducible rfl)
    try simp only [Act.put, List.setIfInBounds_toArray, List.set_cons_zero, List.set_cons_succ]
    refine wpAnyH_take (i := 14) (oi := { dst := some 39, op := Op.fieldAddr 62 (Operand.tmp 38) 1, type := 0, pos := "cycle.go:119", after := #[{ on := 13, ground := Ground.data }, { on := 0, ground := Ground.phase }, { on := 1, ground := Ground.phase }, { on := 2, ground := Ground.phase }, { on := 3, ground := Ground.phase }, { on := 4, ground := Ground.phase }, { on := 5, ground := Ground.phase }, { on := 6, ground := Ground.phase }, { on := 7, ground := Ground.phase }, { on := 8, ground := Ground.phase }, { on := 9, ground := Ground.phase }, { on := 10, ground := Ground.phase }, { on := 11, ground := Ground.phase }, { on := 12, ground := Ground.phase }], guard := none }) (v := ?v14a) rfl (by kernel_rfl) (by kernel_rfl) (by kernel_rfl) (fun _ _ _ h => h) (Or.inl ⟨by rfl, ?y14a⟩) (by assumption) ?r14a
    case y14a => (intro w hSw; (try dsimp only at hSw); go_simp; try with_reducible rfl)
    try simp only [Act.put, List.setIfInBounds_toArray, List.set_cons_zero, List.set_cons_succ]
    refine wpAnyH_ready (rs := [15]) (by kernel_rfl) (by simp) ?_
    refine AllReadyH.cons (o := { dst := none, op := Op.store 37 (Operand.tmp 39) (Operand.tmp 37), type := 0, pos := "cycle.go:119", after := #[{ on := 14, ground := Ground.data }, { on := 12, ground := Ground.data }, { on := 12, ground := Ground.chain }, { on := 0, ground := Ground.phase }, { on := 1, ground := Ground.phase }, { on := 2, ground := Ground.phase }, { on := 3, ground := Ground.phase }, { on := 4, ground := Ground.phase }, { on := 5, ground := Ground.phase }, { on := 6, ground := Ground.phase }, { on := 7, ground := Ground.phase }, { on := 8, ground := Ground.phase }, { on := 9, ground := Ground.phase }, { on := 10, ground := Ground.phase }, { on := 11, ground := Ground.phase }, { on := 12, ground := Ground.phase }], guard := none }) rfl (fun K hK => ?_) AllReadyH.nil
    go_simp
    refine hK.out _ _ (unhide HS5) (fun hHeld => ?_)
    clear hK K
    try simp only [Act.put, List.setIfInBounds_toArray, List.set_cons_zero, List.set_cons_succ]
    refine wpAnyH_done (by kernel_rfl) ?_ _
    refine NoPanic.normal ?_
    exact unhide HK _ _ _ _ _ _ _ _ _ _ _ _ _ _ _ g4 c4 _ (unhide HBN)
  · refine step_run rfl (val_run (by simp only [List.map_toArray, List.map_cons, List.map_nil]; exact unhide HBS1)) ?_
    refine hK.out _ _ (unhide HS1) (fun hHeld => ?_)
    clear hK K
    try simp only [Act.put, List.setIfInBounds_toArray, List.set_cons_zero, List.set_cons_succ]
    refine wpAnyH_ready (rs := [10]) (by kernel_rfl) (by simp) ?_
    refine AllReadyH.cons (o := { dst := some 35, op := Op.load 37 (Operand.tmp 34), type := 37, pos := "cycle.go:119", after := #[{ on := 9, ground := Ground.data }], guard := none }) rfl (fun K hK => ?_) AllReadyH.nil
    go_simp
    refine hK.out _ _ (unhide HS1) (fun hHeld => ?_)
    clear hK K
    try simp only [Act.put, List.setIfInBounds_toArray, List.set_cons_zero, List.set_cons_succ]
    refine wpAnyH_ready (rs := [12]) (by kernel_rfl) (by simp) ?_
    refine AllReadyH.cons (o := { dst := some 37, op := Op.call { callee := Callee.builtin Builtin.append, args := #[Operand.tmp 35, Operand.tmp 36], argTypes := #[37, 37] }, type := 37, pos := "cycle.go:119", after := #[{ on := 10, ground := Ground.data }, { on := 11, ground := Ground.data }], guard := none }) rfl (fun K hK => ?_) AllReadyH.nil
    (refine step_push rfl (.tmp 35) (.tmp 36) 37 4 (.bool false) 1 rfl Try.underlying37 infoB rfl wb n cw olds rfl hlo (fun j u hu => cell_of (unhide HHO j u hu) ((unhide HY1).block wb hwb0)) (there_keep (unhide HTH) ((unhide HY1).block wb hwb0)) hle (Nat.lt_of_lt_of_le hwb0 (unhide HY1).size) Wt.heap.size (.bool false) rfl (unhide HN1) rfl hn5 (by decide) ?_; intro g4 c4 w4 hp4; have hfin := unhide HFN w4 g4 c4 hp4; have HS4 := hide hfin.1; have HS5 := hide hfin.2.1; obtain ⟨x4, q4, f4⟩ := hfin.2.2.1; have HBN := hide hfin.2.2.2; clear hfin hp4)
    refine hK.out _ _ (unhide HS4) (fun hHeld => ?_)
    clear hK K
    try simp only [Act.put, List.setIfInBounds_toArray, List.set_cons_zero, List.set_cons_succ]
    refine wpAnyH_take (i := 13) (oi := { dst := some 38, op := Op.nilCheck (Operand.tmp 28), type := 0, pos := "cycle.go:119", after := #[{ on := 3, ground := Ground.data }, { on := 0, ground := Ground.phase }, { on := 1, ground := Ground.phase }, { on := 2, ground := Ground.phase }, { on := 3, ground := Ground.phase }, { on := 4, ground := Ground.phase }, { on := 5, ground := Ground.phase }, { on := 6, ground := Ground.phase }, { on := 7, ground := Ground.phase }, { on := 8, ground := Ground.phase }, { on := 9, ground := Ground.phase }, { on := 10, ground := Ground.phase }, { on := 11, ground := Ground.phase }, { on := 12, ground := Ground.phase }], guard := none }) (v := ?v13b) rfl (by kernel_rfl) (by kernel_rfl) (by kernel_rfl) (fun _ _ _ h => h) (Or.inl ⟨by rfl, ?y13b⟩) (by assumption) ?r13b
    case y13b => (intro w hSw; (try dsimp only at hSw); go_simp; try with_reducible rfl)
    try simp only [Act.put, List.setIfInBounds_toArray, List.set_cons_zero, List.set_cons_succ]
    refine wpAnyH_take (i := 14) (oi := { dst := some 39, op := Op.fieldAddr 62 (Operand.tmp 38) 1, type := 0, pos := "cycle.go:119", after := #[{ on := 13, ground := Ground.data }, { on := 0, ground := Ground.phase }, { on := 1, ground := Ground.phase }, { on := 2, ground := Ground.phase }, { on := 3, ground := Ground.phase }, { on := 4, ground := Ground.phase }, { on := 5, ground := Ground.phase }, { on := 6, ground := Ground.phase }, { on := 7, ground := Ground.phase }, { on := 8, ground := Ground.phase }, { on := 9, ground := Ground.phase }, { on := 10, ground := Ground.phase }, { on := 11, ground := Ground.phase }, { on := 12, ground := Ground.phase }], guard := none }) (v := ?v14b) rfl (by kernel_rfl) (by kernel_rfl) (by kernel_rfl) (fun _ _ _ h => h) (Or.inl ⟨by rfl, ?y14b⟩) (by assumption) ?r14b
    case y14b => (intro w hSw; (try dsimp only at hSw); go_simp; try with_reducible rfl)
    try simp only [Act.put, List.setIfInBounds_toArray, List.set_cons_zero, List.set_cons_succ]
    refine wpAnyH_ready (rs := [15]) (by kernel_rfl) (by simp) ?_
    refine AllReadyH.cons (o := { dst := none, op := Op.store 37 (Operand.tmp 39) (Operand.tmp 37), type := 0, pos := "cycle.go:119", after := #[{ on := 14, ground := Ground.data }, { on := 12, ground := Ground.data }, { on := 12, ground := Ground.chain }, { on := 0, ground := Ground.phase }, { on := 1, ground := Ground.phase }, { on := 2, ground := Ground.phase }, { on := 3, ground := Ground.phase }, { on := 4, ground := Ground.phase }, { on := 5, ground := Ground.phase }, { on := 6, ground := Ground.phase }, { on := 7, ground := Ground.phase }, { on := 8, ground := Ground.phase }, { on := 9, ground := Ground.phase }, { on := 10, ground := Ground.phase }, { on := 11, ground := Ground.phase }, { on := 12, ground := Ground.phase }], guard := none }) rfl (fun K hK => ?_) AllReadyH.nil
    go_simp
    refine hK.out _ _ (unhide HS5) (fun hHeld => ?_)
    clear hK K
    try simp only [Act.put, List.setIfInBounds_toArray, List.set_cons_zero, List.set_cons_succ]
    refine wpAnyH_done (by kernel_rfl) ?_ _
    refine NoPanic.normal ?_
    exact unhide HK _ _ _ _ _ _ _ _ _ _ _ _ _ _ _ g4 c4 _ (unhide HBN)
end Go.Proofs.Ytmkehjncnaokoaa
