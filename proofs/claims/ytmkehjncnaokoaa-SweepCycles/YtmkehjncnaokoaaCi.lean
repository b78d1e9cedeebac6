/-
  sweep.cycle.born: one row more.
-/
import Derived.Test.YtmkehjncnaokoaaCh
namespace Go.Proofs.Ytmkehjncnaokoaa
open Go.RowKit

/-- What a row more leaves. -/
structure Born1 (w w' : World) (b bo n k g' co' G : Nat) (vR vW vL : Value) (olds : List Value) : Prop where
  blk : w'.heap[b]? = some (.cells #[.slice (some ⟨g', 0, none⟩) (n + 1) co', vR, vW, vL] 62 (0, 0))
  cells : ∀ j u, (olds ++ [.slice (some ⟨G, 0, none⟩) k k])[j]? = some u → w'.cell? ⟨g', j, none⟩ = some u
  th : w'.there g' 0 co'
  le : n + 1 ≤ co'
  lt : g' < w'.heap.size
  src : g' = bo ∨ w.heap.size ≤ g'
  gl : w.heap.size ≤ G
  gh : w'.heap[G]? = some (.cells (repL k k).toArray 3 (0, 0))
  gg : G ≠ g'
  keep : ∀ j, j < w.heap.size → j ≠ b → j ≠ bo → w'.heap[j]? = w.heap[j]?
  size : w.heap.size ≤ w'.heap.size
  below : ∀ lo, lo ≤ b → lo ≤ bo → lo ≤ w.heap.size → Below lo w w'
theorem bs_one (w : World) : (Instr.buildSlice 23 1 #[(0, .int .i64 (-1))]).run Try.prog w = .ok (.slice (some ⟨w.heap.size, 0, none⟩) 1 1) (w.alloc (.cells #[.int .i64 (-1)] 3)) := by kernel_rfl
theorem bs_row (w : World) (G k : Nat) : (Instr.buildSlice 22 1 #[(0, .slice (some ⟨G, 0, none⟩) k k)]).run Try.prog w = .ok (.slice (some ⟨w.heap.size, 0, none⟩) 1 1) (w.alloc (.cells #[.slice (some ⟨G, 0, none⟩) k k] 23)) := by kernel_rfl
theorem bs_bool (w : World) : (Instr.buildSlice 37 1 #[(0, .bool false)]).run Try.prog w = .ok (.slice (some ⟨w.heap.size, 0, none⟩) 1 1) (w.alloc (.cells #[.bool false] 4)) := by kernel_rfl
theorem mk_set0 {w : World} {b : Nat} {x y z v x' : Value} {t : TypeId} (h : w.heap[b]? = some (.cells #[x, y, z, v] t (0, 0))) : (w.setCell ⟨b, 0, none⟩ x').heap[b]? = some (.cells #[x', y, z, v] t (0, 0)) := by
  simp [World.setCell, Array.getElem?_modify, h]
theorem mk_set2 {w : World} {b : Nat} {x y z v x' : Value} {t : TypeId} (h : w.heap[b]? = some (.cells #[x, y, z, v] t (0, 0))) : (w.setCell ⟨b, 2, none⟩ x').heap[b]? = some (.cells #[x, y, x', v] t (0, 0)) := by
  simp [World.setCell, Array.getElem?_modify, h]

set_option maxRecDepth 100000 in
set_option maxHeartbeats 4000000 in
theorem born_1 (Wt : World) (cb b bo n co k : Nat) (z : Int) (vR vW vL : Value) (olds : List Value) (hC : Wt.heap[cb]? = some (.cells #[.pointer (some ⟨b, 0, none⟩), .int .i64 z] 60 (0, 0))) (hM : Wt.heap[b]? = some (.cells #[.slice (some ⟨bo, 0, none⟩) n co, vR, vW, vL] 62 (0, 0))) (hlo : olds.length = n) (holds : ∀ j u, olds[j]? = some u → Wt.cell? ⟨bo, j, none⟩ = some u) (hth : Wt.there bo 0 co) (hle : n ≤ co) (hbo : bo < Wt.heap.size) (hbb : b ≠ bo) (hcb : cb ≠ b) (hco : cb ≠ bo) (hn5 : n + 1 ≤ 1000000) (hk : k ≤ 20)
    {s2 s3 s4 s5 s6 s7 s8 s9 s10 s11 s12 s13 s14 s15 s16 s17 s18 s19 s20 s21 s22 s23 s24 s25 s26 s27 s28 s29 s30 s31 s32 s33 s34 s35 s36 s37 s38 s39 s40 s41 s42 s43 s44 s45 s46 s47 s48 s49 : Value} (K : Act → World → Prop) (R : Exit → Act → World → Prop) (x : Code) (hcut : (Try.f46.body.bind (cutAt 1)).map Prod.fst = some x)
    (hK : ∀ (s5 s6 s7 s8 s9 s10 s11 s12 s13 s14 s15 s16 s17 s18 s19 s20 s21 s22 s23 s24 : Value) (g' co' G : Nat) (W' : World), Born1 Wt W' b bo n k g' co' G vR vW vL olds → Exit.then K R Exit.normal { tmps := (.pointer (some ⟨cb, 0, none⟩) :: .int .i64 (k : Int) :: s2 :: s3 :: s4 :: s5 :: s6 :: s7 :: s8 :: s9 :: s10 :: s11 :: s12 :: s13 :: s14 :: s15 :: s16 :: s17 :: s18 :: s19 :: s20 :: s21 :: s22 :: s23 :: s24 :: s25 :: s26 :: s27 :: s28 :: s29 :: s30 :: s31 :: s32 :: s33 :: s34 :: s35 :: s36 :: s37 :: s38 :: s39 :: s40 :: s41 :: s42 :: s43 :: s44 :: s45 :: s46 :: s47 :: s48 :: s49 :: []).toArray, defers := [] } W') :
    x.wp Try.prog (Exit.then K R) { tmps := (.pointer (some ⟨cb, 0, none⟩) :: .int .i64 (k : Int) :: s2 :: s3 :: s4 :: s5 :: s6 :: s7 :: s8 :: s9 :: s10 :: s11 :: s12 :: s13 :: s14 :: s15 :: s16 :: s17 :: s18 :: s19 :: s20 :: s21 :: s22 :: s23 :: s24 :: s25 :: s26 :: s27 :: s28 :: s29 :: s30 :: s31 :: s32 :: s33 :: s34 :: s35 :: s36 :: s37 :: s38 :: s39 :: s40 :: s41 :: s42 :: s43 :: s44 :: s45 :: s46 :: s47 :: s48 :: s49 :: []).toArray, defers := [] } Wt := by
  have hcc : (Try.f46.body.bind (cutAt 1)).map Prod.fst = some (.region _ _ _) := rfl
  rw [hcc] at hcut
  cases hcut
  clear hcc
  have HK := hide hK
  obtain ⟨V0, e0⟩ : ∃ X, Wt.drew = X := ⟨_, rfl⟩
  have hY0 : Below Wt.heap.size Wt V0 := by rw [← e0]; exact (Below.refl _ _).drew
  have hz0 : V0.heap.size = Wt.heap.size := by rw [← e0]; rfl
  have HFN : Hid (∀ (V3 w4 : World) (G g4 c4 : Nat), Below V0.heap.size V0 V3 → V3.heap[G]? = some (.cells (repL k k).toArray 3 (0, 0)) → V0.heap.size ≤ G → PushR V3 w4 bo n g4 c4 (olds ++ [.slice (some ⟨G, 0, none⟩) k k]) → w4.cell? ⟨cb, 0, none⟩ = some (.pointer (some ⟨b, 0, none⟩)) ∧ (w4.setCell ⟨b, 0, none⟩ (.slice (some ⟨g4, 0, none⟩) (n + 1) c4)).cell? ⟨cb, 0, none⟩ = some (.pointer (some ⟨b, 0, none⟩)) ∧ (∃ x, w4.cell? ⟨b, 0, none⟩ = some x ∧ w4.frozen? ⟨b, 0, none⟩ = false) ∧ Born1 Wt (w4.setCell ⟨b, 0, none⟩ (.slice (some ⟨g4, 0, none⟩) (n + 1) c4)) b bo n k g4 c4 G vR vW vL olds) := fun V3 w4 G g4 c4 h1 h2 h3 h4 => by
    have hb3 : Below Wt.heap.size Wt V3 := hY0.trans (h1.mono (by omega))
    have k4 : ∀ j, j < Wt.heap.size → j ≠ bo → w4.heap[j]? = Wt.heap[j]? := fun j hj hj2 => (h4.keep j (Nat.lt_of_lt_of_le hj hb3.size) hj2).trans (hb3.block j hj)
    have hcl := size_of hC; have hml := size_of hM
    have hm4 := (k4 b hml hbb).trans hM
    have hc4 := (k4 cb hcl hco).trans hC
    have hg3 : G < V3.heap.size := size_of h2
    have hgb : G ≠ bo := by omega
    have hg4 : G ≠ g4 := by rcases h4.src with q | q <;> omega
    have hw4 : V3.heap.size ≤ w4.heap.size := (h4.below 0 (Nat.zero_le _) (Nat.zero_le _)).size
    have hbg : b ≠ g4 := by have := hb3.size; rcases h4.src with q | q <;> omega
    refine ⟨(block2 hc4).1, cell_other (block2 hc4).1 (Or.inl hcb) _, ⟨_, (block4 hm4).1.1, (block4 hm4).2.1.1⟩, mk_set0 hm4, fun j u hu => cell_other (h4.cells j u hu) (Or.inl (Ne.symm hbg)) _, there_set h4.th _, h4.le, by rw [size_set]; exact h4.lt, ?_, by omega, ?_, hg4, fun j hj h5 h6 => (Below.heap_setCell _ _ _ _ h5).trans (k4 j hj h6), by rw [size_set]; exact Nat.le_trans hb3.size hw4, fun lo l1 l2 l3 => ((hb3.mono l3).trans (h4.below lo l2 (Nat.le_trans l3 hb3.size))).setCell (p := ⟨b, 0, none⟩) l1 _⟩
    · rcases h4.src with q | q
      · exact Or.inl q
      · exact Or.inr (Nat.le_trans hb3.size q)
    · exact (Below.heap_setCell _ _ _ _ (fun e => by have e2 : G = b := e; omega)).trans ((h4.keep G hg3 hgb).trans h2)
  have HSS : Hid (∀ W : World, Below V0.heap.size V0 W → W.cell? ⟨cb, 0, none⟩ = some (.pointer (some ⟨b, 0, none⟩))) := fun W hW => (block2 (keep_below hC (hY0.trans (hW.mono (by omega))))).1
  have HPP : Hid (∀ W : World, Below V0.heap.size V0 W → W.cell? ⟨b, 0, none⟩ = some (.slice (some ⟨bo, 0, none⟩) n co)) := fun W hW => (block4 (keep_below hM (hY0.trans (hW.mono (by omega))))).1.1
  have HHO : Hid (∀ j u, olds[j]? = some u → V0.cell? ⟨bo, j, none⟩ = some u) := fun j u hu => cell_of (holds j u hu) (hY0.block bo hbo)
  have HTH : Hid (V0.there bo 0 co) := there_keep hth (hY0.block bo hbo)
  have hbo0 : bo < V0.heap.size := by omega
  obtain ⟨V1, e1⟩ : ∃ X, V0.alloc (.cells #[.int .i64 (-1)] 3) = X := ⟨_, rfl⟩
  have HBS1 : Hid ((Instr.buildSlice 23 1 #[(0, .int .i64 (-1))]).run Try.prog V0 = .ok (.slice (some ⟨V0.heap.size, 0, none⟩) 1 1) V1) := by rw [← e1]; exact bs_one V0
  have hY1 : Below V0.heap.size V0 V1 := by rw [← e1]; exact (Below.refl _ _).alloc (Nat.le_refl _) _
  have HRP := hide (repeat_any V1 V0.heap.size (by rw [← e1]; exact new_block V0 _) k hk)
  have HB2 := hide bs_row
  have HY1 := hide hY1
  have HS0 := hide (unhide HSS V0 (Below.refl _ _))
  have p0 := unhide HPP V0 (Below.refl _ _)
  have HS1 := hide (unhide HSS V1 hY1)
  have p1 := unhide HPP V1 hY1
  subst e0
  have HRP2 : Hid (Calls Try.prog 49 #[.slice (some ⟨Wt.heap.size, 0, none⟩) 1 1, .int .i64 (k : Int)] V1 fun e w' => ∃ G, e = .returned (.slice (some ⟨G, 0, none⟩) k k) ∧ V1.heap.size ≤ G ∧ w'.heap[G]? = some (.cells (repL k k).toArray 3 (0, 0)) ∧ Below V1.heap.size V1 w') := unhide HRP
  clear hK hC hM hth holds hY1 e1 hY0 hz0 hbo hbb hcb hco hk
  refine wp_region_noPanic ?_
  refine wp_region_held_drew (S := fun W' => W'.cell? ⟨cb, 0, none⟩ = some (.pointer (some ⟨b, 0, none⟩))) (by kernel_rfl) (unhide HS0) (fun hHeld => ?_)
  refine wpAnyH_take (i := 0) (oi := { dst := some 5, op := Op.move (Operand.tmp 0), type := 55, pos := "cycle.go:118", after := #[], guard := none }) (v := ?v0) rfl (by kernel_rfl) (by kernel_rfl) (by kernel_rfl) (fun _ _ _ h => h) (Or.inl ⟨by rfl, ?y0⟩) (by assumption) ?r0
  case y0 => (intro w hSw; (try dsimp only at hSw); go_simp; try with_reducible rfl)
  try simp only [Act.put, List.setIfInBounds_toArray, List.set_cons_zero, List.set_cons_succ]
  refine wpAnyH_take (i := 1) (oi := { dst := some 6, op := Op.nilCheck (Operand.tmp 5), type := 0, pos := "cycle.go:118", after := #[{ on := 0, ground := Ground.data }], guard := none }) (v := ?v1) rfl (by kernel_rfl) (by kernel_rfl) (by kernel_rfl) (fun _ _ _ h => h) (Or.inl ⟨by rfl, ?y1⟩) (by assumption) ?r1
  case y1 => (intro w hSw; (try dsimp only at hSw); go_simp; try with_reducible rfl)
  try simp only [Act.put, List.setIfInBounds_toArray, List.set_cons_zero, List.set_cons_succ]
  refine wpAnyH_take (i := 2) (oi := { dst := some 7, op := Op.fieldAddr 60 (Operand.tmp 6) 0, type := 0, pos := "cycle.go:118", after := #[{ on := 1, ground := Ground.data }], guard := none }) (v := ?v2) rfl (by kernel_rfl) (by kernel_rfl) (by kernel_rfl) (fun _ _ _ h => h) (Or.inl ⟨by rfl, ?y2⟩) (by assumption) ?r2
  case y2 => (intro w hSw; (try dsimp only at hSw); go_simp; try with_reducible rfl)
  try simp only [Act.put, List.setIfInBounds_toArray, List.set_cons_zero, List.set_cons_succ]
  refine wpAnyH_take (i := 3) (oi := { dst := some 8, op := Op.load 51 (Operand.tmp 7), type := 51, pos := "cycle.go:118", after := #[{ on := 2, ground := Ground.data }], guard := none }) (v := ?v3) rfl (by kernel_rfl) (by kernel_rfl) (by kernel_rfl) (fun _ _ _ h => h) (Or.inl ⟨by rfl, ?y3⟩) (by assumption) ?r3
  case y3 => (intro w hSw; (try dsimp only at hSw); go_simp; try with_reducible rfl)
  try simp only [Act.put, List.setIfInBounds_toArray, List.set_cons_zero, List.set_cons_succ]
  refine wpAnyH_take (i := 4) (oi := { dst := some 9, op := Op.move (Operand.tmp 0), type := 55, pos := "cycle.go:118", after := #[], guard := none }) (v := ?v4) rfl (by kernel_rfl) (by kernel_rfl) (by kernel_rfl) (fun _ _ _ h => h) (Or.inl ⟨by rfl, ?y4⟩) (by assumption) ?r4
  case y4 => (intro w hSw; (try dsimp only at hSw); go_simp; try with_reducible rfl)
  try simp only [Act.put, List.setIfInBounds_toArray, List.set_cons_zero, List.set_cons_succ]
  refine wpAnyH_take (i := 5) (oi := { dst := some 10, op := Op.nilCheck (Operand.tmp 9), type := 0, pos := "cycle.go:118", after := #[{ on := 4, ground := Ground.data }], guard := none }) (v := ?v5) rfl (by kernel_rfl) (by kernel_rfl) (by kernel_rfl) (fun _ _ _ h => h) (Or.inl ⟨by rfl, ?y5⟩) (by assumption) ?r5
  case y5 => (intro w hSw; (try dsimp only at hSw); go_simp; try with_reducible rfl)
  try simp only [Act.put, List.setIfInBounds_toArray, List.set_cons_zero, List.set_cons_succ]
  refine wpAnyH_take (i := 6) (oi := { dst := some 11, op := Op.fieldAddr 60 (Operand.tmp 10) 0, type := 0, pos := "cycle.go:118", after := #[{ on := 5, ground := Ground.data }], guard := none }) (v := ?v6) rfl (by kernel_rfl) (by kernel_rfl) (by kernel_rfl) (fun _ _ _ h => h) (Or.inl ⟨by rfl, ?y6⟩) (by assumption) ?r6
  case y6 => (intro w hSw; (try dsimp only at hSw); go_simp; try with_reducible rfl)
  try simp only [Act.put, List.setIfInBounds_toArray, List.set_cons_zero, List.set_cons_succ]
  refine wpAnyH_take (i := 7) (oi := { dst := some 12, op := Op.load 51 (Operand.tmp 11), type := 51, pos := "cycle.go:118", after := #[{ on := 6, ground := Ground.data }], guard := none }) (v := ?v7) rfl (by kernel_rfl) (by kernel_rfl) (by kernel_rfl) (fun _ _ _ h => h) (Or.inl ⟨by rfl, ?y7⟩) (by assumption) ?r7
  case y7 => (intro w hSw; (try dsimp only at hSw); go_simp; try with_reducible rfl)
  try simp only [Act.put, List.setIfInBounds_toArray, List.set_cons_zero, List.set_cons_succ]
  refine wpAnyH_take (i := 8) (oi := { dst := some 13, op := Op.nilCheck (Operand.tmp 12), type := 0, pos := "cycle.go:118", after := #[{ on := 7, ground := Ground.data }], guard := none }) (v := ?v8) rfl (by kernel_rfl) (by kernel_rfl) (by kernel_rfl) (fun _ _ _ h => h) (Or.inl ⟨by rfl, ?y8⟩) (by assumption) ?r8
  case y8 => (intro w hSw; (try dsimp only at hSw); go_simp; try with_reducible rfl)
  try simp only [Act.put, List.setIfInBounds_toArray, List.set_cons_zero, List.set_cons_succ]
  refine wpAnyH_take (i := 9) (oi := { dst := some 14, op := Op.fieldAddr 62 (Operand.tmp 13) 0, type := 0, pos := "cycle.go:118", after := #[{ on := 8, ground := Ground.data }], guard := none }) (v := ?v9) rfl (by kernel_rfl) (by kernel_rfl) (by kernel_rfl) (fun _ _ _ h => h) (Or.inl ⟨by rfl, ?y9⟩) (by assumption) ?r9
  case y9 => (intro w hSw; (try dsimp only at hSw); go_simp; try with_reducible rfl)
  try simp only [Act.put, List.setIfInBounds_toArray, List.set_cons_zero, List.set_cons_succ]
  refine wpAnyH_take (i := 10) (oi := { dst := some 15, op := Op.fieldAddr 25 (Operand.tmp 14) 0, type := 0, pos := "cycle.go:118", after := #[{ on := 9, ground := Ground.data }], guard := none }) (v := ?v10) rfl (by kernel_rfl) (by kernel_rfl) (by kernel_rfl) (fun _ _ _ h => h) (Or.inl ⟨by rfl, ?y10⟩) (by assumption) ?r10
  case y10 => (intro w hSw; (try dsimp only at hSw); go_simp; try with_reducible rfl)
  try simp only [Act.put, List.setIfInBounds_toArray, List.set_cons_zero, List.set_cons_succ]
  refine wpAnyH_take (i := 13) (oi := { dst := some 18, op := Op.move (Operand.tmp 1), type := 3, pos := "cycle.go:118", after := #[], guard := none }) (v := ?v13) rfl (by kernel_rfl) (by kernel_rfl) (by kernel_rfl) (fun _ _ _ h => h) (Or.inl ⟨by rfl, ?y13⟩) (by assumption) ?r13
  case y13 => (intro w hSw; (try dsimp only at hSw); go_simp; try with_reducible rfl)
  try simp only [Act.put, List.setIfInBounds_toArray, List.set_cons_zero, List.set_cons_succ]
  refine wpAnyH_ready (rs := [11, 12]) (by kernel_rfl) (by simp) ?_
  refine AllReadyH.cons (o := { dst := some 16, op := Op.load 22 (Operand.tmp 15), type := 22, pos := "cycle.go:118", after := #[{ on := 10, ground := Ground.data }], guard := none }) rfl (fun K hK => ?_) (AllReadyH.cons (o := { dst := some 17, op := Op.buildSlice 23 1 #[(0, Operand.const (Value.int IntKind.i64 (-1)))], type := 23, pos := "cycle.go:118", after := #[], guard := none }) rfl (fun K hK => ?_) AllReadyH.nil)
  · go_simp
    refine hK.out _ _ (unhide HS0) (fun hHeld => ?_)
    clear hK K
    try simp only [Act.put, List.setIfInBounds_toArray, List.set_cons_zero, List.set_cons_succ]
    refine wpAnyH_ready (rs := [12]) (by kernel_rfl) (by simp) ?_
    refine AllReadyH.cons (o := { dst := some 17, op := Op.buildSlice 23 1 #[(0, Operand.const (Value.int IntKind.i64 (-1)))], type := 23, pos := "cycle.go:118", after := #[], guard := none }) rfl (fun K hK => ?_) AllReadyH.nil
    refine step_run rfl (val_run (by simp only [List.map_toArray, List.map_cons, List.map_nil]; exact unhide HBS1)) ?_
    refine hK.out _ _ (unhide HS1) (fun hHeld => ?_)
    clear hK K
    try simp only [Act.put, List.setIfInBounds_toArray, List.set_cons_zero, List.set_cons_succ]
    refine wpAnyH_ready (rs := [14]) (by kernel_rfl) (by simp) ?_
    refine AllReadyH.cons (o := { dst := some 19, op := Op.call { callee := Callee.value (Operand.func 49), args := #[Operand.tmp 17, Operand.tmp 18], argTypes := #[23, 3] }, type := 23, pos := "cycle.go:118", after := #[{ on := 12, ground := Ground.data }, { on := 13, ground := Ground.data }], guard := none }) rfl (fun K hK => ?_) AllReadyH.nil
    go_simp
    (go_at_call 49; (with_reducible refine Calls.mono (unhide HRP2) ?_); rintro e w2 ⟨G, rfl, hg1, hg2, hb2⟩; have hY2 : Below Wt.drew.heap.size Wt.drew w2 := Below.next (unhide HY1) hb2 (Nat.le_refl _); have HS2 := hide (unhide HSS w2 hY2); have p2 := unhide HPP w2 hY2; obtain ⟨V3, e3⟩ : ∃ X, w2.alloc (.cells #[.slice (some ⟨G, 0, none⟩) k k] 23) = X := ⟨_, rfl⟩; have HBS3 : Hid ((Instr.buildSlice 22 1 #[(0, .slice (some ⟨G, 0, none⟩) k k)]).run Try.prog w2 = .ok (.slice (some ⟨w2.heap.size, 0, none⟩) 1 1) V3) := (by rw [← e3]; exact unhide HB2 w2 G k); have hY3 : Below Wt.drew.heap.size Wt.drew V3 := (by rw [← e3]; exact hY2.alloc hY2.size _); have HS3 := hide (unhide HSS V3 hY3); have p3 := unhide HPP V3 hY3; have HN3 : Hid (V3.cell? ⟨w2.heap.size, 0, none⟩ = some (.slice (some ⟨G, 0, none⟩) k k)) := (by rw [← e3]; exact (block1 (new_block w2 _)).1); have HG3 : Hid (V3.heap[G]? = some (.cells (repL k k).toArray 3 (0, 0))) := (by rw [← e3]; exact keep_alloc hg2 _); have HGL : Hid (Wt.drew.heap.size ≤ G) := Nat.le_trans (unhide HY1).size hg1; have HY3 := hide hY3; clear hg1 hg2 hb2 hY2 hY3 e3)
    refine hK.out _ _ (unhide HS2) (fun hHeld => ?_)
    clear hK K
    try simp only [Act.put, List.setIfInBounds_toArray, List.set_cons_zero, List.set_cons_succ]
    refine wpAnyH_ready (rs := [15]) (by kernel_rfl) (by simp) ?_
    refine AllReadyH.cons (o := { dst := some 20, op := Op.buildSlice 22 1 #[(0, Operand.tmp 19)], type := 22, pos := "cycle.go:118", after := #[{ on := 14, ground := Ground.data }], guard := none }) rfl (fun K hK => ?_) AllReadyH.nil
    refine step_run rfl (val_run (by simp only [List.map_toArray, List.map_cons, List.map_nil]; exact unhide HBS3)) ?_
    refine hK.out _ _ (unhide HS3) (fun hHeld => ?_)
    clear hK K
    try simp only [Act.put, List.setIfInBounds_toArray, List.set_cons_zero, List.set_cons_succ]
    refine wpAnyH_ready (rs := [16]) (by kernel_rfl) (by simp) ?_
    refine AllReadyH.cons (o := { dst := some 21, op := Op.call { callee := Callee.builtin Builtin.append, args := #[Operand.tmp 16, Operand.tmp 20], argTypes := #[22, 22] }, type := 22, pos := "cycle.go:118", after := #[{ on := 11, ground := Ground.data }, { on := 15, ground := Ground.data }, { on := 14, ground := Ground.chain }], guard := none }) rfl (fun K hK => ?_) AllReadyH.nil
    (refine step_push rfl (.tmp 16) (.tmp 20) 22 23 (.slice none 0 0) 24 rfl Try.underlying22 infoKL rfl bo n co olds rfl hlo (fun j u hu => cell_of (unhide HHO j u hu) ((unhide HY3).block bo hbo0)) (there_keep (unhide HTH) ((unhide HY3).block bo hbo0)) hle (Nat.lt_of_lt_of_le hbo0 (unhide HY3).size) w2.heap.size (.slice (some ⟨G, 0, none⟩) k k) rfl (unhide HN3) rfl hn5 (by decide) ?_; intro g4 c4 w4 hp4; have hfin := unhide HFN V3 w4 G g4 c4 (unhide HY3) (unhide HG3) (unhide HGL) hp4; have HS4 := hide hfin.1; have HS5 := hide hfin.2.1; obtain ⟨x4, q4, f4⟩ := hfin.2.2.1; have HBN := hide hfin.2.2.2; clear hfin hp4)
    refine hK.out _ _ (unhide HS4) (fun hHeld => ?_)
    clear hK K
    try simp only [Act.put, List.setIfInBounds_toArray, List.set_cons_zero, List.set_cons_succ]
    refine wpAnyH_take (i := 17) (oi := { dst := some 22, op := Op.nilCheck (Operand.tmp 8), type := 0, pos := "cycle.go:118", after := #[{ on := 3, ground := Ground.data }, { on := 0, ground := Ground.phase }, { on := 1, ground := Ground.phase }, { on := 2, ground := Ground.phase }, { on := 3, ground := Ground.phase }, { on := 4, ground := Ground.phase }, { on := 5, ground := Ground.phase }, { on := 6, ground := Ground.phase }, { on := 7, ground := Ground.phase }, { on := 8, ground := Ground.phase }, { on := 9, ground := Ground.phase }, { on := 10, ground := Ground.phase }, { on := 11, ground := Ground.phase }, { on := 12, ground := Ground.phase }, { on := 13, ground := Ground.phase }, { on := 14, ground := Ground.phase }, { on := 15, ground := Ground.phase }, { on := 16, ground := Ground.phase }], guard := none }) (v := ?v17a) rfl (by kernel_rfl) (by kernel_rfl) (by kernel_rfl) (fun _ _ _ h => h) (Or.inl ⟨by rfl, ?y17a⟩) (by assumption) ?r17a
    case y17a => (intro w hSw; (try dsimp only at hSw); go_simp; try with_reducible rfl)
    try simp only [Act.put, List.setIfInBounds_toArray, List.set_cons_zero, List.set_cons_succ]
    refine wpAnyH_take (i := 18) (oi := { dst := some 23, op := Op.fieldAddr 62 (Operand.tmp 22) 0, type := 0, pos := "cycle.go:118", after := #[{ on := 17, ground := Ground.data }, { on := 0, ground := Ground.phase }, { on := 1, ground := Ground.phase }, { on := 2, ground := Ground.phase }, { on := 3, ground := Ground.phase }, { on := 4, ground := Ground.phase }, { on := 5, ground := Ground.phase }, { on := 6, ground := Ground.phase }, { on := 7, ground := Ground.phase }, { on := 8, ground := Ground.phase }, { on := 9, ground := Ground.phase }, { on := 10, ground := Ground.phase }, { on := 11, ground := Ground.phase }, { on := 12, ground := Ground.phase }, { on := 13, ground := Ground.phase }, { on := 14, ground := Ground.phase }, { on := 15, ground := Ground.phase }, { on := 16, ground := Ground.phase }], guard := none }) (v := ?v18a) rfl (by kernel_rfl) (by kernel_rfl) (by kernel_rfl) (fun _ _ _ h => h) (Or.inl ⟨by rfl, ?y18a⟩) (by assumption) ?r18a
    case y18a => (intro w hSw; (try dsimp only at hSw); go_simp; try with_reducible rfl)
    try simp only [Act.put, List.setIfInBounds_toArray, List.set_cons_zero, List.set_cons_succ]
    refine wpAnyH_take (i := 19) (oi := { dst := some 24, op := Op.fieldAddr 25 (Operand.tmp 23) 0, type := 0, pos := "cycle.go:118", after := #[{ on := 18, ground := Ground.data }, { on := 0, ground := Ground.phase }, { on := 1, ground := Ground.phase }, { on := 2, ground := Ground.phase }, { on := 3, ground := Ground.phase }, { on := 4, ground := Ground.phase }, { on := 5, ground := Ground.phase }, { on := 6, ground := Ground.phase }, { on := 7, ground := Ground.phase }, { on := 8, ground := Ground.phase }, { on := 9, ground := Ground.phase }, { on := 10, ground := Ground.phase }, { on := 11, ground := Ground.phase }, { on := 12, ground := Ground.phase }, { on := 13, ground := Ground.phase }, { on := 14, ground := Ground.phase }, { on := 15, ground := Ground.phase }, { on := 16, ground := Ground.phase }], guard := none }) (v := ?v19a) rfl (by kernel_rfl) (by kernel_rfl) (by kernel_rfl) (fun _ _ _ h => h) (Or.inl ⟨by rfl, ?y19a⟩) (by assumption) ?r19a
    case y19a => (intro w hSw; (try dsimp only at hSw); go_simp; try with_reducible rfl)
    try simp only [Act.put, List.setIfInBounds_toArray, List.set_cons_zero, List.set_cons_succ]
    refine wpAnyH_ready (rs := [20]) (by kernel_rfl) (by simp) ?_
    refine AllReadyH.cons (o := { dst := none, op := Op.store 22 (Operand.tmp 24) (Operand.tmp 21), type := 0, pos := "cycle.go:118", after := #[{ on := 19, ground := Ground.data }, { on := 16, ground := Ground.data }, { on := 16, ground := Ground.chain }, { on := 0, ground := Ground.phase }, { on := 1, ground := Ground.phase }, { on := 2, ground := Ground.phase }, { on := 3, ground := Ground.phase }, { on := 4, ground := Ground.phase }, { on := 5, ground := Ground.phase }, { on := 6, ground := Ground.phase }, { on := 7, ground := Ground.phase }, { on := 8, ground := Ground.phase }, { on := 9, ground := Ground.phase }, { on := 10, ground := Ground.phase }, { on := 11, ground := Ground.phase }, { on := 12, ground := Ground.phase }, { on := 13, ground := Ground.phase }, { on := 14, ground := Ground.phase }, { on := 15, ground := Ground.phase }, { on := 16, ground := Ground.phase }], guard := none }) rfl (fun K hK => ?_) AllReadyH.nil
    go_simp
    refine hK.out _ _ (unhide HS5) (fun hHeld => ?_)
    clear hK K
    try simp only [Act.put, List.setIfInBounds_toArray, List.set_cons_zero, List.set_cons_succ]
    refine wpAnyH_done (by kernel_rfl) ?_ _
    refine NoPanic.normal ?_
    exact unhide HK _ _ _ _ _ _ _ _ _ _ _ _ _ _ _ _ _ _ _ _ g4 c4 G _ (unhide HBN)
  · refine step_run rfl (val_run (by simp only [List.map_toArray, List.map_cons, List.map_nil]; exact unhide HBS1)) ?_
    refine hK.out _ _ (unhide HS1) (fun hHeld => ?_)
    clear hK K
    try simp only [Act.put, List.setIfInBounds_toArray, List.set_cons_zero, List.set_cons_succ]
    refine wpAnyH_ready (rs := [11, 14]) (by kernel_rfl) (by simp) ?_
    refine AllReadyH.cons (o := { dst := some 16, op := Op.load 22 (Operand.tmp 15), type := 22, pos := "cycle.go:118", after := #[{ on := 10, ground := Ground.data }], guard := none }) rfl (fun K hK => ?_) (AllReadyH.cons (o := { dst := some 19, op := Op.call { callee := Callee.value (Operand.func 49), args := #[Operand.tmp 17, Operand.tmp 18], argTypes := #[23, 3] }, type := 23, pos := "cycle.go:118", after := #[{ on := 12, ground := Ground.data }, { on := 13, ground := Ground.data }], guard := none }) rfl (fun K hK => ?_) AllReadyH.nil)
    · go_simp
      refine hK.out _ _ (unhide HS1) (fun hHeld => ?_)
      clear hK K
      try simp only [Act.put, List.setIfInBounds_toArray, List.set_cons_zero, List.set_cons_succ]
      refine wpAnyH_ready (rs := [14]) (by kernel_rfl) (by simp) ?_
      refine AllReadyH.cons (o := { dst := some 19, op := Op.call { callee := Callee.value (Operand.func 49), args := #[Operand.tmp 17, Operand.tmp 18], argTypes := #[23, 3] }, type := 23, pos := "cycle.go:118", after := #[{ on := 12, ground := Ground.data }, { on := 13, ground := Ground.data }], guard := none }) rfl (fun K hK => ?_) AllReadyH.nil
      go_simp
      (go_at_call 49; (with_reducible refine Calls.mono (unhide HRP2) ?_); rintro e w2 ⟨G, rfl, hg1, hg2, hb2⟩; have hY2 : Below Wt.drew.heap.size Wt.drew w2 := Below.next (unhide HY1) hb2 (Nat.le_refl _); have HS2 := hide (unhide HSS w2 hY2); have p2 := unhide HPP w2 hY2; obtain ⟨V3, e3⟩ : ∃ X, w2.alloc (.cells #[.slice (some ⟨G, 0, none⟩) k k] 23) = X := ⟨_, rfl⟩; have HBS3 : Hid ((Instr.buildSlice 22 1 #[(0, .slice (some ⟨G, 0, none⟩) k k)]).run Try.prog w2 = .ok (.slice (some ⟨w2.heap.size, 0, none⟩) 1 1) V3) := (by rw [← e3]; exact unhide HB2 w2 G k); have hY3 : Below Wt.drew.heap.size Wt.drew V3 := (by rw [← e3]; exact hY2.alloc hY2.size _); have HS3 := hide (unhide HSS V3 hY3); have p3 := unhide HPP V3 hY3; have HN3 : Hid (V3.cell? ⟨w2.heap.size, 0, none⟩ = some (.slice (some ⟨G, 0, none⟩) k k)) := (by rw [← e3]; exact (block1 (new_block w2 _)).1); have HG3 : Hid (V3.heap[G]? = some (.cells (repL k k).toArray 3 (0, 0))) := (by rw [← e3]; exact keep_alloc hg2 _); have HGL : Hid (Wt.drew.heap.size ≤ G) := Nat.le_trans (unhide HY1).size hg1; have HY3 := hide hY3; clear hg1 hg2 hb2 hY2 hY3 e3)
      refine hK.out _ _ (unhide HS2) (fun hHeld => ?_)
      clear hK K
      try simp only [Act.put, List.setIfInBounds_toArray, List.set_cons_zero, List.set_cons_succ]
      refine wpAnyH_ready (rs := [15]) (by kernel_rfl) (by simp) ?_
      refine AllReadyH.cons (o := { dst := some 20, op := Op.buildSlice 22 1 #[(0, Operand.tmp 19)], type := 22, pos := "cycle.go:118", after := #[{ on := 14, ground := Ground.data }], guard := none }) rfl (fun K hK => ?_) AllReadyH.nil
      refine step_run rfl (val_run (by simp only [List.map_toArray, List.map_cons, List.map_nil]; exact unhide HBS3)) ?_
      refine hK.out _ _ (unhide HS3) (fun hHeld => ?_)
      clear hK K
      try simp only [Act.put, List.setIfInBounds_toArray, List.set_cons_zero, List.set_cons_succ]
      refine wpAnyH_ready (rs := [16]) (by kernel_rfl) (by simp) ?_
      refine AllReadyH.cons (o := { dst := some 21, op := Op.call { callee := Callee.builtin Builtin.append, args := #[Operand.tmp 16, Operand.tmp 20], argTypes := #[22, 22] }, type := 22, pos := "cycle.go:118", after := #[{ on := 11, ground := Ground.data }, { on := 15, ground := Ground.data }, { on := 14, ground := Ground.chain }], guard := none }) rfl (fun K hK => ?_) AllReadyH.nil
      (refine step_push rfl (.tmp 16) (.tmp 20) 22 23 (.slice none 0 0) 24 rfl Try.underlying22 infoKL rfl bo n co olds rfl hlo (fun j u hu => cell_of (unhide HHO j u hu) ((unhide HY3).block bo hbo0)) (there_keep (unhide HTH) ((unhide HY3).block bo hbo0)) hle (Nat.lt_of_lt_of_le hbo0 (unhide HY3).size) w2.heap.size (.slice (some ⟨G, 0, none⟩) k k) rfl (unhide HN3) rfl hn5 (by decide) ?_; intro g4 c4 w4 hp4; have hfin := unhide HFN V3 w4 G g4 c4 (unhide HY3) (unhide HG3) (unhide HGL) hp4; have HS4 := hide hfin.1; have HS5 := hide hfin.2.1; obtain ⟨x4, q4, f4⟩ := hfin.2.2.1; have HBN := hide hfin.2.2.2; clear hfin hp4)
      refine hK.out _ _ (unhide HS4) (fun hHeld => ?_)
      clear hK K
      try simp only [Act.put, List.setIfInBounds_toArray, List.set_cons_zero, List.set_cons_succ]
      refine wpAnyH_take (i := 17) (oi := { dst := some 22, op := Op.nilCheck (Operand.tmp 8), type := 0, pos := "cycle.go:118", after := #[{ on := 3, ground := Ground.data }, { on := 0, ground := Ground.phase }, { on := 1, ground := Ground.phase }, { on := 2, ground := Ground.phase }, { on := 3, ground := Ground.phase }, { on := 4, ground := Ground.phase }, { on := 5, ground := Ground.phase }, { on := 6, ground := Ground.phase }, { on := 7, ground := Ground.phase }, { on := 8, ground := Ground.phase }, { on := 9, ground := Ground.phase }, { on := 10, ground := Ground.phase }, { on := 11, ground := Ground.phase }, { on := 12, ground := Ground.phase }, { on := 13, ground := Ground.phase }, { on := 14, ground := Ground.phase }, { on := 15, ground := Ground.phase }, { on := 16, ground := Ground.phase }], guard := none }) (v := ?v17b) rfl (by kernel_rfl) (by kernel_rfl) (by kernel_rfl) (fun _ _ _ h => h) (Or.inl ⟨by rfl, ?y17b⟩) (by assumption) ?r17b
      case y17b => (intro w hSw; (try dsimp only at hSw); go_simp; try with_reducible rfl)
      try simp only [Act.put, List.setIfInBounds_toArray, List.set_cons_zero, List.set_cons_succ]
      refine wpAnyH_take (i := 18) (oi := { dst := some 23, op := Op.fieldAddr 62 (Operand.tmp 22) 0, type := 0, pos := "cycle.go:118", after := #[{ on := 17, ground := Ground.data }, { on := 0, ground := Ground.phase }, { on := 1, ground := Ground.phase }, { on := 2, ground := Ground.phase }, { on := 3, ground := Ground.phase }, { on := 4, ground := Ground.phase }, { on := 5, ground := Ground.phase }, { on := 6, ground := Ground.phase }, { on := 7, ground := Ground.phase }, { on := 8, ground := Ground.phase }, { on := 9, ground := Ground.phase }, { on := 10, ground := Ground.phase }, { on := 11, ground := Ground.phase }, { on := 12, ground := Ground.phase }, { on := 13, ground := Ground.phase }, { on := 14, ground := Ground.phase }, { on := 15, ground := Ground.phase }, { on := 16, ground := Ground.phase }], guard := none }) (v := ?v18b) rfl (by kernel_rfl) (by kernel_rfl) (by kernel_rfl) (fun _ _ _ h => h) (Or.inl ⟨by rfl, ?y18b⟩) (by assumption) ?r18b
      case y18b => (intro w hSw; (try dsimp only at hSw); go_simp; try with_reducible rfl)
      try simp only [Act.put, List.setIfInBounds_toArray, List.set_cons_zero, List.set_cons_succ]
      refine wpAnyH_take (i := 19) (oi := { dst := some 24, op := Op.fieldAddr 25 (Operand.tmp 23) 0, type := 0, pos := "cycle.go:118", after := #[{ on := 18, ground := Ground.data }, { on := 0, ground := Ground.phase }, { on := 1, ground := Ground.phase }, { on := 2, ground := Ground.phase }, { on := 3, ground := Ground.phase }, { on := 4, ground := Ground.phase }, { on := 5, ground := Ground.phase }, { on := 6, ground := Ground.phase }, { on := 7, ground := Ground.phase }, { on := 8, ground := Ground.phase }, { on := 9, ground := Ground.phase }, { on := 10, ground := Ground.phase }, { on := 11, ground := Ground.phase }, { on := 12, ground := Ground.phase }, { on := 13, ground := Ground.phase }, { on := 14, ground := Ground.phase }, { on := 15, ground := Ground.phase }, { on := 16, ground := Ground.phase }], guard := none }) (v := ?v19b) rfl (by kernel_rfl) (by kernel_rfl) (by kernel_rfl) (fun _ _ _ h => h) (Or.inl ⟨by rfl, ?y19b⟩) (by assumption) ?r19b
      case y19b => (intro w hSw; (try dsimp only at hSw); go_simp; try with_reducible rfl)
      try simp only [Act.put, List.setIfInBounds_toArray, List.set_cons_zero, List.set_cons_succ]
      refine wpAnyH_ready (rs := [20]) (by kernel_rfl) (by simp) ?_
      refine AllReadyH.cons (o := { dst := none, op := Op.store 22 (Operand.tmp 24) (Operand.tmp 21), type := 0, pos := "cycle.go:118", after := #[{ on := 19, ground := Ground.data }, { on := 16, ground := Ground.data }, { on := 16, ground := Ground.chain }, { on := 0, ground := Ground.phase }, { on := 1, ground := Ground.phase }, { on := 2, ground := Ground.phase }, { on := 3, ground := Ground.phase }, { on := 4, ground := Ground.phase }, { on := 5, ground := Ground.phase }, { on := 6, ground := Ground.phase }, { on := 7, ground := Ground.phase }, { on := 8, ground := Ground.phase }, { on := 9, ground := Ground.phase }, { on := 10, ground := Ground.phase }, { on := 11, ground := Ground.phase }, { on := 12, ground := Ground.phase }, { on := 13, ground := Ground.phase }, { on := 14, ground := Ground.phase }, { on := 15, ground := Ground.phase }, { on := 16, ground := Ground.phase }], guard := none }) rfl (fun K hK => ?_) AllReadyH.nil
      go_simp
      refine hK.out _ _ (unhide HS5) (fun hHeld => ?_)
      clear hK K
      try simp only [Act.put, List.setIfInBounds_toArray, List.set_cons_zero, List.set_cons_succ]
      refine wpAnyH_done (by kernel_rfl) ?_ _
      refine NoPanic.normal ?_
      exact unhide HK _ _ _ _ _ _ _ _ _ _ _ _ _ _ _ _ _ _ _ _ g4 c4 G _ (unhide HBN)
    · go_simp
      (go_at_call 49; (with_reducible refine Calls.mono (unhide HRP2) ?_); rintro e w2 ⟨G, rfl, hg1, hg2, hb2⟩; have hY2 : Below Wt.drew.heap.size Wt.drew w2 := Below.next (unhide HY1) hb2 (Nat.le_refl _); have HS2 := hide (unhide HSS w2 hY2); have p2 := unhide HPP w2 hY2; obtain ⟨V3, e3⟩ : ∃ X, w2.alloc (.cells #[.slice (some ⟨G, 0, none⟩) k k] 23) = X := ⟨_, rfl⟩; have HBS3 : Hid ((Instr.buildSlice 22 1 #[(0, .slice (some ⟨G, 0, none⟩) k k)]).run Try.prog w2 = .ok (.slice (some ⟨w2.heap.size, 0, none⟩) 1 1) V3) := (by rw [← e3]; exact unhide HB2 w2 G k); have hY3 : Below Wt.drew.heap.size Wt.drew V3 := (by rw [← e3]; exact hY2.alloc hY2.size _); have HS3 := hide (unhide HSS V3 hY3); have p3 := unhide HPP V3 hY3; have HN3 : Hid (V3.cell? ⟨w2.heap.size, 0, none⟩ = some (.slice (some ⟨G, 0, none⟩) k k)) := (by rw [← e3]; exact (block1 (new_block w2 _)).1); have HG3 : Hid (V3.heap[G]? = some (.cells (repL k k).toArray 3 (0, 0))) := (by rw [← e3]; exact keep_alloc hg2 _); have HGL : Hid (Wt.drew.heap.size ≤ G) := Nat.le_trans (unhide HY1).size hg1; have HY3 := hide hY3; clear hg1 hg2 hb2 hY2 hY3 e3)
      refine hK.out _ _ (unhide HS2) (fun hHeld => ?_)
      clear hK K
      try simp only [Act.put, List.setIfInBounds_toArray, List.set_cons_zero, List.set_cons_succ]
      refine wpAnyH_ready (rs := [11, 15]) (by kernel_rfl) (by simp) ?_
      refine AllReadyH.cons (o := { dst := some 16, op := Op.load 22 (Operand.tmp 15), type := 22, pos := "cycle.go:118", after := #[{ on := 10, ground := Ground.data }], guard := none }) rfl (fun K hK => ?_) (AllReadyH.cons (o := { dst := some 20, op := Op.buildSlice 22 1 #[(0, Operand.tmp 19)], type := 22, pos := "cycle.go:118", after := #[{ on := 14, ground := Ground.data }], guard := none }) rfl (fun K hK => ?_) AllReadyH.nil)
      · go_simp
        refine hK.out _ _ (unhide HS2) (fun hHeld => ?_)
        clear hK K
        try simp only [Act.put, List.setIfInBounds_toArray, List.set_cons_zero, List.set_cons_succ]
        refine wpAnyH_ready (rs := [15]) (by kernel_rfl) (by simp) ?_
        refine AllReadyH.cons (o := { dst := some 20, op := Op.buildSlice 22 1 #[(0, Operand.tmp 19)], type := 22, pos := "cycle.go:118", after := #[{ on := 14, ground := Ground.data }], guard := none }) rfl (fun K hK => ?_) AllReadyH.nil
        refine step_run rfl (val_run (by simp only [List.map_toArray, List.map_cons, List.map_nil]; exact unhide HBS3)) ?_
        refine hK.out _ _ (unhide HS3) (fun hHeld => ?_)
        clear hK K
        try simp only [Act.put, List.setIfInBounds_toArray, List.set_cons_zero, List.set_cons_succ]
        refine wpAnyH_ready (rs := [16]) (by kernel_rfl) (by simp) ?_
        refine AllReadyH.cons (o := { dst := some 21, op := Op.call { callee := Callee.builtin Builtin.append, args := #[Operand.tmp 16, Operand.tmp 20], argTypes := #[22, 22] }, type := 22, pos := "cycle.go:118", after := #[{ on := 11, ground := Ground.data }, { on := 15, ground := Ground.data }, { on := 14, ground := Ground.chain }], guard := none }) rfl (fun K hK => ?_) AllReadyH.nil
        (refine step_push rfl (.tmp 16) (.tmp 20) 22 23 (.slice none 0 0) 24 rfl Try.underlying22 infoKL rfl bo n co olds rfl hlo (fun j u hu => cell_of (unhide HHO j u hu) ((unhide HY3).block bo hbo0)) (there_keep (unhide HTH) ((unhide HY3).block bo hbo0)) hle (Nat.lt_of_lt_of_le hbo0 (unhide HY3).size) w2.heap.size (.slice (some ⟨G, 0, none⟩) k k) rfl (unhide HN3) rfl hn5 (by decide) ?_; intro g4 c4 w4 hp4; have hfin := unhide HFN V3 w4 G g4 c4 (unhide HY3) (unhide HG3) (unhide HGL) hp4; have HS4 := hide hfin.1; have HS5 := hide hfin.2.1; obtain ⟨x4, q4, f4⟩ := hfin.2.2.1; have HBN := hide hfin.2.2.2; clear hfin hp4)
        refine hK.out _ _ (unhide HS4) (fun hHeld => ?_)
        clear hK K
        try simp only [Act.put, List.setIfInBounds_toArray, List.set_cons_zero, List.set_cons_succ]
        refine wpAnyH_take (i := 17) (oi := { dst := some 22, op := Op.nilCheck (Operand.tmp 8), type := 0, pos := "cycle.go:118", after := #[{ on := 3, ground := Ground.data }, { on := 0, ground := Ground.phase }, { on := 1, ground := Ground.phase }, { on := 2, ground := Ground.phase }, { on := 3, ground := Ground.phase }, { on := 4, ground := Ground.phase }, { on := 5, ground := Ground.phase }, { on := 6, ground := Ground.phase }, { on := 7, ground := Ground.phase }, { on := 8, ground := Ground.phase }, { on := 9, ground := Ground.phase }, { on := 10, ground := Ground.phase }, { on := 11, ground := Ground.phase }, { on := 12, ground := Ground.phase }, { on := 13, ground := Ground.phase }, { on := 14, ground := Ground.phase }, { on := 15, ground := Ground.phase }, { on := 16, ground := Ground.phase }], guard := none }) (v := ?v17c) rfl (by kernel_rfl) (by kernel_rfl) (by kernel_rfl) (fun _ _ _ h => h) (Or.inl ⟨by rfl, ?y17c⟩) (by assumption) ?r17c
        case y17c => (intro w hSw; (try dsimp only at hSw); go_simp; try with_reducible rfl)
        try simp only [Act.put, List.setIfInBounds_toArray, List.set_cons_zero, List.set_cons_succ]
        refine wpAnyH_take (i := 18) (oi := { dst := some 23, op := Op.fieldAddr 62 (Operand.tmp 22) 0, type := 0, pos := "cycle.go:118", after := #[{ on := 17, ground := Ground.data }, { on := 0, ground := Ground.phase }, { on := 1, ground := Ground.phase }, { on := 2, ground := Ground.phase }, { on := 3, ground := Ground.phase }, { on := 4, ground := Ground.phase }, { on := 5, ground := Ground.phase }, { on := 6, ground := Ground.phase }, { on := 7, ground := Ground.phase }, { on := 8, ground := Ground.phase }, { on := 9, ground := Ground.phase }, { on := 10, ground := Ground.phase }, { on := 11, ground := Ground.phase }, { on := 12, ground := Ground.phase }, { on := 13, ground := Ground.phase }, { on := 14, ground := Ground.phase }, { on := 15, ground := Ground.phase }, { on := 16, ground := Ground.phase }], guard := none }) (v := ?v18c) rfl (by kernel_rfl) (by kernel_rfl) (by kernel_rfl) (fun _ _ _ h => h) (Or.inl ⟨by rfl, ?y18c⟩) (by assumption) ?r18c
        case y18c => (intro w hSw; (try dsimp only at hSw); go_simp; try with_reducible rfl)
        try simp only [Act.put, List.setIfInBounds_toArray, List.set_cons_zero, List.set_cons_succ]
        refine wpAnyH_take (i := 19) (oi := { dst := some 24, op := Op.fieldAddr 25 (Operand.tmp 23) 0, type := 0, pos := "cycle.go:118", after := #[{ on := 18, ground := Ground.data }, { on := 0, ground := Ground.phase }, { on := 1, ground := Ground.phase }, { on := 2, ground := Ground.phase }, { on := 3, ground := Ground.phase }, { on := 4, ground := Ground.phase }, { on := 5, ground := Ground.phase }, { on := 6, ground := Ground.phase }, { on := 7, ground := Ground.phase }, { on := 8, ground := Ground.phase }, { on := 9, ground := Ground.phase }, { on := 10, ground := Ground.phase }, { on := 11, ground := Ground.phase }, { on := 12, ground := Ground.phase }, { on := 13, ground := Ground.phase }, { on := 14, ground := Ground.phase }, { on := 15, ground := Ground.phase }, { on := 16, ground := Ground.phase }], guard := none }) (v := ?v19c) rfl (by kernel_rfl) (by kernel_rfl) (by kernel_rfl) (fun _ _ _ h => h) (Or.inl ⟨by rfl, ?y19c⟩) (by assumption) ?r19c
        case y19c => (intro w hSw; (try dsimp only at hSw); go_simp; try with_reducible rfl)
        try simp only [Act.put, List.setIfInBounds_toArray, List.set_cons_zero, List.set_cons_succ]
        refine wpAnyH_ready (rs := [20]) (by kernel_rfl) (by simp) ?_
        refine AllReadyH.cons (o := { dst := none, op := Op.store 22 (Operand.tmp 24) (Operand.tmp 21), type := 0, pos := "cycle.go:118", after := #[{ on := 19, ground := Ground.data }, { on := 16, ground := Ground.data }, { on := 16, ground := Ground.chain }, { on := 0, ground := Ground.phase }, { on := 1, ground := Ground.phase }, { on := 2, ground := Ground.phase }, { on := 3, ground := Ground.phase }, { on := 4, ground := Ground.phase }, { on := 5, ground := Ground.phase }, { on := 6, ground := Ground.phase }, { on := 7, ground := Ground.phase }, { on := 8, ground := Ground.phase }, { on := 9, ground := Ground.phase }, { on := 10, ground := Ground.phase }, { on := 11, ground := Ground.phase }, { on := 12, ground := Ground.phase }, { on := 13, ground := Ground.phase }, { on := 14, ground := Ground.phase }, { on := 15, ground := Ground.phase }, { on := 16, ground := Ground.phase }], guard := none }) rfl (fun K hK => ?_) AllReadyH.nil
        go_simp
        refine hK.out _ _ (unhide HS5) (fun hHeld => ?_)
        clear hK K
        try simp only [Act.put, List.setIfInBounds_toArray, List.set_cons_zero, List.set_cons_succ]
        refine wpAnyH_done (by kernel_rfl) ?_ _
        refine NoPanic.normal ?_
        exact unhide HK _ _ _ _ _ _ _ _ _ _ _ _ _ _ _ _ _ _ _ _ g4 c4 G _ (unhide HBN)
      · refine step_run rfl (val_run (by simp only [List.map_toArray, List.map_cons, List.map_nil]; exact unhide HBS3)) ?_
        refine hK.out _ _ (unhide HS3) (fun hHeld => ?_)
        clear hK K
        try simp only [Act.put, List.setIfInBounds_toArray, List.set_cons_zero, List.set_cons_succ]
        refine wpAnyH_ready (rs := [11]) (by kernel_rfl) (by simp) ?_
        refine AllReadyH.cons (o := { dst := some 16, op := Op.load 22 (Operand.tmp 15), type := 22, pos := "cycle.go:118", after := #[{ on := 10, ground := Ground.data }], guard := none }) rfl (fun K hK => ?_) AllReadyH.nil
        go_simp
        refine hK.out _ _ (unhide HS3) (fun hHeld => ?_)
        clear hK K
        try simp only [Act.put, List.setIfInBounds_toArray, List.set_cons_zero, List.set_cons_succ]
        refine wpAnyH_ready (rs := [16]) (by kernel_rfl) (by simp) ?_
        refine AllReadyH.cons (o := { dst := some 21, op := Op.call { callee := Callee.builtin Builtin.append, args := #[Operand.tmp 16, Operand.tmp 20], argTypes := #[22, 22] }, type := 22, pos := "cycle.go:118", after := #[{ on := 11, ground := Ground.data }, { on := 15, ground := Ground.data }, { on := 14, ground := Ground.chain }], guard := none }) rfl (fun K hK => ?_) AllReadyH.nil
        (refine step_push rfl (.tmp 16) (.tmp 20) 22 23 (.slice none 0 0) 24 rfl Try.underlying22 infoKL rfl bo n co olds rfl hlo (fun j u hu => cell_of (unhide HHO j u hu) ((unhide HY3).block bo hbo0)) (there_keep (unhide HTH) ((unhide HY3).block bo hbo0)) hle (Nat.lt_of_lt_of_le hbo0 (unhide HY3).size) w2.heap.size (.slice (some ⟨G, 0, none⟩) k k) rfl (unhide HN3) rfl hn5 (by decide) ?_; intro g4 c4 w4 hp4; have hfin := unhide HFN V3 w4 G g4 c4 (unhide HY3) (unhide HG3) (unhide HGL) hp4; have HS4 := hide hfin.1; have HS5 := hide hfin.2.1; obtain ⟨x4, q4, f4⟩ := hfin.2.2.1; have HBN := hide hfin.2.2.2; clear hfin hp4)
        refine hK.out _ _ (unhide HS4) (fun hHeld => ?_)
        clear hK K
        try simp only [Act.put, List.setIfInBounds_toArray, List.set_cons_zero, List.set_cons_succ]
        refine wpAnyH_take (i := 17) (oi := { dst := some 22, op := Op.nilCheck (Operand.tmp 8), type := 0, pos := "cycle.go:118", after := #[{ on := 3, ground := Ground.data }, { on := 0, ground := Ground.phase }, { on := 1, ground := Ground.phase }, { on := 2, ground := Ground.phase }, { on := 3, ground := Ground.phase }, { on := 4, ground := Ground.phase }, { on := 5, ground := Ground.phase }, { on := 6, ground := Ground.phase }, { on := 7, ground := Ground.phase }, { on := 8, ground := Ground.phase }, { on := 9, ground := Ground.phase }, { on := 10, ground := Ground.phase }, { on := 11, ground := Ground.phase }, { on := 12, ground := Ground.phase }, { on := 13, ground := Ground.phase }, { on := 14, ground := Ground.phase }, { on := 15, ground := Ground.phase }, { on := 16, ground := Ground.phase }], guard := none }) (v := ?v17d) rfl (by kernel_rfl) (by kernel_rfl) (by kernel_rfl) (fun _ _ _ h => h) (Or.inl ⟨by rfl, ?y17d⟩) (by assumption) ?r17d
        case y17d => (intro w hSw; (try dsimp only at hSw); go_simp; try with_reducible rfl)
        try simp only [Act.put, List.setIfInBounds_toArray, List.set_cons_zero, List.set_cons_succ]
        refine wpAnyH_take (i := 18) (oi := { dst := some 23, op := Op.fieldAddr 62 (Operand.tmp 22) 0, type := 0, pos := "cycle.go:118", after := #[{ on := 17, ground := Ground.data }, { on := 0, ground := Ground.phase }, { on := 1, ground := Ground.phase }, { on := 2, ground := Ground.phase }, { on := 3, ground := Ground.phase }, { on := 4, ground := Ground.phase }, { on := 5, ground := Ground.phase }, { on := 6, ground := Ground.phase }, { on := 7, ground := Ground.phase }, { on := 8, ground := Ground.phase }, { on := 9, ground := Ground.phase }, { on := 10, ground := Ground.phase }, { on := 11, ground := Ground.phase }, { on := 12, ground := Ground.phase }, { on := 13, ground := Ground.phase }, { on := 14, ground := Ground.phase }, { on := 15, ground := Ground.phase }, { on := 16, ground := Ground.phase }], guard := none }) (v := ?v18d) rfl (by kernel_rfl) (by kernel_rfl) (by kernel_rfl) (fun _ _ _ h => h) (Or.inl ⟨by rfl, ?y18d⟩) (by assumption) ?r18d
        case y18d => (intro w hSw; (try dsimp only at hSw); go_simp; try with_reducible rfl)
        try simp only [Act.put, List.setIfInBounds_toArray, List.set_cons_zero, List.set_cons_succ]
        refine wpAnyH_take (i := 19) (oi := { dst := some 24, op := Op.fieldAddr 25 (Operand.tmp 23) 0, type := 0, pos := "cycle.go:118", after := #[{ on := 18, ground := Ground.data }, { on := 0, ground := Ground.phase }, { on := 1, ground := Ground.phase }, { on := 2, ground := Ground.phase }, { on := 3, ground := Ground.phase }, { on := 4, ground := Ground.phase }, { on := 5, ground := Ground.phase }, { on := 6, ground := Ground.phase }, { on := 7, ground := Ground.phase }, { on := 8, ground := Ground.phase }, { on := 9, ground := Ground.phase }, { on := 10, ground := Ground.phase }, { on := 11, ground := Ground.phase }, { on := 12, ground := Ground.phase }, { on := 13, ground := Ground.phase }, { on := 14, ground := Ground.phase }, { on := 15, ground := Ground.phase }, { on := 16, ground := Ground.phase }], guard := none }) (v := ?v19d) rfl (by kernel_rfl) (by kernel_rfl) (by kernel_rfl) (fun _ _ _ h => h) (Or.inl ⟨by rfl, ?y19d⟩) (by assumption) ?r19d
        case y19d => (intro w hSw; (try dsimp only at hSw); go_simp; try with_reducible rfl)
        try simp only [Act.put, List.setIfInBounds_toArray, List.set_cons_zero, List.set_cons_succ]
        refine wpAnyH_ready (rs := [20]) (by kernel_rfl) (by simp) ?_
        refine AllReadyH.cons (o := { dst := none, op := Op.store 22 (Operand.tmp 24) (Operand.tmp 21), type := 0, pos := "cycle.go:118", after := #[{ on := 19, ground := Ground.data }, { on := 16, ground := Ground.data }, { on := 16, ground := Ground.chain }, { on := 0, ground := Ground.phase }, { on := 1, ground := Ground.phase }, { on := 2, ground := Ground.phase }, { on := 3, ground := Ground.phase }, { on := 4, ground := Ground.phase }, { on := 5, ground := Ground.phase }, { on := 6, ground := Ground.phase }, { on := 7, ground := Ground.phase }, { on := 8, ground := Ground.phase }, { on := 9, ground := Ground.phase }, { on := 10, ground := Ground.phase }, { on := 11, ground := Ground.phase }, { on := 12, ground := Ground.phase }, { on := 13, ground := Ground.phase }, { on := 14, ground := Ground.phase }, { on := 15, ground := Ground.phase }, { on := 16, ground := Ground.phase }], guard := none }) rfl (fun K hK => ?_) AllReadyH.nil
        go_simp
        refine hK.out _ _ (unhide HS5) (fun hHeld => ?_)
        clear hK K
        try simp only [Act.put, List.setIfInBounds_toArray, List.set_cons_zero, List.set_cons_succ]
        refine wpAnyH_done (by kernel_rfl) ?_ _
        refine NoPanic.normal ?_
        exact unhide HK _ _ _ _ _ _ _ _ _ _ _ _ _ _ _ _ _ _ _ _ g4 c4 G _ (unhide HBN)
end Go.Proofs.Ytmkehjncnaokoaa
