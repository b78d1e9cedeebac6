/-
  pipe.waits.
-/
import Derived.Test.YtijogcjocandcaaE
namespace Go.Proofs.Ytijogcjocandcaa
open Go.RowKit

/-- Does the task wait? -/
def isOfP (x : Int) (p : Po) : Bool := p.1 == x
def waitsL (P : Pp) (x : Int) : Bool := P.ss.any (isOfP x) || P.gs.any (isOfP x)

theorem isof_calls {w : World} {g : Nat} {x : Int} (hg : w.heap[g]? = some (.cells #[.int .i64 x] 3 (0, 0))) : ∀ W y, Below w.heap.size w W → Calls Try.prog 53 (#[.agg #[.int .i64 y.1, .int .i64 y.2.1, .int .i64 y.2.2]] ++ #[.pointer (some ⟨g, 0, none⟩)]) W fun e w' => e = .returned (.bool (isOfP x y)) ∧ Below W.heap.size W w' :=
  fun W y hW => isof53_any W g x y.1 y.2.1 y.2.2 (keep_below hg hW)

theorem containsOf_any (w : World) (v : Value) (xs : List Po) (h : IsL KP w v xs) (hn : xs.length ≤ maxLen) (g : Nat) (x : Int) (hg : w.heap[g]? = some (.cells #[.int .i64 x] 3 (0, 0))) :
    Calls Try.prog 35 #[v, .func (.func 53) #[] #[.pointer (some ⟨g, 0, none⟩)]] w fun e w' => e = .returned (.bool (xs.any (isOfP x))) ∧ Below w.heap.size w w' :=
  containsFunc_any w v xs h hn 53 enters53 _ _ (isof_calls hg)

set_option maxRecDepth 100000 in
set_option maxHeartbeats 1000000 in
theorem waits_false (w : World) (v : Value) (P : Pp) (x : Int) (h : IsPipe w v P) (hs : Short P) (hf : P.ss.any (isOfP x) = false) :
    Calls Try.prog 44 #[v, .int .i64 x] w fun e w' => e = .returned (.bool (P.gs.any (isOfP x))) ∧ Below w.heap.size w w' := by
  obtain ⟨cap, items, closed, ss, gs⟩ := P
  obtain ⟨a1, c1, a2, c2, a3, c3, rfl, -, hS, hG⟩ := h.form
  obtain ⟨h1, h2, h3⟩ := hs
  simp only at h1 h2 h3 hS hG hf h ⊢
  have HCS : Hid (∀ W g, Below w.heap.size w W → W.heap[g]? = some (.cells #[.int .i64 x] 3 (0, 0)) → Calls Try.prog 35 #[.slice a2 ss.length c2, .func (.func 53) #[] #[.pointer (some ⟨g, 0, none⟩)]] W fun e w' => e = .returned (.bool false) ∧ Below W.heap.size W w') := fun W g hW hg => by
    rw [← hf]; exact containsOf_any W _ ss (hS.below hW) (by unfold maxLen; omega) g x hg
  have HCG : Hid (∀ W g, Below w.heap.size w W → W.heap[g]? = some (.cells #[.int .i64 x] 3 (0, 0)) → Calls Try.prog 35 #[.slice a3 gs.length c3, .func (.func 53) #[] #[.pointer (some ⟨g, 0, none⟩)]] W fun e w' => e = .returned (.bool (gs.any (isOfP x))) ∧ Below W.heap.size W w') := fun W g hW hg =>
    containsOf_any W _ gs (hG.below hW) (by unfold maxLen; omega) g x hg
  obtain ⟨r, hr⟩ : ∃ r, gs.any (isOfP x) = r := ⟨_, rfl⟩
  rw [hr] at HCG ⊢
  generalize items.length = n1 at *
  generalize ss.length = n2 at *
  generalize gs.length = n3 at *
  clear h hS hG hf hr items ss gs
  have HW0 := hide ((Below.refl w.heap.size w).alloc (Nat.le_refl _) (.cells #[.int .i64 cap, .slice a1 n1 c1, .bool closed, .slice a2 n2 c2, .slice a3 n3 c3] 25))
  have HB0 := hide (new_block w (.cells #[.int .i64 cap, .slice a1 n1 c1, .bool closed, .slice a2 n2 c2, .slice a3 n3 c3] 25))
  go_enter Try.func44, Try.ntmps44
  go_upto_region 1 with fail
  obtain ⟨W0, e0⟩ : ∃ W, w.alloc (.cells #[.int .i64 cap, .slice a1 n1 c1, .bool closed, .slice a2 n2 c2, .slice a3 n3 c3] 25) = W := ⟨_, rfl⟩
  rw [e0] at HW0 HB0 ⊢
  clear e0
  have HSS : Hid (∀ W, Below W0.heap.size W0 W → (W.cell? ⟨w.heap.size, 3, none⟩ = some (.slice a2 n2 c2) ∧ W.cell? ⟨w.heap.size, 4, none⟩ = some (.slice a3 n3 c3)) ∧ Below W0.heap.size W0 W) := fun W hW => by
    obtain ⟨⟨-, -, -, k3, k4⟩, -, -⟩ := block5 (keep_below (unhide HB0) hW)
    exact ⟨⟨k3, k4⟩, hW⟩
  obtain ⟨⟨k3, k4⟩, -⟩ := unhide HSS _ (Below.refl _ _)
  go_wp2_with fail
  go_region_held3 (fun W => (W.cell? ⟨w.heap.size, 3, none⟩ = some (.slice a2 n2 c2) ∧ W.cell? ⟨w.heap.size, 4, none⟩ = some (.slice a3 n3 c3)) ∧ Below W0.heap.size W0 W)
    (first | with_reducible exact unhide HSS _ (Below.refl _ _).drew | with_reducible exact unhide HSS _ (unhide HX))
    (first
     | (go_at_call 46; refine (isOf_any _ _).mono ?_; rintro e w1 ⟨rfl, hg1, hb1⟩; have HX : Hid (Below W0.heap.size W0 w1) := Below.next (by go_split_ands; assumption) hb1 (Nat.le_refl _); have HG := hide hg1; clear hg1 hb1)
     | (go_at_call 35; refine (unhide HCS _ _ (Below.next (unhide HW0) (unhide HX) (Nat.le_refl _)) (unhide HG)).mono ?_; rintro e w1 ⟨rfl, hb1⟩; have HX2 := hide (Below.next (unhide HX) hb1 (Nat.le_refl _)); clear HX; have HX := HX2; clear HX2 hb1)
     | (go_at_call 35; refine (unhide HCG _ _ (Below.next (unhide HW0) (unhide HX) (Nat.le_refl _)) (unhide HG)).mono ?_; rintro e w1 ⟨rfl, hb1⟩; have HX2 := hide (Below.next (unhide HX) hb1 (Nat.le_refl _)); clear HX; have HX := HX2; clear HX2 hb1))
  go_wp2_with fail
  go_ret
  exact ⟨rfl, Below.next (unhide HW0) (unhide HX) (Nat.le_refl _)⟩
set_option maxRecDepth 100000 in
set_option maxHeartbeats 1000000 in
theorem waits_true (w : World) (v : Value) (P : Pp) (x : Int) (h : IsPipe w v P) (hs : Short P) (hf : P.ss.any (isOfP x) = true) :
    Calls Try.prog 44 #[v, .int .i64 x] w fun e w' => e = .returned (.bool true) ∧ Below w.heap.size w w' := by
  obtain ⟨cap, items, closed, ss, gs⟩ := P
  obtain ⟨a1, c1, a2, c2, a3, c3, rfl, -, hS, hG⟩ := h.form
  obtain ⟨h1, h2, h3⟩ := hs
  simp only at h1 h2 h3 hS hG hf h ⊢
  have HCS : Hid (∀ W g, Below w.heap.size w W → W.heap[g]? = some (.cells #[.int .i64 x] 3 (0, 0)) → Calls Try.prog 35 #[.slice a2 ss.length c2, .func (.func 53) #[] #[.pointer (some ⟨g, 0, none⟩)]] W fun e w' => e = .returned (.bool true) ∧ Below W.heap.size W w') := fun W g hW hg => by
    rw [← hf]; exact containsOf_any W _ ss (hS.below hW) (by unfold maxLen; omega) g x hg
  generalize items.length = n1 at *
  generalize ss.length = n2 at *
  generalize gs.length = n3 at *
  clear h hS hG hf items ss gs
  have HW0 := hide ((Below.refl w.heap.size w).alloc (Nat.le_refl _) (.cells #[.int .i64 cap, .slice a1 n1 c1, .bool closed, .slice a2 n2 c2, .slice a3 n3 c3] 25))
  have HB0 := hide (new_block w (.cells #[.int .i64 cap, .slice a1 n1 c1, .bool closed, .slice a2 n2 c2, .slice a3 n3 c3] 25))
  go_enter Try.func44, Try.ntmps44
  go_upto_region 1 with fail
  obtain ⟨W0, e0⟩ : ∃ W, w.alloc (.cells #[.int .i64 cap, .slice a1 n1 c1, .bool closed, .slice a2 n2 c2, .slice a3 n3 c3] 25) = W := ⟨_, rfl⟩
  rw [e0] at HW0 HB0 ⊢
  clear e0
  have HSS : Hid (∀ W, Below W0.heap.size W0 W → (W.cell? ⟨w.heap.size, 3, none⟩ = some (.slice a2 n2 c2) ∧ W.cell? ⟨w.heap.size, 4, none⟩ = some (.slice a3 n3 c3)) ∧ Below W0.heap.size W0 W) := fun W hW => by
    obtain ⟨⟨-, -, -, k3, k4⟩, -, -⟩ := block5 (keep_below (unhide HB0) hW)
    exact ⟨⟨k3, k4⟩, hW⟩
  refine wp_region_held_drew (S := (fun W => (W.cell? ⟨w.heap.size, 3, none⟩ = some (.slice a2 n2 c2) ∧ W.cell? ⟨w.heap.size, 4, none⟩ = some (.slice a3 n3 c3)) ∧ Below W0.heap.size W0 W)) (by kernel_rfl) (unhide HSS _ (Below.refl _ _).drew) (fun hHeld => ?_)
  refine wpAnyH_take (i := 0) (oi := { dst := some 5, op := Op.fieldAddr 25 (Operand.tmp 2) 3, type := 0, pos := "posts.go:33", after := #[], guard := none }) (v := ?v0) rfl (by kernel_rfl) (by kernel_rfl) (by kernel_rfl) (fun _ _ _ h => h) (Or.inl ⟨by rfl, ?y0⟩) (by assumption) ?r0
  case y0 => (intro w hSw; (try dsimp only at hSw); go_simp; try with_reducible rfl)
  try simp only [Act.put, List.setIfInBounds_toArray, List.set_cons_zero, List.set_cons_succ]
  refine wpAnyH_take (i := 1) (oi := { dst := some 6, op := Op.load 23 (Operand.tmp 5), type := 23, pos := "posts.go:33", after := #[{ on := 0, ground := Ground.data }], guard := none }) (v := ?v1) rfl (by kernel_rfl) (by kernel_rfl) (by kernel_rfl) (fun _ _ _ h => h) (Or.inl ⟨by rfl, ?y1⟩) (by assumption) ?r1
  case y1 => (intro w hSw; (try dsimp only at hSw); go_simp; try with_reducible rfl)
  try simp only [Act.put, List.setIfInBounds_toArray, List.set_cons_zero, List.set_cons_succ]
  refine wpAnyH_take (i := 2) (oi := { dst := some 7, op := Op.move (Operand.tmp 1), type := 3, pos := "posts.go:33", after := #[], guard := none }) (v := ?v2) rfl (by kernel_rfl) (by kernel_rfl) (by kernel_rfl) (fun _ _ _ h => h) (Or.inl ⟨by rfl, ?y2⟩) (by assumption) ?r2
  case y2 => (intro w hSw; (try dsimp only at hSw); go_simp; try with_reducible rfl)
  try simp only [Act.put, List.setIfInBounds_toArray, List.set_cons_zero, List.set_cons_succ]
  refine wpAnyH_ready (rs := [3]) (by kernel_rfl) (by simp) ?_
  refine AllReadyH.cons (o := { dst := some 8, op := Op.call { callee := Callee.value (Operand.func 46), args := #[Operand.tmp 7], argTypes := #[3] }, type := 70, pos := "posts.go:33", after := #[{ on := 2, ground := Ground.data }], guard := none }) rfl (fun K hK => ?_) AllReadyH.nil
  go_simp
  (go_at_call 46; refine (isOf_any _ _).mono ?_; rintro e w1 ⟨rfl, hg1, hb1⟩; have HX : Hid (Below W0.heap.size W0 w1) := Below.next (Below.refl _ _).drew hb1 (Nat.le_refl _); have HG := hide hg1; clear hg1 hb1)
  refine hK.out _ _ (unhide HSS _ (unhide HX)) (fun hHeld => ?_)
  clear hK K
  try simp only [Act.put, List.setIfInBounds_toArray, List.set_cons_zero, List.set_cons_succ]
  refine wpAnyH_ready (rs := [4]) (by kernel_rfl) (by simp) ?_
  refine AllReadyH.cons (o := { dst := some 9, op := Op.call { callee := Callee.value (Operand.func 35), args := #[Operand.tmp 6, Operand.tmp 8], argTypes := #[23, 70] }, type := 4, pos := "posts.go:33", after := #[{ on := 1, ground := Ground.data }, { on := 3, ground := Ground.data }, { on := 3, ground := Ground.chain }], guard := none }) rfl (fun K hK => ?_) AllReadyH.nil
  go_simp
  (go_at_call 35; refine (unhide HCS _ _ (Below.next (unhide HW0) (unhide HX) (Nat.le_refl _)) (unhide HG)).mono ?_; rintro e w2 ⟨rfl, hb1⟩; have HX2 := hide (Below.next (unhide HX) hb1 (Nat.le_refl _)); clear hb1)
  refine hK.out _ _ (unhide HSS _ (unhide HX2)) (fun hHeld => ?_)
  clear hK K
  try simp only [Act.put, List.setIfInBounds_toArray, List.set_cons_zero, List.set_cons_succ]
  refine wpAnyH_take (i := 5) (oi := { dst := some 10, op := Op.move (Operand.tmp 9), type := 4, pos := "posts.go:33", after := #[{ on := 4, ground := Ground.data }, { on := 4, ground := Ground.chain }], guard := none }) (v := ?v5) rfl (by kernel_rfl) (by kernel_rfl) (by kernel_rfl) (fun _ _ _ h => h) (Or.inl ⟨by rfl, ?y5⟩) (by assumption) ?r5
  case y5 => (intro w hSw; (try dsimp only at hSw); go_simp; try with_reducible rfl)
  try simp only [Act.put, List.setIfInBounds_toArray, List.set_cons_zero, List.set_cons_succ]
  refine wpAnyH_take (i := 6) (oi := { dst := some 11, op := Op.fieldAddr 25 (Operand.tmp 2) 4, type := 0, pos := "posts.go:33", after := #[{ on := 5, ground := Ground.guard }], guard := some (5, false) }) (v := undef) rfl (by kernel_rfl) (by kernel_rfl) (by kernel_rfl) (fun _ _ _ h => h) (Or.inr ⟨by rfl, rfl⟩) (by assumption) ?_
  try simp only [Act.put, List.setIfInBounds_toArray, List.set_cons_zero, List.set_cons_succ]
  refine wpAnyH_take (i := 7) (oi := { dst := some 12, op := Op.load 23 (Operand.tmp 11), type := 23, pos := "posts.go:33", after := #[{ on := 6, ground := Ground.data }, { on := 5, ground := Ground.guard }], guard := some (5, false) }) (v := undef) rfl (by kernel_rfl) (by kernel_rfl) (by kernel_rfl) (fun _ _ _ h => h) (Or.inr ⟨by rfl, rfl⟩) (by assumption) ?_
  try simp only [Act.put, List.setIfInBounds_toArray, List.set_cons_zero, List.set_cons_succ]
  refine wpAnyH_take (i := 8) (oi := { dst := some 13, op := Op.move (Operand.tmp 1), type := 3, pos := "posts.go:33", after := #[{ on := 5, ground := Ground.guard }], guard := some (5, false) }) (v := undef) rfl (by kernel_rfl) (by kernel_rfl) (by kernel_rfl) (fun _ _ _ h => h) (Or.inr ⟨by rfl, rfl⟩) (by assumption) ?_
  try simp only [Act.put, List.setIfInBounds_toArray, List.set_cons_zero, List.set_cons_succ]
  refine wpAnyH_take (i := 9) (oi := { dst := some 14, op := Op.call { callee := Callee.value (Operand.func 46), args := #[Operand.tmp 13], argTypes := #[3] }, type := 70, pos := "posts.go:33", after := #[{ on := 8, ground := Ground.data }, { on := 5, ground := Ground.chain }, { on := 5, ground := Ground.guard }], guard := some (5, false) }) (v := undef) rfl (by kernel_rfl) (by kernel_rfl) (by kernel_rfl) (fun _ _ _ h => h) (Or.inr ⟨by rfl, rfl⟩) (by assumption) ?_
  try simp only [Act.put, List.setIfInBounds_toArray, List.set_cons_zero, List.set_cons_succ]
  refine wpAnyH_take (i := 10) (oi := { dst := some 15, op := Op.call { callee := Callee.value (Operand.func 35), args := #[Operand.tmp 12, Operand.tmp 14], argTypes := #[23, 70] }, type := 4, pos := "posts.go:33", after := #[{ on := 7, ground := Ground.data }, { on := 9, ground := Ground.data }, { on := 9, ground := Ground.chain }, { on := 5, ground := Ground.guard }], guard := some (5, false) }) (v := undef) rfl (by kernel_rfl) (by kernel_rfl) (by kernel_rfl) (fun _ _ _ h => h) (Or.inr ⟨by rfl, rfl⟩) (by assumption) ?_
  try simp only [Act.put, List.setIfInBounds_toArray, List.set_cons_zero, List.set_cons_succ]
  refine wpAnyH_take (i := 11) (oi := { dst := some 16, op := Op.pick (Operand.tmp 10) (Operand.const (Value.bool true)) (Operand.tmp 15), type := 4, pos := "posts.go:33", after := #[{ on := 5, ground := Ground.data }, { on := 10, ground := Ground.data }], guard := none }) (v := ?v11) rfl (by kernel_rfl) (by kernel_rfl) (by kernel_rfl) (fun _ _ _ h => h) (Or.inl ⟨by rfl, ?y11⟩) (by assumption) ?r11
  case y11 => (intro w hSw; (try dsimp only at hSw); go_simp; try with_reducible rfl)
  try simp only [Act.put, List.setIfInBounds_toArray, List.set_cons_zero, List.set_cons_succ]
  refine wpAnyH_take (i := 12) (oi := { dst := some 4, op := Op.assign (Operand.tmp 16), type := 4, pos := "posts.go:33", after := #[{ on := 11, ground := Ground.data }, { on := 10, ground := Ground.chain }, { on := 0, ground := Ground.phase }, { on := 1, ground := Ground.phase }, { on := 2, ground := Ground.phase }, { on := 3, ground := Ground.phase }, { on := 4, ground := Ground.phase }, { on := 5, ground := Ground.phase }, { on := 6, ground := Ground.phase }, { on := 7, ground := Ground.phase }, { on := 8, ground := Ground.phase }, { on := 9, ground := Ground.phase }, { on := 10, ground := Ground.phase }, { on := 11, ground := Ground.phase }], guard := none }) (v := ?v12) rfl (by kernel_rfl) (by kernel_rfl) (by kernel_rfl) (fun _ _ _ h => h) (Or.inl ⟨by rfl, ?y12⟩) (by assumption) ?r12
  case y12 => (intro w hSw; (try dsimp only at hSw); go_simp; try with_reducible rfl)
  try simp only [Act.put, List.setIfInBounds_toArray, List.set_cons_zero, List.set_cons_succ]
  refine wpAnyH_done (by kernel_rfl) ?_ _
  go_wp2_with fail
  go_ret
  exact ⟨rfl, Below.next (unhide HW0) (unhide HX2) (Nat.le_refl _)⟩

theorem waits_any (w : World) (v : Value) (P : Pp) (x : Int) (h : IsPipe w v P) (hs : Short P) :
    Calls Try.prog 44 #[v, .int .i64 x] w fun e w' => e = .returned (.bool (waitsL P x)) ∧ Below w.heap.size w w' := by
  unfold waitsL
  cases hf : P.ss.any (isOfP x) with
  | false => exact waits_false w v P x h hs hf
  | true => exact waits_true w v P x h hs hf
end Go.Proofs.Ytijogcjocandcaa
