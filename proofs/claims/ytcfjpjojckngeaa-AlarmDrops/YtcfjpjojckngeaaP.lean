/-
  taskmilllaw.AlarmDrops returns true.
-/
import Derived.Test.YtcfjpjojckngeaaO
namespace Go.Proofs.Ytcfjpjojckngeaa
open Go.RowKit

/-- The law's variables: t, f, w; w4 is the world ahead of w's. -/
structure DropVars (w w4 : World) (s6 : Nat) (x y f0 f1 g0 g1 : Int) (W : World) : Prop where
  b6 : w4.heap[s6]? = some (.cells #[.int .i64 x, .int .i64 y] 24 (0, 0))
  b7 : w4.heap[s6 + 1]? = some (.cells #[.int .i64 f0, .int .i64 f1] 28 (0, 0))
  b8 : W.heap[w4.heap.size]? = some (.cells #[.int .i64 g0, .int .i64 g1] 28 (0, 0))
  old : Below w.heap.size w w4
  below : Below w4.heap.size w4 W

section
variable {w w4 : World} {s6 : Nat} {x y f0 f1 g0 g1 : Int} {W : World}
theorem DropVars.keep (h : DropVars w w4 s6 x y f0 f1 g0 g1 W) {W' : World} (hb : Below W.heap.size W W') : DropVars w w4 s6 x y f0 f1 g0 g1 W' :=
  ⟨h.b6, h.b7, keep_below h.b8 hb, h.old, h.below.trans (hb.mono h.below.size)⟩
theorem DropVars.set (h : DropVars w w4 s6 x y f0 f1 g0 g1 W) (a b : Int) : DropVars w w4 s6 x y f0 f1 a b ((W.setCell ⟨w4.heap.size, 0, none⟩ (.int .i64 a)).setCell ⟨w4.heap.size, 1, none⟩ (.int .i64 b)) :=
  ⟨h.b6, h.b7, block2_set h.b8, h.old, (h.below.setCell (p := ⟨w4.heap.size, 0, none⟩) (Nat.le_refl _) _).setCell (p := ⟨w4.heap.size, 1, none⟩) (Nat.le_refl _) _⟩
theorem DropVars.all (h : DropVars w w4 s6 x y f0 f1 g0 g1 W) : Below w.heap.size w W := h.old.trans (h.below.mono h.old.size)
theorem DropVars.cells (h : DropVars w w4 s6 x y f0 f1 g0 g1 W) :
    (W.cell? ⟨s6, 0, none⟩ = some (.int .i64 x) ∧ W.cell? ⟨s6, 1, none⟩ = some (.int .i64 y)) ∧ (W.cell? ⟨s6 + 1, 0, none⟩ = some (.int .i64 f0) ∧ W.cell? ⟨s6 + 1, 1, none⟩ = some (.int .i64 f1)) ∧
    (W.cell? ⟨w4.heap.size, 0, none⟩ = some (.int .i64 g0) ∧ W.cell? ⟨w4.heap.size, 1, none⟩ = some (.int .i64 g1)) ∧ (W.frozen? ⟨w4.heap.size, 0, none⟩ = false ∧ W.frozen? ⟨w4.heap.size, 1, none⟩ = false) :=
  have b6 := block2 (keep_below h.b6 h.below)
  have b7 := block2 (keep_below h.b7 h.below)
  have b8 := block2 h.b8
  ⟨⟨b6.1, b6.2.1⟩, ⟨b7.1, b7.2.1⟩, ⟨b8.1, b8.2.1⟩, b8.2.2.1, b8.2.2.2.1⟩
end
theorem new_block2 (w : World) (o o' : Obj) : ((w.alloc o).alloc o').heap[w.heap.size + 1]? = some o' := by
  have := new_block (w.alloc o) o'
  rw [World.size_alloc] at this
  exact this
theorem drop_vars {w w3 w4 : World} {x y f0 f1 g0 g1 : Int} (h3 : Below w.heap.size w w3)
    (h4 : Below ((w3.alloc (.cells #[.int .i64 x, .int .i64 y] 24)).alloc (.cells #[.int .i64 f0, .int .i64 f1] 28)).heap.size ((w3.alloc (.cells #[.int .i64 x, .int .i64 y] 24)).alloc (.cells #[.int .i64 f0, .int .i64 f1] 28)) w4) :
    DropVars w w4 w3.heap.size x y f0 f1 g0 g1 (w4.alloc (.cells #[.int .i64 g0, .int .i64 g1] 28)) :=
  ⟨keep_below (keep_alloc (new_block w3 _) _) h4, keep_below (new_block2 w3 _ _) h4, new_block w4 _, h3.trans (((below_new2 w3 _ _).trans (h4.mono (by simp; omega))).mono h3.size), (Below.refl _ _).alloc (Nat.le_refl _) _⟩

set_option maxRecDepth 100000 in
set_option maxHeartbeats 1000000 in
theorem drops_long (w : World) (a : Option Addr) (n c : Nat) (i : Int) (hl : 6000 < n) (hm : n ≤ maxLen) :
    Calls Try.prog 4 #[.slice a n c, .int .i64 i] w fun e w' => e = .returned (.bool true) ∧ Below w.heap.size w w' := by
  have hnot : ∀ (x : Bool) (w : World), (Op.unary .not (.bool x)).run Try.prog w = .ok (.bool (!x)) w := fun _ _ => rfl
  unfold maxLen at hm
  have h1 : (6000 : Int) < (n : Int) := by omega
  go_enter Try.func4, Try.ntmps4
  go_wp2_with (go_at_call 8; refine (begun_any _).mono ?_; rintro e w1 ⟨rfl, hb1⟩; have HX1 := hide hb1; clear hb1)
  go_ret
  exact ⟨rfl, unhide HX1⟩

set_option maxRecDepth 100000 in
set_option maxHeartbeats 2000000 in
theorem drops_heap (w : World) (a : Option Addr) (n c : Nat) (i : Int) (ts : List Tm) (hl : ts.length = n) (h : IsTs w (.slice a n c) ts) (hn : n ≤ 6000) (fx fy : Int) (hf : heapF ts = (fx, fy)) (hx : fx ≠ 0) :
    Calls Try.prog 4 #[.slice a n c, .int .i64 i] w fun e w' => e = .returned (.bool true) ∧ Below w.heap.size w w' := by
  have hnot : ∀ (x : Bool) (w : World), (Op.unary .not (.bool x)).run Try.prog w = .ok (.bool (!x)) w := fun _ _ => rfl
  have h1 : ¬ (6000 : Int) < ((n : Nat) : Int) := by omega
  have HOW : Hid (∀ W, Below w.heap.size w W → Calls Try.prog 9 #[.slice a n c] W fun e w' => ∃ a' c', e = .returned (.slice a' (n) c') ∧ Own W.heap.size w' (.slice a' (n) c') ts ∧ Below W.heap.size W w') := fun W hW => by
    have := own_any W _ ts (IsTs.below h hW) (by omega)
    rw [hl] at this
    exact this
  have HHF : Hid (∀ W, Below w.heap.size w W → Calls Try.prog 12 #[.slice a n c] W fun e w' => e = .returned (.agg #[.int .i64 fx, .int .i64 fy]) ∧ Below W.heap.size W w') := fun W hW => by
    have := hfault_any W _ ts (IsTs.below h hW) (by rw [hl]; unfold maxLen; omega)
    rw [hf] at this
    exact this
  have HDR : Hid (∀ W a' c', Own w.heap.size W (.slice a' (n) c') ts → Calls Try.prog 17 #[.slice a' (n) c', .int .i64 i] W fun e w' => e = .returned (.tuple #[.slice none 0 0, .agg #[.int .i64 0, .int .i64 0], .agg #[.int .i64 fx, .int .i64 fy]]) ∧ Below W.heap.size W w') := fun W a' c' hW => by
    exact drop_heap W a' n c' i ts hl hW.ts (by unfold maxLen; omega) fx fy hf hx
  have q1 : (fx == fx) = true := by simp
  have q2 : (fy == fy) = true := by simp
  have q3 : (fx == 0) = false := by simpa using hx
  have q4 : (fx != 0) = true := by simpa using hx
  clear h hf hl hx
  go_enter Try.func4, Try.ntmps4
  go_upto_region 7 with (first
    | (go_at_call 8; refine (begun_any _).mono ?_; rintro e w1 ⟨rfl, hb1⟩; have HX1 := hide hb1; clear hb1)
    | (go_at_call 9; refine (unhide HOW _ (unhide HX1)).mono ?_; rintro e w2 ⟨a2, c2, rfl, ho2, hb2⟩; have HO2 := hide (ho2.base (unhide HX1).size); have HX2 := hide ((unhide HX1).trans (hb2.mono (unhide HX1).size)); clear ho2 hb2)
    | (go_at_call 17; refine (unhide HDR _ _ _ (unhide HO2)).mono ?_; rintro e w3 ⟨rfl, hb3⟩; have HX3 := hide ((unhide HX2).trans (hb3.mono (unhide HX2).size)); clear hb3)
    | (go_at_call 12; refine (unhide HHF _ ((unhide HX3).trans ((below_new2 w3 _ _).mono (unhide HX3).size))).mono ?_; rintro e w4 ⟨rfl, hb4⟩; have HB4 := hide hb4; clear hb4))
  have V6 := hide (drop_vars (g0 := fx) (g1 := fy) (unhide HX3) (unhide HB4))
  obtain ⟨s6, e6⟩ : ∃ s, w3.heap.size = s := ⟨_, rfl⟩
  obtain ⟨W6, eW6⟩ : ∃ W, w4.alloc (.cells #[.int .i64 fx, .int .i64 fy] 28) = W := ⟨_, rfl⟩
  rw [e6, eW6] at V6
  rw [e6, eW6]
  clear e6 eW6 HB4 HX1 HX2 HX3 HO2 HOW HHF HDR
  obtain ⟨⟨x0, x1⟩, ⟨f00, f01⟩, ⟨g00, g01⟩, z0, z1⟩ := (unhide V6).cells
  go_wp2_with fail
  go_ret
  exact ⟨rfl, (unhide V6).all⟩

set_option maxRecDepth 100000 in
set_option maxHeartbeats 2000000 in
theorem drops_neg (w : World) (a : Option Addr) (n c : Nat) (i : Int) (ts : List Tm) (hl : ts.length = n) (h : IsTs w (.slice a n c) ts) (hn : n ≤ 6000) (hf : heapF ts = (0, 0)) (hi : i < 0) :
    Calls Try.prog 4 #[.slice a n c, .int .i64 i] w fun e w' => e = .returned (.bool true) ∧ Below w.heap.size w w' := by
  have hnot : ∀ (x : Bool) (w : World), (Op.unary .not (.bool x)).run Try.prog w = .ok (.bool (!x)) w := fun _ _ => rfl
  have h1 : ¬ (6000 : Int) < ((n : Nat) : Int) := by omega
  have HOW : Hid (∀ W, Below w.heap.size w W → Calls Try.prog 9 #[.slice a n c] W fun e w' => ∃ a' c', e = .returned (.slice a' (n) c') ∧ Own W.heap.size w' (.slice a' (n) c') ts ∧ Below W.heap.size W w') := fun W hW => by
    have := own_any W _ ts (IsTs.below h hW) (by omega)
    rw [hl] at this
    exact this
  have HHF : Hid (∀ W, Below w.heap.size w W → Calls Try.prog 12 #[.slice a n c] W fun e w' => e = .returned (.agg #[.int .i64 0, .int .i64 0]) ∧ Below W.heap.size W w') := fun W hW => by
    have := hfault_any W _ ts (IsTs.below h hW) (by rw [hl]; unfold maxLen; omega)
    rw [hf] at this
    exact this
  have HDR : Hid (∀ W a' c', Own w.heap.size W (.slice a' (n) c') ts → Calls Try.prog 17 #[.slice a' (n) c', .int .i64 i] W fun e w' => e = .returned (.tuple #[.slice none 0 0, .agg #[.int .i64 0, .int .i64 0], .agg #[.int .i64 6, .int .i64 0]]) ∧ Below W.heap.size W w') := fun W a' c' hW => by
    exact drop_neg W a' n c' i ts hl hW.ts (by unfold maxLen; omega) hf hi
  clear h hf hl
  go_enter Try.func4, Try.ntmps4
  go_upto_region 7 with (first
    | (go_at_call 8; refine (begun_any _).mono ?_; rintro e w1 ⟨rfl, hb1⟩; have HX1 := hide hb1; clear hb1)
    | (go_at_call 9; refine (unhide HOW _ (unhide HX1)).mono ?_; rintro e w2 ⟨a2, c2, rfl, ho2, hb2⟩; have HO2 := hide (ho2.base (unhide HX1).size); have HX2 := hide ((unhide HX1).trans (hb2.mono (unhide HX1).size)); clear ho2 hb2)
    | (go_at_call 17; refine (unhide HDR _ _ _ (unhide HO2)).mono ?_; rintro e w3 ⟨rfl, hb3⟩; have HX3 := hide ((unhide HX2).trans (hb3.mono (unhide HX2).size)); clear hb3)
    | (go_at_call 12; refine (unhide HHF _ ((unhide HX3).trans ((below_new2 w3 _ _).mono (unhide HX3).size))).mono ?_; rintro e w4 ⟨rfl, hb4⟩; have HB4 := hide hb4; clear hb4))
  have V6 := hide (drop_vars (g0 := 0) (g1 := 0) (unhide HX3) (unhide HB4))
  obtain ⟨s6, e6⟩ : ∃ s, w3.heap.size = s := ⟨_, rfl⟩
  obtain ⟨W6, eW6⟩ : ∃ W, w4.alloc (.cells #[.int .i64 0, .int .i64 0] 28) = W := ⟨_, rfl⟩
  rw [e6, eW6] at V6
  rw [e6, eW6]
  clear e6 eW6 HB4 HX1 HX2 HX3 HO2 HOW HHF HDR
  obtain ⟨⟨x0, x1⟩, ⟨f00, f01⟩, ⟨g00, g01⟩, z0, z1⟩ := (unhide V6).cells
  go_upto_region 9 with (go_at_call 15; refine (f_any _ _ _).mono ?_; rintro e w7 ⟨rfl, hb7⟩; have V7 := hide ((unhide V6).keep hb7); clear hb7; clear x0 x1 f00 f01 g00 g01 z0 z1; obtain ⟨⟨x0, x1⟩, ⟨f00, f01⟩, ⟨g00, g01⟩, z0, z1⟩ := (unhide V7).cells)
  clear x0 x1 f00 f01 g00 g01 z0 z1
  have V9 := hide ((unhide V7).set 6 0)
  obtain ⟨W9, eW9⟩ : ∃ W, (w7.setCell ⟨w4.heap.size, 0, none⟩ (.int .i64 6)).setCell ⟨w4.heap.size, 1, none⟩ (.int .i64 0) = W := ⟨_, rfl⟩
  rw [eW9] at V9 ⊢
  clear eW9
  obtain ⟨⟨x0, x1⟩, ⟨f00, f01⟩, ⟨g00, g01⟩, z0, z1⟩ := (unhide V9).cells
  go_wp2_with fail
  go_ret
  exact ⟨rfl, (unhide V9).all⟩

set_option maxRecDepth 100000 in
set_option maxHeartbeats 2000000 in
theorem drops_far (w : World) (a : Option Addr) (n c : Nat) (i : Int) (ts : List Tm) (hl : ts.length = n) (h : IsTs w (.slice a n c) ts) (hn : n ≤ 6000) (hf : heapF ts = (0, 0)) (hi : ¬ i < 0) (hi2 : (n : Int) ≤ i) :
    Calls Try.prog 4 #[.slice a n c, .int .i64 i] w fun e w' => e = .returned (.bool true) ∧ Below w.heap.size w w' := by
  have hnot : ∀ (x : Bool) (w : World), (Op.unary .not (.bool x)).run Try.prog w = .ok (.bool (!x)) w := fun _ _ => rfl
  have h1 : ¬ (6000 : Int) < ((n : Nat) : Int) := by omega
  have HOW : Hid (∀ W, Below w.heap.size w W → Calls Try.prog 9 #[.slice a n c] W fun e w' => ∃ a' c', e = .returned (.slice a' (n) c') ∧ Own W.heap.size w' (.slice a' (n) c') ts ∧ Below W.heap.size W w') := fun W hW => by
    have := own_any W _ ts (IsTs.below h hW) (by omega)
    rw [hl] at this
    exact this
  have HHF : Hid (∀ W, Below w.heap.size w W → Calls Try.prog 12 #[.slice a n c] W fun e w' => e = .returned (.agg #[.int .i64 0, .int .i64 0]) ∧ Below W.heap.size W w') := fun W hW => by
    have := hfault_any W _ ts (IsTs.below h hW) (by rw [hl]; unfold maxLen; omega)
    rw [hf] at this
    exact this
  have HDR : Hid (∀ W a' c', Own w.heap.size W (.slice a' (n) c') ts → Calls Try.prog 17 #[.slice a' (n) c', .int .i64 i] W fun e w' => e = .returned (.tuple #[.slice none 0 0, .agg #[.int .i64 0, .int .i64 0], .agg #[.int .i64 6, .int .i64 0]]) ∧ Below W.heap.size W w') := fun W a' c' hW => by
    exact drop_far W a' n c' i ts hl hW.ts (by unfold maxLen; omega) hf hi hi2
  clear h hf hl
  go_enter Try.func4, Try.ntmps4
  go_upto_region 7 with (first
    | (go_at_call 8; refine (begun_any _).mono ?_; rintro e w1 ⟨rfl, hb1⟩; have HX1 := hide hb1; clear hb1)
    | (go_at_call 9; refine (unhide HOW _ (unhide HX1)).mono ?_; rintro e w2 ⟨a2, c2, rfl, ho2, hb2⟩; have HO2 := hide (ho2.base (unhide HX1).size); have HX2 := hide ((unhide HX1).trans (hb2.mono (unhide HX1).size)); clear ho2 hb2)
    | (go_at_call 17; refine (unhide HDR _ _ _ (unhide HO2)).mono ?_; rintro e w3 ⟨rfl, hb3⟩; have HX3 := hide ((unhide HX2).trans (hb3.mono (unhide HX2).size)); clear hb3)
    | (go_at_call 12; refine (unhide HHF _ ((unhide HX3).trans ((below_new2 w3 _ _).mono (unhide HX3).size))).mono ?_; rintro e w4 ⟨rfl, hb4⟩; have HB4 := hide hb4; clear hb4))
  have V6 := hide (drop_vars (g0 := 0) (g1 := 0) (unhide HX3) (unhide HB4))
  obtain ⟨s6, e6⟩ : ∃ s, w3.heap.size = s := ⟨_, rfl⟩
  obtain ⟨W6, eW6⟩ : ∃ W, w4.alloc (.cells #[.int .i64 0, .int .i64 0] 28) = W := ⟨_, rfl⟩
  rw [e6, eW6] at V6
  rw [e6, eW6]
  clear e6 eW6 HB4 HX1 HX2 HX3 HO2 HOW HHF HDR
  obtain ⟨⟨x0, x1⟩, ⟨f00, f01⟩, ⟨g00, g01⟩, z0, z1⟩ := (unhide V6).cells
  go_upto_region 9 with (go_at_call 15; refine (f_any _ _ _).mono ?_; rintro e w7 ⟨rfl, hb7⟩; have V7 := hide ((unhide V6).keep hb7); clear hb7; clear x0 x1 f00 f01 g00 g01 z0 z1; obtain ⟨⟨x0, x1⟩, ⟨f00, f01⟩, ⟨g00, g01⟩, z0, z1⟩ := (unhide V7).cells)
  clear x0 x1 f00 f01 g00 g01 z0 z1
  have V9 := hide ((unhide V7).set 6 0)
  obtain ⟨W9, eW9⟩ : ∃ W, (w7.setCell ⟨w4.heap.size, 0, none⟩ (.int .i64 6)).setCell ⟨w4.heap.size, 1, none⟩ (.int .i64 0) = W := ⟨_, rfl⟩
  rw [eW9] at V9 ⊢
  clear eW9
  obtain ⟨⟨x0, x1⟩, ⟨f00, f01⟩, ⟨g00, g01⟩, z0, z1⟩ := (unhide V9).cells
  go_wp2_with fail
  go_ret
  exact ⟨rfl, (unhide V9).all⟩

set_option maxRecDepth 100000 in
set_option maxHeartbeats 2000000 in
theorem drops_ok (w : World) (b off n c k : Nat) (x y : Int) (ts : List Tm) (hl : ts.length = n + 1) (h : IsTs w (.slice (some ⟨b, off, none⟩) (n + 1) c) ts) (hn : n + 1 ≤ 6000) (hb : b < w.heap.size) (hc : Cells w b off ts) (hcap : n + 1 ≤ c) (hf : heapF ts = (0, 0)) (hk : k ≤ n) (hxy : tAt ts k = (x, y)) :
    Calls Try.prog 4 #[.slice (some ⟨b, off, none⟩) (n + 1) c, .int .i64 k] w fun e w' => e = .returned (.bool true) ∧ Below w.heap.size w w' := by
  have hnot : ∀ (x : Bool) (w : World), (Op.unary .not (.bool x)).run Try.prog w = .ok (.bool (!x)) w := fun _ _ => rfl
  have h1 : ¬ (6000 : Int) < ((n + 1 : Nat) : Int) := by omega
  have HOW : Hid (∀ W, Below w.heap.size w W → Calls Try.prog 9 #[.slice (some ⟨b, off, none⟩) (n + 1) c] W fun e w' => ∃ a' c', e = .returned (.slice a' (n + 1) c') ∧ Own W.heap.size w' (.slice a' (n + 1) c') ts ∧ Below W.heap.size W w') := fun W hW => by
    have := own_any W _ ts (IsTs.below h hW) (by omega)
    rw [hl] at this
    exact this
  have HHF : Hid (∀ W, Below w.heap.size w W → Calls Try.prog 12 #[.slice (some ⟨b, off, none⟩) (n + 1) c] W fun e w' => e = .returned (.agg #[.int .i64 0, .int .i64 0]) ∧ Below W.heap.size W w') := fun W hW => by
    have := hfault_any W _ ts (IsTs.below h hW) (by rw [hl]; unfold maxLen; omega)
    rw [hf] at this
    exact this
  have HDR : Hid (∀ W a' c', Own w.heap.size W (.slice a' (n + 1) c') ts → Calls Try.prog 17 #[.slice a' (n + 1) c', .int .i64 k] W fun e w' => ∃ g c', e = .returned (.tuple #[.slice (some ⟨g, 0, none⟩) n c', .agg #[.int .i64 x, .int .i64 y], .agg #[.int .i64 0, .int .i64 0]]) ∧ Own W.heap.size w' (.slice (some ⟨g, 0, none⟩) n c') (dropL ts k) ∧ Below W.heap.size W w') := fun W a' c' hW => by
    obtain ⟨g, cg, ev, hgw, hrow⟩ := hW.row (by omega)
    rw [hl] at ev
    cases ev
    exact drop_ok W g 0 n c' k x y ts hl hW.ts hrow.lt hrow.cells hf hk hxy
  have HC : Hid (∀ W, Below w.heap.size w W → W.cell? ⟨b, off + k * 2, none⟩ = some (.int .i64 x) ∧ W.cell? ⟨b, off + k * 2 + 1, none⟩ = some (.int .i64 y)) := fun W hW => by
    have := hc.below hW hb k (by omega)
    rw [hxy] at this
    exact this
  have HDD : Hid (∀ W, Below w.heap.size w W → Calls Try.prog 18 #[.slice (some ⟨b, off, none⟩) (n + 1) c, .int .i64 k] W fun e w' => ∃ a' c', e = .returned (.slice a' n c') ∧ Own W.heap.size w' (.slice a' n c') (dropL ts k) ∧ Below W.heap.size W w') := fun W hW => dropped_any W b off n c ts hl (by omega) hcap (Nat.lt_of_lt_of_le hb hW.size) (hc.below hW hb) k hk
  have HDL : Hid ((dropL ts k).length ≤ maxLen) := by show _ ≤ _; rw [dropL_length hl hk]; unfold maxLen; omega
  have q1 : (x == x) = true := by simp
  have q2 : (y == y) = true := by simp
  have g1 : (0 : Int) ≤ (k : Int) := by omega
  have g2 : (k : Int) < (n : Int) + 1 := by omega
  have g3 : ¬ (k : Int) < 0 := by omega
  have g4 : ¬ (n : Int) + 1 ≤ (k : Int) := by omega
  have h1' : ¬ (6000 : Int) < (n : Int) + 1 := by omega
  clear h hf hl hc hxy
  go_enter Try.func4, Try.ntmps4
  go_upto_region 7 with (first
    | (go_at_call 8; refine (begun_any _).mono ?_; rintro e w1 ⟨rfl, hb1⟩; have HX1 := hide hb1; clear hb1)
    | (go_at_call 9; refine (unhide HOW _ (unhide HX1)).mono ?_; rintro e w2 ⟨a2, c2, rfl, ho2, hb2⟩; have HO2 := hide (ho2.base (unhide HX1).size); have HX2 := hide ((unhide HX1).trans (hb2.mono (unhide HX1).size)); clear ho2 hb2)
    | (go_at_call 17; refine (unhide HDR _ _ _ (unhide HO2)).mono ?_; rintro e w3 ⟨gd, cd, rfl, hod, hb3⟩; have HOD := hide hod; clear hod; have HX3 := hide ((unhide HX2).trans (hb3.mono (unhide HX2).size)); clear hb3)
    | (go_at_call 12; refine (unhide HHF _ ((unhide HX3).trans ((below_new2 w3 _ _).mono (unhide HX3).size))).mono ?_; rintro e w4 ⟨rfl, hb4⟩; have HB4 := hide hb4; clear hb4))
  have V6 := hide (drop_vars (g0 := 0) (g1 := 0) (unhide HX3) (unhide HB4))
  have HOD4 := hide (IsTs.below (IsTs.below (unhide HOD).ts (below_new2 w3 _ _)) (unhide HB4))
  obtain ⟨s6, e6⟩ : ∃ s, w3.heap.size = s := ⟨_, rfl⟩
  obtain ⟨W6, eW6⟩ : ∃ W, w4.alloc (.cells #[.int .i64 0, .int .i64 0] 28) = W := ⟨_, rfl⟩
  rw [e6, eW6] at V6
  rw [e6, eW6]
  clear e6 eW6 HB4 HX1 HX2 HX3 HO2 HOW HHF HDR
  obtain ⟨⟨x0, x1⟩, ⟨f00, f01⟩, ⟨g00, g01⟩, z0, z1⟩ := (unhide V6).cells
  go_upto_region 13 with fail
  have HSS : Hid (∀ W, Below W6.heap.size W6 W → (W.cell? ⟨s6, 0, none⟩ = some (.int .i64 x) ∧ W.cell? ⟨s6, 1, none⟩ = some (.int .i64 y)) ∧ (W.cell? ⟨b, off + k * 2, none⟩ = some (.int .i64 x) ∧ W.cell? ⟨b, off + k * 2 + 1, none⟩ = some (.int .i64 y)) ∧ Below W6.heap.size W6 W) := fun W hW => ⟨((unhide V6).keep hW).cells.1, unhide HC W ((unhide V6).keep hW).all, hW⟩
  have HDE : Hid (∀ W, Below W6.heap.size W6 W → Calls Try.prog 18 #[.slice (some ⟨b, off, none⟩) (n + 1) c, .int .i64 k] W fun e w' => ∃ a' c', e = .returned (.slice a' n c') ∧ Own W.heap.size w' (.slice a' n c') (dropL ts k) ∧ Below W.heap.size W w') := fun W hW => unhide HDD W ((unhide V6).keep hW).all
  have HOD6 : Hid (∀ W, Below W6.heap.size W6 W → IsTs W (.slice (some ⟨gd, 0, none⟩) n cd) (dropL ts k)) := fun W hW => IsTs.below (unhide HOD4) (((unhide V6).keep hW).below)
  clear x0 x1 f00 f01 g00 g01 z0 z1
  go_region_held3 (fun W => (W.cell? ⟨s6, 0, none⟩ = some (.int .i64 x) ∧ W.cell? ⟨s6, 1, none⟩ = some (.int .i64 y)) ∧ (W.cell? ⟨b, off + k * 2, none⟩ = some (.int .i64 x) ∧ W.cell? ⟨b, off + k * 2 + 1, none⟩ = some (.int .i64 y)) ∧ Below W6.heap.size W6 W)
    (first | with_reducible exact unhide HSS _ (Below.refl _ _).drew | with_reducible exact unhide HSS _ (unhide HB7) | with_reducible exact unhide HSS _ (unhide HB8))
    (first
      | (go_at_call 18; refine (unhide HDE _ (by go_split_ands; assumption)).mono ?_; rintro e w7 ⟨a7, c7, rfl, ho7, hb7⟩; have HI7 := hide ho7.ts; have HB7 : Hid (Below W6.heap.size W6 w7) := Below.trans (B := W6.heap.size) (by go_split_ands; assumption) (hb7.mono (Below.size (B := W6.heap.size) (by go_split_ands; assumption))); clear ho7 hb7)
      | (go_at_call 13; refine (same_any _ _ _ _ (unhide HOD6 _ (unhide HB7)) (unhide HI7) (unhide HDL)).mono ?_; rintro e w8 ⟨rfl, hb8⟩; have HB8 : Hid (Below W6.heap.size W6 w8) := (unhide HB7).trans (hb8.mono (unhide HB7).size); clear hb8))
  go_wp2_with fail
  go_ret
  exact ⟨rfl, ((unhide V6).keep (unhide HB8)).all⟩

theorem drops_walk (w : World) (v : Value) (ts : List Tm) (i : Int) (h : IsTs w v ts) (hv : Fits v) (hm : ts.length ≤ maxLen) :
    Calls Try.prog 4 #[v, .int .i64 i] w fun e w' => e = .returned (.bool true) ∧ Below w.heap.size w w' := by
  by_cases hl : 6000 < ts.length
  · obtain ⟨a, c, rfl⟩ := Rd.form h
    exact drops_long w a _ c i hl hm
  · have hn : ts.length ≤ 6000 := by omega
    by_cases h1 : (heapF ts).1 = 0
    · have h0 := heapF_zero h1
      by_cases hi : i < 0
      · obtain ⟨a, c, rfl⟩ := Rd.form h
        exact drops_neg w a _ c i ts rfl h hn h0 hi
      · by_cases hi2 : (ts.length : Int) ≤ i
        · obtain ⟨a, c, rfl⟩ := Rd.form h
          exact drops_far w a _ c i ts rfl h hn h0 hi hi2
        · obtain ⟨k, rfl⟩ : ∃ k : Nat, i = k := ⟨i.toNat, by omega⟩
          obtain ⟨n, hln⟩ : ∃ n, ts.length = n + 1 := ⟨ts.length - 1, by omega⟩
          obtain ⟨b, off, c, rfl, hb, hc⟩ := h.at (by omega)
          rw [hln] at h hv hn ⊢
          exact drops_ok w b off n c k _ _ ts hln h hn hb hc (hv _ _ _ rfl) h0 (by omega) rfl
    · obtain ⟨a, c, rfl⟩ := Rd.form h
      exact drops_heap w a _ c i ts rfl h hn _ _ rfl h1
end Go.Proofs.Ytcfjpjojckngeaa
