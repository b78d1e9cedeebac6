/-
  The variables of taskmilllaw.AlarmDue; where the heap is wrong.
-/
import Derived.Test.YtcfjpjojckngeaaR
namespace Go.Proofs.Ytcfjpjojckngeaa
open Go.RowKit

/-- The law's variables: f1, w; B7 is the world ahead of w's. -/
structure DueV (w B7 : World) (s6 s7 : Nat) (f0 f1 g0 g1 : Int) (W : World) : Prop where
  b6 : B7.heap[s6]? = some (.cells #[.int .i64 f0, .int .i64 f1] 28 (0, 0))
  b7 : W.heap[s7]? = some (.cells #[.int .i64 g0, .int .i64 g1] 28 (0, 0))
  sz : B7.heap.size = s7
  old : Below w.heap.size w B7
  below : Below B7.heap.size B7 W

section
variable {w B7 : World} {s6 s7 : Nat} {f0 f1 g0 g1 : Int} {W : World}
theorem DueV.keep (h : DueV w B7 s6 s7 f0 f1 g0 g1 W) {W' : World} (hb : Below W.heap.size W W') : DueV w B7 s6 s7 f0 f1 g0 g1 W' :=
  ⟨h.b6, keep_below h.b7 hb, h.sz, h.old, h.below.trans (hb.mono h.below.size)⟩
theorem DueV.set (h : DueV w B7 s6 s7 f0 f1 g0 g1 W) (a b : Int) : DueV w B7 s6 s7 f0 f1 a b ((W.setCell ⟨s7, 0, none⟩ (.int .i64 a)).setCell ⟨s7, 1, none⟩ (.int .i64 b)) :=
  ⟨h.b6, block2_set h.b7, h.sz, h.old, (h.below.setCell (p := ⟨s7, 0, none⟩) (by rw [h.sz]; exact Nat.le_refl _) _).setCell (p := ⟨s7, 1, none⟩) (by rw [h.sz]; exact Nat.le_refl _) _⟩
theorem DueV.all (h : DueV w B7 s6 s7 f0 f1 g0 g1 W) : Below w.heap.size w W := h.old.trans (h.below.mono h.old.size)
theorem DueV.cells (h : DueV w B7 s6 s7 f0 f1 g0 g1 W) :
    (W.cell? ⟨s6, 0, none⟩ = some (.int .i64 f0) ∧ W.cell? ⟨s6, 1, none⟩ = some (.int .i64 f1)) ∧
    (W.cell? ⟨s7, 0, none⟩ = some (.int .i64 g0) ∧ W.cell? ⟨s7, 1, none⟩ = some (.int .i64 g1)) ∧ (W.frozen? ⟨s7, 0, none⟩ = false ∧ W.frozen? ⟨s7, 1, none⟩ = false) ∧ s7 < W.heap.size :=
  have b6 := block2 (keep_below h.b6 h.below)
  have b7 := block2 h.b7
  ⟨⟨b6.1, b6.2.1⟩, ⟨b7.1, b7.2.1⟩, ⟨b7.2.2.1, b7.2.2.2.1⟩, b7.2.2.2.2⟩
end
theorem due_vars {w w3 : World} {f0 f1 g0 g1 : Int} (h3 : Below w.heap.size w w3) :
    DueV w (w3.alloc (.cells #[.int .i64 f0, .int .i64 f1] 28)) w3.heap.size (w3.heap.size + 1) f0 f1 g0 g1 ((w3.alloc (.cells #[.int .i64 f0, .int .i64 f1] 28)).alloc (.cells #[.int .i64 g0, .int .i64 g1] 28)) :=
  ⟨new_block w3 _, (by have := new_block (w3.alloc (.cells #[.int .i64 f0, .int .i64 f1] 28)) (.cells #[.int .i64 g0, .int .i64 g1] 28); rw [World.size_alloc] at this; exact this), by simp, h3.trans (((Below.refl _ _).alloc (Nat.le_refl _) _).mono h3.size), (Below.refl _ _).alloc (Nat.le_refl _) _⟩
theorem keep_set2 {W : World} {R k : Nat} {a b : Value} {o : Obj} (h : W.heap[k]? = some o) (hk : k ≠ R) : ((W.setCell ⟨R, 0, none⟩ a).setCell ⟨R, 1, none⟩ b).heap[k]? = some o := by
  rw [Below.heap_setCell _ _ _ _ (by simpa using hk), Below.heap_setCell _ _ _ _ (by simpa using hk)]
  exact h

/-- A heap with which nothing is wrong is a list with which nothing is wrong. -/
theorem heap_made {ts : List Tm} (h : (heapF ts).1 = 0) : (madeF ts).1 = 0 := by
  have h0 := heapF_zero h
  have hl := heapF_len h0
  unfold heapF at h
  rw [if_neg (by omega)] at h
  unfold madeF
  rw [if_neg (by omega), firstFrom_all]
  intro j h1 h2
  have := firstFrom_each h j h1 h2
  unfold heapW at this
  unfold madeW
  split at this
  · cases this
  · rename_i h3; rw [if_neg h3]

set_option maxRecDepth 100000 in
set_option maxHeartbeats 1000000 in
theorem dues_long (w : World) (a : Option Addr) (n c : Nat) (i : Int) (hl : 6000 < n) (hm : n ≤ maxLen) :
    Calls Try.prog 5 #[.slice a n c, .int .i64 i] w fun e w' => e = .returned (.bool true) ∧ Below w.heap.size w w' := by
  have hnot : ∀ (x : Bool) (w : World), (Op.unary .not (.bool x)).run Try.prog w = .ok (.bool (!x)) w := fun _ _ => rfl
  unfold maxLen at hm
  have h1 : (6000 : Int) < (n : Int) := by omega
  go_enter Try.func5, Try.ntmps5
  go_wp2_with (go_at_call 8; refine (begun_any _).mono ?_; rintro e w1 ⟨rfl, hb1⟩; have HX1 := hide hb1; clear hb1)
  go_ret
  exact ⟨rfl, unhide HX1⟩

set_option maxRecDepth 100000 in
set_option maxHeartbeats 4000000 in
theorem dues_wrong (w : World) (a : Option Addr) (n c : Nat) (now : Int) (ts : List Tm) (hl : ts.length = n) (h : IsTs w (.slice a n c) ts) (hn : n ≤ 6000) (ha : 0 < n → ∃ b off, a = some ⟨b, off, none⟩ ∧ b < w.heap.size ∧ Cells w b off ts) (x y : Int) (hmf : madeF ts = (x, y)) (hmx : x ≠ 0) (u v : Int) (hhf : heapF ts = (u, v)) (hhx : u ≠ 0) :
    Calls Try.prog 5 #[.slice a n c, .int .i64 now] w fun e w' => e = .returned (.bool true) ∧ Below w.heap.size w w' := by
  have hnot : ∀ (x : Bool) (w : World), (Op.unary .not (.bool x)).run Try.prog w = .ok (.bool (!x)) w := fun _ _ => rfl
  have h1 : ¬ (6000 : Int) < (n : Int) := by omega
  have HOW : Hid (∀ W, Below w.heap.size w W → Calls Try.prog 9 #[.slice a n c] W fun e w' => ∃ a' c', e = .returned (.slice a' n c') ∧ Own W.heap.size w' (.slice a' n c') ts ∧ Below W.heap.size W w') := fun W hW => by
    have := own_any W _ ts (IsTs.below h hW) (by omega)
    rw [hl] at this
    exact this
  have HHF : Hid (∀ W, Below w.heap.size w W → Calls Try.prog 12 #[.slice a n c] W fun e w' => e = .returned (.agg #[.int .i64 u, .int .i64 v]) ∧ Below W.heap.size W w') := fun W hW => by
    have := hfault_any W _ ts (IsTs.below h hW) (by rw [hl]; unfold maxLen; omega)
    rw [hhf] at this
    exact this
  have HMD : Hid (∀ W a' c', IsTs W (.slice a' n c') ts → Calls Try.prog 19 #[.slice a' n c'] W fun e w' => e = .returned (.tuple #[.slice none 0 0, .agg #[.int .i64 x, .int .i64 y]]) ∧ Below W.heap.size W w') := fun W a' c' hW => made_fault W _ ts hW (by rw [hl]; unfold maxLen; omega) x y hmf hmx
  have HDU : Hid (∀ W a' c', IsTs W (.slice a' n c') ts → Calls Try.prog 21 #[.slice a' n c', .int .i64 now] W fun e w' => e = .returned (.tuple #[.slice none 0 0, .slice none 0 0, .agg #[.int .i64 u, .int .i64 v]]) ∧ Below W.heap.size W w') := fun W a' c' hW => due_fault W a' n c' now ts hl hW (by unfold maxLen; omega) u v hhf hhx
  have q1 : (u == u) = true := by simp
  have q2 : (v == v) = true := by simp
  have q4 : (u != 0) = true := by simpa using hhx
  have p1 : (x == x) = true := by simp
  have p2 : (y == y) = true := by simp
  have p3 : (x == 0) = false := by simpa using hmx
  have p4 : (x != 0) = true := by simpa using hmx
  have HL := hide hl
  have HF : Hid (n ≤ 5000 → (x, y) = firstFrom (madeW ts) n 0) := fun h5 => by
    rw [← hmf, madeF, if_neg (by omega), hl]
  have HF2 : Hid (5000 < n → x = 2 ∧ y = 0) := fun h5 => by
    rw [madeF, if_pos (by omega)] at hmf
    exact ⟨(congrArg Prod.fst hmf).symm, (congrArg Prod.snd hmf).symm⟩
  clear h hmf hmx hhf hhx hl
  go_enter Try.func5, Try.ntmps5
  go_upto_region 7 with (first
    | (go_at_call 8; refine (begun_any _).mono ?_; rintro e w1 ⟨rfl, hb1⟩; have HX1 := hide hb1; clear hb1)
    | (go_at_call 9; refine (unhide HOW _ (unhide HX1)).mono ?_; rintro e w2 ⟨a2, c2, rfl, ho2, hb2⟩; have HI2 := hide ho2.ts; have HX2 := hide ((unhide HX1).trans (hb2.mono (unhide HX1).size)); clear ho2 hb2)
    | (go_at_call 19; refine (unhide HMD _ _ _ (unhide HI2)).mono ?_; rintro e w3 ⟨rfl, hb3⟩; have HX3 := hide ((unhide HX2).trans (hb3.mono (unhide HX2).size)); clear hb3))
  have V6 := hide (due_vars (f0 := x) (f1 := y) (g0 := 0) (g1 := 0) (unhide HX3))
  obtain ⟨B7, eB7⟩ : ∃ W, w3.alloc (.cells #[.int .i64 x, .int .i64 y] 28) = W := ⟨_, rfl⟩
  rw [eB7] at V6 ⊢
  obtain ⟨W6, eW6⟩ : ∃ W, B7.alloc (.cells #[.int .i64 0, .int .i64 0] 28) = W := ⟨_, rfl⟩
  obtain ⟨s7, e7⟩ : ∃ s, w3.heap.size + 1 = s := ⟨_, rfl⟩
  obtain ⟨s6, e6⟩ : ∃ s, w3.heap.size = s := ⟨_, rfl⟩
  rw [e7, e6, eW6] at V6
  rw [e7, e6, eW6]
  clear e7 e6 eW6 eB7 HX1 HX2 HX3 HI2 HMD
  by_cases h5 : 5000 < n
  · obtain ⟨rfl, rfl⟩ := unhide HF2 h5
    have h5' : (5000 : Int) < (n : Int) := by omega
    have h0n : (0 : Int) < (n : Int) := by omega
    clear ha HF HF2
    obtain ⟨⟨a0, a1⟩, ⟨g00, g01⟩, ⟨z0, z1⟩, l7⟩ := (unhide V6).cells
    go_upto_region 9 with (go_at_call 15; refine (f_any _ _ _).mono ?_; rintro e w4 ⟨rfl, hb4⟩; have V4 := hide ((unhide V6).keep hb4); clear hb4; clear a0 a1 g00 g01 z0 z1 l7; obtain ⟨⟨a0, a1⟩, ⟨g00, g01⟩, ⟨z0, z1⟩, l7⟩ := (unhide V4).cells)
    clear a0 a1 g00 g01 z0 z1 l7
    have VX := hide ((unhide V4).set 2 0)
    obtain ⟨WX, eWX⟩ : ∃ W, (w4.setCell ⟨s7, 0, none⟩ (.int .i64 2)).setCell ⟨s7, 1, none⟩ (.int .i64 0) = W := ⟨_, rfl⟩
    rw [eWX] at VX ⊢
    clear eWX
    go_wp2_with fail
    go_loopw [8] (fun i wr => i = .int .i64 0 ∧ wr = WX) (fun i _ => 0)
    case atStart => exact ⟨rfl, rfl⟩
    case round =>
      obtain ⟨rfl, rfl⟩ := hrel
      obtain ⟨⟨a0, a1⟩, ⟨g00, g01⟩, ⟨z0, z1⟩, l7⟩ := (unhide VX).cells
      go_upto_region 17 with (first
          | (go_at_call 9; refine (unhide HOW _ (unhide VX).all).mono ?_; rintro e w6 ⟨a6, c6, rfl, ho6, hb6⟩; have HI6 := hide ho6.ts; have V6b := hide ((unhide VX).keep hb6); clear ho6 hb6; clear a0 a1 g00 g01 z0 z1 l7; obtain ⟨⟨a0, a1⟩, ⟨g00, g01⟩, ⟨z0, z1⟩, l7⟩ := (unhide V6b).cells)
          | (go_at_call 21; refine (unhide HDU _ _ _ (unhide HI6)).mono ?_; rintro e w7 ⟨rfl, hb7⟩; have V7 := hide ((unhide V6b).keep hb7); clear hb7; clear a0 a1 g00 g01 z0 z1 l7; obtain ⟨⟨a0, a1⟩, ⟨g00, g01⟩, ⟨z0, z1⟩, l7⟩ := (unhide V7).cells)
          | (go_at_call 12; refine (unhide HHF _ ((unhide V7).all.alloc (unhide V7).all.size _)).mono ?_; rintro e w8 ⟨rfl, hb8⟩; have V8 := hide (((unhide V7).keep ((Below.refl _ _).alloc (Nat.le_refl _) _)).keep hb8); have B11 := hide (keep_below (new_block w7 _) hb8); have HB8 := hide hb8; clear hb8; clear a0 a1 g00 g01 z0 z1 l7; obtain ⟨⟨a0, a1⟩, ⟨g00, g01⟩, ⟨z0, z1⟩, l7⟩ := (unhide V8).cells))
      have n11 : w7.heap.size ≠ s7 := by have := (unhide V7).cells.2.2.2; omega
      have V9 := hide ((unhide V8).set u v)
      have B12 := hide (keep_set2 (R := s7) (a := .int .i64 u) (b := .int .i64 v) (unhide B11) n11)
      obtain ⟨W9, eW9⟩ : ∃ W, (w8.setCell ⟨s7, 0, none⟩ (.int .i64 u)).setCell ⟨s7, 1, none⟩ (.int .i64 v) = W := ⟨_, rfl⟩
      rw [eW9] at V9 B12 ⊢
      clear eW9 B11 n11
      clear a0 a1 g00 g01 z0 z1 l7
      obtain ⟨b110, b111, _, _, _⟩ := block2 (unhide B12)
      obtain ⟨⟨a0, a1⟩, ⟨g00, g01⟩, ⟨z0, z1⟩, l7⟩ := (unhide V9).cells
      go_wp2_with fail
      go_ret
      exact ⟨rfl, (unhide V9).all⟩
  · have h5' : ¬ (5000 : Int) < (n : Int) := by omega
    obtain ⟨F, hF⟩ : ∃ F, F = firstFrom (madeW ts) n 0 := ⟨_, rfl⟩
    have HFX : Hid ((x, y) = F) := by rw [hF]; exact unhide HF (by omega)
    have HF0 := hide hF
    clear hF HF HF2
    obtain ⟨⟨a0, a1⟩, ⟨g00, g01⟩, ⟨z0, z1⟩, l7⟩ := (unhide V6).cells
    go_wp2_with fail
    clear a0 a1 g00 g01 z0 z1 l7
    go_loopw [8] (fun si wr => ∃ (j : Nat) (s t : Int), j ≤ n ∧ si = .int .i64 j ∧ DueV w B7 s6 s7 x y s t wr ∧ ((s = 0 ∧ t = 0 ∧ F = firstFrom (madeW ts) (n - j) j) ∨ (s ≠ 0 ∧ s = x ∧ t = y))) (fun si _ => n - (intOf si).toNat)
    case atStart => exact ⟨0, 0, 0, Nat.zero_le _, rfl, unhide V6, Or.inl ⟨rfl, rfl, unhide HF0⟩⟩
    case round =>
      clear V6
      obtain ⟨j, s, t, hj, rfl, hV, ⟨rfl, rfl, hfrom⟩ | ⟨_, rfl, rfl⟩⟩ := hrel
      · have VV := hide hV
        have HFR := hide hfrom
        clear hV hfrom
        by_cases hlt : j < n
        · obtain ⟨b, off, rfl, hb, hc⟩ := ha (by omega)
          obtain ⟨x', y', hxy⟩ : ∃ x y, tAt ts j = (x, y) := ⟨_, _, rfl⟩
          have hk := hc.below (unhide VV).all hb j (by rw [unhide HL]; exact hlt)
          rw [hxy] at hk
          obtain ⟨k0, k1⟩ := hk
          have i0 : (0 : Int) ≤ (j : Int) := by omega
          have i1 : (j : Int) < (n : Int) := by omega
          obtain ⟨⟨a0, a1⟩, ⟨g00, g01⟩, ⟨z0, z1⟩, l7⟩ := (unhide VV).cells
          by_cases ho : oor (x', y')
          · have hWj : madeW ts j = 3 := by rw [madeW, hxy, if_pos ho]
            have hFj : F = (3, (j : Int)) := by rw [unhide HFR, firstFrom_here hlt (by rw [hWj]; decide), hWj]
            have hXY := (unhide HFX).trans hFj
            have HXY : Hid (3 = x ∧ (j : Int) = y) := ⟨(congrArg Prod.fst hXY).symm, (congrArg Prod.snd hXY).symm⟩
            have HTF : Hid (∀ W, Calls Try.prog 14 #[.agg #[.int .i64 x', .int .i64 y'], .int .i64 j] W fun e w' => e = .returned (.agg #[.int .i64 3, .int .i64 j]) ∧ Below W.heap.size W w') := fun W => by
              have := timerFault_any W x' y' j
              rw [if_pos ho] at this
              exact this
            clear hxy hWj hFj hXY
            go_wp2_with (go_at_call 14; refine (unhide HTF _).mono ?_; rintro e w4 ⟨rfl, hb4⟩; have V4 := hide ((unhide VV).keep hb4); clear hb4 k0 k1; clear a0 a1 g00 g01 z0 z1 l7; obtain ⟨⟨a0, a1⟩, ⟨g00, g01⟩, ⟨z0, z1⟩, l7⟩ := (unhide V4).cells)
            go_roundw
            case rel => exact ⟨j + 1, 3, (j : Int), by omega, by go_num, (unhide V4).set 3 (j : Int), Or.inr ⟨by decide, (unhide HXY).1, (unhide HXY).2⟩⟩
            case measure => simp [intOf]; omega
          · have hWj : madeW ts j = 0 := by rw [madeW, hxy, if_neg ho]
            have HTF : Hid (∀ W, Calls Try.prog 14 #[.agg #[.int .i64 x', .int .i64 y'], .int .i64 j] W fun e w' => e = .returned (.agg #[.int .i64 0, .int .i64 0]) ∧ Below W.heap.size W w') := fun W => by
              have := timerFault_any W x' y' j
              rw [if_neg ho] at this
              exact this
            clear hxy
            go_wp2_with (go_at_call 14; refine (unhide HTF _).mono ?_; rintro e w4 ⟨rfl, hb4⟩; have V4 := hide ((unhide VV).keep hb4); clear hb4 k0 k1; clear a0 a1 g00 g01 z0 z1 l7; obtain ⟨⟨a0, a1⟩, ⟨g00, g01⟩, ⟨z0, z1⟩, l7⟩ := (unhide V4).cells)
            go_roundw
            case rel => exact ⟨j + 1, 0, 0, by omega, by go_num, (unhide V4).set 0 0, Or.inl ⟨rfl, rfl, (unhide HFR).trans (firstFrom_next hlt hWj)⟩⟩
            case measure => simp [intOf]; omega
        · exfalso
          have := (unhide HFX).trans ((unhide HFR).trans (firstFrom_none (by omega)))
          have h3 := congrArg Prod.fst this
          simp at h3
          rw [h3] at p3
          cases p3
      · have VV := hide hV
        clear hV
        obtain ⟨⟨a0, a1⟩, ⟨g00, g01⟩, ⟨z0, z1⟩, l7⟩ := (unhide VV).cells
        by_cases hlt : j < n
        · have i1 : (j : Int) < (n : Int) := by omega
          go_upto_region 17 with (first
              | (go_at_call 9; refine (unhide HOW _ (unhide VV).all).mono ?_; rintro e w6 ⟨a6, c6, rfl, ho6, hb6⟩; have HI6 := hide ho6.ts; have V6b := hide ((unhide VV).keep hb6); clear ho6 hb6; clear a0 a1 g00 g01 z0 z1 l7; obtain ⟨⟨a0, a1⟩, ⟨g00, g01⟩, ⟨z0, z1⟩, l7⟩ := (unhide V6b).cells)
              | (go_at_call 21; refine (unhide HDU _ _ _ (unhide HI6)).mono ?_; rintro e w7 ⟨rfl, hb7⟩; have V7 := hide ((unhide V6b).keep hb7); clear hb7; clear a0 a1 g00 g01 z0 z1 l7; obtain ⟨⟨a0, a1⟩, ⟨g00, g01⟩, ⟨z0, z1⟩, l7⟩ := (unhide V7).cells)
              | (go_at_call 12; refine (unhide HHF _ ((unhide V7).all.alloc (unhide V7).all.size _)).mono ?_; rintro e w8 ⟨rfl, hb8⟩; have V8 := hide (((unhide V7).keep ((Below.refl _ _).alloc (Nat.le_refl _) _)).keep hb8); have B11 := hide (keep_below (new_block w7 _) hb8); have HB8 := hide hb8; clear hb8; clear a0 a1 g00 g01 z0 z1 l7; obtain ⟨⟨a0, a1⟩, ⟨g00, g01⟩, ⟨z0, z1⟩, l7⟩ := (unhide V8).cells))
          have n11 : w7.heap.size ≠ s7 := by have := (unhide V7).cells.2.2.2; omega
          have V9 := hide ((unhide V8).set u v)
          have B12 := hide (keep_set2 (R := s7) (a := .int .i64 u) (b := .int .i64 v) (unhide B11) n11)
          obtain ⟨W9, eW9⟩ : ∃ W, (w8.setCell ⟨s7, 0, none⟩ (.int .i64 u)).setCell ⟨s7, 1, none⟩ (.int .i64 v) = W := ⟨_, rfl⟩
          rw [eW9] at V9 B12 ⊢
          clear eW9 B11 n11
          clear a0 a1 g00 g01 z0 z1 l7
          obtain ⟨b110, b111, _, _, _⟩ := block2 (unhide B12)
          obtain ⟨⟨a0, a1⟩, ⟨g00, g01⟩, ⟨z0, z1⟩, l7⟩ := (unhide V9).cells
          go_wp2_with fail
          go_ret
          exact ⟨rfl, (unhide V9).all⟩
        · have i1 : ¬ (j : Int) < (n : Int) := by omega
          go_upto_region 17 with (first
              | (go_at_call 9; refine (unhide HOW _ (unhide VV).all).mono ?_; rintro e w6 ⟨a6, c6, rfl, ho6, hb6⟩; have HI6 := hide ho6.ts; have V6b := hide ((unhide VV).keep hb6); clear ho6 hb6; clear a0 a1 g00 g01 z0 z1 l7; obtain ⟨⟨a0, a1⟩, ⟨g00, g01⟩, ⟨z0, z1⟩, l7⟩ := (unhide V6b).cells)
              | (go_at_call 21; refine (unhide HDU _ _ _ (unhide HI6)).mono ?_; rintro e w7 ⟨rfl, hb7⟩; have V7 := hide ((unhide V6b).keep hb7); clear hb7; clear a0 a1 g00 g01 z0 z1 l7; obtain ⟨⟨a0, a1⟩, ⟨g00, g01⟩, ⟨z0, z1⟩, l7⟩ := (unhide V7).cells)
              | (go_at_call 12; refine (unhide HHF _ ((unhide V7).all.alloc (unhide V7).all.size _)).mono ?_; rintro e w8 ⟨rfl, hb8⟩; have V8 := hide (((unhide V7).keep ((Below.refl _ _).alloc (Nat.le_refl _) _)).keep hb8); have B11 := hide (keep_below (new_block w7 _) hb8); have HB8 := hide hb8; clear hb8; clear a0 a1 g00 g01 z0 z1 l7; obtain ⟨⟨a0, a1⟩, ⟨g00, g01⟩, ⟨z0, z1⟩, l7⟩ := (unhide V8).cells))
          have n11 : w7.heap.size ≠ s7 := by have := (unhide V7).cells.2.2.2; omega
          have V9 := hide ((unhide V8).set u v)
          have B12 := hide (keep_set2 (R := s7) (a := .int .i64 u) (b := .int .i64 v) (unhide B11) n11)
          obtain ⟨W9, eW9⟩ : ∃ W, (w8.setCell ⟨s7, 0, none⟩ (.int .i64 u)).setCell ⟨s7, 1, none⟩ (.int .i64 v) = W := ⟨_, rfl⟩
          rw [eW9] at V9 B12 ⊢
          clear eW9 B11 n11
          clear a0 a1 g00 g01 z0 z1 l7
          obtain ⟨b110, b111, _, _, _⟩ := block2 (unhide B12)
          obtain ⟨⟨a0, a1⟩, ⟨g00, g01⟩, ⟨z0, z1⟩, l7⟩ := (unhide V9).cells
          go_wp2_with fail
          go_ret
          exact ⟨rfl, (unhide V9).all⟩

end Go.Proofs.Ytcfjpjojckngeaa
