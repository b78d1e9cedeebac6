/-
  taskmilllaw.AlarmDue where the list is as it should be.
-/
import Derived.Test.YtcfjpjojckngeaaS
namespace Go.Proofs.Ytcfjpjojckngeaa
open Go.RowKit

theorem made_each {ts : List Tm} (h : madeF ts = (0, 0)) {j : Nat} (hj : j < ts.length) : ¬ oor (tAt ts j) := by
  have hl := madeF_len h
  unfold madeF at h
  rw [if_neg (by omega)] at h
  have := firstFrom_each (W := madeW ts) (by rw [h]) j (Nat.zero_le _) (by omega)
  unfold madeW at this
  intro ho
  rw [if_pos ho] at this
  cases this
theorem dueF_more (now : Int) : ∀ (f : Nat) (l d : List Tm), ∃ s, (dueF now f l d).2 = d ++ s
  | 0, _, d => ⟨[], by simp [dueF]⟩
  | f + 1, l, d => by
    rw [dueF]
    split
    · obtain ⟨s, hs⟩ := dueF_more now f (dropL l 0) (d ++ [tAt l 0])
      exact ⟨[tAt l 0] ++ s, by rw [hs, List.append_assoc]⟩
    · exact ⟨[], by simp⟩
theorem due_at {now : Int} {f : Nat} {l d : List Tm} {t : Tm} {R : List Tm × List Tm} (h : R = dueF now f l (d ++ [t])) : d.length < R.2.length ∧ tAt R.2 d.length = t := by
  obtain ⟨s, hs⟩ := dueF_more now f l (d ++ [t])
  rw [h, hs]
  constructor
  · simp only [List.length_append, List.length_cons, List.length_nil]; omega
  · simp [tAt]

set_option maxRecDepth 100000 in
set_option maxHeartbeats 4000000 in
theorem dues_half (w : World) (a : Option Addr) (n c : Nat) (now : Int) (ts : List Tm) (hl : ts.length = n) (h : IsTs w (.slice a n c) ts) (hn : n ≤ 6000) (ha : 0 < n → ∃ b off, a = some ⟨b, off, none⟩ ∧ b < w.heap.size ∧ Cells w b off ts) (hmf : madeF ts = (0, 0)) (u v : Int) (hhf : heapF ts = (u, v)) (hhx : u ≠ 0) :
    Calls Try.prog 5 #[.slice a n c, .int .i64 now] w fun e w' => e = .returned (.bool true) ∧ Below w.heap.size w w' := by
  have hnot : ∀ (x : Bool) (w : World), (Op.unary .not (.bool x)).run Try.prog w = .ok (.bool (!x)) w := fun _ _ => rfl
  have h1 : ¬ (6000 : Int) < (n : Int) := by omega
  have HOW : Hid (∀ W, Below w.heap.size w W → Calls Try.prog 9 #[.slice a n c] W fun e w' => ∃ a' c', e = .returned (.slice a' n c') ∧ Own W.heap.size w' (.slice a' n c') ts ∧ Below W.heap.size W w') := fun W hW => by
    have := own_any W _ ts (IsTs.below h hW) (by omega)
    rw [hl] at this
    exact this
  have HHF : Hid (∀ W, Below w.heap.size w W → Calls Try.prog 12 #[.slice a n c] W fun e w' => e = .returned (.agg #[.int .i64 u, .int .i64 v]) ∧ Below W.heap.size W w') := fun W hW => by
    have := hfault_any W _ ts (IsTs.below h hW) (by rw [hl]; unfold maxLen; omega)
    rw [hhf] at this
    exact this
  have HMD : Hid (∀ W a' c', IsTs W (.slice a' n c') ts → Calls Try.prog 19 #[.slice a' n c'] W fun e w' => ∃ a1 c1, e = .returned (.tuple #[.slice a1 n c1, .agg #[.int .i64 0, .int .i64 0]]) ∧ Own W.heap.size w' (.slice a1 n c1) (madeL ts) ∧ Below W.heap.size W w') := fun W a' c' hW => made_ok W a' n c' ts hl hW hmf
  have HHP : Hid (∀ W, Below w.heap.size w W → Calls Try.prog 20 #[.slice a n c] W fun e w' => ∃ a' c', e = .returned (.slice a' n c') ∧ IsTs w' (.slice a' n c') (madeL ts) ∧ Below W.heap.size W w') := fun W hW => heaped_any W _ ts n hl (by omega) (IsTs.below h hW)
  have HML : Hid ((madeL ts).length ≤ maxLen) := by show _ ≤ _; rw [madeL_length, hl]; unfold maxLen; omega
  have HDU : Hid (∀ W a' c', IsTs W (.slice a' n c') ts → Calls Try.prog 21 #[.slice a' n c', .int .i64 now] W fun e w' => e = .returned (.tuple #[.slice none 0 0, .slice none 0 0, .agg #[.int .i64 u, .int .i64 v]]) ∧ Below W.heap.size W w') := fun W a' c' hW => due_fault W a' n c' now ts hl hW (by unfold maxLen; omega) u v hhf hhx
  have q1 : (u == u) = true := by simp
  have q2 : (v == v) = true := by simp
  have q4 : (u != 0) = true := by simpa using hhx
  have HL := hide hl
  have hn5 : n ≤ 5000 := by rw [← hl]; exact madeF_len hmf
  have h5' : ¬ (5000 : Int) < (n : Int) := by omega
  have HNO : Hid (∀ j, j < n → ¬ oor (tAt ts j)) := fun j hj => made_each hmf (by rw [hl]; exact hj)
  clear h hmf hhf hhx hl
  go_enter Try.func5, Try.ntmps5
  go_upto_region 7 with (first
    | (go_at_call 8; refine (begun_any _).mono ?_; rintro e w1 ⟨rfl, hb1⟩; have HX1 := hide hb1; clear hb1)
    | (go_at_call 9; refine (unhide HOW _ (unhide HX1)).mono ?_; rintro e w2 ⟨a2, c2, rfl, ho2, hb2⟩; have HI2 := hide ho2.ts; have HX2 := hide ((unhide HX1).trans (hb2.mono (unhide HX1).size)); clear ho2 hb2)
    | (go_at_call 19; refine (unhide HMD _ _ _ (unhide HI2)).mono ?_; rintro e w3 ⟨a5, c5, rfl, ho5, hb3⟩; have HO5 := hide ho5.ts; clear ho5; have HX3 := hide ((unhide HX2).trans (hb3.mono (unhide HX2).size)); clear hb3))
  have V6 := hide (due_vars (f0 := 0) (f1 := 0) (g0 := 0) (g1 := 0) (unhide HX3))
  have HO6 := hide (IsTs.below (unhide HO5) ((Below.refl w3.heap.size w3).alloc (Nat.le_refl _) (.cells #[.int .i64 0, .int .i64 0] 28)))
  obtain ⟨B7, eB7⟩ : ∃ W, w3.alloc (.cells #[.int .i64 0, .int .i64 0] 28) = W := ⟨_, rfl⟩
  rw [eB7] at V6 HO6 ⊢
  obtain ⟨W6, eW6⟩ : ∃ W, B7.alloc (.cells #[.int .i64 0, .int .i64 0] 28) = W := ⟨_, rfl⟩
  obtain ⟨s7, e7⟩ : ∃ s, w3.heap.size + 1 = s := ⟨_, rfl⟩
  obtain ⟨s6, e6⟩ : ∃ s, w3.heap.size = s := ⟨_, rfl⟩
  rw [e7, e6, eW6] at V6
  rw [e7, e6, eW6]
  clear e7 e6 eW6 eB7 HX1 HX2 HX3 HI2 HMD HO5
  obtain ⟨⟨a0, a1⟩, ⟨g00, g01⟩, ⟨z0, z1⟩, l7⟩ := (unhide V6).cells
  go_wp2_with fail
  clear a0 a1 g00 g01 z0 z1 l7
  go_loopw [8] (fun si wr => ∃ j : Nat, j ≤ n ∧ si = .int .i64 j ∧ DueV w B7 s6 s7 0 0 0 0 wr) (fun si _ => n - (intOf si).toNat)
  case atStart => exact ⟨0, Nat.zero_le _, rfl, unhide V6⟩
  case round =>
    clear V6
    obtain ⟨j, hj, rfl, hV⟩ := hrel
    have VV := hide hV
    clear hV
    by_cases hlt : j < n
    · obtain ⟨b, off, rfl, hb, hc⟩ := ha (by omega)
      obtain ⟨x', y', hxy⟩ : ∃ x y, tAt ts j = (x, y) := ⟨_, _, rfl⟩
      have hk := hc.below (unhide VV).all hb j (by rw [unhide HL]; exact hlt)
      have ho := unhide HNO j hlt
      rw [hxy] at hk ho
      obtain ⟨k0, k1⟩ := hk
      have i0 : (0 : Int) ≤ (j : Int) := by omega
      have i1 : (j : Int) < (n : Int) := by omega
      obtain ⟨⟨a0, a1⟩, ⟨g00, g01⟩, ⟨z0, z1⟩, l7⟩ := (unhide VV).cells
      have HTF : Hid (∀ W, Calls Try.prog 14 #[.agg #[.int .i64 x', .int .i64 y'], .int .i64 j] W fun e w' => e = .returned (.agg #[.int .i64 0, .int .i64 0]) ∧ Below W.heap.size W w') := fun W => by
        have := timerFault_any W x' y' j
        rw [if_neg ho] at this
        exact this
      clear hxy
      go_wp2_with (go_at_call 14; refine (unhide HTF _).mono ?_; rintro e w4 ⟨rfl, hb4⟩; have V4 := hide ((unhide VV).keep hb4); clear hb4 k0 k1; clear a0 a1 g00 g01 z0 z1 l7; obtain ⟨⟨a0, a1⟩, ⟨g00, g01⟩, ⟨z0, z1⟩, l7⟩ := (unhide V4).cells)
      go_roundw
      case rel => exact ⟨j + 1, by omega, by go_num, (unhide V4).set 0 0⟩
      case measure => simp [intOf]; omega
    · have i1 : ¬ (j : Int) < (n : Int) := by omega
      obtain ⟨⟨a0, a1⟩, ⟨g00, g01⟩, ⟨z0, z1⟩, l7⟩ := (unhide VV).cells
      go_upto_region 17 with (first
          | (go_at_call 20; refine (unhide HHP _ (unhide VV).all).mono ?_; rintro e w4 ⟨a4, c4, rfl, hi4, hb4⟩; have HI4 := hide hi4; have V4 := hide ((unhide VV).keep hb4); have HO4 := hide (IsTs.below (unhide HO6) (unhide V4).below); clear hi4 hb4; clear a0 a1 g00 g01 z0 z1 l7; obtain ⟨⟨a0, a1⟩, ⟨g00, g01⟩, ⟨z0, z1⟩, l7⟩ := (unhide V4).cells)
          | (go_at_call 13; refine (same_any _ _ _ _ (unhide HO4) (unhide HI4) (unhide HML)).mono ?_; rintro e w5 ⟨rfl, hb5⟩; have V5 := hide ((unhide V4).keep hb5); clear hb5; clear a0 a1 g00 g01 z0 z1 l7; obtain ⟨⟨a0, a1⟩, ⟨g00, g01⟩, ⟨z0, z1⟩, l7⟩ := (unhide V5).cells)
          | (go_at_call 9; refine (unhide HOW _ (unhide V5).all).mono ?_; rintro e w6 ⟨a6, c6, rfl, ho6, hb6⟩; have HI6 := hide ho6.ts; have V6b := hide ((unhide V5).keep hb6); clear ho6 hb6; clear a0 a1 g00 g01 z0 z1 l7; obtain ⟨⟨a0, a1⟩, ⟨g00, g01⟩, ⟨z0, z1⟩, l7⟩ := (unhide V6b).cells)
          | (go_at_call 21; refine (unhide HDU _ _ _ (unhide HI6)).mono ?_; rintro e w7 ⟨rfl, hb7⟩; have V7 := hide ((unhide V6b).keep hb7); clear hb7; clear a0 a1 g00 g01 z0 z1 l7; obtain ⟨⟨a0, a1⟩, ⟨g00, g01⟩, ⟨z0, z1⟩, l7⟩ := (unhide V7).cells)
          | (go_at_call 12; refine (unhide HHF _ ((unhide V7).all.alloc (unhide V7).all.size _)).mono ?_; rintro e w8 ⟨rfl, hb8⟩; have V8 := hide (((unhide V7).keep ((Below.refl _ _).alloc (Nat.le_refl _) _)).keep hb8); have B11 := hide (keep_below (new_block w7 _) hb8); have HB8 := hide hb8; clear hb8; clear a0 a1 g00 g01 z0 z1 l7; obtain ⟨⟨a0, a1⟩, ⟨g00, g01⟩, ⟨z0, z1⟩, l7⟩ := (unhide V8).cells))
      have n11 : w7.heap.size ≠ s7 := by have := (unhide V7).cells.2.2.2; omega
      have V9 := hide ((unhide V8).set u v)
      have B12 := hide (keep_set2 (R := s7) (a := .int .i64 u) (b := .int .i64 v) (unhide B11) n11)
      obtain ⟨W9, eW9⟩ : ∃ W, (w8.setCell ⟨s7, 0, none⟩ (.int .i64 u)).setCell ⟨s7, 1, none⟩ (.int .i64 v) = W := ⟨_, rfl⟩
      rw [eW9] at V9 B12 ⊢
      clear eW9 B11 n11
      clear a0 a1 g00 g01 z0 z1 l7
      obtain ⟨b110, b111, _, _, _⟩ := block2 (unhide B12)
      obtain ⟨⟨a0, a1⟩, ⟨g00, g01⟩, ⟨z0, z1⟩, l7⟩ := (unhide V9).cells
      go_wp2_with fail
      go_ret
      exact ⟨rfl, (unhide V9).all⟩

set_option maxRecDepth 100000 in
set_option maxHeartbeats 4000000 in
theorem dues_ok (w : World) (a : Option Addr) (n c : Nat) (now : Int) (ts : List Tm) (hl : ts.length = n) (h : IsTs w (.slice a n c) ts) (hn : n ≤ 6000) (ha : 0 < n → ∃ b off, a = some ⟨b, off, none⟩ ∧ b < w.heap.size ∧ Cells w b off ts) (hmf : madeF ts = (0, 0)) (hhf : heapF ts = (0, 0)) :
    Calls Try.prog 5 #[.slice a n c, .int .i64 now] w fun e w' => e = .returned (.bool true) ∧ Below w.heap.size w w' := by
  have hnot : ∀ (x : Bool) (w : World), (Op.unary .not (.bool x)).run Try.prog w = .ok (.bool (!x)) w := fun _ _ => rfl
  have h1 : ¬ (6000 : Int) < (n : Int) := by omega
  have HOW : Hid (∀ W, Below w.heap.size w W → Calls Try.prog 9 #[.slice a n c] W fun e w' => ∃ a' c', e = .returned (.slice a' n c') ∧ Own W.heap.size w' (.slice a' n c') ts ∧ Below W.heap.size W w') := fun W hW => by
    have := own_any W _ ts (IsTs.below h hW) (by omega)
    rw [hl] at this
    exact this
  have HHF : Hid (∀ W, Below w.heap.size w W → Calls Try.prog 12 #[.slice a n c] W fun e w' => e = .returned (.agg #[.int .i64 0, .int .i64 0]) ∧ Below W.heap.size W w') := fun W hW => by
    have := hfault_any W _ ts (IsTs.below h hW) (by rw [hl]; unfold maxLen; omega)
    rw [hhf] at this
    exact this
  have HMD : Hid (∀ W a' c', IsTs W (.slice a' n c') ts → Calls Try.prog 19 #[.slice a' n c'] W fun e w' => ∃ a1 c1, e = .returned (.tuple #[.slice a1 n c1, .agg #[.int .i64 0, .int .i64 0]]) ∧ Own W.heap.size w' (.slice a1 n c1) (madeL ts) ∧ Below W.heap.size W w') := fun W a' c' hW => made_ok W a' n c' ts hl hW hmf
  have HHP : Hid (∀ W, Below w.heap.size w W → Calls Try.prog 20 #[.slice a n c] W fun e w' => ∃ a' c', e = .returned (.slice a' n c') ∧ IsTs w' (.slice a' n c') (madeL ts) ∧ Below W.heap.size W w') := fun W hW => heaped_any W _ ts n hl (by omega) (IsTs.below h hW)
  have HML : Hid ((madeL ts).length ≤ maxLen) := by show _ ≤ _; rw [madeL_length, hl]; unfold maxLen; omega
  have HDU : Hid (∀ W a' c', IsTs W (.slice a' n c') ts → Calls Try.prog 21 #[.slice a' n c', .int .i64 now] W fun e w' => ∃ a1 c1 a2 c2, e = .returned (.tuple #[.slice a1 (dueL ts now).1.length c1, .slice a2 (dueL ts now).2.length c2, .agg #[.int .i64 0, .int .i64 0]]) ∧ Own W.heap.size w' (.slice a1 (dueL ts now).1.length c1) (dueL ts now).1 ∧ Own W.heap.size w' (.slice a2 (dueL ts now).2.length c2) (dueL ts now).2 ∧ Below W.heap.size W w') := fun W a' c' hW => due_ok W _ now ts hW hhf
  have HL := hide hl
  have hn5 : n ≤ 5000 := by rw [← hl]; exact madeF_len hmf
  have h5' : ¬ (5000 : Int) < (n : Int) := by omega
  have HNO : Hid (∀ j, j < n → ¬ oor (tAt ts j)) := fun j hj => made_each hmf (by rw [hl]; exact hj)
  clear h hmf hhf hl
  go_enter Try.func5, Try.ntmps5
  go_upto_region 7 with (first
    | (go_at_call 8; refine (begun_any _).mono ?_; rintro e w1 ⟨rfl, hb1⟩; have HX1 := hide hb1; clear hb1)
    | (go_at_call 9; refine (unhide HOW _ (unhide HX1)).mono ?_; rintro e w2 ⟨a2, c2, rfl, ho2, hb2⟩; have HI2 := hide ho2.ts; have HX2 := hide ((unhide HX1).trans (hb2.mono (unhide HX1).size)); clear ho2 hb2)
    | (go_at_call 19; refine (unhide HMD _ _ _ (unhide HI2)).mono ?_; rintro e w3 ⟨a5, c5, rfl, ho5, hb3⟩; have HO5 := hide ho5.ts; clear ho5; have HX3 := hide ((unhide HX2).trans (hb3.mono (unhide HX2).size)); clear hb3))
  have V6 := hide (due_vars (f0 := 0) (f1 := 0) (g0 := 0) (g1 := 0) (unhide HX3))
  have HO6 := hide (IsTs.below (unhide HO5) ((Below.refl w3.heap.size w3).alloc (Nat.le_refl _) (.cells #[.int .i64 0, .int .i64 0] 28)))
  obtain ⟨B7, eB7⟩ : ∃ W, w3.alloc (.cells #[.int .i64 0, .int .i64 0] 28) = W := ⟨_, rfl⟩
  rw [eB7] at V6 HO6 ⊢
  obtain ⟨W6, eW6⟩ : ∃ W, B7.alloc (.cells #[.int .i64 0, .int .i64 0] 28) = W := ⟨_, rfl⟩
  obtain ⟨s7, e7⟩ : ∃ s, w3.heap.size + 1 = s := ⟨_, rfl⟩
  obtain ⟨s6, e6⟩ : ∃ s, w3.heap.size = s := ⟨_, rfl⟩
  rw [e7, e6, eW6] at V6
  rw [e7, e6, eW6]
  clear e7 e6 eW6 eB7 HX1 HX2 HX3 HI2 HMD HO5
  obtain ⟨⟨a0, a1⟩, ⟨g00, g01⟩, ⟨z0, z1⟩, l7⟩ := (unhide V6).cells
  go_wp2_with fail
  clear a0 a1 g00 g01 z0 z1 l7
  go_loopw [8] (fun si wr => ∃ j : Nat, j ≤ n ∧ si = .int .i64 j ∧ DueV w B7 s6 s7 0 0 0 0 wr) (fun si _ => n - (intOf si).toNat)
  case atStart => exact ⟨0, Nat.zero_le _, rfl, unhide V6⟩
  case round =>
    clear V6
    obtain ⟨j, hj, rfl, hV⟩ := hrel
    have VV := hide hV
    clear hV
    by_cases hlt : j < n
    · obtain ⟨b, off, rfl, hb, hc⟩ := ha (by omega)
      obtain ⟨x', y', hxy⟩ : ∃ x y, tAt ts j = (x, y) := ⟨_, _, rfl⟩
      have hk := hc.below (unhide VV).all hb j (by rw [unhide HL]; exact hlt)
      have ho := unhide HNO j hlt
      rw [hxy] at hk ho
      obtain ⟨k0, k1⟩ := hk
      have i0 : (0 : Int) ≤ (j : Int) := by omega
      have i1 : (j : Int) < (n : Int) := by omega
      obtain ⟨⟨a0, a1⟩, ⟨g00, g01⟩, ⟨z0, z1⟩, l7⟩ := (unhide VV).cells
      have HTF : Hid (∀ W, Calls Try.prog 14 #[.agg #[.int .i64 x', .int .i64 y'], .int .i64 j] W fun e w' => e = .returned (.agg #[.int .i64 0, .int .i64 0]) ∧ Below W.heap.size W w') := fun W => by
        have := timerFault_any W x' y' j
        rw [if_neg ho] at this
        exact this
      clear hxy
      go_wp2_with (go_at_call 14; refine (unhide HTF _).mono ?_; rintro e w4 ⟨rfl, hb4⟩; have V4 := hide ((unhide VV).keep hb4); clear hb4 k0 k1; clear a0 a1 g00 g01 z0 z1 l7; obtain ⟨⟨a0, a1⟩, ⟨g00, g01⟩, ⟨z0, z1⟩, l7⟩ := (unhide V4).cells)
      go_roundw
      case rel => exact ⟨j + 1, by omega, by go_num, (unhide V4).set 0 0⟩
      case measure => simp [intOf]; omega
    · have i1 : ¬ (j : Int) < (n : Int) := by omega
      obtain ⟨⟨a0, a1⟩, ⟨g00, g01⟩, ⟨z0, z1⟩, l7⟩ := (unhide VV).cells
      go_upto_region 17 with (first
          | (go_at_call 20; refine (unhide HHP _ (unhide VV).all).mono ?_; rintro e w4 ⟨a4, c4, rfl, hi4, hb4⟩; have HI4 := hide hi4; have V4 := hide ((unhide VV).keep hb4); have HO4 := hide (IsTs.below (unhide HO6) (unhide V4).below); clear hi4 hb4; clear a0 a1 g00 g01 z0 z1 l7; obtain ⟨⟨a0, a1⟩, ⟨g00, g01⟩, ⟨z0, z1⟩, l7⟩ := (unhide V4).cells)
          | (go_at_call 13; refine (same_any _ _ _ _ (unhide HO4) (unhide HI4) (unhide HML)).mono ?_; rintro e w5 ⟨rfl, hb5⟩; have V5 := hide ((unhide V4).keep hb5); clear hb5; clear a0 a1 g00 g01 z0 z1 l7; obtain ⟨⟨a0, a1⟩, ⟨g00, g01⟩, ⟨z0, z1⟩, l7⟩ := (unhide V5).cells)
          | (go_at_call 9; refine (unhide HOW _ (unhide V5).all).mono ?_; rintro e w6 ⟨a6, c6, rfl, ho6, hb6⟩; have HI6 := hide ho6.ts; have V6b := hide ((unhide V5).keep hb6); clear ho6 hb6; clear a0 a1 g00 g01 z0 z1 l7; obtain ⟨⟨a0, a1⟩, ⟨g00, g01⟩, ⟨z0, z1⟩, l7⟩ := (unhide V6b).cells)
          | (go_at_call 21; refine (unhide HDU _ _ _ (unhide HI6)).mono ?_; rintro e w7 ⟨ad1, cd1, ad2, cd2, rfl, hd1, hd2, hb7⟩; have HD1 := hide hd1; have HD2 := hide hd2; clear hd1 hd2; have V7 := hide ((unhide V6b).keep hb7); clear hb7; clear a0 a1 g00 g01 z0 z1 l7; obtain ⟨⟨a0, a1⟩, ⟨g00, g01⟩, ⟨z0, z1⟩, l7⟩ := (unhide V7).cells)
          | (go_at_call 12; refine (unhide HHF _ ((unhide V7).all.alloc (unhide V7).all.size _)).mono ?_; rintro e w8 ⟨rfl, hb8⟩; have V8 := hide (((unhide V7).keep ((Below.refl _ _).alloc (Nat.le_refl _) _)).keep hb8); have B11 := hide (keep_below (new_block w7 _) hb8); have HB8 := hide hb8; clear hb8; clear a0 a1 g00 g01 z0 z1 l7; obtain ⟨⟨a0, a1⟩, ⟨g00, g01⟩, ⟨z0, z1⟩, l7⟩ := (unhide V8).cells))
      have n11 : w7.heap.size ≠ s7 := by have := (unhide V7).cells.2.2.2; omega
      have V9 := hide ((unhide V8).set 0 0)
      have B12 := hide (keep_set2 (R := s7) (a := .int .i64 0) (b := .int .i64 0) (unhide B11) n11)
      obtain ⟨W9, eW9⟩ : ∃ W, (w8.setCell ⟨s7, 0, none⟩ (.int .i64 0)).setCell ⟨s7, 1, none⟩ (.int .i64 0) = W := ⟨_, rfl⟩
      rw [eW9] at V9 B12 ⊢
      have EW9 := hide eW9
      clear eW9 B11
      clear a0 a1 g00 g01 z0 z1 l7
      obtain ⟨b110, b111, _, _, _⟩ := block2 (unhide B12)
      obtain ⟨⟨a0, a1⟩, ⟨g00, g01⟩, ⟨z0, z1⟩, l7⟩ := (unhide V9).cells
      have hs76 := (unhide V6b).cells.2.2.2
      have HL1 : Hid (Own w6.heap.size W9 (.slice ad1 (dueL ts now).1.length cd1) (dueL ts now).1) := by rw [← unhide EW9]; exact (((unhide HD1).below ((Below.refl _ _).alloc (Nat.le_refl _) _)).below (unhide HB8)).set2 hs76 _ _
      have HL2 : Hid (Own w6.heap.size W9 (.slice ad2 (dueL ts now).2.length cd2) (dueL ts now).2) := by rw [← unhide EW9]; exact (((unhide HD2).below ((Below.refl _ _).alloc (Nat.le_refl _) _)).below (unhide HB8)).set2 hs76 _ _
      clear HD1 HD2 HB8 EW9 n11
      by_cases h3 : 300 < n
      · have h3' : (300 : Int) < (n : Int) := by omega
        go_wp2_with fail
        go_ret
        exact ⟨rfl, (unhide V9).all⟩
      · have h3' : ¬ (300 : Int) < (n : Int) := by omega
        obtain ⟨R, hR⟩ : ∃ R, R = dueL ts now := ⟨_, rfl⟩
        rw [← hR] at HL1 HL2 ⊢
        have HE : Hid (R = dueF now n ts []) := by rw [hR, ← unhide HL]; rfl
        have hRl : R.1.length + R.2.length = n := by rw [hR, dueL, dueF_length, unhide HL]; rfl
        have HRL := hide hRl
        obtain ⟨r1, hr1⟩ : ∃ r, R.1.length = r := ⟨_, rfl⟩
        obtain ⟨r2, hr2⟩ : ∃ r, R.2.length = r := ⟨_, rfl⟩
        have HL1' := unhide HL1
        have HL2' := unhide HL2
        rw [hr1] at HL1' ⊢
        rw [hr2] at HL2' ⊢
        have HG1 := hide HL1'; have HG2 := hide HL2'
        have HR1 := hide hr1; have HR2 := hide hr2
        clear HL1' HL2' HL1 HL2 hR hRl hr1 hr2
        go_wp2_with (go_at_call 9; refine (unhide HOW _ (unhide V9).all).mono ?_; rintro e w10 ⟨a10, c10, rfl, ho10, hb10⟩; have HO10 := hide (ho10.base (unhide V9).all.size); have HB10 := hide hb10; clear ho10 hb10)
        clear a0 a1 g00 g01 z0 z1 l7 b110 b111
        go_loopw [12, 13] (fun s12 s13 wr2 => ∃ (l d : List Tm) (f : Nat) (a13 : Option Addr) (c13 : Nat), s12 = .int .i64 (d.length : Nat) ∧ s13 = .slice a13 l.length c13 ∧ l.length ≤ f ∧ l.length + d.length ≤ n ∧ R = dueF now f l d ∧ Own w.heap.size wr2 (.slice a13 l.length c13) l ∧ Below W9.heap.size W9 wr2) (fun _ s13 _ => sliceLen s13)
        case atStart => exact ⟨ts, [], n, a10, c10, rfl, by rw [unhide HL], by rw [unhide HL]; exact Nat.le_refl _, by rw [unhide HL]; exact Nat.le_refl _, unhide HE, by rw [unhide HL]; exact unhide HO10, unhide HB10⟩
        case round =>
          clear HE HO10 HB10
          obtain ⟨l, d, f, a13, c13, rfl, rfl, hlf, hld, hE, hown, hbel⟩ := hrel
          have HE := hide hE; have HB := hide hbel
          obtain ⟨p, hpl⟩ : ∃ p, l.length = p := ⟨_, rfl⟩
          obtain ⟨q, hql⟩ : ∃ q, d.length = q := ⟨_, rfl⟩
          rw [hpl] at hlf hown ⊢
          rw [hpl, hql] at hld
          rw [hql]
          have HO := hide hown
          have HPL := hide hpl; have HQL := hide hql
          clear hE hbel hown hpl hql
          cases p with
          | zero =>
            have HER := hide ((unhide HE).trans (dueF_stop (fun h => by rw [unhide HPL] at h; exact absurd h.1 (Nat.lt_irrefl _))))
            obtain ⟨rfl, rfl⟩ : r1 = 0 ∧ r2 = q := ⟨by rw [← unhide HR1, unhide HER]; exact unhide HPL, by rw [← unhide HR2, unhide HER]; exact unhide HQL⟩
            have q9 : ((r2 : Int) == (r2 : Int)) = true := by simp
            have HS := hide (same_any wr (.slice ad1 0 cd1) (.slice a13 0 c13) l (IsTs.below (by have := (unhide HG1).ts; rw [unhide HER] at this; exact this) (unhide HB)) (unhide HO).ts (by rw [unhide HPL]; unfold maxLen; omega))
            go_wp2_with (go_at_call 13; refine (unhide HS).mono ?_; rintro e w11 ⟨rfl, hb11⟩; have HB11 := hide ((unhide HB).trans (hb11.mono (unhide HB).size)); clear hb11)
            go_ret
            exact ⟨rfl, (unhide V9).all.trans ((unhide HB11).mono (unhide V9).all.size)⟩
          | succ m =>
            obtain ⟨x, y, hxy⟩ : ∃ x y, tAt l 0 = (x, y) := ⟨_, _, rfl⟩
            obtain ⟨g, cg, ev, hgw, hrow⟩ := (unhide HO).row (by rw [unhide HPL]; omega)
            rw [unhide HPL] at ev
            cases ev
            obtain ⟨k0, k1⟩ := hrow.first (by rw [unhide HPL]; omega) hxy
            have HXY := hide hxy; have HRW := hide hrow
            clear hxy hrow
            have g1 : (0 : Int) < (m : Int) + 1 := by omega
            by_cases hx : x ≤ now
            · have HGO := hide ((unhide HE).trans (dueF_go (unhide HXY) (by rw [unhide HPL]; omega) hx (by omega)))
              obtain ⟨hq2, hqt⟩ := due_at (unhide HGO)
              rw [unhide HQL] at hq2 hqt
              rw [unhide HR2] at hq2
              obtain ⟨b2, o2, c2', e2, hb2, hc2⟩ := (unhide HG2).ts.at (by rw [unhide HR2]; omega)
              rw [unhide HR2] at e2
              cases e2
              have hkk := hc2.below (unhide HB) hb2 q (by rw [unhide HR2]; exact hq2)
              rw [hqt] at hkk
              obtain ⟨l0, l1⟩ := hkk
              have g2 : (0 : Int) ≤ (q : Int) := by omega
              have g3 : (q : Int) < (r2 : Int) := by omega
              have g4 : ¬ (r2 : Int) ≤ (q : Int) := by omega
              have q5 : (x == x) = true := by simp
              have q6 : (y == y) = true := by simp
              have HDR := hide (fun W (hW : Below wr.heap.size wr W) => dropped_any W g 0 m c13 l (unhide HPL) (by omega) (by have := (unhide HRW).fits; rw [unhide HPL] at this; exact this) (Nat.lt_of_lt_of_le (unhide HRW).lt hW.size) ((unhide HRW).below hW (unhide HRW).lt).cells 0 (Nat.zero_le _))
              have wq : IntKind.i64.wrap ((q : Int) + 1) = (q : Int) + 1 := by simp [IntKind.wrap, IntKind.bits, IntKind.signed]; omega
              clear hqt hc2
              go_wp2_with fail
              go_quiet (fail)
              have HBN := hide (below_drewN (Below.refl wr.heap.size wr) nq)
              clear k0 k1 l0 l1
              go_wp2_with (go_at_call 18; refine (unhide HDR _ (unhide HBN)).mono ?_; rintro e w11 ⟨a11, c11, rfl, ho11, hb11⟩; have HO11 := hide (ho11.base (show w.heap.size ≤ _ from Nat.le_trans (unhide V9).all.size (Nat.le_trans (unhide HB).size (unhide HBN).size))); have HB11 := hide (((unhide HB).trans ((unhide HBN).mono (unhide HB).size)).trans (hb11.mono (Nat.le_trans (unhide HB).size (unhide HBN).size))); clear ho11 hb11)
              go_roundw
              case rel =>
                have hdl := dropL_length (i := 0) (unhide HPL) (Nat.zero_le _)
                have hal : (d ++ [(x, y)]).length = q + 1 := by rw [List.length_append, unhide HQL]; rfl
                refine ⟨dropL l 0, d ++ [(x, y)], f - 1, a11, c11, by rw [hal]; go_num, by rw [hdl], by rw [hdl]; omega, by rw [hdl, hal]; omega, unhide HGO, ?_, unhide HB11⟩
                rw [hdl]
                exact unhide HO11
              case measure => simp [sliceLen]
            · have HER := hide ((unhide HE).trans (dueF_stop (fun h => by rw [unhide HXY] at h; exact hx h.2)))
              obtain ⟨rfl, rfl⟩ : r1 = m + 1 ∧ r2 = q := ⟨by rw [← unhide HR1, unhide HER]; exact unhide HPL, by rw [← unhide HR2, unhide HER]; exact unhide HQL⟩
              have q9 : ((r2 : Int) == (r2 : Int)) = true := by simp
              have HS := hide (same_any wr (.slice ad1 (m + 1) cd1) (.slice (some ⟨g, 0, none⟩) (m + 1) c13) l (IsTs.below (by have := (unhide HG1).ts; rw [unhide HER] at this; exact this) (unhide HB)) (unhide HO).ts (by rw [unhide HPL]; unfold maxLen; omega))
              go_wp2_with (go_at_call 13; refine (unhide HS).mono ?_; rintro e w11 ⟨rfl, hb11⟩; have HB11 := hide ((unhide HB).trans (hb11.mono (unhide HB).size)); clear hb11)
              go_ret
              exact ⟨rfl, (unhide V9).all.trans ((unhide HB11).mono (unhide V9).all.size)⟩

theorem dues_walk (w : World) (v : Value) (ts : List Tm) (now : Int) (h : IsTs w v ts) (hm : ts.length ≤ maxLen) :
    Calls Try.prog 5 #[v, .int .i64 now] w fun e w' => e = .returned (.bool true) ∧ Below w.heap.size w w' := by
  obtain ⟨a, c, rfl⟩ := Rd.form h
  by_cases hl : 6000 < ts.length
  · exact dues_long w a _ c now hl hm
  · have hn : ts.length ≤ 6000 := by omega
    have ha : 0 < ts.length → ∃ b off, a = some ⟨b, off, none⟩ ∧ b < w.heap.size ∧ Cells w b off ts := fun h0 => by
      obtain ⟨b, off, c', e, hb, hc⟩ := h.at h0
      cases e
      exact ⟨b, off, rfl, hb, hc⟩
    by_cases h1 : (heapF ts).1 = 0
    · exact dues_ok w a _ c now ts rfl h hn ha (madeF_zero (heap_made h1)) (heapF_zero h1)
    · by_cases h2 : (madeF ts).1 = 0
      · exact dues_half w a _ c now ts rfl h hn ha (madeF_zero h2) _ _ rfl h1
      · exact dues_wrong w a _ c now ts rfl h hn ha _ _ rfl h2 _ _ rfl h1
end Go.Proofs.Ytcfjpjojckngeaa
