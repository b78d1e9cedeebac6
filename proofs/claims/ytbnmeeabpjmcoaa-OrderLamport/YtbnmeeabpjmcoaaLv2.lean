/-
  taskmilllaw.OrderLamport: a way of its end.
-/
import Derived.Test.YtbnmeeabpjmcoaaLv
namespace Go.Proofs.Ytbnmeeabpjmcoaa
open Go.RowKit

set_option maxRecDepth 100000 in
set_option maxHeartbeats 4000000 in
theorem lam_no (w : World) (a0 : Option Addr) (n0 c0 : Nat) (a1 : Option Addr) (n1 c1 : Nat) (l : List Ev) (hs : List Int) (hl : IsL KE w (.slice a0 n0 c0) l) (hh : IsL KI w (.slice a1 n1 c1) hs) (h : ¬ 300 < n0) (h2 : ¬ 100 < n1) (hg : GoodT hs l) (i j k : Nat) (hi : i < n0) (hj : j < n0) (hk : k < n0) (bjk bik bji : Bool) (hij : befL hs l i j = false) (hjk : befL hs l j k = bjk) (hik : befL hs l i k = bik) (hji : befL hs l j i = bji) (e : i ≠ j) :
    Calls Try.prog 4 #[.slice a0 n0 c0, .slice a1 n1 c1, .int .i64 (i : Int), .int .i64 (j : Int), .int .i64 (k : Int)] w fun e w' => e = .returned (.bool true) ∧ Below w.heap.size w w' := by
  have i1 : ¬ (300 : Int) < (n0 : Int) := by omega
  have i2 : ¬ (100 : Int) < (n1 : Int) := by omega
  obtain ⟨m, hm⟩ : ∃ m : Nat, lastL l = (m : Int) := ⟨(lastL l).toNat, by have := (hg.last l.length (Nat.le_refl _)).1; rw [List.take_length] at this; omega⟩
  have HCF : Hid (∀ W, Below w.heap.size w W → Calls Try.prog 13 #[.slice a0 n0 c0, .slice a1 n1 c1] W fun e w' => ∃ G, e = .returned (.tuple #[.slice (some ⟨G, 0, none⟩) n0 n0, .agg #[.int .i64 0, .int .i64 0]]) ∧ Rows2 (W.heap.size + 1) w' G n0 (rowL hs l m) m n0 ∧ W.heap.size + 1 ≤ G ∧ Below W.heap.size W w') := fun W hW => clocks_good W a0 n0 c0 a1 n1 c1 l hs (hl.below hW) (hh.below hW) hg m hm
  have hln := hl.len
  have HBF : Hid (∀ x y : Nat, x < n0 → y < n0 → ∀ W, Below w.heap.size w W → Calls Try.prog 14 #[.slice a0 n0 c0, .slice a1 n1 c1, .int .i64 (x : Int), .int .i64 (y : Int)] W fun e w' => e = .returned (.tuple #[.bool (befL hs l x y), .agg #[.int .i64 0, .int .i64 0]]) ∧ Below W.heap.size W w') := fun x y hx hy W hW => before_good W a0 n0 c0 a1 n1 c1 l hs (hl.below hW) (hh.below hW) hg x y hx hy
  have hok := hg.ev (j := i) (by omega)
  have ht1 := hok.t1
  have ht2 := hok.t2
  have htl := last_task l (j := i) (by omega)
  have hii : befL hs l i i = false := by simp [befL]
  obtain ⟨pl, epl⟩ : ∃ X, plOf (l.getD i ev0) = X := ⟨_, rfl⟩
  have hpl : (l.getD i ev0).task = (pl : Int) + 1 := by unfold plOf at epl; omega
  have hpm : pl < m := by omega
  have hp64 : pl < 64 := by omega
  obtain ⟨xi, exi⟩ : ∃ X, ckAt hs l i pl = X := ⟨_, rfl⟩
  obtain ⟨xj, exj⟩ : ∃ X, ckAt hs l j pl = X := ⟨_, rfl⟩
  have y1 : ((i : Int) == (j : Int)) = false := by simp; omega
  have y2 : ¬ xi ≤ xj := by
    have h0 := bef_iff hs l hg.tasks (by omega) (by omega) e
    rw [hij, epl, exi, exj] at h0
    simpa using h0
  clear e
  obtain ⟨tb, tof, rfl, htb, hli⟩ := hl.opens ke hln (by omega)
  obtain ⟨⟨tk, op, ob, vl⟩, ex⟩ : ∃ X, l.getD i ev0 = X := ⟨_, rfl⟩
  rw [ex] at hpl
  dsimp only at hpl
  have HCE : Hid (∀ W, Below w.heap.size w W → W.cell? ⟨tb, tof + i * 4, none⟩ = some (.int .i64 tk)) := fun W hW => ((hli.below hW htb).ev (j := i) (by omega) ex).1
  have wt : IntKind.i64.wrap (tk - 1) = (pl : Int) := by
    rw [hpl, show (pl : Int) + 1 - 1 = (pl : Int) by omega]
    exact wrapi (by omega) (by omega)
  have HRW : Hid (∀ (lo : Nat) (W : World) (G : Nat), Rows2 lo W G n0 (rowL hs l m) m n0 → (∃ bi ci, W.cell? ⟨G, i, none⟩ = some (.slice (some ⟨bi, 0, none⟩) m ci) ∧ W.cell? ⟨bi, pl, none⟩ = some (.int .i64 xi)) ∧ ∃ bj cj, W.cell? ⟨G, j, none⟩ = some (.slice (some ⟨bj, 0, none⟩) m cj) ∧ W.cell? ⟨bj, pl, none⟩ = some (.int .i64 xj)) := fun lo W G hR => by
    obtain ⟨bi, ci, h1, -, -, -, h4⟩ := hR.row i hi
    obtain ⟨bj, cj, k1, -, -, -, k4⟩ := hR.row j hj
    obtain ⟨_, _, e5, _, l5⟩ := h4.opens ki h4.len (by omega)
    cases e5
    obtain ⟨_, _, e6, _, l6⟩ := k4.opens ki k4.len (by omega)
    cases e6
    have h5 := l5.ints (j := pl) (by rw [rowL_len]; exact hpm)
    have h6 := l6.ints (j := pl) (by rw [rowL_len]; exact hpm)
    rw [rowL_get hs l hpm, Nat.zero_add] at h5 h6
    rw [exi] at h5
    rw [exj] at h6
    exact ⟨⟨bi, ci, h1, h5⟩, ⟨bj, cj, k1, h6⟩⟩
  have HB0 : Hid (∀ W, Below w.heap.size w W → Calls Try.prog 14 #[.slice (some ⟨tb, tof, none⟩) n0 c0, .slice a1 n1 c1, .int .i64 (i : Int), .int .i64 (j : Int)] W fun e w' => e = .returned (.tuple #[.bool false, .agg #[.int .i64 0, .int .i64 0]]) ∧ Below W.heap.size W w') := fun W hW => by have h0 := unhide HBF i j hi hj W hW; rwa [hij] at h0
  have HB1 : Hid (∀ W, Below w.heap.size w W → Calls Try.prog 14 #[.slice (some ⟨tb, tof, none⟩) n0 c0, .slice a1 n1 c1, .int .i64 (j : Int), .int .i64 (k : Int)] W fun e w' => e = .returned (.tuple #[.bool bjk, .agg #[.int .i64 0, .int .i64 0]]) ∧ Below W.heap.size W w') := fun W hW => by have h0 := unhide HBF j k hj hk W hW; rwa [hjk] at h0
  have HB2 : Hid (∀ W, Below w.heap.size w W → Calls Try.prog 14 #[.slice (some ⟨tb, tof, none⟩) n0 c0, .slice a1 n1 c1, .int .i64 (i : Int), .int .i64 (k : Int)] W fun e w' => e = .returned (.tuple #[.bool bik, .agg #[.int .i64 0, .int .i64 0]]) ∧ Below W.heap.size W w') := fun W hW => by have h0 := unhide HBF i k hi hk W hW; rwa [hik] at h0
  have HB3 : Hid (∀ W, Below w.heap.size w W → Calls Try.prog 14 #[.slice (some ⟨tb, tof, none⟩) n0 c0, .slice a1 n1 c1, .int .i64 (j : Int), .int .i64 (i : Int)] W fun e w' => e = .returned (.tuple #[.bool bji, .agg #[.int .i64 0, .int .i64 0]]) ∧ Below W.heap.size W w') := fun W hW => by have h0 := unhide HBF j i hj hi W hW; rwa [hji] at h0
  have HB4 : Hid (∀ W, Below w.heap.size w W → Calls Try.prog 14 #[.slice (some ⟨tb, tof, none⟩) n0 c0, .slice a1 n1 c1, .int .i64 (i : Int), .int .i64 (i : Int)] W fun e w' => e = .returned (.tuple #[.bool false, .agg #[.int .i64 0, .int .i64 0]]) ∧ Below W.heap.size W w') := fun W hW => by have h0 := unhide HBF i i hi hi W hW; rwa [hii] at h0
  have i0 : ¬ (i : Int) < 0 := by omega
  have i1 : ¬ (n0 : Int) ≤ (i : Int) := by omega
  have i2 : (0 : Int) ≤ (i : Int) := by omega
  have i3 : (i : Int) < (n0 : Int) := by omega
  have j0 : ¬ (j : Int) < 0 := by omega
  have j1 : ¬ (n0 : Int) ≤ (j : Int) := by omega
  have j2 : (0 : Int) ≤ (j : Int) := by omega
  have j3 : (j : Int) < (n0 : Int) := by omega
  have k0 : ¬ (k : Int) < 0 := by omega
  have k1 : ¬ (n0 : Int) ≤ (k : Int) := by omega
  have k2 : (0 : Int) ≤ (k : Int) := by omega
  have k3 : (k : Int) < (n0 : Int) := by omega
  have p0 : (0 : Int) ≤ (pl : Int) := by omega
  have p1 : (pl : Int) < (m : Int) := by omega
  have p2 : ¬ (m : Int) ≤ (pl : Int) := by omega
  clear hl hh hg hm hln HBF hok ht1 ht2 htl hii epl hpl hpm exi exj hli ex hij hjk hik hji htb
  go_enter Try.func4, Try.ntmps4
  go_upto_region 6 with (first
    | (go_at_call 9; (with_reducible refine Calls.mono (begun_any _) ?_); rintro e w1 ⟨rfl, hb1⟩; have HX1 := hide hb1; clear hb1)
    | (go_at_call 13; (with_reducible refine Calls.mono (unhide HCF _ (unhide HX1)) ?_); rintro e w2 ⟨G, rfl, hr2, hg2, hb2⟩; have HX2 := hide (Below.next (unhide HX1) hb2 (Nat.le_refl _)); have HR2 := hide hr2; clear hr2 hg2 hb2))
  have HX3 := hide ((unhide HX2).alloc (unhide HX2).size (.cells #[.int .i64 0, .int .i64 0] 28)); have HF3 := hide (new_block w2 (.cells #[.int .i64 0, .int .i64 0] 28)); have HR3 := hide ((unhide HR2).below ((Below.refl _ _).alloc (Nat.le_refl _) (.cells #[.int .i64 0, .int .i64 0] 28)))
  obtain ⟨F0, eF0⟩ : ∃ X, w2.heap.size = X := ⟨_, rfl⟩
  obtain ⟨W3, e3⟩ : ∃ X, w2.alloc (.cells #[.int .i64 0, .int .i64 0] 28) = X := ⟨_, rfl⟩
  rw [e3] at HX3 HR3; rw [eF0, e3] at HF3; rw [eF0, e3]
  clear e3 eF0 HX2 HR2
  obtain ⟨g0, g1, gf0, gf1, gl⟩ := block2 (unhide HF3)
  go_upto_region 8 with fail
  clear g0 g1 gf0 gf1 gl HX1 HCF
  go_upto_region 9 with (go_at_call 14; (with_reducible refine Calls.mono (unhide HB0 _ (unhide HX3)) ?_); rintro e v4 ⟨rfl, hb4⟩; have HX4a := hide (Below.next (unhide HX3) hb4 (Nat.le_refl _)); have HR4a := hide ((unhide HR3).below hb4); clear hb4)
  have HX4 := hide ((unhide HX4a).alloc (unhide HX4a).size (.cells #[.int .i64 0, .int .i64 0] 28)); have HR4 := hide ((unhide HR4a).below ((Below.refl _ _).alloc (Nat.le_refl _) (.cells #[.int .i64 0, .int .i64 0] 28))); have HF4 := hide (new_block v4 (.cells #[.int .i64 0, .int .i64 0] 28))
  obtain ⟨F4, eF4⟩ : ∃ X, v4.heap.size = X := ⟨_, rfl⟩
  obtain ⟨W4, e4⟩ : ∃ X, v4.alloc (.cells #[.int .i64 0, .int .i64 0] 28) = X := ⟨_, rfl⟩
  rw [e4] at HX4 HR4; rw [eF4, e4] at HF4; rw [eF4, e4]
  clear e4 eF4 HX4a HR4a HX3 HR3 HB0
  go_upto_region 10 with (go_at_call 14; (with_reducible refine Calls.mono (unhide HB1 _ (unhide HX4)) ?_); rintro e v5 ⟨rfl, hb5⟩; have HX5a := hide (Below.next (unhide HX4) hb5 (Nat.le_refl _)); have HR5a := hide ((unhide HR4).below hb5); have HF4b := hide (keep_below (unhide HF4) hb5); clear hb5)
  have HX5 := hide ((unhide HX5a).alloc (unhide HX5a).size (.cells #[.int .i64 0, .int .i64 0] 28)); have HR5 := hide ((unhide HR5a).below ((Below.refl _ _).alloc (Nat.le_refl _) (.cells #[.int .i64 0, .int .i64 0] 28))); have HF5 := hide (new_block v5 (.cells #[.int .i64 0, .int .i64 0] 28))
  have HF4c := hide (keep_alloc (unhide HF4b) (.cells #[.int .i64 0, .int .i64 0] 28))
  obtain ⟨F5, eF5⟩ : ∃ X, v5.heap.size = X := ⟨_, rfl⟩
  obtain ⟨W5, e5⟩ : ∃ X, v5.alloc (.cells #[.int .i64 0, .int .i64 0] 28) = X := ⟨_, rfl⟩
  rw [e5] at HX5 HR5 HF4c; rw [eF5, e5] at HF5; rw [eF5, e5]
  clear e5 eF5 HX5a HR5a HX4 HR4 HB1 HF4 HF4b
  have HF4 := HF4c
  clear HF4c
  go_upto_region 11 with (go_at_call 14; (with_reducible refine Calls.mono (unhide HB2 _ (unhide HX5)) ?_); rintro e v6 ⟨rfl, hb6⟩; have HX6a := hide (Below.next (unhide HX5) hb6 (Nat.le_refl _)); have HR6a := hide ((unhide HR5).below hb6); have HF4b := hide (keep_below (unhide HF4) hb6); have HF5b := hide (keep_below (unhide HF5) hb6); clear hb6)
  have HX6 := hide ((unhide HX6a).alloc (unhide HX6a).size (.cells #[.int .i64 0, .int .i64 0] 28)); have HR6 := hide ((unhide HR6a).below ((Below.refl _ _).alloc (Nat.le_refl _) (.cells #[.int .i64 0, .int .i64 0] 28))); have HF6 := hide (new_block v6 (.cells #[.int .i64 0, .int .i64 0] 28))
  have HF4c := hide (keep_alloc (unhide HF4b) (.cells #[.int .i64 0, .int .i64 0] 28))
  have HF5c := hide (keep_alloc (unhide HF5b) (.cells #[.int .i64 0, .int .i64 0] 28))
  obtain ⟨F6, eF6⟩ : ∃ X, v6.heap.size = X := ⟨_, rfl⟩
  obtain ⟨W6, e6⟩ : ∃ X, v6.alloc (.cells #[.int .i64 0, .int .i64 0] 28) = X := ⟨_, rfl⟩
  rw [e6] at HX6 HR6 HF4c HF5c; rw [eF6, e6] at HF6; rw [eF6, e6]
  clear e6 eF6 HX6a HR6a HX5 HR5 HB2 HF4 HF4b HF5 HF5b
  have HF4 := HF4c
  clear HF4c
  have HF5 := HF5c
  clear HF5c
  go_upto_region 12 with (go_at_call 14; (with_reducible refine Calls.mono (unhide HB3 _ (unhide HX6)) ?_); rintro e v7 ⟨rfl, hb7⟩; have HX7a := hide (Below.next (unhide HX6) hb7 (Nat.le_refl _)); have HR7a := hide ((unhide HR6).below hb7); have HF4b := hide (keep_below (unhide HF4) hb7); have HF5b := hide (keep_below (unhide HF5) hb7); have HF6b := hide (keep_below (unhide HF6) hb7); clear hb7)
  have HX7 := hide ((unhide HX7a).alloc (unhide HX7a).size (.cells #[.int .i64 0, .int .i64 0] 28)); have HR7 := hide ((unhide HR7a).below ((Below.refl _ _).alloc (Nat.le_refl _) (.cells #[.int .i64 0, .int .i64 0] 28))); have HF7 := hide (new_block v7 (.cells #[.int .i64 0, .int .i64 0] 28))
  have HF4c := hide (keep_alloc (unhide HF4b) (.cells #[.int .i64 0, .int .i64 0] 28))
  have HF5c := hide (keep_alloc (unhide HF5b) (.cells #[.int .i64 0, .int .i64 0] 28))
  have HF6c := hide (keep_alloc (unhide HF6b) (.cells #[.int .i64 0, .int .i64 0] 28))
  obtain ⟨F7, eF7⟩ : ∃ X, v7.heap.size = X := ⟨_, rfl⟩
  obtain ⟨W7, e7⟩ : ∃ X, v7.alloc (.cells #[.int .i64 0, .int .i64 0] 28) = X := ⟨_, rfl⟩
  rw [e7] at HX7 HR7 HF4c HF5c HF6c; rw [eF7, e7] at HF7; rw [eF7, e7]
  clear e7 eF7 HX7a HR7a HX6 HR6 HB3 HF4 HF4b HF5 HF5b HF6 HF6b
  have HF4 := HF4c
  clear HF4c
  have HF5 := HF5c
  clear HF5c
  have HF6 := HF6c
  clear HF6c
  go_upto_region 13 with (go_at_call 14; (with_reducible refine Calls.mono (unhide HB4 _ (unhide HX7)) ?_); rintro e v8 ⟨rfl, hb8⟩; have HX8a := hide (Below.next (unhide HX7) hb8 (Nat.le_refl _)); have HR8a := hide ((unhide HR7).below hb8); have HF4b := hide (keep_below (unhide HF4) hb8); have HF5b := hide (keep_below (unhide HF5) hb8); have HF6b := hide (keep_below (unhide HF6) hb8); have HF7b := hide (keep_below (unhide HF7) hb8); clear hb8)
  have HX8 := hide ((unhide HX8a).alloc (unhide HX8a).size (.cells #[.int .i64 0, .int .i64 0] 28)); have HR8 := hide ((unhide HR8a).below ((Below.refl _ _).alloc (Nat.le_refl _) (.cells #[.int .i64 0, .int .i64 0] 28))); have HF8 := hide (new_block v8 (.cells #[.int .i64 0, .int .i64 0] 28))
  have HF4c := hide (keep_alloc (unhide HF4b) (.cells #[.int .i64 0, .int .i64 0] 28))
  have HF5c := hide (keep_alloc (unhide HF5b) (.cells #[.int .i64 0, .int .i64 0] 28))
  have HF6c := hide (keep_alloc (unhide HF6b) (.cells #[.int .i64 0, .int .i64 0] 28))
  have HF7c := hide (keep_alloc (unhide HF7b) (.cells #[.int .i64 0, .int .i64 0] 28))
  obtain ⟨F8, eF8⟩ : ∃ X, v8.heap.size = X := ⟨_, rfl⟩
  obtain ⟨W8, e8⟩ : ∃ X, v8.alloc (.cells #[.int .i64 0, .int .i64 0] 28) = X := ⟨_, rfl⟩
  rw [e8] at HX8 HR8 HF4c HF5c HF6c HF7c; rw [eF8, e8] at HF8; rw [eF8, e8]
  clear e8 eF8 HX8a HR8a HX7 HR7 HB4 HF4 HF4b HF5 HF5b HF6 HF6b HF7 HF7b
  have HF4 := HF4c
  clear HF4c
  have HF5 := HF5c
  clear HF5c
  have HF6 := HF6c
  clear HF6c
  have HF7 := HF7c
  clear HF7c
  obtain ⟨g40, -, -, -, gl4⟩ := block2 (unhide HF4)
  obtain ⟨g50, -, -, -, gl5⟩ := block2 (unhide HF5)
  obtain ⟨g60, -, -, -, gl6⟩ := block2 (unhide HF6)
  obtain ⟨g70, -, -, -, gl7⟩ := block2 (unhide HF7)
  obtain ⟨g80, -, -, -, gl8⟩ := block2 (unhide HF8)
  go_upto_region 15 with fail
  clear g40 gl4 g50 gl5 g60 gl6 g70 gl7 g80 gl8
  have hce := unhide HCE _ (unhide HX8)
  obtain ⟨⟨bi, ci, r1, r2⟩, bj, cj, r3, r4⟩ := unhide HRW _ _ _ (unhide HR8)
  go_upto_region 18 with fail
  clear hce
  go_quiet (fail)
  go_wp2_with fail
  go_ret
  refine ⟨?_, below_drewN (unhide HX8) _⟩
  show Ending.returned (.bool (!decide (xi ≤ xj))) = _
  rw [decide_eq_false (show ¬ xi ≤ xj by omega)]
  rfl

end Go.Proofs.Ytbnmeeabpjmcoaa
