/-
  taskmilllaw.WaitWakes where something is wrong, or much.
-/
import Derived.Test.YtjlcfdhghohccaaZc
namespace Go.Proofs.Ytjlcfdhghohccaa
open Go.RowKit

set_option maxRecDepth 100000 in
set_option maxHeartbeats 4000000 in
theorem wakes_vast (w : World) (a : Option Addr) (n c : Nat) (x y k : Int) (ls : List Ln) (h : Arg w a n c ls) (hv : 6000 < n ∨ 6000 < (waitL ls).length) : Calls Try.prog 4 #[.slice a n c, .int .i64 x, .int .i64 y, .int .i64 k] w fun e w' => e = .returned (.bool true) ∧ Below w.heap.size w w' := by
  have hnot : ∀ (x : Bool) (w : World), (Op.unary .not (.bool x)).run Try.prog w = .ok (.bool (!x)) w := fun _ _ => rfl
  have hl := h.rd.len
  have HVS : Hid (∀ W, Below w.heap.size w W → Calls Try.prog 9 #[.slice a n c] W fun e w' => e = .returned (.bool true) ∧ Below W.heap.size W w') := fun W hW => by
    have := vast_bool W a n c ls hl (h.rd.below hW) h.max h.each
    rw [decide_eq_true hv] at this
    refine this.mono ?_
    rintro e w' ⟨h1, h2⟩
    exact ⟨h1, by rw [h2]; exact Below.refl _ _⟩
  obtain ⟨b1, b2, b3, hb0, hs0⟩ := three_new w (.cells #[.slice a n c] 22) (.cells #[.int .i64 x] 3) (.cells #[.int .i64 y] 3)
  have HB0 := hide hb0; have B1 := hide b1; have B2 := hide b2; have B3 := hide b3
  clear b1 b2 b3 hb0 hs0 h hv hl
  go_enter Try.func4, Try.ntmps4
  go_upto_region 1 with fail
  obtain ⟨W0, eW0⟩ : ∃ W, ((w.alloc (.cells #[.slice a n c] 22)).alloc (.cells #[.int .i64 x] 3)).alloc (.cells #[.int .i64 y] 3) = W := ⟨_, rfl⟩
  rw [eW0] at HB0 B1 B2 B3
  rw [eW0]
  clear eW0
  have HF : Hid (∀ W, Below W0.heap.size W0 W → W.cell? ⟨w.heap.size, 0, none⟩ = some (.slice a n c) ∧ W.cell? ⟨w.heap.size + 1, 0, none⟩ = some (.int .i64 x) ∧ W.cell? ⟨w.heap.size + 2, 0, none⟩ = some (.int .i64 y)) := fun W hW => ⟨(block1 (keep_below (unhide B1) hW)).1, (block1 (keep_below (unhide B2) hW)).1, (block1 (keep_below (unhide B3) hW)).1⟩
  have HW : Hid (∀ W, Below W0.heap.size W0 W → Below w.heap.size w W) := fun W hW => Below.next (unhide HB0) hW (Nat.le_refl _)
  go_wp2_with (first | (go_at_call 8; refine (begun_any _).mono ?_; rintro e w1 ⟨rfl, hb1⟩; have HX1 := hide hb1; obtain ⟨q0, _⟩ := unhide HF w1 hb1; clear hb1) | (go_at_call 9; refine (unhide HVS _ (unhide HW _ (unhide HX1))).mono ?_; rintro e w2 ⟨rfl, hb2⟩; have HX2 := hide (Below.next (unhide HX1) hb2 (Nat.le_refl _)); clear q0 hb2; obtain ⟨q0, _⟩ := unhide HF w2 (unhide HX2)))
  go_ret
  exact ⟨rfl, unhide HW _ (unhide HX2)⟩

set_option maxRecDepth 100000 in
set_option maxHeartbeats 4000000 in
theorem wakes_many (w : World) (a : Option Addr) (n c : Nat) (x y k : Int) (ls : List Ln) (h : Arg w a n c ls) (hn : n ≤ 6000) (hm : (waitL ls).length ≤ 6000) (hv : 300 < (waitL ls).length) : Calls Try.prog 4 #[.slice a n c, .int .i64 x, .int .i64 y, .int .i64 k] w fun e w' => e = .returned (.bool true) ∧ Below w.heap.size w w' := by
  have hnot : ∀ (x : Bool) (w : World), (Op.unary .not (.bool x)).run Try.prog w = .ok (.bool (!x)) w := fun _ _ => rfl
  have hl := h.rd.len
  have HVS : Hid (∀ W, Below w.heap.size w W → Calls Try.prog 9 #[.slice a n c] W fun e w' => e = .returned (.bool false) ∧ Below W.heap.size W w') := fun W hW => by
    have := vast_bool W a n c ls hl (h.rd.below hW) h.max h.each
    rw [decide_eq_false (by omega)] at this
    refine this.mono ?_
    rintro e w' ⟨h1, h2⟩
    exact ⟨h1, by rw [h2]; exact Below.refl _ _⟩
  obtain ⟨q, eq⟩ : ∃ q, (waitL ls).length = q := ⟨_, rfl⟩
  have HWA : Hid (∀ W, Below w.heap.size w W → Calls Try.prog 17 #[.slice a n c] W fun e w' => ∃ a' c', e = .returned (.slice a' q c') ∧ Below W.heap.size W w') := fun W hW => by
    have := waiting_any W a n c ls hl (h.rd.below hW) (by omega) (by omega)
    rw [eq] at this
    exact this.mono fun e w' ⟨a', c', h1, _, h3⟩ => ⟨a', c', h1, h3⟩
  rw [eq] at hv
  have hv2 : (300 : Int) < (q : Int) := by omega
  obtain ⟨b1, b2, b3, hb0, hs0⟩ := three_new w (.cells #[.slice a n c] 22) (.cells #[.int .i64 x] 3) (.cells #[.int .i64 y] 3)
  have HB0 := hide hb0; have B1 := hide b1; have B2 := hide b2; have B3 := hide b3
  clear b1 b2 b3 hb0 hs0 h hv hl eq hm hn
  go_enter Try.func4, Try.ntmps4
  go_upto_region 1 with fail
  obtain ⟨W0, eW0⟩ : ∃ W, ((w.alloc (.cells #[.slice a n c] 22)).alloc (.cells #[.int .i64 x] 3)).alloc (.cells #[.int .i64 y] 3) = W := ⟨_, rfl⟩
  rw [eW0] at HB0 B1 B2 B3
  rw [eW0]
  clear eW0
  have HF : Hid (∀ W, Below W0.heap.size W0 W → W.cell? ⟨w.heap.size, 0, none⟩ = some (.slice a n c) ∧ W.cell? ⟨w.heap.size + 1, 0, none⟩ = some (.int .i64 x) ∧ W.cell? ⟨w.heap.size + 2, 0, none⟩ = some (.int .i64 y)) := fun W hW => ⟨(block1 (keep_below (unhide B1) hW)).1, (block1 (keep_below (unhide B2) hW)).1, (block1 (keep_below (unhide B3) hW)).1⟩
  have HW : Hid (∀ W, Below W0.heap.size W0 W → Below w.heap.size w W) := fun W hW => Below.next (unhide HB0) hW (Nat.le_refl _)
  go_wp2_with (first | (go_at_call 8; refine (begun_any _).mono ?_; rintro e w1 ⟨rfl, hb1⟩; have HX1 := hide hb1; obtain ⟨q0, _⟩ := unhide HF w1 hb1; clear hb1) | (go_at_call 9; refine (unhide HVS _ (unhide HW _ (unhide HX1))).mono ?_; rintro e w2 ⟨rfl, hb2⟩; have HX2 := hide (Below.next (unhide HX1) hb2 (Nat.le_refl _)); clear q0 hb2; obtain ⟨q0, _⟩ := unhide HF w2 (unhide HX2)) | (go_at_call 17; refine (unhide HWA _ (unhide HW _ (unhide HX2))).mono ?_; rintro e w3 ⟨a3, c3, rfl, hb3⟩; have HX3 := hide (Below.next (unhide HX2) hb3 (Nat.le_refl _)); clear q0 hb3))
  go_ret
  exact ⟨rfl, unhide HW _ (unhide HX3)⟩

set_option maxRecDepth 100000 in
set_option maxHeartbeats 4000000 in
theorem wakes_fault (w : World) (a : Option Addr) (n c : Nat) (x y k : Int) (ls : List Ln) (h : Arg w a n c ls) (hn : n ≤ 6000) (hm : (waitL ls).length ≤ 300) (u v : Int) (hf : linesF ls = (u, v)) (hu : u ≠ 0) : Calls Try.prog 4 #[.slice a n c, .int .i64 x, .int .i64 y, .int .i64 k] w fun e w' => e = .returned (.bool true) ∧ Below w.heap.size w w' := by
  have hnot : ∀ (x : Bool) (w : World), (Op.unary .not (.bool x)).run Try.prog w = .ok (.bool (!x)) w := fun _ _ => rfl
  have hl := h.rd.len
  have HVS : Hid (∀ W, Below w.heap.size w W → Calls Try.prog 9 #[.slice a n c] W fun e w' => e = .returned (.bool false) ∧ Below W.heap.size W w') := fun W hW => by
    have := vast_bool W a n c ls hl (h.rd.below hW) h.max h.each
    rw [decide_eq_false (by omega)] at this
    refine this.mono ?_
    rintro e w' ⟨h1, h2⟩
    exact ⟨h1, by rw [h2]; exact Below.refl _ _⟩
  obtain ⟨q, eq⟩ : ∃ q, (waitL ls).length = q := ⟨_, rfl⟩
  have HWA : Hid (∀ W, Below w.heap.size w W → Calls Try.prog 17 #[.slice a n c] W fun e w' => ∃ a' c', e = .returned (.slice a' q c') ∧ Below W.heap.size W w') := fun W hW => by
    have := waiting_any W a n c ls hl (h.rd.below hW) (by omega) (by omega)
    rw [eq] at this
    exact this.mono fun e w' ⟨a', c', h1, _, h3⟩ => ⟨a', c', h1, h3⟩
  have HOL : Hid (∀ W, Below w.heap.size w W → Calls Try.prog 10 #[.slice a n c] W fun e w' => ∃ a' c', e = .returned (.slice a' n c') ∧ IsLs w' (.slice a' n c') ls ∧ Below W.heap.size W w') := fun W hW => ownlines_any W a n c ls hl (h.rd.below hW) (by omega) (by omega)
  have HWK : Hid (∀ W a' c', IsLs W (.slice a' n c') ls → Calls Try.prog 23 #[.slice a' n c', .int .i64 x, .int .i64 k] W fun e w' => ∃ v1 v2, e = .returned (.tuple #[v1, v2, .agg #[.int .i64 u, .int .i64 v]]) ∧ (v1 = .slice none 0 0 ∧ v2 = .slice none 0 0) ∧ Below W.heap.size W w') := fun W a' c' hi => (wake_fault W a' n c' x k ls ⟨hi, h.max, h.each⟩ u v hf hu).mono fun e w' ⟨h1, h4⟩ => ⟨_, _, h1, ⟨rfl, rfl⟩, h4⟩
  have HMV : Hid (∀ W a' c', IsLs W (.slice a' n c') ls → Calls Try.prog 24 #[.slice a' n c', .int .i64 x, .int .i64 y, .int .i64 k] W fun e w' => ∃ v1, e = .returned (.tuple #[v1, .agg #[.int .i64 u, .int .i64 v]]) ∧ v1 = .slice none 0 0 ∧ Below W.heap.size W w') := fun W a' c' hi => (move_fault W a' n c' x y k ls ⟨hi, h.max, h.each⟩ u v hf hu).mono fun e w' ⟨h1, h3⟩ => ⟨_, h1, rfl, h3⟩
  have HLF : Hid (∀ W, Below w.heap.size w W → Calls Try.prog 13 #[.slice a n c] W fun e w' => e = .returned (.agg #[.int .i64 u, .int .i64 v]) ∧ Below W.heap.size W w') := fun W hW => by
    have := lf_any W a n c ls (h.rd.below hW) h.max h.each
    rw [hf] at this
    exact this
  have HAT : Hid (∀ W, Below w.heap.size w W → Calls Try.prog 21 #[.slice a n c, .int .i64 x] W fun e w' => ∃ a' c', e = .returned (.slice a' (atL x ls).length c') ∧ IsInts w' (.slice a' (atL x ls).length c') (atL x ls) ∧ w' = W) := fun W hW => atline_any W a n c x ls hl (h.rd.below hW) (by omega)
  have xu : (u != 0) = true := by simpa using hu
  have xu2 : (u == 0) = false := by simpa using hu
  have xx : ∀ b : Int, (b == b) = true := fun b => by simp
  obtain ⟨T, eT⟩ : ∃ T, (atL x ls) = T := ⟨_, rfl⟩
  rw [eT] at HAT
  obtain ⟨m, em⟩ : ∃ m, T.length = m := ⟨_, rfl⟩
  rw [em] at HAT
  obtain ⟨K, eK⟩ : ∃ K, takeN k m = K := ⟨_, rfl⟩
  have HWO : Hid (∀ W a1 c1, IsInts W (.slice a1 m c1) T → Calls Try.prog 25 #[.slice a1 m c1, .int .i64 k] W fun e w' => ∃ a1 c1 a2 c2, e = .returned (.tuple #[.slice a1 K c1, .slice a2 (m - K) c2]) ∧ IsInts w' (.slice a1 K c1) (T.take K) ∧ IsInts w' (.slice a2 (m - K) c2) (T.drop K) ∧ Below W.heap.size W w') := fun W a1 c1 hi => by
    have := woken_any W a1 m c1 k T hi
    rw [eK] at this
    exact this
  have hq3 : ¬ (300 : Int) < (q : Int) := by omega
  have HRD : Hid (∀ W, Below w.heap.size w W → IsLs W (.slice a n c) ls) := fun W hW => h.rd.below hW
  obtain ⟨b1, b2, b3, hb0, hs0⟩ := three_new w (.cells #[.slice a n c] 22) (.cells #[.int .i64 x] 3) (.cells #[.int .i64 y] 3)
  have HB0 := hide hb0; have B1 := hide b1; have B2 := hide b2; have B3 := hide b3
  clear b1 b2 b3 hb0 hs0 h hl eq hm hn eT em eK hf hu
  go_enter Try.func4, Try.ntmps4
  go_upto_region 1 with fail
  obtain ⟨W0, eW0⟩ : ∃ W, ((w.alloc (.cells #[.slice a n c] 22)).alloc (.cells #[.int .i64 x] 3)).alloc (.cells #[.int .i64 y] 3) = W := ⟨_, rfl⟩
  rw [eW0] at HB0 B1 B2 B3
  rw [eW0]
  clear eW0
  have HF : Hid (∀ W, Below W0.heap.size W0 W → W.cell? ⟨w.heap.size, 0, none⟩ = some (.slice a n c) ∧ W.cell? ⟨w.heap.size + 1, 0, none⟩ = some (.int .i64 x) ∧ W.cell? ⟨w.heap.size + 2, 0, none⟩ = some (.int .i64 y)) := fun W hW => ⟨(block1 (keep_below (unhide B1) hW)).1, (block1 (keep_below (unhide B2) hW)).1, (block1 (keep_below (unhide B3) hW)).1⟩
  have HW : Hid (∀ W, Below W0.heap.size W0 W → Below w.heap.size w W) := fun W hW => Below.next (unhide HB0) hW (Nat.le_refl _)
  go_upto_region 5 with (first | (go_at_call 8; refine (begun_any _).mono ?_; rintro e w1 ⟨rfl, hb1⟩; have HX1 := hide hb1; obtain ⟨q0, _⟩ := unhide HF w1 hb1; clear hb1) | (go_at_call 9; refine (unhide HVS _ (unhide HW _ (unhide HX1))).mono ?_; rintro e w2 ⟨rfl, hb2⟩; have HX2 := hide (Below.next (unhide HX1) hb2 (Nat.le_refl _)); clear q0 hb2; obtain ⟨q0, _⟩ := unhide HF w2 (unhide HX2)) | (go_at_call 17; refine (unhide HWA _ (unhide HW _ (unhide HX2))).mono ?_; rintro e w3 ⟨a3, c3, rfl, hb3⟩; have HX3 := hide (Below.next (unhide HX2) hb3 (Nat.le_refl _)); clear q0 hb3))
  have HB3 := hide (keep_below (unhide B1) (unhide HX3)); have HB4 := hide (keep_below (unhide B2) (unhide HX3)); have HB5 := hide (keep_below (unhide B3) (unhide HX3))
  refine wake_stmt w.heap.size n c a x y k u v ls (fun _ _ v1 v2 => v1 = .slice none 0 0 ∧ v2 = .slice none 0 0) w3 (unhide HB3) (unhide HB4) (fun _ _ _ _ _ h _ => h) (fun _ _ _ _ _ _ _ h _ => h) (fun _ _ _ _ _ h _ => h) (fun W hW => unhide HOL W (unhide HW _ (Below.next (unhide HX3) hW (Nat.le_refl _)))) (unhide HWK) _ _ _ (by kernel_rfl) ?_
  intros
  rename_i T11 v1 v2 W5 hB5 hT11 k11 hz1
  have HX5 := hide (Below.next (unhide HX3) hB5 (Nat.le_refl _))
  have K11 := hide k11
  obtain ⟨rfl, rfl⟩ := hz1
  clear k11 hB5
  go_upto_region 6 with fail
  have HB6 := hide (keep_below (unhide B1) (unhide HX5)); have HB7 := hide (keep_below (unhide B2) (unhide HX5)); have HB8 := hide (keep_below (unhide B3) (unhide HX5))
  refine move_stmt w.heap.size n c a x y k u v ls _ _ _ (fun _ _ v1 => v1 = .slice none 0 0) W5 (unhide HB6) (unhide HB7) (unhide HB8) (fun _ _ _ _ h _ => h) (fun _ _ _ _ _ _ h _ => h) (fun _ _ _ _ h _ => h) (fun W hW => unhide HOL W (unhide HW _ (Below.next (unhide HX5) hW (Nat.le_refl _)))) (unhide HMV) _ _ _ (by kernel_rfl) ?_
  intros
  rename_i T13 v3 W6 hB6 hT13 k13 hz2
  have HX6 := hide (Below.next (unhide HX5) hB6 (Nat.le_refl _))
  have K13 := hide k13; have K11b := hide (keep_below (unhide K11) hB6)
  subst hz2
  clear k13 hB6 K11 HWK HMV HOL
  obtain ⟨q0, qx, qy⟩ := unhide HF W6 (unhide HX6)
  go_upto_region 8 with (go_at_call 13; refine (unhide HLF _ (unhide HW _ (unhide HX6))).mono ?_; rintro e w7 ⟨rfl, hb7⟩; have HX7 := hide (Below.next (unhide HX6) hb7 (Nat.le_refl _)); have K11bx := hide (keep_below (unhide K11b) hb7); have K13x := hide (keep_below (unhide K13) hb7); clear K11b K13; clear hb7 q0 qx qy HLF)
  have K14 := hide (new_block w7 (.cells #[.int .i64 u, .int .i64 v] 27))
  have hb8 : Below w7.heap.size w7 (w7.alloc (.cells #[.int .i64 u, .int .i64 v] 27)) := (Below.refl _ _).alloc (Nat.le_refl _) _
  have HX8 := hide (Below.next (unhide HX7) hb8 (Nat.le_refl _))
  have K11bxy := hide (keep_below (unhide K11bx) hb8); have K13xy := hide (keep_below (unhide K13x) hb8); clear K11bx K13x
  obtain ⟨T14, e14⟩ : ∃ T, w7.heap.size = T := ⟨_, rfl⟩
  obtain ⟨W8, e8⟩ : ∃ W, w7.alloc (.cells #[.int .i64 u, .int .i64 v] 27) = W := ⟨_, rfl⟩
  rw [e14, e8] at K14
  rw [e8] at HX8 K11bxy K13xy
  rw [e14, e8]
  clear e14 e8 hb8 HX7
  obtain ⟨t0, t1, _, _, _⟩ := block2 (unhide K11bxy)
  obtain ⟨u0, u1, _, _, _⟩ := block2 (unhide K14)
  obtain ⟨q0, qx, qy⟩ := unhide HF W8 (unhide HX8)
  go_upto_region 11 with (first | (go_at_call 21; (with_reducible refine Calls.mono (unhide HAT _ (unhide HW _ (unhide HX8))) ?_); rintro e _ ⟨a9, c9, rfl, hi9, rfl⟩; have HI9 := hide hi9; clear hi9 HAT) | (go_at_call 25; (with_reducible refine Calls.mono (unhide HWO _ _ _ (unhide HI9)) ?_); rintro e w10 ⟨a10, c10, a11, c11, rfl, hi10, hi11, hb10⟩; have HX10 := hide (Below.next (unhide HX8) hb10 (Nat.le_refl _)); have HI10 := hide hi10; have HI11 := hide hi11; have K11bxyz := hide (keep_below (unhide K11bxy) hb10); have K13xyz := hide (keep_below (unhide K13xy) hb10); have K14z := hide (keep_below (unhide K14) hb10); clear K11bxy K13xy K14; clear hi10 hi11 hb10 q0 qx qy t0 t1 u0 u1 HWO HI9))
  obtain ⟨k15, k16, hb11, _⟩ := two_new w10 (.cells #[.slice a10 K c10] 34) (.cells #[.slice a11 (m - K) c11] 34)
  have K15 := hide k15; have K16 := hide k16
  have HX11 := hide (Below.next (unhide HX10) hb11 (Nat.le_refl _))
  have K11bxyza := hide (keep_below (unhide K11bxyz) hb11); have K13xyza := hide (keep_below (unhide K13xyz) hb11); have K14za := hide (keep_below (unhide K14z) hb11); have HI10a := hide ((unhide HI10).below hb11); have HI11a := hide ((unhide HI11).below hb11); clear K11bxyz K13xyz K14z HI10 HI11
  obtain ⟨T15, e15⟩ : ∃ T, w10.heap.size = T := ⟨_, rfl⟩
  obtain ⟨W11, e11⟩ : ∃ W, (w10.alloc (.cells #[.slice a10 K c10] 34)).alloc (.cells #[.slice a11 (m - K) c11] 34) = W := ⟨_, rfl⟩
  rw [e15, e11] at K15 K16
  rw [e11] at HX11 K11bxyza K13xyza K14za HI10a HI11a
  rw [e15, e11]
  clear k15 k16 hb11 e15 e11 HX10
  obtain ⟨t0, t1, _, _, _⟩ := block2 (unhide K11bxyza)
  obtain ⟨u0, u1, _, _, _⟩ := block2 (unhide K14za)
  obtain ⟨y0, y1, _, _, _⟩ := block2 (unhide K13xyza)
  obtain ⟨p0, _, _⟩ := block1 (unhide K15)
  obtain ⟨o0, _, _⟩ := block1 (unhide K16)
  have HLA : Hid (∀ W k caps, Calls Try.prog 18 #[.slice none 0 0, .agg #[.int .i64 u, .int .i64 v], .agg #[.int .i64 u, .int .i64 v], .func (.func k) #[] caps] W fun e w' => e = .returned (.bool true) ∧ Below W.heap.size W w') := fun W k caps => linesas_fault W u v (by intro h0; rw [h0] at xu2; simp at xu2) k caps
  go_wp2_with (first | (go_at_call 18; (first | (with_reducible refine Calls.mono (unhide HLA W11 27 _) ?_); rintro e w13 ⟨rfl, hb13⟩; have HX13 := hide (Below.next (unhide HX11) hb13 (Nat.le_refl _)); have K14q := hide (keep_below (unhide K14za) hb13); have K13q := hide (keep_below (unhide K13xyza) hb13); clear hb13 t0 t1 u0 u1 y0 y1 K14za K13xyza; obtain ⟨u0, u1, _, _, _⟩ := block2 (unhide K14q); obtain ⟨y0, y1, _, _, _⟩ := block2 (unhide K13q))) | (go_at_call 18; (with_reducible refine Calls.mono (unhide HLA _ 28 _) ?_); rintro e w14 ⟨rfl, hb14⟩; have HX14 := hide (Below.next (unhide HX13) hb14 (Nat.le_refl _)); clear hb14))
  go_ret
  exact ⟨rfl, unhide HW _ (unhide HX14)⟩

end Go.Proofs.Ytjlcfdhghohccaa
