/-
  lock.Check.
-/
import Derived.Test.YtdpcbmekplcllaaI
namespace Go.Proofs.Ytdpcbmekplcllaa
open Go.RowKit

theorem wantC_new {pre : List Int} {x : Po} (h : wantC pre x = 0) : pre.contains x.1 = false := by
  unfold wantC at h
  cases hc : pre.contains x.1 with
  | false => rfl
  | true =>
    rw [hc] at h
    split at h
    · cases h
    · simp at h
theorem lineC_stop {pre : List Int} {x : Po} {l : List Po} {i d : Int} (h : wantC pre x = d) (hd : d ≠ 0) : lineC pre (x :: l) i = (d, i + 1) := by
  unfold lineC
  rw [h, if_pos hd]
theorem lineC_go {pre : List Int} {x : Po} {l : List Po} {i : Int} (h : wantC pre x = 0) : lineC pre (x :: l) i = lineC (pre ++ [x.1]) l (i + 1) := by
  rw [lineC, if_neg (by rw [h]; simp)]

set_option maxRecDepth 100000 in
set_option maxHeartbeats 2000000 in
theorem check_whole (w : World) (v : Value) (P : Lk) (h : IsLock w v P) (hd : wholeC P.readers P.writer P.line ≠ 0) :
    Calls Try.prog 10 #[v] w fun e w' => e = .returned (.agg #[.int .i64 (wholeC P.readers P.writer P.line), .int .i64 0]) ∧ Below w.heap.size w w' := by
  have HW : Hid (∀ W, Below w.heap.size w W → Calls Try.prog 25 #[v] W fun e w' => e = .returned (.int .i64 (wholeC P.readers P.writer P.line)) ∧ Below W.heap.size W w') := fun W hW => checkWhole_any W v P (h.below hW)
  obtain ⟨r, bw, line⟩ := P
  obtain ⟨a0, c0, rfl, hL⟩ := h.form
  simp only at hL hd HW ⊢
  obtain ⟨d, ed⟩ : ∃ d, wholeC r bw line = d := ⟨_, rfl⟩
  rw [ed] at HW hd ⊢
  generalize line.length = n at *
  have x1 : (d != 0) = true := by simpa using hd
  clear h hL ed hd line
  obtain ⟨W0, e0, hB, k0, k1⟩ := two_new w (.cells #[.int .i64 r, .bool bw, .slice a0 n c0] 24) (.cells #[.int .i64 0, .int .i64 0] 28)
  have HX := hide hB; have HP := hide k0; have HQ := hide k1; have HE := hide e0
  clear hB k0 k1 e0
  go_enter Try.func10, Try.ntmps10
  go_upto_region 1 with fail
  rw [unhide HE]
  clear HE
  obtain ⟨⟨p0, p1, p2⟩, -, pl⟩ := block3 (unhide HP)
  go_wp2_with (go_at_call 25; refine (unhide HW _ (unhide HX)).mono ?_; rintro e w1 ⟨rfl, hb1⟩; have HX1 := hide (Below.next (unhide HX) hb1 (Nat.le_refl _)); have HQ1 := hide (keep_below (unhide HQ) hb1); clear hb1 p0 p1 p2 pl; obtain ⟨q0, q1, f0, f1, ql⟩ := block2 (unhide HQ1))
  exact bodyPost_ret (v := .agg #[.int .i64 d, .int .i64 0]) (by simp [results, Try.results10, go_sem, q0, q1]) rfl ⟨rfl, below_set2 (unhide HX1) (Nat.le_succ _) _ _⟩

set_option maxRecDepth 100000 in
set_option maxHeartbeats 2000000 in
theorem check_line (w : World) (v : Value) (P : Lk) (h : IsLock w v P) (hd : wholeC P.readers P.writer P.line = 0) (hn : P.line.length ≤ 100000) :
    Calls Try.prog 10 #[v] w fun e w' => e = .returned (.agg #[.int .i64 (lineC [] P.line 0).1, .int .i64 (lineC [] P.line 0).2]) ∧ Below w.heap.size w w' := by
  have HW : Hid (∀ W, Below w.heap.size w W → Calls Try.prog 25 #[v] W fun e w' => e = .returned (.int .i64 0) ∧ Below W.heap.size W w') := fun W hW => by rw [← hd]; exact checkWhole_any W v P (h.below hW)
  obtain ⟨r, bw, line⟩ := P
  obtain ⟨a0, c0, rfl, hL⟩ := h.form
  simp only at hL hd HW hn ⊢
  obtain ⟨R, eR⟩ : ∃ R, lineC [] line 0 = R := ⟨_, rfl⟩
  rw [eR]
  have HR : Hid (lineC (tasks (line.take 0)) (line.drop 0) ((0 : Nat) : Int) = R) := eR
  have HL := hide hL
  obtain ⟨n, en⟩ : ∃ n, line.length = n := ⟨_, rfl⟩
  rw [en] at HL hn HW ⊢
  have HN := hide en
  clear h hL hd eR en
  obtain ⟨W0, e0, hB, k0, k1⟩ := two_new w (.cells #[.int .i64 r, .bool bw, .slice a0 n c0] 24) (.cells #[.int .i64 0, .int .i64 0] 28)
  have HX := hide hB; have HP := hide k0; have HQ := hide k1; have HE := hide e0
  clear hB k0 k1 e0
  go_enter Try.func10, Try.ntmps10
  go_upto_region 1 with fail
  rw [unhide HE]
  clear HE
  obtain ⟨⟨p0, p1, p2⟩, -, pl⟩ := block3 (unhide HP)
  go_upto_region 4 with (go_at_call 25; refine (unhide HW _ (unhide HX)).mono ?_; rintro e w1 ⟨rfl, hb1⟩; have HX1 := hide (Below.next (unhide HX) hb1 (Nat.le_refl _)); have HP1 := hide (keep_below (unhide HP) hb1); have HQ1 := hide (keep_below (unhide HQ) hb1); clear hb1 p0 p1 p2 pl)
  clear HX HP HQ HW
  obtain ⟨⟨p0, p1, p2⟩, -, pl⟩ := block3 (unhide HP1)
  have hmk := make_set (n : Int) w1
  go_upto_region 5 with fail
  clear p0 p1 p2 pl hmk
  have HS := hide (set_made w1)
  have HX2 := hide ((unhide HX1).alloc (unhide HX1).size (.map #[] 0)); have HP2 := hide (keep_alloc (unhide HP1) (.map #[] 0)); have HQ2 := hide (keep_alloc (unhide HQ1) (.map #[] 0))
  have hM : w.heap.size + 1 < w1.heap.size := size_of (unhide HQ1)
  obtain ⟨M, eM⟩ : ∃ M, w1.heap.size = M := ⟨_, rfl⟩
  obtain ⟨W2, eW2⟩ : ∃ W, w1.alloc (.map #[] 0) = W := ⟨_, rfl⟩
  rw [eM] at hM; rw [eM, eW2] at HS; rw [eW2] at HX2 HP2 HQ2; rw [eM, eW2]
  clear eM eW2 HX1 HP1 HQ1
  obtain ⟨⟨p0, p1, p2⟩, -, pl⟩ := block3 (unhide HP2)
  go_upto_region 6 with fail
  clear p0 p1 p2 pl
  go_loopw [21] (fun i W => ∃ j : Nat, j ≤ n ∧ i = .int .i64 j ∧ Hid (IsSet W M (tasks (line.take j))) ∧ Hid (lineC (tasks (line.take j)) (line.drop j) (j : Int) = R) ∧ Hid (W.heap[w.heap.size + 1]? = some (.cells #[.int .i64 0, .int .i64 0] 28)) ∧ Hid (Below w.heap.size w W)) (fun i _ => n - (intOf i).toNat)
  case atStart => exact ⟨0, Nat.zero_le _, rfl, HS, HR, HQ2, HX2⟩
  case round =>
    obtain ⟨j, hj, rfl, HSj, HRj, HQj, HXj⟩ := hrel
    clear HS HR HQ2 HX2 HP2
    by_cases hlt : j < n
    · obtain ⟨b, off, rfl, hbl, hli⟩ := (unhide HL).opens kp (unhide HN) (by omega)
      obtain ⟨⟨t, c, u⟩, hx⟩ : ∃ x, pAt line j = x := ⟨_, rfl⟩
      obtain ⟨k0, k1, k2⟩ := (hli.below (unhide HXj) hbl).post (j := j) (by rw [unhide HN]; exact hlt) hx
      have hlt2 : j < line.length := by rw [unhide HN]; exact hlt
      have HRn := unhide HRj
      rw [drop_at hlt2, hx] at HRn
      have HTT := hide (tasks_take hlt2)
      rw [hx] at HTT
      have i0 : (0 : Int) ≤ (j : Int) := by omega
      have i1 : (j : Int) < (n : Int) := by omega
      obtain ⟨ks, eks⟩ : ∃ ks, tasks (line.take j) = ks := ⟨_, rfl⟩
      obtain ⟨ls, els⟩ : ∃ ls, line.drop (j + 1) = ls := ⟨_, rfl⟩
      rw [eks] at HSj HRn HTT; rw [els] at HRn
      have HRN := hide HRn; have HEL := hide els
      clear HRj HRn hx hlt2 hli eks els
      go_upto_region 8 with fail
      clear k0 k1 k2
      have HS3 := hide ((unhide HSj).below ((Below.refl _ _).alloc (Nat.le_refl _) (.cells #[.int .i64 t, .bool c, .int .i64 u] 41))); have HQ3 := hide (keep_alloc (unhide HQj) (.cells #[.int .i64 t, .bool c, .int .i64 u] 41)); have HX3 := hide ((unhide HXj).alloc (unhide HXj).size (.cells #[.int .i64 t, .bool c, .int .i64 u] 41)); have HZ3 := hide (new_block wr (.cells #[.int .i64 t, .bool c, .int .i64 u] 41))
      have hZl : w.heap.size + 1 < wr.heap.size := size_of (unhide HQj)
      have hMl : M < wr.heap.size := (unhide HSj).lt
      obtain ⟨Z, eZ⟩ : ∃ X, wr.heap.size = X := ⟨_, rfl⟩
      obtain ⟨W3, e3⟩ : ∃ X, wr.alloc (.cells #[.int .i64 t, .bool c, .int .i64 u] 41) = X := ⟨_, rfl⟩
      rw [eZ, e3] at HZ3; rw [e3] at HS3 HQ3 HX3; rw [eZ] at hZl hMl; rw [eZ, e3]
      clear eZ e3 HSj HQj HXj
      have HCW := hide (checkWant_any W3 M ks t c u (unhide HS3))
      obtain ⟨d, ed⟩ : ∃ d, wantC ks (t, c, u) = d := ⟨_, rfl⟩
      rw [ed] at HCW
      obtain ⟨⟨z0, z1, z2⟩, -, zl⟩ := block3 (unhide HZ3)
      by_cases hd : d = 0
      · subst hd
        have hnew := wantC_new ed
        simp only at hnew
        have HRN2 : Hid (lineC (ks ++ [t]) ls ((j : Int) + 1) = R) := by have := unhide HRN; rw [lineC_go ed] at this; exact this
        have HNEW := hide hnew
        clear ed hnew HRN
        go_wp2_with (first
          | (go_at_call 26; refine (unhide HCW).mono ?_; rintro e w4 ⟨rfl, hb4⟩; have HS4 := hide ((unhide HS3).below hb4); have HQ4 := hide (keep_below (unhide HQ3) hb4); have HX4 := hide (Below.next (unhide HX3) hb4 (Nat.le_refl _)); have HZ4 := hide (keep_below (unhide HZ3) hb4); clear hb4 z0 z1 z2 zl HS3 HQ3 HX3 HZ3 HCW; obtain ⟨⟨z0, z1, z2⟩, -, zl⟩ := block3 (unhide HZ4))
          | (go_at_call 27; refine (setadd_any _ M ks t (unhide HS4) (unhide HNEW)).mono ?_; rintro e w5 ⟨rfl, e5⟩; have HS5 : Hid (IsSet w5 M (ks ++ [t])) := (by rw [e5]; exact IsSet.put (unhide HS4).lt); have HQ5 : Hid (w5.heap[w.heap.size + 1]? = some (.cells #[.int .i64 0, .int .i64 0] 28)) := (by rw [e5]; exact (heap_putObj _ (by omega)).trans (unhide HQ4)); have HX5 : Hid (Below w.heap.size w w5) := (by rw [e5]; exact below_put (unhide HX4) (by omega) _); clear e5 z0 z1 z2 zl HS4 HQ4 HX4))
        go_roundw
        case rel => exact ⟨j + 1, by omega, by go_num, by rw [unhide HTT]; exact HS5, by rw [unhide HTT, unhide HEL]; exact HRN2, HQ5, HX5⟩
        case measure => simp [intOf]; omega
      · have x1 : (d != 0) = true := by simpa using hd
        have HE2 : Hid (R = (d, (j : Int) + 1)) := by have := unhide HRN; rw [lineC_stop ed hd] at this; exact this.symm
        have hw1 : IntKind.i64.wrap ((j : Int) + 1) = (j : Int) + 1 := wrapi (by omega) (by omega)
        clear ed HRN hd
        go_wp2_with (go_at_call 26; refine (unhide HCW).mono ?_; rintro e w4 ⟨rfl, hb4⟩; have HQ4 := hide (keep_below (unhide HQ3) hb4); have HX4 := hide (Below.next (unhide HX3) hb4 (Nat.le_refl _)); clear hb4 z0 z1 z2 zl HS3 HQ3 HX3 HZ3 HCW; obtain ⟨q0, q1, f0, f1, ql⟩ := block2 (unhide HQ4))
        refine bodyPost_ret (v := .agg #[.int .i64 d, .int .i64 ((j : Int) + 1)]) (by simp [results, Try.results10, go_sem, q0, q1]) rfl ⟨?_, below_set2 (unhide HX4) (Nat.le_succ _) _ _⟩
        rw [unhide HE2]
    · have hjn : j = n := by omega
      subst hjn
      have HE2 : Hid (R = (0, 0)) := by have := unhide HRj; rw [List.drop_eq_nil_of_le (by rw [unhide HN]; exact Nat.le_refl _)] at this; exact this.symm
      clear HRj
      obtain ⟨q0, q1, f0, f1, ql⟩ := block2 (unhide HQj)
      go_wp2_with fail
      refine bodyPost_ret (v := .agg #[.int .i64 0, .int .i64 0]) (by simp [results, Try.results10, go_sem, q0, q1]) rfl ⟨?_, below_set2 (unhide HXj) (Nat.le_succ _) _ _⟩
      rw [unhide HE2]

theorem check_any (w : World) (v : Value) (P : Lk) (h : IsLock w v P) (hn : P.line.length ≤ 100000) :
    Calls Try.prog 10 #[v] w fun e w' => e = .returned (.agg #[.int .i64 (lockF P).1, .int .i64 (lockF P).2]) ∧ Below w.heap.size w w' := by
  unfold lockF
  by_cases hd : wholeC P.readers P.writer P.line = 0
  · rw [if_neg (by simpa using hd)]
    exact check_line w v P h hd hn
  · rw [if_pos hd]
    exact check_whole w v P h hd
end Go.Proofs.Ytdpcbmekplcllaa
