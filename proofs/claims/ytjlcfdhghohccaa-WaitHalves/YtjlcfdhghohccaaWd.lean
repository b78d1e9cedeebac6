/-
  taskmilllaw.WaitHalves returns true, where something is asked.
-/
import Derived.Test.YtjlcfdhghohccaaWc
namespace Go.Proofs.Ytjlcfdhghohccaa
open Go.RowKit

set_option maxRecDepth 100000 in
set_option maxHeartbeats 8000000 in
theorem halves_ok (w : World) (a : Option Addr) (n c : Nat) (x y m k : Int) (ls : List Ln) (h : IsLs w (.slice a n c) ls) (hg : Good ls) (hn6 : n ≤ 6000) (hq3 : (waitL ls).length ≤ 300) (hm0 : 0 ≤ m) (hk0 : 0 ≤ k) (hm1 : m ≤ 1000) (hk1 : k ≤ 1000) (hxy : x ≠ y) :
    Calls Try.prog 7 #[.slice a n c, .int .i64 x, .int .i64 y, .int .i64 m, .int .i64 k] w fun e w' => e = .returned (.bool true) ∧ Below w.heap.size w w' := by
  have hnot : ∀ (x : Bool) (w : World), (Op.unary .not (.bool x)).run Try.prog w = .ok (.bool (!x)) w := fun _ _ => rfl
  have hfld := fld
  have hl := h.len
  have harg := hg.arg h
  have HVS : Hid (∀ W, Below w.heap.size w W → Calls Try.prog 9 #[.slice a n c] W fun e w' => e = .returned (.bool false) ∧ w' = W) := fun W hW => by
    have := vast_bool W a n c ls hl (h.below hW) harg.max harg.each
    rw [decide_eq_false (by omega)] at this
    exact this
  have HWA : Hid (∀ W, Below w.heap.size w W → Calls Try.prog 17 #[.slice a n c] W fun e w' => ∃ a' c', e = .returned (.slice a' (waitL ls).length c') ∧ Below W.heap.size W w') := fun W hW => by
    refine (waiting_any W a n c ls hl (h.below hW) (by omega) (by omega)).mono ?_
    rintro e w' ⟨a', c', h1, _, h2⟩
    exact ⟨a', c', h1, h2⟩
  have HLF : Hid (∀ W, Below w.heap.size w W → Calls Try.prog 13 #[.slice a n c] W fun e w' => e = .returned (.agg #[.int .i64 0, .int .i64 0]) ∧ Below W.heap.size W w') := fun W hW => by
    have := lf_any W a n c ls (h.below hW) harg.max harg.each
    rw [good_to hg] at this
    exact this
  have HAT : Hid (∀ W, Below w.heap.size w W → Calls Try.prog 21 #[.slice a n c, .int .i64 y] W fun e w' => ∃ a' c', e = .returned (.slice a' (tasksL y ls).length c') ∧ IsInts w' (.slice a' (tasksL y ls).length c') (tasksL y ls) ∧ w' = W) := fun W hW => by
    have := atline_any W a n c y ls hl (h.below hW) (by omega)
    rw [atL_tasks hg.rise] at this
    exact this
  have hgm := (taken_good hg x m).1
  obtain ⟨hh1, hh2⟩ := halves hg (x := x) hm0 hk0
  have HW1 : Hid (∀ W, Below w.heap.size w W → Calls Try.prog 23 #[.slice a n c, .int .i64 x, .int .i64 m] W fun e w' => ∃ a1 c1 a2 c2, e = .returned (.tuple #[.slice a1 (takenL x m ls).length c1, .slice a2 (firstL x m ls).length c2, .agg #[.int .i64 0, .int .i64 0]]) ∧ IsLs w' (.slice a1 (takenL x m ls).length c1) (takenL x m ls) ∧ IsInts w' (.slice a2 (firstL x m ls).length c2) (firstL x m ls) ∧ Below W.heap.size W w') := fun W hW => by
    refine (wake_ok W a n c x m ls (h.below hW) hg).mono ?_
    rintro e w' ⟨a1, c1, a2, c2, e1, h1, h2, h3⟩
    exact ⟨a1, c1, a2, c2, e1, h1.ls, h2.ints, h3⟩
  have HW2 : Hid (∀ W a c, IsLs W (.slice a (takenL x m ls).length c) (takenL x m ls) → Calls Try.prog 23 #[.slice a (takenL x m ls).length c, .int .i64 x, .int .i64 k] W fun e w' => ∃ a1 c1 a2 c2, e = .returned (.tuple #[.slice a1 (takenL x (m + k) ls).length c1, .slice a2 (firstL x k (takenL x m ls)).length c2, .agg #[.int .i64 0, .int .i64 0]]) ∧ IsLs w' (.slice a1 (takenL x (m + k) ls).length c1) (takenL x (m + k) ls) ∧ IsInts w' (.slice a2 (firstL x k (takenL x m ls)).length c2) (firstL x k (takenL x m ls)) ∧ Below W.heap.size W w') := fun W a c hi => by
    have := wake_ok W a _ c x k _ hi hgm
    rw [hh1] at this
    refine this.mono ?_
    rintro e w' ⟨a1, c1, a2, c2, e1, h1, h2, h3⟩
    exact ⟨a1, c1, a2, c2, e1, h1.ls, h2.ints, h3⟩
  have HW3 : Hid (∀ W, Below w.heap.size w W → Calls Try.prog 23 #[.slice a n c, .int .i64 x, .int .i64 (m + k)] W fun e w' => ∃ a1 c1 a2 c2, e = .returned (.tuple #[.slice a1 (takenL x (m + k) ls).length c1, .slice a2 (firstL x (m + k) ls).length c2, .agg #[.int .i64 0, .int .i64 0]]) ∧ IsLs w' (.slice a1 (takenL x (m + k) ls).length c1) (takenL x (m + k) ls) ∧ IsInts w' (.slice a2 (firstL x (m + k) ls).length c2) (firstL x (m + k) ls) ∧ Below W.heap.size W w') := fun W hW => by
    refine (wake_ok W a n c x (m + k) ls (h.below hW) hg).mono ?_
    rintro e w' ⟨a1, c1, a2, c2, e1, h1, h2, h3⟩
    exact ⟨a1, c1, a2, c2, e1, h1.ls, h2.ints, h3⟩
  have hgt := taken_good hg x (m + k)
  have HSL : Hid (∀ W a c a1 c1, IsLs W (.slice a (takenL x (m + k) ls).length c) (takenL x (m + k) ls) → IsLs W (.slice a1 (takenL x (m + k) ls).length c1) (takenL x (m + k) ls) → Calls Try.prog 14 #[.slice a (takenL x (m + k) ls).length c, .slice a1 (takenL x (m + k) ls).length c1] W fun e w' => e = .returned (.bool true) ∧ Below W.heap.size W w') := fun W a c a1 c1 h1 h2 => samelines_any W a a1 _ c c1 _ rfl h1 h2 (by have := hgt.1.len; omega) (by have := hgt.1.few; omega)
  have hfu : ∀ t ∈ firstL x (m + k) ls, t ∈ tasksL x ls := fun t ht => List.mem_of_mem_take ht
  have hDR : ∀ t ∈ firstL x (m + k) ls, (waitL ls).contains t = true ∧ atOf t ls = x ∧ Good (dropL t ls) ∧ (firstL x (m + k) (dropL t ls)).contains t = false := fun t ht =>
    ⟨(atOf_eq hg (hfu t ht)).1, (atOf_eq hg (hfu t ht)).2, drop_never hg (hfu t ht) (m + k)⟩
  have HDR : Hid (∀ t ∈ firstL x (m + k) ls, (∀ W, Below w.heap.size w W → Calls Try.prog 29 #[.slice a n c, .int .i64 t] W fun e w' => ∃ a1 c1, e = .returned (.tuple #[.slice a1 (dropL t ls).length c1, .int .i64 x, .agg #[.int .i64 0, .int .i64 0]]) ∧ IsLs w' (.slice a1 (dropL t ls).length c1) (dropL t ls) ∧ Below W.heap.size W w') ∧ (∀ W a c, IsLs W (.slice a (dropL t ls).length c) (dropL t ls) → Calls Try.prog 23 #[.slice a (dropL t ls).length c, .int .i64 x, .int .i64 (m + k)] W fun e w' => ∃ a1 n1 c1 a2 c2, e = .returned (.tuple #[.slice a1 n1 c1, .slice a2 (firstL x (m + k) (dropL t ls)).length c2, .agg #[.int .i64 0, .int .i64 0]]) ∧ Own W.heap.size w' (.slice a2 (firstL x (m + k) (dropL t ls)).length c2) (firstL x (m + k) (dropL t ls)) ∧ Below W.heap.size W w') ∧ (firstL x (m + k) (dropL t ls)).contains t = false ∧ (firstL x (m + k) (dropL t ls)).length ≤ 5000) := fun t ht => by
    obtain ⟨g1, g2, g3, g4⟩ := hDR t ht
    refine ⟨fun W hW => ?_, fun W a c hi => ?_, g4, ?_⟩
    · have := drop_ok W a n c t ls (h.below hW) hg g1
      rw [g2] at this
      refine this.mono ?_
      rintro e w' ⟨a1, c1, e1, h1, h2⟩
      exact ⟨a1, c1, e1, h1.ls, h2⟩
    · refine (wake_ok W a _ c x (m + k) _ hi g3).mono ?_
      rintro e w' ⟨a1, c1, a2, c2, e1, h1, h2, h3⟩
      exact ⟨a1, _, c1, a2, c2, e1, h2, h3⟩
    · have h1 := tasksL_le x (dropL t ls)
      have h2 := g3.few
      unfold firstL
      rw [List.length_take]
      omega
  obtain ⟨hgv, hfv⟩ := move_woken hg hxy (m + k)
  have HMV : Hid (∀ W, Below w.heap.size w W → Calls Try.prog 24 #[.slice a n c, .int .i64 x, .int .i64 y, .int .i64 (m + k)] W fun e w' => ∃ a1 c1, e = .returned (.tuple #[.slice a1 (moveL x y (m + k) ls).length c1, .agg #[.int .i64 0, .int .i64 0]]) ∧ IsLs w' (.slice a1 (moveL x y (m + k) ls).length c1) (moveL x y (m + k) ls) ∧ Below W.heap.size W w') := fun W hW => by
    refine (move_ok W a n c x y (m + k) ls (h.below hW) hg).mono ?_
    rintro e w' ⟨a1, c1, e1, h1, h2⟩
    exact ⟨a1, c1, e1, h1.ls, h2⟩
  have HW5 : Hid (∀ W a c, IsLs W (.slice a (moveL x y (m + k) ls).length c) (moveL x y (m + k) ls) → Calls Try.prog 23 #[.slice a (moveL x y (m + k) ls).length c, .int .i64 y, .int .i64 5000] W fun e w' => ∃ a1 n1 c1 a2 c2, e = .returned (.tuple #[.slice a1 n1 c1, .slice a2 (tasksL y ls ++ firstL x (m + k) ls).length c2, .agg #[.int .i64 0, .int .i64 0]]) ∧ Own W.heap.size w' (.slice a2 (tasksL y ls ++ firstL x (m + k) ls).length c2) (tasksL y ls ++ firstL x (m + k) ls) ∧ Below W.heap.size W w') := fun W a c hi => by
    have := wake_ok W a _ c y 5000 _ hi hgv
    rw [hfv] at this
    refine this.mono ?_
    rintro e w' ⟨a1, c1, a2, c2, e1, h1, h2, h3⟩
    exact ⟨a1, _, c1, a2, c2, e1, h2, h3⟩
  have hyl := tasksL_le y ls
  have hul : (firstL x (m + k) ls).length ≤ 300 := by
    have := tasksL_le x ls
    unfold firstL
    rw [List.length_take]
    omega
  obtain ⟨L1, e1⟩ : ∃ L, takenL x m ls = L := ⟨_, rfl⟩
  obtain ⟨S1, e2⟩ : ∃ L, firstL x m ls = L := ⟨_, rfl⟩
  rw [e1] at HW1 HW2 hh2
  rw [e2] at HW1 hh2
  obtain ⟨L2, e3⟩ : ∃ L, takenL x (m + k) ls = L := ⟨_, rfl⟩
  rw [e3] at HW2 HW3 HSL
  obtain ⟨S2, e4⟩ : ∃ L, firstL x k L1 = L := ⟨_, rfl⟩
  rw [e4] at HW2 hh2
  obtain ⟨U, e5⟩ : ∃ L, firstL x (m + k) ls = L := ⟨_, rfl⟩
  rw [e5] at HW3 HDR HW5 hh2 hul
  obtain ⟨G, e6⟩ : ∃ L, moveL x y (m + k) ls = L := ⟨_, rfl⟩
  rw [e6] at HMV HW5
  obtain ⟨Y, e7⟩ : ∃ L, tasksL y ls = L := ⟨_, rfl⟩
  rw [e7] at HAT HW5 hyl
  obtain ⟨q, e8⟩ : ∃ q, (waitL ls).length = q := ⟨_, rfl⟩
  rw [e8] at HWA hyl hq3
  have hs12 : S1.length + S2.length = U.length := by rw [← hh2, List.length_append]
  obtain ⟨l1, f1⟩ : ∃ k, L1.length = k := ⟨_, rfl⟩
  obtain ⟨s1, f2⟩ : ∃ k, S1.length = k := ⟨_, rfl⟩
  obtain ⟨l2, f3⟩ : ∃ k, L2.length = k := ⟨_, rfl⟩
  obtain ⟨s2, f4⟩ : ∃ k, S2.length = k := ⟨_, rfl⟩
  obtain ⟨un, f5⟩ : ∃ k, U.length = k := ⟨_, rfl⟩
  obtain ⟨gn, f6⟩ : ∃ k, G.length = k := ⟨_, rfl⟩
  obtain ⟨yn, f7⟩ : ∃ k, Y.length = k := ⟨_, rfl⟩
  have f8 : (Y ++ U).length = yn + un := by rw [List.length_append, f7, f5]
  rw [f1, f2] at HW1
  rw [f1, f3, f4] at HW2
  rw [f3, f5] at HW3
  rw [f3] at HSL
  rw [f6] at HMV
  rw [f6, f8] at HW5
  rw [f7] at HAT hyl
  rw [f2, f4, f5] at hs12
  rw [f5] at hul
  have HOS : Hid (∀ W v, IsInts W v S1 → Calls Try.prog 22 #[v] W fun e w' => ∃ a' c', e = .returned (.slice a' s1 c') ∧ Own W.heap.size w' (.slice a' s1 c') S1 ∧ Below W.heap.size W w') := fun W v hi => by
    have := own_ints W v S1 hi (by omega)
    rw [f2] at this
    refine this.mono ?_
    rintro e w' ⟨a', c', e1, h2, h3⟩
    exact ⟨a', c', e1, by rw [Own, f2]; exact h2, h3⟩
  have HOY : Hid (∀ W v, IsInts W v Y → Calls Try.prog 22 #[v] W fun e w' => ∃ a' c', e = .returned (.slice a' yn c') ∧ Own W.heap.size w' (.slice a' yn c') Y ∧ Below W.heap.size W w') := fun W v hi => by
    have := own_ints W v Y hi (by omega)
    rw [f7] at this
    refine this.mono ?_
    rintro e w' ⟨a', c', e1, h2, h3⟩
    exact ⟨a', c', e1, by rw [Own, f7]; exact h2, h3⟩
  have HSU : Hid (∀ W v v', IsInts W v (S1 ++ S2) → IsInts W v' U → Calls Try.prog 26 #[v, v'] W fun e w' => e = .returned (.bool true) ∧ Below W.heap.size W w') := fun W v v' h1 h2 => ints_same W v v' U (by rw [← hh2]; exact h1) h2 (by rw [f5]; unfold maxLen; omega)
  have HSY : Hid (∀ W v v', IsInts W v (Y ++ U) → IsInts W v' (Y ++ U) → Calls Try.prog 26 #[v, v'] W fun e w' => e = .returned (.bool true) ∧ Below W.heap.size W w') := fun W v v' h1 h2 => ints_same W v v' _ h1 h2 (by rw [f8]; unfold maxLen; omega)
  have HF2 := hide f2; have HF4 := hide f4; have HF5 := hide f5; have HF7 := hide f7
  have c1 : ¬ (300 : Int) < (q : Int) := by omega
  have c2 : ¬ m < 0 := by omega
  have c3 : ¬ k < 0 := by omega
  have c4 : ¬ (1000 : Int) < m := by omega
  have c8 : ¬ (1000 : Int) < k := by omega
  have c6 : (x == y) = false := by simpa using hxy
  have c7 : IntKind.i64.wrap (m + k) = m + k := by simp [IntKind.wrap, IntKind.bits, IntKind.signed]; omega
  clear h hg hl harg hgm hh1 hh2 hgt hfu hDR hgv hfv e1 e2 e3 e4 e5 e6 e7 e8 f1 f2 f3 f4 f5 f6 f7 f8 hxy hm0 hk0 hm1 hk1
  go_enter Try.func7, Try.ntmps7
  go_upto_region 6 with (first
    | (go_at_call 8; refine (begun_any _).mono ?_; rintro e w1 ⟨rfl, hb1⟩; have HX1 := hide hb1; clear hb1)
    | (go_at_call 9; refine (unhide HVS _ (unhide HX1)).mono ?_; rintro e w1 ⟨rfl, rfl⟩)
    | (go_at_call 17; refine (unhide HWA _ (unhide HX1)).mono ?_; rintro e w2 ⟨a2, c2, rfl, hb2⟩; have HX2 := hide (Below.next (unhide HX1) hb2 (Nat.le_refl _)); clear hb2)
    | (go_at_call 13; refine (unhide HLF _ (unhide HX2)).mono ?_; rintro e w3 ⟨rfl, hb3⟩; have HX3 := hide (Below.next (unhide HX2) hb3 (Nat.le_refl _)); clear hb3)
    | (go_at_call 23; refine (unhide HW1 _ (unhide HX3)).mono ?_; rintro e w4 ⟨aa, ca, a5, c5, rfl, hia, his, hb4⟩; have HIA := hide hia; have HIS := hide his; have HX4 := hide (Below.next (unhide HX3) hb4 (Nat.le_refl _)); clear hia his hb4))
  have TB1 := hide (new_block w4 (.cells #[.int .i64 0, .int .i64 0] 27))
  have HBA := hide ((Below.refl w4.heap.size w4).alloc (Nat.le_refl _) (.cells #[.int .i64 0, .int .i64 0] 27))
  have HX5 := hide (Below.next (unhide HX4) (unhide HBA) (Nat.le_refl _))
  have HIA5 := hide ((unhide HIA).below (unhide HBA))
  have HIS5 := hide ((unhide HIS).below (unhide HBA))
  obtain ⟨T13, h13⟩ : ∃ T, w4.heap.size = T := ⟨_, rfl⟩
  obtain ⟨W5, hW5⟩ : ∃ W, w4.alloc (.cells #[.int .i64 0, .int .i64 0] 27) = W := ⟨_, rfl⟩
  rw [h13, hW5] at TB1
  rw [hW5] at HX5 HIA5 HIS5
  rw [h13, hW5]
  clear h13 hW5 HBA HX1 HX2 HX3 HX4 HIA HIS HVS HWA HLF HW1
  go_upto_region 7 with (go_at_call 23; refine (unhide HW2 _ _ _ (unhide HIA5)).mono ?_; rintro e w6 ⟨ab, cb, a6, c6', rfl, hib, hit, hb6⟩; have HIB := hide hib; have HIT := hide hit; have HB6 := hide hb6; clear hib hit hb6)
  have TB2 := hide (new_block w6 (.cells #[.int .i64 0, .int .i64 0] 27))
  have HBA := hide ((Below.refl w6.heap.size w6).alloc (Nat.le_refl _) (.cells #[.int .i64 0, .int .i64 0] 27))
  have HB7 := hide (Below.next (unhide HB6) (unhide HBA) (Nat.le_refl _))
  have HIB7 := hide ((unhide HIB).below (unhide HBA))
  have HIT7 := hide ((unhide HIT).below (unhide HBA))
  obtain ⟨T16, h16⟩ : ∃ T, w6.heap.size = T := ⟨_, rfl⟩
  obtain ⟨W7, hW7⟩ : ∃ W, w6.alloc (.cells #[.int .i64 0, .int .i64 0] 27) = W := ⟨_, rfl⟩
  rw [h16, hW7] at TB2
  rw [hW7] at HB7 HIB7 HIT7
  rw [h16, hW7]
  have HX7 := hide (Below.next (unhide HX5) (unhide HB7) (Nat.le_refl _))
  have TB17 := hide (keep_below (unhide TB1) (unhide HB7))
  have HIS7 := hide ((unhide HIS5).below (unhide HB7))
  clear h16 hW7 HBA HB6 HB7 HIB HIT TB1 HX5 HIA5 HIS5 HW2
  go_upto_region 8 with (go_at_call 23; refine (unhide HW3 _ (unhide HX7)).mono ?_; rintro e w8 ⟨ac, cc, au, cu, rfl, hic, hiu, hb8⟩; have HIC := hide hic; have HIU := hide hiu; have HB8 := hide hb8; clear hic hiu hb8)
  have TB3 := hide (new_block w8 (.cells #[.int .i64 0, .int .i64 0] 27))
  have HBA := hide ((Below.refl w8.heap.size w8).alloc (Nat.le_refl _) (.cells #[.int .i64 0, .int .i64 0] 27))
  have HB9 := hide (Below.next (unhide HB8) (unhide HBA) (Nat.le_refl _))
  have HIC9 := hide ((unhide HIC).below (unhide HBA))
  have HIU9 := hide ((unhide HIU).below (unhide HBA))
  obtain ⟨T19, h19⟩ : ∃ T, w8.heap.size = T := ⟨_, rfl⟩
  obtain ⟨W9, hW9⟩ : ∃ W, w8.alloc (.cells #[.int .i64 0, .int .i64 0] 27) = W := ⟨_, rfl⟩
  rw [h19, hW9] at TB3
  rw [hW9] at HB9 HIC9 HIU9
  rw [h19, hW9]
  have HX9 := hide (Below.next (unhide HX7) (unhide HB9) (Nat.le_refl _))
  have TB19 := hide (keep_below (unhide TB17) (unhide HB9))
  have TB29 := hide (keep_below (unhide TB2) (unhide HB9))
  have HIS9 := hide ((unhide HIS7).below (unhide HB9))
  have HIT9 := hide ((unhide HIT7).below (unhide HB9))
  have HIB9 := hide ((unhide HIB7).below (unhide HB9))
  clear h19 hW9 HBA HB8 HB9 HIC HIU TB17 TB2 HX7 HIS7 HIT7 HIB7 HW3
  obtain ⟨t0, t1, _, _, _⟩ := block2 (unhide TB19)
  obtain ⟨u0, u1, _, _, _⟩ := block2 (unhide TB29)
  obtain ⟨v0, v1, _, _, _⟩ := block2 (unhide TB3)
  go_upto_region 10 with (first
    | (go_at_call 14; (with_reducible refine Calls.mono (unhide HSL _ _ _ _ _ (unhide HIB9) (unhide HIC9)) ?_); rintro e wa ⟨rfl, hba⟩; have HA := hide hba; clear hba t0 t1 u0 u1 v0 v1)
    | (go_at_call 22; (with_reducible refine Calls.mono (unhide HOS _ _ ((unhide HIS9).below (unhide HA))) ?_); rintro e wb ⟨a7, c7', rfl, hob, hbb⟩; have HOB := hide hob; have HB := hide hbb; clear hob hbb)
    | (at_builtin; refine wpList_append_ints rfl (.tmp 113) (.tmp 114) rfl wa.heap.size (.slice a7 s1 c7') S1 rfl (unhide HOB) _ S2 rfl (((unhide HIT9).below (unhide HA)).below (unhide HB)) un (by rw [unhide HF2, unhide HF4]; exact hs12) (by omega) (unhide HB).size ?_; intro a8 c8' wc hoc hgc; have HIC1 := hide hoc.ints; have HC := hide ((unhide HB).grown hgc (unhide HB).size (fun k hk => ((unhide HOB).lt k hk).1)); clear hoc hgc)
    | (go_at_call 26; (with_reducible refine Calls.mono (unhide HSU _ _ _ (unhide HIC1) (((unhide HIU9).below (unhide HA)).below (unhide HC))) ?_); rintro e wd ⟨rfl, hbd⟩; have HDD := hide (Below.next (Below.next (unhide HA) (unhide HC) (Nat.le_refl _)) hbd (Nat.le_refl _)); clear hbd))
  have HXD := hide (Below.next (unhide HX9) (unhide HDD) (Nat.le_refl _))
  have HUD := hide ((unhide HIU9).below (unhide HDD))
  clear HX9 TB19 TB29 TB3 HIS9 HIT9 HIB9 HIC9 HIU9 HA HB HC HIC1 HOB HDD HSL HOS HSU
  go_upto_if 122 with fail
  go_cut [18] (fun v18 W => v18 = .slice au un cu ∧ Below wd.heap.size wd W)
  case first =>
    by_cases hun : 0 < un
    · have g1 : (0 : Int) < (un : Int) := by omega
      obtain ⟨bu, ou, cu', eu, hbu, hcu⟩ := (unhide HUD).at (by rw [unhide HF5]; exact hun)
      rw [unhide HF5] at eu
      cases eu
      have l0 := hcu 0 (by rw [unhide HF5]; exact hun)
      rw [Nat.add_zero] at l0
      have hmem : U.getD 0 0 ∈ U := by
        have : 0 < U.length := by rw [unhide HF5]; exact hun
        simp [List.getElem?_eq_getElem this]
      obtain ⟨t, et⟩ : ∃ t, U.getD 0 0 = t := ⟨_, rfl⟩
      rw [et] at l0 hmem
      obtain ⟨hd1, hd2, hd3, hd4⟩ := unhide HDR t hmem
      obtain ⟨D, eD⟩ : ∃ D, dropL t ls = D := ⟨_, rfl⟩
      rw [eD] at hd1 hd2 hd3 hd4
      obtain ⟨F, eF⟩ : ∃ F, firstL x (m + k) D = F := ⟨_, rfl⟩
      rw [eF] at hd2 hd3 hd4
      obtain ⟨dn, edn⟩ : ∃ k, D.length = k := ⟨_, rfl⟩
      obtain ⟨fn, efn⟩ : ∃ k, F.length = k := ⟨_, rfl⟩
      rw [edn] at hd1 hd2
      rw [efn] at hd2 hd4
      have HD1 := hide hd1; have HD2 := hide hd2; have HD3 := hide hd3; have HFN := hide efn
      have l1 : wd.cell? ⟨bu, ou, none⟩ = some (.int .i64 t) := l0
      have HLU : Hid (∀ W, Below wd.heap.size wd W → W.cell? ⟨bu, ou, none⟩ = some (.int .i64 t)) := fun W hW => (hW.cell (p := ⟨bu, ou, none⟩) hbu).trans l1
      have HHS : Hid (∀ W v, IsInts W v F → Calls Try.prog 16 #[v, .int .i64 t] W fun e w' => e = .returned (.bool false) ∧ Below W.heap.size W w') := fun W v hi => by
        have := has_any W v F t hi (by rw [efn]; unfold maxLen; omega)
        rw [hd3] at this
        exact this
      have e9 : (x != x) = false := by simp
      clear l0 hcu hbu hmem et hd1 hd2 hd3 hd4 eD eF edn efn HDR HMV HW5 HAT HOY HSY
      go_upto_region 12 with (go_at_call 29; refine (unhide HD1 _ (unhide HXD)).mono ?_; rintro e w10 ⟨a10, c10, rfl, hi10, hb10⟩; have HI10 := hide hi10; have HB10 := hide hb10; clear hi10 hb10 l1)
      have TB := hide (new_block w10 (.cells #[.int .i64 0, .int .i64 0] 27))
      have HBA := hide ((Below.refl w10.heap.size w10).alloc (Nat.le_refl _) (.cells #[.int .i64 0, .int .i64 0] 27))
      have HB11 := hide (Below.next (unhide HB10) (unhide HBA) (Nat.le_refl _))
      have HI11 := hide ((unhide HI10).below (unhide HBA))
      have HTL := hide (unhide HB10).size
      obtain ⟨T22, h22⟩ : ∃ T, w10.heap.size = T := ⟨_, rfl⟩
      obtain ⟨W11, hW11⟩ : ∃ W, w10.alloc (.cells #[.int .i64 0, .int .i64 0] 27) = W := ⟨_, rfl⟩
      rw [h22, hW11] at TB
      rw [h22] at HTL
      rw [hW11] at HB11 HI11
      rw [h22, hW11]
      clear h22 hW11 HBA HB10 HI10
      obtain ⟨t0, t1, _, _, t22⟩ := block2 (unhide TB)
      have HT22 := hide t22
      clear t22
      go_upto_region 15 with (go_at_call 23; refine (unhide HD2 _ _ _ (unhide HI11)).mono ?_; rintro e w12 ⟨a12, n12, c12, a13, c13, rfl, ho12, hb12⟩; have HO12 := hide ho12; have HB12 := hide hb12; clear ho12 hb12 t0 t1; obtain ⟨r0, r1, f0, f1, _⟩ := block2 (keep_below (unhide TB) (unhide HB12)))
      have TB13 := hide (block2_set (x' := .int .i64 0) (y' := .int .i64 0) (keep_below (unhide TB) (unhide HB12)))
      have HO13 := hide ((unhide HO12).set2 (unhide HT22) (.int .i64 0) (.int .i64 0))
      have HB13 := hide (((Below.next (unhide HB11) (unhide HB12) (Nat.le_refl _)).setCell (p := ⟨T22, 0, none⟩) (unhide HTL) (.int .i64 0)).setCell (p := ⟨T22, 1, none⟩) (unhide HTL) (.int .i64 0))
      obtain ⟨W13, hW13⟩ : ∃ W, (w12.setCell ⟨T22, 0, none⟩ (.int .i64 0)).setCell ⟨T22, 1, none⟩ (.int .i64 0) = W := ⟨_, rfl⟩
      rw [hW13] at TB13 HO13 HB13
      rw [hW13]
      clear hW13 r0 r1 f0 f1 HO12 HB12 HB11 HI11
      obtain ⟨t0, t1, _, _, _⟩ := block2 (unhide TB13)
      have l1 := unhide HLU W13 (unhide HB13)
      go_wp2_with (go_at_call 16; refine (unhide HHS _ _ (unhide HO13).ints).mono ?_; rintro e w14 ⟨rfl, hb14⟩; have HB14 := hide (Below.next (unhide HB13) hb14 (Nat.le_refl _)); clear hb14)
      go_meet
      case rel => exact ⟨rfl, unhide HB14⟩
    · have g1 : ¬ (0 : Int) < (un : Int) := by omega
      go_wp2_with fail
      go_meet
      case rel => exact ⟨rfl, Below.refl _ _⟩
  case rest =>
    obtain ⟨rfl, hwc⟩ := hcut
    have HXC := hide (Below.next (unhide HXD) hwc (Nat.le_refl _))
    have HUC := hide ((unhide HUD).below hwc)
    clear hwc HXD HUD HDR
    go_upto_region 18 with (go_at_call 24; refine (unhide HMV _ (unhide HXC)).mono ?_; rintro e w14 ⟨a14, c14, rfl, hi14, hb14⟩; have HI14 := hide hi14; have HB14 := hide hb14; clear hi14 hb14)
    have TB := hide (new_block w14 (.cells #[.int .i64 0, .int .i64 0] 27))
    have HBA := hide ((Below.refl w14.heap.size w14).alloc (Nat.le_refl _) (.cells #[.int .i64 0, .int .i64 0] 27))
    have HB15 := hide (Below.next (unhide HB14) (unhide HBA) (Nat.le_refl _))
    have HI15 := hide ((unhide HI14).below (unhide HBA))
    have HTL := hide (unhide HB14).size
    obtain ⟨T26, h26⟩ : ∃ T, w14.heap.size = T := ⟨_, rfl⟩
    obtain ⟨W15, hW15⟩ : ∃ W, w14.alloc (.cells #[.int .i64 0, .int .i64 0] 27) = W := ⟨_, rfl⟩
    rw [h26, hW15] at TB
    rw [h26] at HTL
    rw [hW15] at HB15 HI15
    rw [h26, hW15]
    clear h26 hW15 HBA HB14 HI14
    obtain ⟨t0, t1, _, _, t26⟩ := block2 (unhide TB)
    have HT26 := hide t26
    clear t26
    go_upto_region 21 with (go_at_call 23; refine (unhide HW5 _ _ _ (unhide HI15)).mono ?_; rintro e w16 ⟨a16, n16, c16, a17, c17, rfl, ho16, hb16⟩; have HO16 := hide ho16; have HB16 := hide hb16; clear ho16 hb16 t0 t1; obtain ⟨r0, r1, f0, f1, _⟩ := block2 (keep_below (unhide TB) (unhide HB16)))
    have TB17 := hide (block2_set (x' := .int .i64 0) (y' := .int .i64 0) (keep_below (unhide TB) (unhide HB16)))
    have HO17 := hide ((unhide HO16).set2 (unhide HT26) (.int .i64 0) (.int .i64 0)).ints
    have HB17 := hide (((Below.next (unhide HB15) (unhide HB16) (Nat.le_refl _)).setCell (p := ⟨T26, 0, none⟩) (unhide HTL) (.int .i64 0)).setCell (p := ⟨T26, 1, none⟩) (unhide HTL) (.int .i64 0))
    obtain ⟨W17, hW17⟩ : ∃ W, (w16.setCell ⟨T26, 0, none⟩ (.int .i64 0)).setCell ⟨T26, 1, none⟩ (.int .i64 0) = W := ⟨_, rfl⟩
    rw [hW17] at TB17 HO17 HB17
    rw [hW17]
    clear hW17 r0 r1 f0 f1 HO16 HB16 HB15 HI15
    obtain ⟨t0, t1, _, _, _⟩ := block2 (unhide TB17)
    have HX17 := hide (Below.next (unhide HXC) (unhide HB17) (Nat.le_refl _))
    have HU17 := hide ((unhide HUC).below (unhide HB17))
    have HATW := hide (unhide HAT W17 (unhide HX17))
    clear HAT
    go_wp2_with (first
      | (go_at_call 21; refine (unhide HATW).mono ?_; rintro e W18 ⟨a18, c18, rfl, hi18, hw18⟩; have HI18 := hide hi18; have HBE := hide (show Below W17.heap.size W17 W18 by rw [hw18]; exact Below.refl _ _); clear hi18 hw18)
      | (go_at_call 22; (with_reducible refine Calls.mono (unhide HOY _ _ (unhide HI18)) ?_); rintro e w19 ⟨a19, c19, rfl, ho19, hb19⟩; have HO19 := hide ho19; have HB19 := hide hb19; clear ho19 hb19)
      | (at_builtin; refine wpList_append_ints rfl (.tmp 188) (.tmp 189) rfl W18.heap.size (.slice a19 yn c19) Y rfl (unhide HO19) _ U rfl (((unhide HU17).below (unhide HBE)).below (unhide HB19)) (yn + un) (by rw [unhide HF7, unhide HF5]) (by omega) (unhide HB19).size ?_; intro a20 c20 w20 ho20 hg20; have HI20 := hide ho20.ints; have HB20 := hide ((unhide HB19).grown hg20 (unhide HB19).size (fun k hk => ((unhide HO19).lt k hk).1)); clear ho20 hg20)
      | (go_at_call 26; (with_reducible refine Calls.mono (unhide HSY _ _ _ (((unhide HO17).below (unhide HBE)).below (unhide HB20)) (unhide HI20)) ?_); rintro e w21 ⟨rfl, hb21⟩; have HX21 := hide (Below.next (Below.next (Below.next (unhide HX17) (unhide HBE) (Nat.le_refl _)) (unhide HB20) (Nat.le_refl _)) hb21 (Nat.le_refl _)); clear hb21))
    go_ret
    exact ⟨rfl, unhide HX21⟩

theorem halves_walk (w : World) (a : Option Addr) (n c : Nat) (x y m k : Int) (ls : List Ln) (h : Arg w a n c ls) :
    Calls Try.prog 7 #[.slice a n c, .int .i64 x, .int .i64 y, .int .i64 m, .int .i64 k] w fun e w' => e = .returned (.bool true) ∧ Below w.heap.size w w' := by
  by_cases hc : (n ≤ 6000 ∧ (waitL ls).length ≤ 300 ∧ linesF ls = (0, 0)) ∧ 0 ≤ m ∧ 0 ≤ k ∧ m ≤ 1000 ∧ k ≤ 1000 ∧ x ≠ y
  · obtain ⟨⟨h1, h2, h3⟩, h4, h5, h6, h7, h8⟩ := hc
    exact halves_ok w a n c x y m k ls h.rd (good_of h3) h1 h2 h4 h5 h6 h7 h8
  · exact halves_early w a n c x y m k ls h hc
end Go.Proofs.Ytjlcfdhghohccaa
