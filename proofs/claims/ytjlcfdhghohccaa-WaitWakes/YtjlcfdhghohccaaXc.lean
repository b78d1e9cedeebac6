/-
  taskmilllaw.WaitDrops returns true.
-/
import Derived.Test.YtjlcfdhghohccaaWc
import Derived.Test.YtjlcfdhghohccaaXb
namespace Go.Proofs.Ytjlcfdhghohccaa
open Go.RowKit

/-- A list without a number. -/
def filL (t : Int) (T : List Int) : List Int := T.filter fun z => z != t
theorem filL_same {t : Int} {T : List Int} (h : t ∉ T) : filL t T = T := by
  unfold filL
  rw [List.filter_eq_self]
  intro z hz
  simp
  exact fun e => h (e ▸ hz)
theorem lessL_fil {t : Int} {T : List Int} (hn : T.Nodup) (hin : T.contains t = true) : filL t T = lessL t T := by
  obtain ⟨h1, h2, h3⟩ := ixOf_spec t T hin
  have e : T = T.take (ixOf t T) ++ (t :: T.drop (ixOf t T + 1)) := by
    conv => lhs; rw [← List.take_append_drop (ixOf t T) T, drop_at h1, h2]
  have hno := less_not hn hin
  unfold lessL at hno ⊢
  have ha : t ∉ T.take (ixOf t T) := fun h => hno (List.mem_append_left _ h)
  have hb : t ∉ T.drop (ixOf t T + 1) := fun h => hno (List.mem_append_right _ h)
  conv => lhs; rw [e]
  unfold filL
  rw [List.filter_append, List.filter_cons_of_neg (by simp)]
  congr 1
  · exact filL_same ha
  · exact filL_same hb
theorem filL_next {t : Int} {T : List Int} {j : Nat} (hj : j < T.length) : filL t (T.take (j + 1)) = if T.getD j 0 = t then filL t (T.take j) else filL t (T.take j) ++ [T.getD j 0] := by
  rw [take_at hj]
  unfold filL
  rw [List.filter_append]
  split
  · rename_i e; rw [List.filter_cons_of_neg (by rw [e]; simp)]; simp
  · rename_i e; rw [List.filter_cons_of_pos (by simpa using e)]; simp
theorem filL_le (t : Int) (T : List Int) : (filL t T).length ≤ T.length := List.length_filter_le _ _

set_option maxRecDepth 100000 in
set_option maxHeartbeats 2000000 in
theorem drops_vast (w : World) (a : Option Addr) (n c : Nat) (task : Int) (ls : List Ln) (h : Arg w a n c ls) (h6 : 6000 < n ∨ 6000 < (waitL ls).length) :
    Calls Try.prog 5 #[.slice a n c, .int .i64 task] w fun e w' => e = .returned (.bool true) ∧ Below w.heap.size w w' := by
  have hnot : ∀ (x : Bool) (w : World), (Op.unary .not (.bool x)).run Try.prog w = .ok (.bool (!x)) w := fun _ _ => rfl
  have HVS : Hid (∀ W, Below w.heap.size w W → Calls Try.prog 9 #[.slice a n c] W fun e w' => e = .returned (.bool true) ∧ w' = W) := fun W hW => by
    have := vast_bool W a n c ls h.rd.len (h.rd.below hW) h.max h.each
    rw [decide_eq_true h6] at this
    exact this
  clear h h6
  go_enter Try.func5, Try.ntmps5
  go_wp2_with (first
    | (go_at_call 8; refine (begun_any _).mono ?_; rintro e w1 ⟨rfl, hb1⟩; have HX1 := hide hb1; clear hb1)
    | (go_at_call 9; refine (unhide HVS _ (unhide HX1)).mono ?_; rintro e w1 ⟨rfl, rfl⟩))
  go_ret
  exact ⟨rfl, unhide HX1⟩

set_option maxRecDepth 100000 in
set_option maxHeartbeats 4000000 in
theorem drops_fault (w : World) (a : Option Addr) (n c : Nat) (task : Int) (ls : List Ln) (h : Arg w a n c ls) (h6 : ¬ (6000 < n ∨ 6000 < (waitL ls).length)) (u v : Int) (hf : linesF ls = (u, v)) (hu : u ≠ 0) :
    Calls Try.prog 5 #[.slice a n c, .int .i64 task] w fun e w' => e = .returned (.bool true) ∧ Below w.heap.size w w' := by
  have hnot : ∀ (x : Bool) (w : World), (Op.unary .not (.bool x)).run Try.prog w = .ok (.bool (!x)) w := fun _ _ => rfl
  have hl := h.rd.len
  have HVS : Hid (∀ W, Below w.heap.size w W → Calls Try.prog 9 #[.slice a n c] W fun e w' => e = .returned (.bool false) ∧ w' = W) := fun W hW => by
    have := vast_bool W a n c ls hl (h.rd.below hW) h.max h.each
    rw [decide_eq_false h6] at this
    exact this
  have HOL : Hid (∀ W, Below w.heap.size w W → Calls Try.prog 10 #[.slice a n c] W fun e w' => ∃ a' c', e = .returned (.slice a' n c') ∧ IsLs w' (.slice a' n c') ls ∧ Below W.heap.size W w') := fun W hW => ownlines_any W a n c ls hl (h.rd.below hW) (by omega) (by omega)
  have HDF : Hid (∀ W a c, IsLs W (.slice a n c) ls → Calls Try.prog 29 #[.slice a n c, .int .i64 task] W fun e w' => e = .returned (.tuple #[.slice none 0 0, .int .i64 0, .agg #[.int .i64 u, .int .i64 v]]) ∧ Below W.heap.size W w') := fun W a c hi => drop_fault W a n c task ls ⟨hi, h.max, h.each⟩ u v hf hu
  have HLF : Hid (∀ W, Below w.heap.size w W → Calls Try.prog 13 #[.slice a n c] W fun e w' => e = .returned (.agg #[.int .i64 u, .int .i64 v]) ∧ Below W.heap.size W w') := fun W hW => by
    have := lf_any W a n c ls (h.rd.below hW) h.max h.each
    rw [hf] at this
    exact this
  have c1 : (u == 0) = false := by simpa using hu
  have c2 : (u != 0) = true := by simpa using hu
  have c3 : (u == u) = true := by simp
  have c4 : (v == v) = true := by simp
  clear h h6 hf hl hu
  go_enter Try.func5, Try.ntmps5
  go_upto_region 6 with (first
    | (go_at_call 8; refine (begun_any _).mono ?_; rintro e w1 ⟨rfl, hb1⟩; have HX1 := hide hb1; clear hb1)
    | (go_at_call 9; refine (unhide HVS _ (unhide HX1)).mono ?_; rintro e w1 ⟨rfl, rfl⟩)
    | (go_at_call 10; refine (unhide HOL _ (unhide HX1)).mono ?_; rintro e w2 ⟨a2, c2', rfl, hi2, hb2⟩; have HI2 := hide hi2; have HX2 := hide (Below.next (unhide HX1) hb2 (Nat.le_refl _)); clear hi2 hb2)
    | (go_at_call 29; refine (unhide HDF _ _ _ (unhide HI2)).mono ?_; rintro e w3 ⟨rfl, hb3⟩; have HX3 := hide (Below.next (unhide HX2) hb3 (Nat.le_refl _)); clear hb3))
  have TB := hide (new_block w3 (.cells #[.int .i64 u, .int .i64 v] 27))
  have HX4 := hide ((unhide HX3).alloc (unhide HX3).size (.cells #[.int .i64 u, .int .i64 v] 27))
  obtain ⟨T, hT⟩ : ∃ T, w3.heap.size = T := ⟨_, rfl⟩
  obtain ⟨W4, hW4⟩ : ∃ W, w3.alloc (.cells #[.int .i64 u, .int .i64 v] 27) = W := ⟨_, rfl⟩
  rw [hT, hW4] at TB
  rw [hW4] at HX4
  rw [hT, hW4]
  clear hT hW4 HX3 HX2 HX1 HI2
  go_upto_region 7 with (go_at_call 13; refine (unhide HLF _ (unhide HX4)).mono ?_; rintro e w5 ⟨rfl, hb5⟩; have HB5 := hide hb5; have HX5 := hide (Below.next (unhide HX4) hb5 (Nat.le_refl _)); clear hb5)
  have UB := hide (new_block w5 (.cells #[.int .i64 u, .int .i64 v] 27))
  have TB5 := hide (keep_alloc (keep_below (unhide TB) (unhide HB5)) (.cells #[.int .i64 u, .int .i64 v] 27))
  have HX6 := hide ((unhide HX5).alloc (unhide HX5).size (.cells #[.int .i64 u, .int .i64 v] 27))
  obtain ⟨U, hU⟩ : ∃ T, w5.heap.size = T := ⟨_, rfl⟩
  obtain ⟨W6, hW6⟩ : ∃ W, w5.alloc (.cells #[.int .i64 u, .int .i64 v] 27) = W := ⟨_, rfl⟩
  rw [hU, hW6] at UB
  rw [hW6] at HX6 TB5
  rw [hU, hW6]
  clear hU hW6 HX5 HB5 TB
  obtain ⟨t0, t1, _, _, _⟩ := block2 (unhide TB5)
  obtain ⟨u0, u1, _, _, _⟩ := block2 (unhide UB)
  go_wp2_with fail
  go_ret
  exact ⟨rfl, unhide HX6⟩

set_option maxRecDepth 100000 in
set_option maxHeartbeats 4000000 in
theorem drops_none (w : World) (a : Option Addr) (n c : Nat) (task : Int) (ls : List Ln) (h : IsLs w (.slice a n c) ls) (hg : Good ls) (hin : (waitL ls).contains task = false) :
    Calls Try.prog 5 #[.slice a n c, .int .i64 task] w fun e w' => e = .returned (.bool true) ∧ Below w.heap.size w w' := by
  have hnot : ∀ (x : Bool) (w : World), (Op.unary .not (.bool x)).run Try.prog w = .ok (.bool (!x)) w := fun _ _ => rfl
  have hl := h.len
  have harg := hg.arg h
  have hn5 := hg.len
  have hq5 := hg.few
  have HVS : Hid (∀ W, Below w.heap.size w W → Calls Try.prog 9 #[.slice a n c] W fun e w' => e = .returned (.bool false) ∧ w' = W) := fun W hW => by
    have := vast_bool W a n c ls hl (h.below hW) harg.max harg.each
    rw [decide_eq_false (by omega)] at this
    exact this
  have HOL : Hid (∀ W, Below w.heap.size w W → Calls Try.prog 10 #[.slice a n c] W fun e w' => ∃ a' c', e = .returned (.slice a' n c') ∧ IsLs w' (.slice a' n c') ls ∧ Below W.heap.size W w') := fun W hW => ownlines_any W a n c ls hl (h.below hW) (by omega) (by omega)
  have HLF : Hid (∀ W, Below w.heap.size w W → Calls Try.prog 13 #[.slice a n c] W fun e w' => e = .returned (.agg #[.int .i64 0, .int .i64 0]) ∧ Below W.heap.size W w') := fun W hW => by
    have := lf_any W a n c ls (h.below hW) harg.max harg.each
    rw [good_to hg] at this
    exact this
  have HWA : Hid (∀ W, Below w.heap.size w W → Calls Try.prog 17 #[.slice a n c] W fun e w' => ∃ a' c', e = .returned (.slice a' (waitL ls).length c') ∧ IsInts w' (.slice a' (waitL ls).length c') (waitL ls) ∧ Below W.heap.size W w') := fun W hW => waiting_any W a n c ls hl (h.below hW) (by omega) (by omega)
  have HHS : Hid (∀ W v, IsInts W v (waitL ls) → Calls Try.prog 16 #[v, .int .i64 task] W fun e w' => e = .returned (.bool false) ∧ Below W.heap.size W w') := fun W v hi => by
    have := has_any W v (waitL ls) task hi (by unfold maxLen; omega)
    rw [hin] at this
    exact this
  have HDN : Hid (∀ W a c, IsLs W (.slice a n c) ls → Calls Try.prog 29 #[.slice a n c, .int .i64 task] W fun e w' => e = .returned (.tuple #[.slice none 0 0, .int .i64 0, .agg #[.int .i64 6, .int .i64 0]]) ∧ Below W.heap.size W w') := fun W a c hi => drop_none W a n c task ls hi hg hin
  clear h hg hl harg hin hn5 hq5
  go_enter Try.func5, Try.ntmps5
  go_upto_region 6 with (first
    | (go_at_call 8; refine (begun_any _).mono ?_; rintro e w1 ⟨rfl, hb1⟩; have HX1 := hide hb1; clear hb1)
    | (go_at_call 9; refine (unhide HVS _ (unhide HX1)).mono ?_; rintro e w1 ⟨rfl, rfl⟩)
    | (go_at_call 10; refine (unhide HOL _ (unhide HX1)).mono ?_; rintro e w2 ⟨a2, c2', rfl, hi2, hb2⟩; have HI2 := hide hi2; have HX2 := hide (Below.next (unhide HX1) hb2 (Nat.le_refl _)); clear hi2 hb2)
    | (go_at_call 29; refine (unhide HDN _ _ _ (unhide HI2)).mono ?_; rintro e w3 ⟨rfl, hb3⟩; have HX3 := hide (Below.next (unhide HX2) hb3 (Nat.le_refl _)); clear hb3))
  have TB := hide (new_block w3 (.cells #[.int .i64 6, .int .i64 0] 27))
  have HBA := hide ((Below.refl w3.heap.size w3).alloc (Nat.le_refl _) (.cells #[.int .i64 6, .int .i64 0] 27))
  have HX4 := hide ((unhide HX3).alloc (unhide HX3).size (.cells #[.int .i64 6, .int .i64 0] 27))
  obtain ⟨T, hT⟩ : ∃ T, w3.heap.size = T := ⟨_, rfl⟩
  obtain ⟨W4, hW4⟩ : ∃ W, w3.alloc (.cells #[.int .i64 6, .int .i64 0] 27) = W := ⟨_, rfl⟩
  rw [hT, hW4] at TB
  rw [hW4] at HX4
  rw [hT, hW4]
  clear hT hW4 HX3 HX2 HX1 HI2 HBA
  go_upto_region 7 with (go_at_call 13; refine (unhide HLF _ (unhide HX4)).mono ?_; rintro e w5 ⟨rfl, hb5⟩; have HB5 := hide hb5; have HX5 := hide (Below.next (unhide HX4) hb5 (Nat.le_refl _)); clear hb5)
  have UB := hide (new_block w5 (.cells #[.int .i64 0, .int .i64 0] 27))
  have HBA := hide ((Below.refl w5.heap.size w5).alloc (Nat.le_refl _) (.cells #[.int .i64 0, .int .i64 0] 27))
  have HB6 := hide (Below.next (unhide HB5) (unhide HBA) (Nat.le_refl _))
  have HX6 := hide (Below.next (unhide HX4) (unhide HB6) (Nat.le_refl _))
  have HTU := hide (show T < w5.heap.size from Nat.lt_of_lt_of_le (block2 (unhide TB)).2.2.2.2 (unhide HB5).size)
  have HWU := hide (show w.heap.size ≤ w5.heap.size from (unhide HX5).size)
  obtain ⟨U, hU⟩ : ∃ T, w5.heap.size = T := ⟨_, rfl⟩
  obtain ⟨W6, hW6⟩ : ∃ W, w5.alloc (.cells #[.int .i64 0, .int .i64 0] 27) = W := ⟨_, rfl⟩
  rw [hU, hW6] at UB
  rw [hU] at HTU HWU
  rw [hW6] at HX6 HB6
  rw [hU, hW6]
  clear hU hW6 HX5 HB5 HBA
  have TB6 := hide (keep_below (unhide TB) (unhide HB6))
  clear TB
  obtain ⟨u0, u1, _, _, _⟩ := block2 (unhide UB)
  go_upto_region 9 with (first
    | (go_at_call 17; refine (unhide HWA _ (unhide HX6)).mono ?_; rintro e w7 ⟨a7, c7, rfl, hi7, hb7⟩; have HI7 := hide hi7; have HB7 := hide hb7; clear hi7 hb7)
    | (go_at_call 16; refine (unhide HHS _ _ (unhide HI7)).mono ?_; rintro e w8 ⟨rfl, hb8⟩; have HB8 := hide (Below.next (unhide HB7) hb8 (Nat.le_refl _)); clear hb8)
    | (go_at_call 15; refine (f_any _ _ _).mono ?_; rintro e w9 ⟨rfl, hb9⟩; have HB9 := hide (Below.next (unhide HB8) hb9 (Nat.le_refl _)); clear hb9 u0 u1; obtain ⟨r0, r1, f0, f1, _⟩ := block2 (keep_below (unhide UB) (unhide HB9))))
  have UB9 := hide (block2_set (x' := .int .i64 6) (y' := .int .i64 0) (keep_below (unhide UB) (unhide HB9)))
  have TB9 : Hid (((w9.setCell ⟨U, 0, none⟩ (.int .i64 6)).setCell ⟨U, 1, none⟩ (.int .i64 0)).heap[T]? = some (.cells #[.int .i64 6, .int .i64 0] 27 (0, 0))) := hide (by
    have hne : T ≠ U := Nat.ne_of_lt (unhide HTU)
    rw [Below.heap_setCell _ _ _ _ (by simpa using hne), Below.heap_setCell _ _ _ _ (by simpa using hne)]
    exact keep_below (unhide TB6) (unhide HB9))
  have HX9 := hide (((Below.next (unhide HX6) (unhide HB9) (Nat.le_refl _)).setCell (p := ⟨U, 0, none⟩) (unhide HWU) (.int .i64 6)).setCell (p := ⟨U, 1, none⟩) (unhide HWU) (.int .i64 0))
  obtain ⟨W9, hW9⟩ : ∃ W, (w9.setCell ⟨U, 0, none⟩ (.int .i64 6)).setCell ⟨U, 1, none⟩ (.int .i64 0) = W := ⟨_, rfl⟩
  rw [hW9] at UB9 TB9 HX9
  rw [hW9]
  clear hW9 r0 r1 f0 f1
  obtain ⟨t0, t1, _, _, _⟩ := block2 (unhide TB9)
  obtain ⟨u0, u1, _, _, _⟩ := block2 (unhide UB9)
  go_wp2_with fail
  go_ret
  exact ⟨rfl, unhide HX9⟩

set_option maxRecDepth 100000 in
set_option maxHeartbeats 8000000 in
theorem drops_ok (w : World) (a : Option Addr) (n c : Nat) (task : Int) (ls : List Ln) (h : IsLs w (.slice a n c) ls) (hg : Good ls) (hin : (waitL ls).contains task = true) :
    Calls Try.prog 5 #[.slice a n c, .int .i64 task] w fun e w' => e = .returned (.bool true) ∧ Below w.heap.size w w' := by
  have hnot : ∀ (x : Bool) (w : World), (Op.unary .not (.bool x)).run Try.prog w = .ok (.bool (!x)) w := fun _ _ => rfl
  have hl := h.len
  have harg := hg.arg h
  have hn5 := hg.len
  have hq5 := hg.few
  have HVS : Hid (∀ W, Below w.heap.size w W → Calls Try.prog 9 #[.slice a n c] W fun e w' => e = .returned (.bool false) ∧ w' = W) := fun W hW => by
    have := vast_bool W a n c ls hl (h.below hW) harg.max harg.each
    rw [decide_eq_false (by omega)] at this
    exact this
  have HOL : Hid (∀ W, Below w.heap.size w W → Calls Try.prog 10 #[.slice a n c] W fun e w' => ∃ a' c', e = .returned (.slice a' n c') ∧ IsLs w' (.slice a' n c') ls ∧ Below W.heap.size W w') := fun W hW => ownlines_any W a n c ls hl (h.below hW) (by omega) (by omega)
  have HLF : Hid (∀ W, Below w.heap.size w W → Calls Try.prog 13 #[.slice a n c] W fun e w' => e = .returned (.agg #[.int .i64 0, .int .i64 0]) ∧ Below W.heap.size W w') := fun W hW => by
    have := lf_any W a n c ls (h.below hW) harg.max harg.each
    rw [good_to hg] at this
    exact this
  have HWA : Hid (∀ W, Below w.heap.size w W → Calls Try.prog 17 #[.slice a n c] W fun e w' => ∃ a' c', e = .returned (.slice a' (waitL ls).length c') ∧ IsInts w' (.slice a' (waitL ls).length c') (waitL ls) ∧ Below W.heap.size W w') := fun W hW => waiting_any W a n c ls hl (h.below hW) (by omega) (by omega)
  have HHS : Hid (∀ W v, IsInts W v (waitL ls) → Calls Try.prog 16 #[v, .int .i64 task] W fun e w' => e = .returned (.bool true) ∧ Below W.heap.size W w') := fun W v hi => by
    have := has_any W v (waitL ls) task hi (by unfold maxLen; omega)
    rw [hin] at this
    exact this
  have HDK : Hid (∀ W a c, IsLs W (.slice a n c) ls → Calls Try.prog 29 #[.slice a n c, .int .i64 task] W fun e w' => ∃ a1 c1, e = .returned (.tuple #[.slice a1 (dropL task ls).length c1, .int .i64 (atOf task ls), .agg #[.int .i64 0, .int .i64 0]]) ∧ IsLs w' (.slice a1 (dropL task ls).length c1) (dropL task ls) ∧ Below W.heap.size W w') := fun W a c hi => by
    refine (drop_ok W a n c task ls hi hg hin).mono ?_
    rintro e w' ⟨a1, c1, e1, h1, h2⟩
    exact ⟨a1, c1, e1, h1.ls, h2⟩
  obtain ⟨hp1, hp2⟩ := lineN_at hin
  have htk : tasksL (atOf task ls) ls = (lAt ls (lineN task ls)).2 := hg.rise.tasks hp1
  have htc : (tasksL (atOf task ls) ls).contains task = true := by rw [htk]; exact hp2
  have hless := lessL_fil (tasks_nodup hg (atOf task ls)) htc
  have htl := tasksL_le (atOf task ls) ls
  have hgd : Good (dropL task ls) := (hg.less (less_sub _ _)).1
  have hdl := hgd.len
  have hdf := hgd.few
  have HAT : Hid (∀ W, Below w.heap.size w W → Calls Try.prog 21 #[.slice a n c, .int .i64 (atOf task ls)] W fun e w' => ∃ a' c', e = .returned (.slice a' (tasksL (atOf task ls) ls).length c') ∧ IsInts w' (.slice a' (tasksL (atOf task ls) ls).length c') (tasksL (atOf task ls) ls) ∧ w' = W) := fun W hW => by
    have := atline_any W a n c (atOf task ls) ls hl (h.below hW) (by omega)
    rw [atL_tasks hg.rise] at this
    exact this
  have HHO : Hid (∀ W v, IsInts W v (tasksL (atOf task ls) ls) → Calls Try.prog 16 #[v, .int .i64 task] W fun e w' => e = .returned (.bool true) ∧ Below W.heap.size W w') := fun W v hi => by
    have := has_any W v _ task hi (by unfold maxLen; omega)
    rw [htc] at this
    exact this
  have HSE : Hid (∀ W a1 n1 c1, Below w.heap.size w W → IsInts W (.slice a1 n1 c1) (filL task (tasksL (atOf task ls) ls)) → Calls Try.prog 20 #[.slice a n c, .int .i64 (atOf task ls), .slice a1 n1 c1] W fun e w' => ∃ a' c', e = .returned (.slice a' (dropL task ls).length c') ∧ IsLs w' (.slice a' (dropL task ls).length c') (dropL task ls) ∧ Below W.heap.size W w') := fun W a1 n1 c1 hW hi => by
    have := setline_any W a n c ls (h.below hW) (atOf task ls) a1 n1 c1 _ hi hg.rise (by omega)
    rw [hless] at this
    exact this
  have HSM : Hid (∀ W a c a1 c1, IsLs W (.slice a (dropL task ls).length c) (dropL task ls) → IsLs W (.slice a1 (dropL task ls).length c1) (dropL task ls) → Calls Try.prog 14 #[.slice a (dropL task ls).length c, .slice a1 (dropL task ls).length c1] W fun e w' => e = .returned (.bool true) ∧ Below W.heap.size W w') := fun W a c a1 c1 h1 h2 => samelines_any W a a1 _ c c1 _ rfl h1 h2 (by omega) (by omega)
  obtain ⟨D, eD⟩ : ∃ D, dropL task ls = D := ⟨_, rfl⟩
  obtain ⟨x, ex⟩ : ∃ x, atOf task ls = x := ⟨_, rfl⟩
  rw [eD] at HDK HSE HSM
  rw [ex] at HDK HAT HSE HHO htl
  obtain ⟨O, eO⟩ : ∃ O, tasksL x ls = O := ⟨_, rfl⟩
  rw [eO] at HAT HSE HHO htl
  obtain ⟨dn, edn⟩ : ∃ k, D.length = k := ⟨_, rfl⟩
  obtain ⟨on, eon⟩ : ∃ k, O.length = k := ⟨_, rfl⟩
  rw [edn] at HDK HSE HSM
  rw [eon] at HAT htl
  have hon : on ≤ 5000 := by omega
  have HON := hide eon
  clear h hg hl harg hin hn5 hq5 hp1 hp2 htk htc hless htl hgd hdl hdf eD ex eO edn eon
  go_enter Try.func5, Try.ntmps5
  go_upto_region 6 with (first
    | (go_at_call 8; refine (begun_any _).mono ?_; rintro e w1 ⟨rfl, hb1⟩; have HX1 := hide hb1; clear hb1)
    | (go_at_call 9; refine (unhide HVS _ (unhide HX1)).mono ?_; rintro e w1 ⟨rfl, rfl⟩)
    | (go_at_call 10; refine (unhide HOL _ (unhide HX1)).mono ?_; rintro e w2 ⟨a2, c2', rfl, hi2, hb2⟩; have HI2 := hide hi2; have HX2 := hide (Below.next (unhide HX1) hb2 (Nat.le_refl _)); clear hi2 hb2)
    | (go_at_call 29; refine (unhide HDK _ _ _ (unhide HI2)).mono ?_; rintro e w3 ⟨ag, cg, rfl, hig, hb3⟩; have HIG := hide hig; have HX3 := hide (Below.next (unhide HX2) hb3 (Nat.le_refl _)); clear hig hb3))
  have TB := hide (new_block w3 (.cells #[.int .i64 0, .int .i64 0] 27))
  have HBA := hide ((Below.refl w3.heap.size w3).alloc (Nat.le_refl _) (.cells #[.int .i64 0, .int .i64 0] 27))
  have HX4 := hide ((unhide HX3).alloc (unhide HX3).size (.cells #[.int .i64 0, .int .i64 0] 27))
  have HG4 := hide ((unhide HIG).below (unhide HBA))
  obtain ⟨T, hT⟩ : ∃ T, w3.heap.size = T := ⟨_, rfl⟩
  obtain ⟨W4, hW4⟩ : ∃ W, w3.alloc (.cells #[.int .i64 0, .int .i64 0] 27) = W := ⟨_, rfl⟩
  rw [hT, hW4] at TB
  rw [hW4] at HX4 HG4
  rw [hT, hW4]
  clear hT hW4 HX3 HX2 HX1 HI2 HBA
  go_upto_region 7 with (go_at_call 13; refine (unhide HLF _ (unhide HX4)).mono ?_; rintro e w5 ⟨rfl, hb5⟩; have HB5 := hide hb5; have HX5 := hide (Below.next (unhide HX4) hb5 (Nat.le_refl _)); clear hb5)
  have UB := hide (new_block w5 (.cells #[.int .i64 0, .int .i64 0] 27))
  have HBA := hide ((Below.refl w5.heap.size w5).alloc (Nat.le_refl _) (.cells #[.int .i64 0, .int .i64 0] 27))
  have HB6 := hide (Below.next (unhide HB5) (unhide HBA) (Nat.le_refl _))
  have HX6 := hide (Below.next (unhide HX4) (unhide HB6) (Nat.le_refl _))
  have HTU := hide (show T < w5.heap.size from Nat.lt_of_lt_of_le (block2 (unhide TB)).2.2.2.2 (unhide HB5).size)
  have HWU := hide (show w.heap.size ≤ w5.heap.size from (unhide HX5).size)
  obtain ⟨U, hU⟩ : ∃ T, w5.heap.size = T := ⟨_, rfl⟩
  obtain ⟨W6, hW6⟩ : ∃ W, w5.alloc (.cells #[.int .i64 0, .int .i64 0] 27) = W := ⟨_, rfl⟩
  rw [hU, hW6] at UB
  rw [hU] at HTU HWU
  rw [hW6] at HX6 HB6
  rw [hU, hW6]
  clear hU hW6 HX5 HB5 HBA
  have TB6 := hide (keep_below (unhide TB) (unhide HB6))
  clear TB
  obtain ⟨u0, u1, _, _, _⟩ := block2 (unhide UB)
  have HG6 := hide ((unhide HG4).below (unhide HB6))
  clear HIG HG4
  go_upto_region 9 with (first
    | (go_at_call 17; refine (unhide HWA _ (unhide HX6)).mono ?_; rintro e w7 ⟨a7, c7, rfl, hi7, hb7⟩; have HI7 := hide hi7; have HB7 := hide hb7; clear hi7 hb7)
    | (go_at_call 16; refine (unhide HHS _ _ (unhide HI7)).mono ?_; rintro e w8 ⟨rfl, hb8⟩; have HB8 := hide (Below.next (unhide HB7) hb8 (Nat.le_refl _)); clear hb8 u0 u1))
  have HX8 := hide (Below.next (unhide HX6) (unhide HB8) (Nat.le_refl _))
  have HG8 := hide ((unhide HG6).below (unhide HB8))
  obtain ⟨t0, t1, _, _, _⟩ := block2 (keep_below (unhide TB6) (unhide HB8))
  obtain ⟨u0, u1, _, _, _⟩ := block2 (keep_below (unhide UB) (unhide HB8))
  have HATW := hide (unhide HAT w8 (unhide HX8))
  clear HAT HX6 HX4 HB6 HG6 HB7 HI7 HHS HWA HOL HLF HVS HDK
  go_wp2_with (go_at_call 21; refine (unhide HATW).mono ?_; rintro e w9 ⟨ao, co, rfl, hio, hw9⟩; have HB9 := hide (show Below w8.heap.size w8 w9 by rw [hw9]; exact Below.refl _ _); have HIO := hide hio; clear hio hw9 t0 t1 u0 u1)
  have HX9 := hide (Below.next (unhide HX8) (unhide HB9) (Nat.le_refl _))
  have HG9 := hide ((unhide HG8).below (unhide HB9))
  have HAO : Hid (0 < on → ∃ b off, ao = some ⟨b, off, none⟩ ∧ b < w9.heap.size ∧ ∀ j, j < on → w9.cell? ⟨b, off + j, none⟩ = some (.int .i64 (O.getD j 0))) := fun hp => by
    obtain ⟨b, off, c', e, hb, hc⟩ := (unhide HIO).at (by rw [unhide HON]; exact hp)
    rw [unhide HON] at e
    cases e
    exact ⟨b, off, rfl, hb, fun j hj => hc j (by rw [unhide HON]; exact hj)⟩
  clear HX8 HG8 HB9 HATW
  go_loopw [9, 11] (fun s i wr => ∃ (j : Nat) (a9 : Option Addr) (n9 c9 : Nat), j ≤ on ∧ s = .slice a9 n9 c9 ∧ i = .int .i64 j ∧ Own w9.heap.size wr (.slice a9 n9 c9) (filL task (O.take j)) ∧ Below w9.heap.size w9 wr) (fun _ i _ => on - (intOf i).toNat)
  case atStart => exact ⟨0, none, 0, 0, Nat.zero_le _, rfl, rfl, own_nil _ _, Below.refl _ _⟩
  case round =>
    obtain ⟨j, a9, n9, c9, hj, rfl, rfl, ho, hnx⟩ := hrel
    have hn9 : (filL task (O.take j)).length = n9 := by obtain ⟨_, _, e⟩ := ho.form; injection e with _ e2 _; exact e2.symm
    have hfl := filL_le task (O.take j)
    rw [List.length_take] at hfl
    have hn95 : n9 ≤ 5000 := by omega
    by_cases hlt : j < on
    · obtain ⟨b, off, rfl, hb, hc⟩ := unhide HAO (by omega)
      have k0 := (hnx.cell (p := ⟨b, off + j, none⟩) hb).trans (hc j hlt)
      have hnext := filL_next (t := task) (T := O) (j := j) (by rw [unhide HON]; exact hlt)
      obtain ⟨z, ez⟩ : ∃ z, O.getD j 0 = z := ⟨_, rfl⟩
      rw [ez] at k0 hnext
      have i0 : (0 : Int) ≤ (j : Int) := by omega
      have i1 : (j : Int) < (on : Int) := by omega
      have HX := hide hnx; have HO := hide ho; have HN9 := hide hn9
      clear hnx ho hc hb ez hn9 hfl
      by_cases hz : z = task
      · rw [if_pos hz] at hnext
        have HNX := hide hnext
        have e1 : (z != task) = false := by simpa using hz
        clear hnext
        go_wp2_with fail
        go_roundw
        case rel => exact ⟨j + 1, a9, n9, c9, by omega, rfl, by go_num, by rw [unhide HNX]; exact unhide HO, unhide HX⟩
        case measure => simp [intOf]; omega
      · rw [if_neg hz] at hnext
        have HNX := hide hnext
        have e1 : (z != task) = true := by simpa using hz
        clear hnext
        go_wp2_with (at_builtin; refine wpList_append_ints rfl (.tmp 65) (.tmp 70) rfl w9.heap.size (.slice a9 n9 c9) _ rfl ((unhide HO).below ((Below.refl _ _).alloc (Nat.le_refl _) _)) _ [z] rfl (ints_new wr z 3) (n9 + 1) (by rw [unhide HN9]; rfl) (by omega) (Nat.le_trans (unhide HX).size (by simp)) ?_; intro a6 c6 w6 ho6 hg6; have HO6 := hide ho6; have HX6 := hide (((unhide HX).alloc (unhide HX).size _).grown hg6 (Nat.le_trans (unhide HX).size (by simp)) (fun k hk => ((unhide HO).lt k hk).1)); clear ho6 hg6)
        go_roundw
        case rel => exact ⟨j + 1, a6, n9 + 1, c6, by omega, rfl, by go_num, by rw [unhide HNX]; exact unhide HO6, unhide HX6⟩
        case measure => simp [intOf]; omega
    · have e : O.take j = O := List.take_of_length_le (by rw [unhide HON]; omega)
      rw [e] at ho
      have HX := hide hnx; have HO := hide ho
      clear hnx ho hn9 hfl e
      go_wp2_with (first
        | (go_at_call 16; (with_reducible refine Calls.mono (unhide HHO _ _ ((unhide HIO).below (unhide HX))) ?_); rintro e wa ⟨rfl, hba⟩; have HA := hide (Below.next (unhide HX) hba (Nat.le_refl _)); have HOA := hide ((unhide HO).below hba); clear hba)
        | (go_at_call 20; (with_reducible refine Calls.mono (unhide HSE _ _ _ _ (Below.next (unhide HX9) (unhide HA) (Nat.le_refl _)) (unhide HOA).ints) ?_); rintro e wb ⟨ab, cb, rfl, hib, hbb⟩; have HIB := hide hib; have HB := hide (Below.next (unhide HA) hbb (Nat.le_refl _)); clear hib hbb)
        | (go_at_call 14; (with_reducible refine Calls.mono (unhide HSM _ _ _ _ _ ((unhide HG9).below (unhide HB)) (unhide HIB)) ?_); rintro e wc ⟨rfl, hbc⟩; have HXC := hide (Below.next (Below.next (unhide HX9) (unhide HB) (Nat.le_refl _)) hbc (Nat.le_refl _)); clear hbc))
      go_ret
      exact ⟨rfl, unhide HXC⟩

theorem drops_walk (w : World) (a : Option Addr) (n c : Nat) (task : Int) (ls : List Ln) (h : Arg w a n c ls) :
    Calls Try.prog 5 #[.slice a n c, .int .i64 task] w fun e w' => e = .returned (.bool true) ∧ Below w.heap.size w w' := by
  by_cases h6 : 6000 < n ∨ 6000 < (waitL ls).length
  · exact drops_vast w a n c task ls h h6
  · by_cases hf : (linesF ls).1 = 0
    · have hg := good_of (linesF_zero hf)
      cases hin : (waitL ls).contains task with
      | false => exact drops_none w a n c task ls h.rd hg hin
      | true => exact drops_ok w a n c task ls h.rd hg hin
    · exact drops_fault w a n c task ls h h6 _ _ rfl hf
end Go.Proofs.Ytjlcfdhghohccaa
