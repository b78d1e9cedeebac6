/-
  wait.Add, wait.Wake.
-/
import Derived.Test.YtjlcfdhghohccaaQ
namespace Go.Proofs.Ytjlcfdhghohccaa
open Go.RowKit

/-- Three new blocks. -/
theorem three_new (w : World) (o1 o2 o3 : Obj) :
    (((w.alloc o1).alloc o2).alloc o3).heap[w.heap.size]? = some o1 ∧ (((w.alloc o1).alloc o2).alloc o3).heap[w.heap.size + 1]? = some o2 ∧ (((w.alloc o1).alloc o2).alloc o3).heap[w.heap.size + 2]? = some o3 ∧ Below w.heap.size w (((w.alloc o1).alloc o2).alloc o3) ∧ (((w.alloc o1).alloc o2).alloc o3).heap.size = w.heap.size + 3 := by
  refine ⟨keep_alloc (keep_alloc (new_block w _) _) _, ?_, ?_, (((Below.refl _ _).alloc (Nat.le_refl _) _).alloc (by simp) _).alloc (by simp; omega) _, by simp⟩
  · have := keep_alloc (new_block (w.alloc o1) o2) o3
    rw [World.size_alloc] at this
    exact this
  · have := new_block ((w.alloc o1).alloc o2) o3
    rw [World.size_alloc, World.size_alloc] at this
    exact this
theorem block2_set {w : World} {R : Nat} {x y x' y' : Value} {t : TypeId} (h : w.heap[R]? = some (.cells #[x, y] t (0, 0))) : ((w.setCell ⟨R, 0, none⟩ x').setCell ⟨R, 1, none⟩ y').heap[R]? = some (.cells #[x', y'] t (0, 0)) := by
  simp [World.setCell, Array.getElem?_modify, h]

/-- The lines behind an Add. -/
def addL (ls : List Ln) (x task : Int) (fst : Bool) : List Ln := setL x (if fst = true then task :: tasksL x ls else tasksL x ls ++ [task]) ls

set_option maxRecDepth 100000 in
set_option maxHeartbeats 2000000 in
theorem add_fault (w : World) (a : Option Addr) (n c : Nat) (x task : Int) (fst : Bool) (ls : List Ln) (h : Arg w a n c ls) (u v : Int) (hf : addF ls task = (u, v)) (hu : u ≠ 0) :
    Calls Try.prog 12 #[.slice a n c, .int .i64 x, .int .i64 task, .bool fst] w fun e w' => e = .returned (.tuple #[.slice none 0 0, .agg #[.int .i64 u, .int .i64 v]]) ∧ Below w.heap.size w w' := by
  have hx1 : (u != 0) = true := by simpa using hu
  obtain ⟨b1, b2, b3, hb, hsz⟩ := three_new w (.cells #[.int .i64 task] 3) (.cells #[.bool fst] 4) (.cells #[.int .i64 0, .int .i64 0] 27)
  have HCK : Hid (∀ W, Below w.heap.size w W → Calls Try.prog 31 #[.slice a n c, .int .i64 task] W fun e w' => e = .returned (.agg #[.int .i64 u, .int .i64 v]) ∧ Below W.heap.size W w') := fun W hW => by
    have := chkadd_any W a n c task ls (h.below hW)
    rw [hf] at this
    exact this
  obtain ⟨k0, _, _⟩ := block1 b1
  have HB := hide hb; have HSZ := hide hsz; have B3 := hide b3
  clear h hf hu b1 b2 b3 hb hsz
  go_enter Try.func12, Try.ntmps12
  go_upto_region 1 with fail
  obtain ⟨W0, eW0⟩ : ∃ W, ((w.alloc (.cells #[.int .i64 task] 3)).alloc (.cells #[.bool fst] 4)).alloc (.cells #[.int .i64 0, .int .i64 0] 27) = W := ⟨_, rfl⟩
  rw [eW0] at k0 HB HSZ B3
  rw [eW0]
  clear eW0
  go_upto_region 2 with (go_at_call 31; refine (unhide HCK _ (unhide HB)).mono ?_; rintro e w1 ⟨rfl, hb1⟩; have HX1 := hide hb1; clear hb1 k0)
  have TB := hide (new_block w1 (.cells #[.int .i64 u, .int .i64 v] 27))
  have HBA := hide ((Below.refl w1.heap.size w1).alloc (Nat.le_refl _) (.cells #[.int .i64 u, .int .i64 v] 27))
  have XB := hide (Below.next (unhide HX1) (unhide HBA) (Nat.le_refl _))
  have HTS := hide (show w.heap.size + 2 < w1.heap.size from Nat.lt_of_lt_of_le (by rw [unhide HSZ]; omega) (unhide HX1).size)
  obtain ⟨T, hT⟩ : ∃ T, w1.heap.size = T := ⟨_, rfl⟩
  obtain ⟨W2, hW2⟩ : ∃ W, w1.alloc (.cells #[.int .i64 u, .int .i64 v] 27) = W := ⟨_, rfl⟩
  rw [hT, hW2] at TB
  rw [hT] at HTS
  rw [hW2] at XB
  rw [hT, hW2]
  clear hT hW2 HBA HX1
  obtain ⟨t0, t1, t2, t3, _⟩ := block2 (unhide TB)
  obtain ⟨r0, r1, f0, f1, _⟩ := block2 (keep_below (unhide B3) (unhide XB))
  have n0 : w.heap.size + 2 ≠ T := Nat.ne_of_lt (unhide HTS)
  have n1 : T ≠ w.heap.size + 2 := Ne.symm n0
  have HALL := hide (Below.next (unhide HB) (unhide XB) (Nat.le_refl _))
  go_wp2_with fail
  go_region
  all_goals go_wp2_with fail
  all_goals exact bodyPost_ret (v := .tuple #[.slice none 0 0, .agg #[.int .i64 u, .int .i64 v]]) (by simp [results, Try.results12, go_sem, r0, r1]) rfl ⟨rfl, (((unhide HALL).setCell (p := ⟨w.heap.size + 2, 0, none⟩) (by simp) _).setCell (p := ⟨w.heap.size + 2, 1, none⟩) (by simp) _).drew⟩

set_option maxRecDepth 100000 in
set_option maxHeartbeats 2000000 in
theorem add_ok (w : World) (a : Option Addr) (n c : Nat) (x task : Int) (fst : Bool) (ls : List Ln) (h : IsLs w (.slice a n c) ls) (hf : addF ls task = (0, 0)) (hg : Good ls) :
    Calls Try.prog 12 #[.slice a n c, .int .i64 x, .int .i64 task, .bool fst] w fun e w' => ∃ a' c', e = .returned (.tuple #[.slice a' (addL ls x task fst).length c', .agg #[.int .i64 0, .int .i64 0]]) ∧ FreshL w.heap.size w' (.slice a' (addL ls x task fst).length c') (addL ls x task fst) ∧ Below w.heap.size w w' := by
  obtain ⟨b1, b2, b3, hb, hsz⟩ := three_new w (.cells #[.int .i64 task] 3) (.cells #[.bool fst] 4) (.cells #[.int .i64 0, .int .i64 0] 27)
  have HCK : Hid (∀ W, Below w.heap.size w W → Calls Try.prog 31 #[.slice a n c, .int .i64 task] W fun e w' => e = .returned (.agg #[.int .i64 0, .int .i64 0]) ∧ Below W.heap.size W w') := fun W hW => by
    have := chkadd_any W a n c task ls ((hg.arg h).below hW)
    rw [hf] at this
    exact this
  have hl := h.len
  have HCH : Hid (∀ W, Below w.heap.size w W → W.heap[w.heap.size]? = some (.cells #[.int .i64 task] 3 (0, 0)) → W.heap[w.heap.size + 1]? = some (.cells #[.bool fst] 4 (0, 0)) → Calls Try.prog 32 #[.slice a n c, .int .i64 x, .func (.func 33) #[] #[.pointer (some ⟨w.heap.size + 1, 0, none⟩), .pointer (some ⟨w.heap.size, 0, none⟩)]] W fun e w' => ∃ a' c', e = .returned (.slice a' (addL ls x task fst).length c') ∧ FreshL W.heap.size w' (.slice a' (addL ls x task fst).length c') (addL ls x task fst) ∧ Below W.heap.size W w') := fun W hW h1 h2 => by
    have htl := tasksL_le x ls
    have hfew := hg.few
    have hlen : (if fst = true then task :: tasksL x ls else tasksL x ls ++ [task]).length = (tasksL x ls).length + 1 := by split <;> simp
    refine (changed_any W W a n c ls hl (h.below hW) (Below.refl _ _) (by have := hg.len; omega) (by omega) hg.rise x 33 enters33 #[.pointer (some ⟨w.heap.size + 1, 0, none⟩), .pointer (some ⟨w.heap.size, 0, none⟩)] (if fst = true then task :: tasksL x ls else tasksL x ls ++ [task]) (by rw [hlen]; omega) (fun _ => True) (fun _ _ _ _ => trivial) (fun W1 a' c' hW1 hi => ?_)).mono ?_
    · refine (add1_any W1 a' _ c' (w.heap.size + 1) w.heap.size fst task (tasksL x ls) hi (keep_below h2 hW1) (keep_below h1 hW1) (by omega)).mono ?_
      rintro e W' ⟨a2, c2, rfl, h3, h4⟩
      exact ⟨a2, c2, by rw [hlen], by rw [hlen]; exact h3, trivial, Gap.of_below h4⟩
    · rintro e w' ⟨a', c', rfl, h3, _, h4⟩
      exact ⟨a', c', rfl, h3, h4⟩
  obtain ⟨L, hL⟩ : ∃ L, addL ls x task fst = L := ⟨_, rfl⟩
  rw [hL] at HCH ⊢
  obtain ⟨ln, hln⟩ : ∃ k, L.length = k := ⟨_, rfl⟩
  rw [hln] at HCH ⊢
  obtain ⟨k0, _, _⟩ := block1 b1
  have HB := hide hb; have HSZ := hide hsz; have B1 := hide b1; have B2 := hide b2; have B3 := hide b3
  clear h hf hg b1 b2 b3 hb hsz hl hL hln
  go_enter Try.func12, Try.ntmps12
  go_upto_region 1 with fail
  obtain ⟨W0, eW0⟩ : ∃ W, ((w.alloc (.cells #[.int .i64 task] 3)).alloc (.cells #[.bool fst] 4)).alloc (.cells #[.int .i64 0, .int .i64 0] 27) = W := ⟨_, rfl⟩
  rw [eW0] at k0 HB HSZ B1 B2 B3
  rw [eW0]
  clear eW0
  go_upto_region 2 with (go_at_call 31; refine (unhide HCK _ (unhide HB)).mono ?_; rintro e w1 ⟨rfl, hb1⟩; have HX1 := hide hb1; clear hb1 k0)
  have TB := hide (new_block w1 (.cells #[.int .i64 0, .int .i64 0] 27))
  have HBA := hide ((Below.refl w1.heap.size w1).alloc (Nat.le_refl _) (.cells #[.int .i64 0, .int .i64 0] 27))
  have XB := hide (Below.next (unhide HX1) (unhide HBA) (Nat.le_refl _))
  obtain ⟨T, hT⟩ : ∃ T, w1.heap.size = T := ⟨_, rfl⟩
  obtain ⟨W2, hW2⟩ : ∃ W, w1.alloc (.cells #[.int .i64 0, .int .i64 0] 27) = W := ⟨_, rfl⟩
  rw [hT, hW2] at TB
  rw [hW2] at XB
  rw [hT, hW2]
  clear hT hW2 HBA HX1
  obtain ⟨t0, t1, _, _, _⟩ := block2 (unhide TB)
  have HALL := hide (Below.next (unhide HB) (unhide XB) (Nat.le_refl _))
  go_upto_region 5 with (go_at_call 32; refine (unhide HCH _ (unhide HALL) (keep_below (unhide B1) (unhide XB)) (keep_below (unhide B2) (unhide XB))).mono ?_; rintro e w3 ⟨a3, c3, rfl, hf3, hb3⟩; have HF3 := hide hf3; have HB3 := hide hb3; clear hf3 hb3 t0 t1; obtain ⟨r0, r1, f0, f1, _⟩ := block2 (keep_below (keep_below (unhide B3) (unhide XB)) (unhide HB3)))
  have hlt : w.heap.size + 2 < W2.heap.size := Nat.lt_of_lt_of_le (by rw [unhide HSZ]; omega) (unhide XB).size
  have HFR := hide (((unhide HF3).set2 hlt (.int .i64 0) (.int .i64 0)).base (unhide HALL).size)
  have HEND := hide (((Below.next (unhide HALL) (unhide HB3) (Nat.le_refl _)).setCell (p := ⟨w.heap.size + 2, 0, none⟩) (by simp) (.int .i64 0)).setCell (p := ⟨w.heap.size + 2, 1, none⟩) (by simp) (.int .i64 0))
  clear hlt
  go_wp2_with fail
  exact bodyPost_ret (v := .tuple #[.slice a3 ln c3, .agg #[.int .i64 0, .int .i64 0]]) (by simp [results, Try.results12, go_sem, r0, r1]) rfl ⟨a3, c3, rfl, unhide HFR, unhide HEND⟩
end Go.Proofs.Ytjlcfdhghohccaa
