/-
  taskmilllaw.RingPuts returns true.
-/
import Derived.Test.YtcdnennfimbgoaaR
namespace Go.Proofs.Ytcdnennfimbgoaa
open Go.RowKit

theorem keep_alloc {w : World} {k : Nat} {x : Obj} (h : w.heap[k]? = some x) (o : Obj) : (w.alloc o).heap[k]? = some x := (Below.heap_alloc _ _ _ (Array.getElem?_eq_some_iff.1 h).1).trans h
theorem keep_below {w w' : World} {k : Nat} {x : Obj} (h : w.heap[k]? = some x) (hb : Below w.heap.size w w') : w'.heap[k]? = some x := (hb.block k (Array.getElem?_eq_some_iff.1 h).1).trans h
theorem new_block (w : World) (o : Obj) : (w.alloc o).heap[w.heap.size]? = some o := (MapKept.heap_alloc w o).1
theorem new_block2 (w : World) (o o' : Obj) : ((w.alloc o).alloc o').heap[w.heap.size + 1]? = some o' := by
  have := new_block (w.alloc o) o'
  rw [World.size_alloc] at this
  exact this

/-- The law's variables: q, x, c, p, f, w. -/
structure PutsVars (w : World) (nx : Int) (v v2 : Value) (s7 s8 s9 s12 : Nat) (x y : Int) (p0 p1 f0 f1 g0 g1 : Value) (W : World) : Prop where
  b3 : W.heap[w.heap.size]? = some (.cells #[.int .i64 nx, v] 24 (0, 0))
  b7 : W.heap[s7]? = some (.cells #[.int .i64 nx, v2] 24 (0, 0))
  b8 : W.heap[s8]? = some (.cells #[.int .i64 x, .int .i64 y] 28 (0, 0))
  b9 : W.heap[s9]? = some (.cells #[p0, p1] 24 (0, 0))
  b11 : W.heap[s9 + 1]? = some (.cells #[f0, f1] 28 (0, 0))
  b12 : W.heap[s12]? = some (.cells #[g0, g1] 28 (0, 0))
  lt : w.heap.size < s12 ∧ s7 < s12 ∧ s8 < s12 ∧ s9 + 1 < s12
  below : Below w.heap.size w W

section
variable {w : World} {nx : Int} {v v2 : Value} {s7 s8 s9 s12 : Nat} {x y : Int} {p0 p1 f0 f1 g0 g1 : Value} {W : World}

theorem PutsVars.keep (h : PutsVars w nx v v2 s7 s8 s9 s12 x y p0 p1 f0 f1 g0 g1 W) {W' : World} (hb : Below W.heap.size W W') : PutsVars w nx v v2 s7 s8 s9 s12 x y p0 p1 f0 f1 g0 g1 W' :=
  ⟨keep_below h.b3 hb, keep_below h.b7 hb, keep_below h.b8 hb, keep_below h.b9 hb, keep_below h.b11 hb, keep_below h.b12 hb, h.lt, h.below.trans (hb.mono h.below.size)⟩

theorem keep_set2 {R k : Nat} {a b : Value} {o : Obj} (h : W.heap[k]? = some o) (hk : k ≠ R) : ((W.setCell ⟨R, 0, none⟩ a).setCell ⟨R, 1, none⟩ b).heap[k]? = some o := by
  rw [Below.heap_setCell _ _ _ _ (by simpa using hk), Below.heap_setCell _ _ _ _ (by simpa using hk)]
  exact h

theorem PutsVars.set (h : PutsVars w nx v v2 s7 s8 s9 s12 x y p0 p1 f0 f1 g0 g1 W) (a b : Value) : PutsVars w nx v v2 s7 s8 s9 s12 x y p0 p1 f0 f1 a b ((W.setCell ⟨s12, 0, none⟩ a).setCell ⟨s12, 1, none⟩ b) :=
  have hl := h.lt
  ⟨keep_set2 h.b3 (by omega), keep_set2 h.b7 (by omega), keep_set2 h.b8 (by omega), keep_set2 h.b9 (by omega), keep_set2 h.b11 (by omega), block2_set h.b12, hl,
   (h.below.setCell (p := ⟨s12, 0, none⟩) (by show w.heap.size ≤ s12; omega) a).setCell (p := ⟨s12, 1, none⟩) (by show w.heap.size ≤ s12; omega) b⟩

/-- What the walk wants to know of them. -/
theorem PutsVars.cells (h : PutsVars w nx v v2 s7 s8 s9 s12 x y p0 p1 f0 f1 g0 g1 W) :
    (W.cell? ⟨w.heap.size, 0, none⟩ = some (.int .i64 nx) ∧ W.cell? ⟨w.heap.size, 1, none⟩ = some v) ∧ (W.cell? ⟨s7, 0, none⟩ = some (.int .i64 nx) ∧ W.cell? ⟨s7, 1, none⟩ = some v2) ∧ (W.cell? ⟨s8, 0, none⟩ = some (.int .i64 x) ∧ W.cell? ⟨s8, 1, none⟩ = some (.int .i64 y)) ∧
    (W.cell? ⟨s9, 0, none⟩ = some p0 ∧ W.cell? ⟨s9, 1, none⟩ = some p1) ∧ (W.cell? ⟨s9 + 1, 0, none⟩ = some f0 ∧ W.cell? ⟨s9 + 1, 1, none⟩ = some f1) ∧ (W.cell? ⟨s12, 0, none⟩ = some g0 ∧ W.cell? ⟨s12, 1, none⟩ = some g1) ∧ (W.frozen? ⟨s12, 0, none⟩ = false ∧ W.frozen? ⟨s12, 1, none⟩ = false) :=
  ⟨⟨(block2 h.b3).1, (block2 h.b3).2.1⟩, ⟨(block2 h.b7).1, (block2 h.b7).2.1⟩, ⟨(block2 h.b8).1, (block2 h.b8).2.1⟩, ⟨(block2 h.b9).1, (block2 h.b9).2.1⟩, ⟨(block2 h.b11).1, (block2 h.b11).2.1⟩, ⟨(block2 h.b12).1, (block2 h.b12).2.1⟩, (block2 h.b12).2.2.1, (block2 h.b12).2.2.2.1⟩
end

/-- How they come to be. -/
theorem puts_vars {w w1 w2 w3 w4 w5 : World} {nx : Int} {v v2 : Value} {x y : Int} {p0 p1 f0 f1 g0 g1 : Value} (h1 : Below (w.heap.size + 1) (w.alloc (.cells #[.int .i64 nx, v] 24)) w1) (h2 : Below w1.heap.size w1 w2)
    (h3 : Below (w2.alloc (.cells #[.int .i64 nx, v2] 24)).heap.size (w2.alloc (.cells #[.int .i64 nx, v2] 24)) w3) (h4 : Below (w3.alloc (.cells #[.int .i64 x, .int .i64 y] 28)).heap.size (w3.alloc (.cells #[.int .i64 x, .int .i64 y] 28)) w4)
    (h5 : Below ((w4.alloc (.cells #[p0, p1] 24)).alloc (.cells #[f0, f1] 28)).heap.size ((w4.alloc (.cells #[p0, p1] 24)).alloc (.cells #[f0, f1] 28)) w5) :
    PutsVars w nx v v2 w2.heap.size w3.heap.size w4.heap.size w5.heap.size x y p0 p1 f0 f1 g0 g1 (w5.alloc (.cells #[g0, g1] 28)) := by
  have s1 := h1.size
  have s2 := h2.size
  have s3 := h3.size
  have s4 := h4.size
  have s5 := h5.size
  simp only [World.size_alloc] at s1 s3 s4 s5
  have b3 : w1.heap[w.heap.size]? = some (.cells #[.int .i64 nx, v] 24) := (h1.block _ (by omega)).trans (new_block w _)
  have up3 : ∀ {k : Nat} {o : Obj}, w2.heap[k]? = some o → w3.heap[k]? = some o := fun h => keep_below (keep_alloc h _) h3
  have up4 : ∀ {k : Nat} {o : Obj}, w3.heap[k]? = some o → w4.heap[k]? = some o := fun h => keep_below (keep_alloc h _) h4
  have up5 : ∀ {k : Nat} {o : Obj}, w4.heap[k]? = some o → w5.heap[k]? = some o := fun h => keep_below (keep_alloc (keep_alloc h _) _) h5
  refine ⟨keep_alloc (up5 (up4 (up3 (keep_below b3 h2)))) _, keep_alloc (up5 (up4 (keep_below (new_block w2 _) h3))) _, keep_alloc (up5 (keep_below (new_block w3 _) h4)) _, keep_alloc (keep_below (keep_alloc (new_block w4 _) _) h5) _, keep_alloc (keep_below (new_block2 w4 _ _) h5) _, new_block w5 _, by omega, ?_⟩
  have q2 := next1 h1 h2
  have q3 := next1a q2 h3
  have q4 := next1a q3 h4
  have q5 := next1b q4 h5
  exact (below1 q5).alloc (below1 q5).size _

theorem puts_below3 {w3 w4 w5 : World} {o8 o9 o11 o12 : Obj} (h4 : Below (w3.alloc o8).heap.size (w3.alloc o8) w4) (h5 : Below ((w4.alloc o9).alloc o11).heap.size ((w4.alloc o9).alloc o11) w5) : Below w3.heap.size w3 (w5.alloc o12) := by
  have q4 : Below w3.heap.size w3 w4 := ((Below.refl _ _).alloc (Nat.le_refl _) o8).trans (h4.mono (by simp))
  have q5 : Below w3.heap.size w3 w5 := q4.trans (((below_new2 w4 o9 o11).trans (h5.mono (by simp; omega))).mono q4.size)
  exact q5.alloc q5.size _
theorem puts_below4 {w4 w5 : World} {o9 o11 o12 : Obj} (h5 : Below ((w4.alloc o9).alloc o11).heap.size ((w4.alloc o9).alloc o11) w5) : Below w4.heap.size w4 (w5.alloc o12) := by
  have q5 : Below w4.heap.size w4 w5 := (below_new2 w4 o9 o11).trans (h5.mono (by simp; omega))
  exact q5.alloc q5.size _

set_option maxRecDepth 100000 in
set_option maxHeartbeats 1000000 in
theorem puts_fault (w : World) (nx : Int) (v : Value) (zs : List Int) (t : Int) (next : Bool) (h : IsInts w v zs) (hv : Fits v) (hn : zs.length ≤ 2000) (x y : Int) (hf : ringF nx zs = (x, y)) (hx : x ≠ 0) :
    Calls Try.prog 3 #[.agg #[.int .i64 nx, v], .int .i64 t, .bool next] w fun e w' => e = .returned (.bool true) ∧ Below w.heap.size w w' := by
  have hnot : ∀ (x : Bool) (w : World), (Op.unary .not (.bool x)).run Try.prog w = .ok (.bool (!x)) w := fun _ _ => rfl
  obtain ⟨a, c, rfl⟩ := Rd.form h
  have h1 : ¬ (2000 : Int) < (zs.length : Int) := by omega
  have hx1 : (x != 0) = true := by simpa using hx
  have hx2 : (x == 0) = false := by simpa using hx
  have hpf : putF nx zs t = (x, y) := by unfold putF; rw [hf, if_pos hx]
  have HOR : Hid (∀ W, Below (w.heap.size + 1) (w.alloc (.cells #[.int .i64 nx, (.slice a zs.length c)] 24)) W → Calls Try.prog 10 #[.agg #[.int .i64 nx, (.slice a zs.length c)]] W fun e w' => ∃ a' c', e = .returned (.agg #[.int .i64 nx, .slice a' zs.length c']) ∧ Own W.heap.size w' (.slice a' zs.length c') zs ∧ Below W.heap.size W w') := fun W hW => ownRing_any W nx _ zs (Rd.below h (below1 hW)) (by omega)
  have HCK : Hid (∀ W v', IsInts W v' zs → Calls Try.prog 11 #[.agg #[.int .i64 nx, v']] W fun e w' => e = .returned (.agg #[.int .i64 x, .int .i64 y]) ∧ Below W.heap.size W w') := fun W v' hW => by
    have := rcheck_any W nx v' zs hW (by unfold maxLen; omega)
    rw [hf] at this
    exact this
  have HPT : Hid (∀ W v', IsList W v' zs → Calls Try.prog 12 #[.agg #[.int .i64 nx, v'], .int .i64 t, .bool next] W fun e w' => e = .returned (.tuple #[.agg #[.int .i64 0, .slice none 0 0], .slice none 0 0, .agg #[.int .i64 x, .int .i64 y]]) ∧ Below W.heap.size W w') := fun W v' hW => put_fault W nx v' zs t next hW.1 (by unfold maxLen; omega) x y hpf hx
  have HRF : Hid (∀ W, Below w.heap.size w W → Calls Try.prog 13 #[.agg #[.int .i64 nx, (.slice a zs.length c)]] W fun e w' => e = .returned (.agg #[.int .i64 x, .int .i64 y]) ∧ Below W.heap.size W w') := fun W hW => by
    have := rfault_any W nx _ zs (Rd.below h hW) hv (by unfold maxLen; omega)
    rw [hf] at this
    exact this
  have HV := hide h
  clear h hv hf hx hpf
  go_enter Try.func3, Try.ntmps3
  go_upto_region 9 with (first
    | (go_at_call 9; refine (begun_any _).mono ?_; rintro e w1 ⟨rfl, hb1⟩; have hx1 := hb1.mono (show w.heap.size + 1 ≤ _ by simp); obtain ⟨x0, x1, s1⟩ := arg1 hx1; have HX1 := hide hx1; clear hb1 hx1)
    | (go_at_call 10; refine (unhide HOR _ (unhide HX1)).mono ?_; rintro e w2 ⟨a2, c2, rfl, ho2, hb2⟩; have HO2 := hide ho2; have HB2 := hide hb2; have HX2 := hide (next1 (unhide HX1) hb2); clear ho2 hb2 x0 x1 s1)
    | (go_at_call 11; refine (unhide HCK _ _ (Rd.below (unhide HO2).list.1 ((Below.refl _ _).alloc (Nat.le_refl _) _))).mono ?_; rintro e w3 ⟨rfl, hb3⟩; obtain ⟨y0, y1, _, _, sy⟩ := block2 (keep_below (new_block w2 (.cells #[.int .i64 nx, .slice a2 zs.length c2] 24)) hb3); have HB3 := hide hb3; have HX3 := hide (next1a (unhide HX2) hb3); have HI3 := hide (IsList.below (IsList.below (unhide HO2).list ((Below.refl _ _).alloc (Nat.le_refl _) _)) hb3); clear hb3)
    | (go_at_call 12; refine (unhide HPT _ _ (IsList.below (unhide HI3) ((Below.refl _ _).alloc (Nat.le_refl _) _))).mono ?_; rintro e w4 ⟨rfl, hb4⟩; have HB4 := hide hb4; have hx4 := next1a (unhide HX3) hb4; obtain ⟨x0, x1, s1⟩ := arg1 hx4; have HX4 := hide hx4; clear hb4 hx4 y0 y1 sy)
    | (go_at_call 13; refine (unhide HRF _ ((below1 (unhide HX4)).trans ((below_new2 w4 _ _).mono (below1 (unhide HX4)).size))).mono ?_; rintro e w5 ⟨rfl, hb5⟩; have HB5 := hide hb5; clear hb5 x0 x1 s1))
  have HVR := hide (puts_vars (g0 := .int .i64 x) (g1 := .int .i64 y) (unhide HX1) (unhide HB2) (unhide HB3) (unhide HB4) (unhide HB5))
  have HL7 := hide (IsInts.below (unhide HI3).1 (puts_below3 (o12 := .cells #[.int .i64 x, .int .i64 y] 28) (unhide HB4) (unhide HB5)))
  have HL3 := hide (IsInts.below (unhide HV) (unhide HVR).below)
  obtain ⟨s7, e7⟩ : ∃ s, w2.heap.size = s := ⟨_, rfl⟩
  obtain ⟨s8, e8⟩ : ∃ s, w3.heap.size = s := ⟨_, rfl⟩
  obtain ⟨s9, e9⟩ : ∃ s, w4.heap.size = s := ⟨_, rfl⟩
  obtain ⟨s12, e12⟩ : ∃ s, w5.heap.size = s := ⟨_, rfl⟩
  obtain ⟨W6, e6⟩ : ∃ W, w5.alloc (.cells #[.int .i64 x, .int .i64 y] 28) = W := ⟨_, rfl⟩
  rw [e7, e8, e9, e12, e6] at HVR
  rw [e6] at HL3 HL7
  rw [e7, e8, e9, e12, e6]
  clear e7 e8 e9 e12 e6 HB2 HB3 HB4 HB5 HX1 HX2 HX3 HX4 HO2 HI3 HOR HCK HPT HRF
  obtain ⟨⟨q30, q31⟩, ⟨q70, q71⟩, ⟨q80, q81⟩, ⟨q90, q91⟩, ⟨q110, q111⟩, ⟨q120, q121⟩, z0, z1⟩ := (unhide HVR).cells
  go_wp2_with (first
    | (go_at_call 14; refine (sameRing_any _ _ _ _ zs (unhide HL7) (unhide HL3) (by unfold maxLen; omega)).mono ?_; rintro e w7 ⟨rfl, hb7⟩; clear q30 q31 q70 q71 q80 q81 q90 q91 q110 q111 q120 q121 z0 z1; have HVR7 := hide ((unhide HVR).keep hb7); have HB7 := hide hb7; obtain ⟨⟨q30, q31⟩, ⟨q70, q71⟩, ⟨q80, q81⟩, ⟨q90, q91⟩, ⟨q110, q111⟩, ⟨q120, q121⟩, z0, z1⟩ := (unhide HVR7).cells; clear hb7)
    | (go_at_call 18; refine (noRing_none _ _ _).mono ?_; rintro e w8 ⟨rfl, hb8⟩; have HB8 := hide ((unhide HVR7).keep hb8).below; clear hb8))
  go_ret
  exact ⟨rfl, unhide HB8⟩

set_option maxRecDepth 100000 in
set_option maxHeartbeats 1000000 in
theorem puts_small (w : World) (nx : Int) (v : Value) (zs : List Int) (t : Int) (next : Bool) (h : IsInts w v zs) (hv : Fits v) (hn : zs.length ≤ 2000) (hf : ringF nx zs = (0, 0)) (ht : t < 1) :
    Calls Try.prog 3 #[.agg #[.int .i64 nx, v], .int .i64 t, .bool next] w fun e w' => e = .returned (.bool true) ∧ Below w.heap.size w w' := by
  have hnot : ∀ (x : Bool) (w : World), (Op.unary .not (.bool x)).run Try.prog w = .ok (.bool (!x)) w := fun _ _ => rfl
  obtain ⟨a, c, rfl⟩ := Rd.form h
  have h1 : ¬ (2000 : Int) < (zs.length : Int) := by omega
  have hpf : putF nx zs t = (3, -1) := by unfold putF; rw [hf, if_neg (by simp), if_pos ht]
  have HOR : Hid (∀ W, Below (w.heap.size + 1) (w.alloc (.cells #[.int .i64 nx, (.slice a zs.length c)] 24)) W → Calls Try.prog 10 #[.agg #[.int .i64 nx, (.slice a zs.length c)]] W fun e w' => ∃ a' c', e = .returned (.agg #[.int .i64 nx, .slice a' zs.length c']) ∧ Own W.heap.size w' (.slice a' zs.length c') zs ∧ Below W.heap.size W w') := fun W hW => ownRing_any W nx _ zs (Rd.below h (below1 hW)) (by omega)
  have HCK : Hid (∀ W v', IsInts W v' zs → Calls Try.prog 11 #[.agg #[.int .i64 nx, v']] W fun e w' => e = .returned (.agg #[.int .i64 0, .int .i64 0]) ∧ Below W.heap.size W w') := fun W v' hW => by
    have := rcheck_any W nx v' zs hW (by unfold maxLen; omega)
    rw [hf] at this
    exact this
  have HPT : Hid (∀ W v', IsList W v' zs → Calls Try.prog 12 #[.agg #[.int .i64 nx, v'], .int .i64 t, .bool next] W fun e w' => e = .returned (.tuple #[.agg #[.int .i64 0, .slice none 0 0], .slice none 0 0, .agg #[.int .i64 3, .int .i64 (-1)]]) ∧ Below W.heap.size W w') := fun W v' hW => put_fault W nx v' zs t next hW.1 (by unfold maxLen; omega) _ _ hpf (by decide)
  have HRF : Hid (∀ W, Below w.heap.size w W → Calls Try.prog 13 #[.agg #[.int .i64 nx, (.slice a zs.length c)]] W fun e w' => e = .returned (.agg #[.int .i64 0, .int .i64 0]) ∧ Below W.heap.size W w') := fun W hW => by
    have := rfault_any W nx _ zs (Rd.below h hW) hv (by unfold maxLen; omega)
    rw [hf] at this
    exact this
  have HV := hide h
  clear h hv hf hpf
  go_enter Try.func3, Try.ntmps3
  go_upto_region 9 with (first
    | (go_at_call 9; refine (begun_any _).mono ?_; rintro e w1 ⟨rfl, hb1⟩; have hx1 := hb1.mono (show w.heap.size + 1 ≤ _ by simp); obtain ⟨x0, x1, s1⟩ := arg1 hx1; have HX1 := hide hx1; clear hb1 hx1)
    | (go_at_call 10; refine (unhide HOR _ (unhide HX1)).mono ?_; rintro e w2 ⟨a2, c2, rfl, ho2, hb2⟩; have HO2 := hide ho2; have HB2 := hide hb2; have HX2 := hide (next1 (unhide HX1) hb2); clear ho2 hb2 x0 x1 s1)
    | (go_at_call 11; refine (unhide HCK _ _ (Rd.below (unhide HO2).list.1 ((Below.refl _ _).alloc (Nat.le_refl _) _))).mono ?_; rintro e w3 ⟨rfl, hb3⟩; obtain ⟨y0, y1, _, _, sy⟩ := block2 (keep_below (new_block w2 (.cells #[.int .i64 nx, .slice a2 zs.length c2] 24)) hb3); have HB3 := hide hb3; have HX3 := hide (next1a (unhide HX2) hb3); have HI3 := hide (IsList.below (IsList.below (unhide HO2).list ((Below.refl _ _).alloc (Nat.le_refl _) _)) hb3); clear hb3)
    | (go_at_call 12; refine (unhide HPT _ _ (IsList.below (unhide HI3) ((Below.refl _ _).alloc (Nat.le_refl _) _))).mono ?_; rintro e w4 ⟨rfl, hb4⟩; have HB4 := hide hb4; have hx4 := next1a (unhide HX3) hb4; obtain ⟨x0, x1, s1⟩ := arg1 hx4; have HX4 := hide hx4; clear hb4 hx4 y0 y1 sy)
    | (go_at_call 13; refine (unhide HRF _ ((below1 (unhide HX4)).trans ((below_new2 w4 _ _).mono (below1 (unhide HX4)).size))).mono ?_; rintro e w5 ⟨rfl, hb5⟩; have HB5 := hide hb5; clear hb5 x0 x1 s1))
  have HVR := hide (puts_vars (g0 := .int .i64 0) (g1 := .int .i64 0) (unhide HX1) (unhide HB2) (unhide HB3) (unhide HB4) (unhide HB5))
  have HL7 := hide (IsInts.below (unhide HI3).1 (puts_below3 (o12 := .cells #[.int .i64 0, .int .i64 0] 28) (unhide HB4) (unhide HB5)))
  have HL3 := hide (IsInts.below (unhide HV) (unhide HVR).below)
  obtain ⟨s7, e7⟩ : ∃ s, w2.heap.size = s := ⟨_, rfl⟩
  obtain ⟨s8, e8⟩ : ∃ s, w3.heap.size = s := ⟨_, rfl⟩
  obtain ⟨s9, e9⟩ : ∃ s, w4.heap.size = s := ⟨_, rfl⟩
  obtain ⟨s12, e12⟩ : ∃ s, w5.heap.size = s := ⟨_, rfl⟩
  obtain ⟨W6, e6⟩ : ∃ W, w5.alloc (.cells #[.int .i64 0, .int .i64 0] 28) = W := ⟨_, rfl⟩
  rw [e7, e8, e9, e12, e6] at HVR
  rw [e6] at HL3 HL7
  rw [e7, e8, e9, e12, e6]
  clear e7 e8 e9 e12 e6 HB2 HB3 HB4 HB5 HX1 HX2 HX3 HX4 HO2 HI3 HOR HCK HPT HRF
  obtain ⟨⟨q30, q31⟩, ⟨q70, q71⟩, ⟨q80, q81⟩, ⟨q90, q91⟩, ⟨q110, q111⟩, ⟨q120, q121⟩, z0, z1⟩ := (unhide HVR).cells
  go_upto_region 13 with (first
    | (go_at_call 14; refine (sameRing_any _ _ _ _ zs (unhide HL7) (unhide HL3) (by unfold maxLen; omega)).mono ?_; rintro e w7 ⟨rfl, hb7⟩; clear q30 q31 q70 q71 q80 q81 q90 q91 q110 q111 q120 q121 z0 z1; have HVR7 := hide ((unhide HVR).keep hb7); have HB7 := hide hb7; obtain ⟨⟨q30, q31⟩, ⟨q70, q71⟩, ⟨q80, q81⟩, ⟨q90, q91⟩, ⟨q110, q111⟩, ⟨q120, q121⟩, z0, z1⟩ := (unhide HVR7).cells; clear hb7)
    | (go_at_call 15; refine (f_any _ _ _).mono ?_; rintro e w8 ⟨rfl, hb8⟩; clear q30 q31 q70 q71 q80 q81 q90 q91 q110 q111 q120 q121 z0 z1; have HVR8 := hide ((unhide HVR7).keep hb8); obtain ⟨⟨q30, q31⟩, ⟨q70, q71⟩, ⟨q80, q81⟩, ⟨q90, q91⟩, ⟨q110, q111⟩, ⟨q120, q121⟩, z0, z1⟩ := (unhide HVR8).cells; clear hb8))
  have HVR9 := hide ((unhide HVR8).set (.int .i64 3) (.int .i64 (-1)))
  obtain ⟨W9, e9⟩ : ∃ W, (w8.setCell ⟨s12, 0, none⟩ (.int .i64 3)).setCell ⟨s12, 1, none⟩ (.int .i64 (-1)) = W := ⟨_, rfl⟩
  rw [e9] at HVR9 ⊢
  clear e9 q30 q31 q70 q71 q80 q81 q90 q91 q110 q111 q120 q121 z0 z1
  obtain ⟨⟨q30, q31⟩, ⟨q70, q71⟩, ⟨q80, q81⟩, ⟨q90, q91⟩, ⟨q110, q111⟩, ⟨q120, q121⟩, z0, z1⟩ := (unhide HVR9).cells
  go_wp2_with (go_at_call 18; refine (noRing_none _ _ _).mono ?_; rintro e w10 ⟨rfl, hb10⟩; have HB10 := hide ((unhide HVR9).keep hb10).below; clear hb10)
  go_ret
  exact ⟨rfl, unhide HB10⟩

end Go.Proofs.Ytcdnennfimbgoaa
