/-
  The program's tables, and what they hold; code.wrong.
-/
import Derived.Test.YtgeinjldjpaleaaDoorE
namespace Go.Proofs.YtgeinjldjpaleaaDoor
open Go.RowKit

/-- Names of ops, kinds of their arguments, letters of kinds. -/
def nmL : List (List UInt8) := [[], [115, 101, 116], [99, 111, 112, 121], [97, 100, 100], [115, 117, 98], [108, 101, 115, 115], [106, 117, 109, 112], [122, 101, 114, 111], [112, 114, 105, 110, 116], [101, 110, 100], [121, 105, 101, 108, 100], [103, 111], [108, 111, 97, 100], [115, 116, 111, 114, 101], [115, 101, 110, 100], [103, 101, 116], [115, 104, 117, 116], [108, 111, 99, 107], [117, 110, 108, 111, 99, 107], [99, 111, 117, 110, 116], [119, 97, 105, 116], [115, 108, 101, 101, 112], [112, 97, 110, 105, 99]]
def kaL : List Int := [0, 1, 1, 1, 1, 1, 3, 1, 1, 0, 0, 3, 1, 4, 5, 1, 5, 6, 6, 7, 7, 1, 0]
def kbL : List Int := [0, 2, 1, 1, 1, 1, 0, 3, 0, 0, 0, 1, 4, 1, 1, 5, 0, 8, 8, 1, 0, 0, 0]
def ltL : List (List UInt8) := [[], [114], [], [64], [99], [112], [108], [103], []]
def nm (j : Nat) : ByteArray := ⟨(nmL.getD j []).toArray⟩
def ka (j : Nat) : Int := kaL.getD j 0
def kb (j : Nat) : Int := kbL.getD j 0
def lt (j : Nat) : ByteArray := ⟨(ltL.getD j []).toArray⟩
/-- The tables lie where they are laid. -/
structure Tabs (w : World) : Prop where
  row : ∀ j, j < 23 → w.cell? ⟨2, j * 3, none⟩ = some (.string (nm j)) ∧ w.cell? ⟨2, j * 3 + 1, none⟩ = some (.int .i64 (ka j)) ∧ w.cell? ⟨2, j * 3 + 2, none⟩ = some (.int .i64 (kb j))
  let' : ∀ j, j < 9 → w.cell? ⟨3, j, none⟩ = some (.string (lt j))
theorem Tabs.below {w w' : World} (h : Tabs w) (hb : Below w.heap.size w w') : Tabs w' := by
  refine ⟨fun j hj => ?_, fun j hj => ?_⟩
  · obtain ⟨h1, h2, h3⟩ := h.row j hj
    have hl := World.block_lt_of_cell? w _ h1
    exact ⟨(hb.cell hl).trans h1, (hb.cell (World.block_lt_of_cell? w _ h2)).trans h2, (hb.cell (World.block_lt_of_cell? w _ h3)).trans h3⟩
  · have h1 := h.let' j hj
    exact (hb.cell (World.block_lt_of_cell? w _ h1)).trans h1
theorem ka_range (j : Nat) (hj : j < 23) : 0 ≤ ka j ∧ ka j < 9 := by
  have : ∀ j, j < 23 → 0 ≤ ka j ∧ ka j < 9 := by decide
  exact this j hj
theorem kb_range (j : Nat) (hj : j < 23) : 0 ≤ kb j ∧ kb j < 9 := by
  have : ∀ j, j < 23 → 0 ≤ kb j ∧ kb j < 9 := by decide
  exact this j hj

/-- What is wrong with an instruction. -/
def wrongF (p : Pg) (i : In) : Int := if 1 ≤ i.1 ∧ i.1 < 23 then (if fitsB p (ka i.1.toNat) i.2.1 = true ∧ fitsB p (kb i.1.toNat) i.2.2 = true then 0 else 5) else 4

set_option maxRecDepth 100000 in
set_option maxHeartbeats 1000000 in
theorem wrong_kind (w : World) (v : Value) (p : Pg) (h : IsP w v p) (op x y : Int) (hop : ¬ (1 ≤ op ∧ op < 23)) :
    Calls Tryd.prog 24 #[v, .agg #[.int .i64 op, .int .i64 x, .int .i64 y]] w fun e w' => e = .returned (.int .i64 4) ∧ Below w.heap.size w w' := by
  obtain ⟨a, c, b, d, rfl, hc, hp⟩ := h.form
  obtain ⟨W0, e0, hB, k0, k1⟩ := two_new w (.cells #[.slice a p.code.length c, .int .i64 p.cells, .slice b p.pipes.length d, .int .i64 p.locks, .int .i64 p.groups] 25) (.cells #[.int .i64 op, .int .i64 x, .int .i64 y] 38)
  have HX := hide hB; have HE := hide e0; have HK := hide k0; have HI := hide k1
  have HO := hide fun W => isOp_any W op
  rw [decide_eq_false hop] at HO
  clear hB e0 k0 k1 h hc hp hop
  go_enter Tryd.func24, Tryd.ntmps24
  go_upto_region 1 with fail
  rw [unhide HE]
  clear HE
  obtain ⟨⟨k0, k1, k2⟩, -, kl⟩ := block3 (unhide HI)
  go_wp2_with (go_at_call 39; refine (unhide HO _).mono ?_; rintro e w1 ⟨rfl, rfl⟩)
  go_ret
  exact ⟨rfl, unhide HX⟩

/-- Where a row is copied to. -/
theorem row_at {w : World} {R : Nat} {x0 x1 x2 y0 y1 y2 : Value} {t : TypeId} (h : w.heap[R]? = some (.cells #[x0, x1, x2] t (0, 0))) : (((w.setCell ⟨R, 0, none⟩ y0).setCell ⟨R, 1, none⟩ y1).setCell ⟨R, 2, none⟩ y2).heap[R]? = some (.cells #[y0, y1, y2] t (0, 0)) := by
  simp [World.setCell, Array.getElem?_modify, h]

set_option maxRecDepth 100000 in
set_option maxHeartbeats 1000000 in
theorem wrong_op (w : World) (v : Value) (p : Pg) (h : IsP w v p) (ht : Tabs w) (j : Nat) (x y : Int) (h1 : 1 ≤ j) (h2 : j < 23) (r0 : 0 ≤ roomN p (ka j) ∧ roomN p (ka j) ≤ 2000) (r1 : 0 ≤ roomN p (kb j) ∧ roomN p (kb j) ≤ 2000) (A B : Bool) (hA : fitsB p (ka j) x = A) (hB : fitsB p (kb j) y = B) :
    Calls Tryd.prog 24 #[v, .agg #[.int .i64 j, .int .i64 x, .int .i64 y]] w fun e w' => e = .returned (.int .i64 (if A = true ∧ B = true then 0 else 5)) ∧ Below w.heap.size w w' := by
  obtain ⟨a, c, b, d, rfl, hc, hp⟩ := h.form
  obtain ⟨W0, e0, hB0, k0, k1⟩ := two_new w (.cells #[.slice a p.code.length c, .int .i64 p.cells, .slice b p.pipes.length d, .int .i64 p.locks, .int .i64 p.groups] 25) (.cells #[.int .i64 j, .int .i64 x, .int .i64 y] 38)
  have HX := hide hB0; have HE := hide e0; have HK := hide k0; have HI := hide k1
  have HO := hide fun W => isOp_any W (j : Int)
  rw [decide_eq_true (by omega)] at HO
  have HFA := hide fun W (hW : Below w.heap.size w W) => fits_any W _ p (h.below hW) (ka j) x r0
  have HFB := hide fun W (hW : Below w.heap.size w W) => fits_any W _ p (h.below hW) (kb j) y r1
  rw [hA] at HFA
  rw [hB] at HFB
  have HT := hide ((ht.below hB0).row j h2)
  obtain ⟨s0, es⟩ : ∃ s, nm j = s := ⟨_, rfl⟩
  obtain ⟨s1, e1⟩ : ∃ s, ka j = s := ⟨_, rfl⟩
  obtain ⟨s2, e2⟩ : ∃ s, kb j = s := ⟨_, rfl⟩
  rw [es, e1, e2] at HT
  rw [e1] at HFA
  rw [e2] at HFB
  obtain ⟨R, eR⟩ : ∃ R : Int, (if A = true ∧ B = true then 0 else 5) = R := ⟨_, rfl⟩
  rw [eR]
  have HR := hide eR
  clear hB0 e0 k0 k1 h hc hp hA hB r0 r1 ht es e1 e2 eR
  go_enter Tryd.func24, Tryd.ntmps24
  go_upto_region 1 with fail
  rw [unhide HE]
  clear HE
  obtain ⟨⟨k0, k1, k2⟩, -, kl⟩ := block3 (unhide HI)
  obtain ⟨⟨q0, q1, q2, q3, q4⟩, ql⟩ := block5 (unhide HK)
  obtain ⟨t0, t1, t2⟩ := unhide HT
  go_upto_region 3 with (go_at_call 39; refine (unhide HO _).mono ?_; rintro e w1 ⟨rfl, rfl⟩)
  go_upto_region 4 with fail
  obtain ⟨W2, e2, b2, k2⟩ := one_new w1 (.cells #[.string s0, .int .i64 s1, .int .i64 s2] 83)
  rw [e2]
  have HX2 := hide ((unhide HX).trans (b2.mono (unhide HX).size))
  have HK2 := hide (keep_below (unhide HK) b2)
  have HI2 := hide (keep_below (unhide HI) b2)
  have HR2 := hide k2
  clear e2 b2 k2 HK HI HX q0 q1 q2 q3 q4 k0 k1 t0 t1 t2 HT HO
  obtain ⟨⟨q0, q1, q2, q3, q4⟩, ql⟩ := block5 (unhide HK2)
  obtain ⟨⟨k0, k1, k2⟩, -, kl⟩ := block3 (unhide HI2)
  obtain ⟨⟨p0, p1, p2⟩, -, pl⟩ := block3 (unhide HR2)
  cases A
  · obtain rfl : R = 5 := by simpa using (unhide HR).symm
    go_wp2_with (go_at_call 40; refine (unhide HFA _ (unhide HX2)).mono ?_; rintro e w3 ⟨rfl, b3⟩; clear HFA; have HX3 := hide ((unhide HX2).trans (b3.mono (unhide HX2).size)); have HP3 := hide (block5 (keep_below (unhide HK2) b3)); have HI3 := hide (block3 (keep_below (unhide HI2) b3)); have HR3 := hide (block3 (keep_below (unhide HR2) b3)); clear b3; obtain ⟨⟨q0, q1, q2, q3, q4⟩, ql⟩ := unhide HP3; obtain ⟨⟨k0, k1, k2⟩, -, kl⟩ := unhide HI3; obtain ⟨⟨p0, p1, p2⟩, -, pl⟩ := unhide HR3)
    go_ret
    exact ⟨rfl, unhide HX3⟩
  cases B
  · obtain rfl : R = 5 := by simpa using (unhide HR).symm
    go_wp2_with (first
      | (go_at_call 40; refine (unhide HFA _ (unhide HX2)).mono ?_; rintro e w3 ⟨rfl, b3⟩; clear HFA; have HX3 := hide ((unhide HX2).trans (b3.mono (unhide HX2).size)); have HP3 := hide (block5 (keep_below (unhide HK2) b3)); have HI3 := hide (block3 (keep_below (unhide HI2) b3)); have HR3 := hide (block3 (keep_below (unhide HR2) b3)); clear b3; obtain ⟨⟨q0, q1, q2, q3, q4⟩, ql⟩ := unhide HP3; obtain ⟨⟨k0, k1, k2⟩, -, kl⟩ := unhide HI3; obtain ⟨⟨p0, p1, p2⟩, -, pl⟩ := unhide HR3)
      | (go_at_call 40; refine (unhide HFB _ (unhide HX3)).mono ?_; rintro e w4 ⟨rfl, b4⟩; clear HFB; have HX4 := hide ((unhide HX3).trans (b4.mono (unhide HX3).size)); clear b4))
    go_ret
    exact ⟨rfl, unhide HX4⟩
  · obtain rfl : R = 0 := by simpa using (unhide HR).symm
    go_wp2_with (first
      | (go_at_call 40; refine (unhide HFA _ (unhide HX2)).mono ?_; rintro e w3 ⟨rfl, b3⟩; clear HFA; have HX3 := hide ((unhide HX2).trans (b3.mono (unhide HX2).size)); have HP3 := hide (block5 (keep_below (unhide HK2) b3)); have HI3 := hide (block3 (keep_below (unhide HI2) b3)); have HR3 := hide (block3 (keep_below (unhide HR2) b3)); clear b3; obtain ⟨⟨q0, q1, q2, q3, q4⟩, ql⟩ := unhide HP3; obtain ⟨⟨k0, k1, k2⟩, -, kl⟩ := unhide HI3; obtain ⟨⟨p0, p1, p2⟩, -, pl⟩ := unhide HR3)
      | (go_at_call 40; refine (unhide HFB _ (unhide HX3)).mono ?_; rintro e w4 ⟨rfl, b4⟩; clear HFB; have HX4 := hide ((unhide HX3).trans (b4.mono (unhide HX3).size)); clear b4))
    go_ret
    exact ⟨rfl, unhide HX4⟩

theorem wrong_any (w : World) (v : Value) (p : Pg) (h : IsP w v p) (ht : Tabs w) (i : In) (hr : ∀ k, 0 ≤ roomN p k ∧ roomN p k ≤ 2000) :
    Calls Tryd.prog 24 #[v, .agg #[.int .i64 i.1, .int .i64 i.2.1, .int .i64 i.2.2]] w fun e w' => e = .returned (.int .i64 (wrongF p i)) ∧ Below w.heap.size w w' := by
  unfold wrongF
  by_cases hop : 1 ≤ i.1 ∧ i.1 < 23
  · rw [if_pos hop]
    obtain ⟨op, x, y⟩ := i
    obtain ⟨j, rfl⟩ : ∃ j : Nat, op = j := ⟨op.toNat, by simp at hop; omega⟩
    exact wrong_op w v p h ht j x y (by simp at hop; omega) (by simp at hop; omega) (hr _) (hr _) _ _ rfl rfl
  · rw [if_neg hop]
    exact wrong_kind w v p h _ _ _ hop

end Go.Proofs.YtgeinjldjpaleaaDoor
