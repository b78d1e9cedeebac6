/-
  code.Text, given what the lines are; taskmilllaw.codeBegun.
-/
import Derived.Test.YtgeinjldjpaleaaDoorK
namespace Go.Proofs.YtgeinjldjpaleaaDoor
open Go.RowKit

theorem owns_below {w w' : World} {base e size n : Nat} {v : Value} {xs : List Value} (h : w.ownsRow base e size v n xs) (hb : Below w.heap.size w w') : w'.ownsRow base e size v n xs := by
  refine ⟨h.1, h.2.imp id ?_⟩
  rintro ⟨g, cap, cur, hv, hg, hh, r⟩
  exact ⟨g, cap, cur, hv, hg, keep_below hh hb, r⟩
theorem builder_below {T e B b : Nat} {bs : List Value} {w w' : World} (h : Lib.IsBuilder T e B b bs w) (hb : Below w.heap.size w w') : Lib.IsBuilder T e B b bs w' := by
  rcases h with ⟨h1, v, h2, h3, h4⟩ | ⟨h1, v, h2, h3, h4⟩
  · exact Or.inl ⟨h1, v, keep_below h2 hb, owns_below h3 hb, h4⟩
  · exact Or.inr ⟨h1, v, keep_below h2 hb, owns_below h3 hb, h4⟩
theorem builder_new (w : World) : Lib.IsBuilder 65 5 w.heap.size w.heap.size (Lib.byteCells []) (w.alloc (.cells #[.pointer none, .slice none 0 0] 65)) :=
  Or.inl ⟨Nat.le_refl _, _, new_block w _, World.ownsRow_nil _ _ _ _, by simp [Value.ownBlock]⟩
theorem builder_size {T e B b : Nat} {bs : List Value} {w : World} (h : Lib.IsBuilder T e B b bs w) : b < w.heap.size := by
  rcases h with h | h
  · exact h.lt
  · exact h.lt

/-- So many lines, each with its end. -/
def textL (L : Nat → ByteArray) : Nat → List UInt8
  | 0 => []
  | n + 1 => textL L n ++ (L n).data.toList ++ [10]
theorem textL_len (L : Nat → ByteArray) (hL : ∀ j, (L j).size ≤ 100) : ∀ n, (textL L n).length ≤ n * 101
  | 0 => Nat.zero_le _
  | n + 1 => by
    have h1 := textL_len L hL n
    have h2 := hL n
    have h3 : (L n).data.toList.length = (L n).size := rfl
    rw [textL, List.length_append, List.length_append, h3]
    simp only [List.length_cons, List.length_nil]
    omega

set_option maxRecDepth 100000 in
set_option maxHeartbeats 1000000 in
theorem text_ok (w : World) (v : Value) (p : Pg) (h : IsP w v p) (ht : Tabs w) (hF : checkF p = (0, 0)) (L : Nat → ByteArray) (hL : ∀ j, (L j).size ≤ 100)
    (hl : ∀ W, Below w.heap.size w W → ∀ j, j < p.code.length → Calls Tryd.prog 30 #[.agg #[.int .i64 (p.code.getD j (0, 0, 0)).1, .int .i64 (p.code.getD j (0, 0, 0)).2.1, .int .i64 (p.code.getD j (0, 0, 0)).2.2]] W fun e w' => e = .returned (.string (L j)) ∧ Below W.heap.size W w') :
    Calls Tryd.prog 16 #[v] w fun e w' => e = .returned (.tuple #[.string ⟨(textL L p.code.length).toArray⟩, .agg #[.int .i64 0, .int .i64 0]]) ∧ Below w.heap.size w w' := by
  obtain ⟨-, hn, hm, -, -⟩ := check_zero (p := p) (by rw [hF])
  obtain ⟨a, c, b, d, rfl, hc, hp⟩ := h.form
  have HC := hide fun W (hW : Below w.heap.size w W) => check_any W _ p (h.below hW) (ht.below hW) (by unfold maxLen; omega) (by unfold maxLen; omega)
  rw [hF] at HC
  unfold faultV at HC
  have HC0 := hide (hc.opens kc rfl)
  have HL := hide hl; have HLL := hide hL
  obtain ⟨n, en⟩ : ∃ n, p.code.length = n := ⟨_, rfl⟩
  obtain ⟨m, em⟩ : ∃ m, p.pipes.length = m := ⟨_, rfl⟩
  have HN := hide en
  obtain ⟨W0, e0, hB, k0, k1⟩ := two_new w (.cells #[.slice a p.code.length c, .int .i64 p.cells, .slice b p.pipes.length d, .int .i64 p.locks, .int .i64 p.groups] 25) (.cells #[.int .i64 0, .int .i64 0] 31)
  have HX := hide hB; have HE := hide e0; have HK := hide k0; have HF := hide k1
  rw [en] at HE HK HC HC0 HL hn; rw [em] at HE HK HC; rw [en, em]
  clear hB e0 k0 k1 h hc hp ht hm hF hl hL en em
  go_enter Tryd.func16, Tryd.ntmps16
  go_upto_region 1 with fail
  rw [unhide HE]
  clear HE
  obtain ⟨⟨q0, q1, q2, q3, q4⟩, ql⟩ := block5 (unhide HK)
  go_upto_region 2 with (go_at_call 10; refine (unhide HC _ (unhide HX)).mono ?_; rintro e w1 ⟨rfl, b1⟩; have HX1 := hide ((unhide HX).trans (b1.mono (unhide HX).size)); have HK1 := hide (keep_below (unhide HK) b1); have HF1 := hide (keep_below (unhide HF) b1); clear b1 q0 q1 q2 q3 q4 HK HF HX)
  obtain ⟨W2, e2, b2, k2⟩ := one_new w1 (.cells #[.int .i64 0, .int .i64 0] 31)
  rw [e2]
  have HX2 := hide ((unhide HX1).trans (b2.mono (unhide HX1).size))
  have HK2 := hide (keep_below (unhide HK1) b2)
  have HF2 := hide (keep_below (unhide HF1) b2)
  obtain ⟨g0, g1, -, -, gl⟩ := block2 k2
  clear e2 b2 k2 HK1 HF1 HX1
  go_upto_region 5 with fail
  clear g0 g1 gl
  obtain ⟨W3, e3, b3, k3⟩ := one_new W2 (.cells #[.pointer none, .slice none 0 0] 65)
  have HBn : Hid (Lib.IsBuilder 65 5 W2.heap.size W2.heap.size (Lib.byteCells (textL L 0)) W3) := by rw [← e3]; exact builder_new W2
  rw [e3]
  obtain ⟨⟨q0, q1, q2, q3, q4⟩, ql⟩ := block5 (keep_below (unhide HK2) b3)
  have HB3 := hide b3
  clear e3 b3 k3
  obtain ⟨bb, ebb⟩ : ∃ x, W2.heap.size = x := ⟨_, rfl⟩
  rw [ebb] at HBn HB3 ⊢
  have HEB := hide ebb
  clear ebb
  go_wp2_with fail
  go_loopw [17] (fun i W => ∃ j : Nat, j ≤ n ∧ i = .int .i64 j ∧ Hid (Lib.IsBuilder 65 5 bb bb (Lib.byteCells (textL L j)) W) ∧ Hid (Below bb W2 W)) (fun i _ => n - (intOf i).toNat)
  case atStart => exact ⟨0, Nat.zero_le _, rfl, HBn, HB3⟩
  case round =>
    obtain ⟨j, hj, rfl, HBj, HWj⟩ := hrel
    clear HBn HB3 q0 q1 q2 q3 q4 ql
    have hbb : w.heap.size ≤ bb := by have := (unhide HX2).size; rw [unhide HEB] at this; exact this
    have HXj := hide ((unhide HX2).trans ((unhide HWj).mono hbb))
    have hFb : w.heap.size + 1 < bb := by have := size_of (unhide HF2); rw [unhide HEB] at this; exact this
    by_cases hlt : j < n
    · obtain ⟨b0, o0, rfl, hb0, l0⟩ := unhide HC0 (by omega)
      obtain ⟨⟨t, x, y⟩, hx⟩ : ∃ x, p.code.getD j (0, 0, 0) = x := ⟨_, rfl⟩
      obtain ⟨k0, k1, k2⟩ := (l0.below (unhide HXj) hb0).instr (j := j) (by rw [unhide HN]; exact hlt) hx
      have HLj := hide fun W (hW : Below w.heap.size w W) => unhide HL W hW j hlt
      rw [hx] at HLj
      simp only at HLj
      have i1 : (j : Int) < (n : Int) := by omega
      have i0 : (0 : Int) ≤ (j : Int) := by omega
      have hlen := textL_len L (unhide HLL) j
      have hlj := unhide HLL j
      clear l0 hx
      go_upto_region 8 with fail
      clear k0 k1 k2
      obtain ⟨W4, e4, b4, z4⟩ := one_new wr (.cells #[.int .i64 t, .int .i64 x, .int .i64 y] 38)
      have HB4 := hide (builder_below (unhide HBj) b4)
      have HX4 := hide ((unhide HXj).trans (b4.mono (unhide HXj).size))
      have HW4 := hide ((unhide HWj).trans (b4.mono (by have := builder_size (unhide HBj); omega)))
      obtain ⟨⟨k0, k1, k2⟩, -, kl⟩ := block3 z4
      rw [e4]
      clear e4 b4 z4
      go_wp2_with (go_at_call 30; refine (unhide HLj _ (unhide HX4)).mono ?_; rintro e w5 ⟨rfl, b5⟩; have HB5 := hide (builder_below (unhide HB4) b5); have HW5 := hide ((unhide HW4).trans (b5.mono (by have := builder_size (unhide HB4); omega))); clear b5 k0 k1 k2 kl)
      refine (Tryd.writeString bb bb _ (L j) _ (unhide HB5) (by rw [Lib.byteCells_length]; omega) (Nat.le_of_lt (builder_size (unhide HB5)))).mono ?_
      rintro e w6 ⟨rfl, hb6, b6⟩
      have HB6 := hide (show Lib.IsBuilder 65 5 bb bb _ w6 from Or.inr hb6)
      have HW6 := hide ((unhide HW5).trans b6)
      clear hb6 b6
      go_wp2_with fail
      refine (Tryd.writeByte bb bb _ 10 _ (unhide HB6) (by rw [List.length_append, Lib.byteCells_length, Lib.strCells_length]; omega) (Nat.le_of_lt (builder_size (unhide HB6)))).mono ?_
      rintro e w7 ⟨rfl, hb7, b7⟩
      have HB7 : Hid (Lib.IsBuilder 65 5 bb bb (Lib.byteCells (textL L (j + 1))) w7) := by rw [textL, Lib.byteCells_append, Lib.byteCells_append]; exact Or.inr hb7
      have HW7 := hide ((unhide HW6).trans b7)
      clear hb7 b7
      go_wp2_with fail
      go_roundw
      case rel => exact ⟨j + 1, by omega, by go_num, HB7, HW7⟩
      case measure => simp [intOf]; omega
    · obtain rfl : j = n := by omega
      have i1 : ¬ (j : Int) < (j : Int) := by omega
      have HF3 := hide (keep_at (unhide HF2) (unhide HWj) hFb)
      go_wp2_with fail
      refine (Tryd.Builder_String_any bb bb _ _ (unhide HBj) (Nat.le_of_lt (builder_size (unhide HBj)))).mono ?_
      rintro e w5 ⟨rfl, b5⟩
      have HX5 := hide ((unhide HXj).trans (b5.mono hbb))
      obtain ⟨p0, p1, f0, f1, pl⟩ := block2 (keep_at (unhide HF3) b5 hFb)
      clear b5
      go_wp2_with fail
      exact bodyPost_ret (v := .tuple #[.string ⟨(textL L j).toArray⟩, .agg #[.int .i64 0, .int .i64 0]]) (by simp [results, Tryd.results16, go_sem, p0, p1]) rfl ⟨rfl, below_set2 (unhide HX5) (Nat.le_succ _) _ _⟩

/-- The document's example. -/
def exP : Pg := ⟨[(1, 0, 5), (14, 1, 0)], 0, [0, 0], 0, 0⟩
def exL (j : Nat) : ByteArray := if j = 0 then ⟨#[115, 101, 116, 32, 114, 48, 32, 53]⟩ else ⟨#[115, 101, 110, 100, 32, 112, 49, 32, 114, 48]⟩
set_option maxRecDepth 100000 in
set_option maxHeartbeats 1000000 in
theorem begun_any (w : World) (ht : Tabs w) :
    Calls Tryd.prog 7 #[] w fun e w' => e = .returned (.bool true) ∧ Below w.heap.size w w' := by
  obtain ⟨W0, e0, hB, k0, k1⟩ := two_new w (.cells #[.int .i64 1, .int .i64 0, .int .i64 5, .int .i64 14, .int .i64 1, .int .i64 0] 38) (.cells #[.int .i64 0, .int .i64 0] 3)
  have hP : IsP W0 (.agg #[.slice (some ⟨w.heap.size, 0, none⟩) 2 2, .int .i64 0, .slice (some ⟨w.heap.size + 1, 0, none⟩) 2 2, .int .i64 0, .int .i64 0]) exP := by
    refine ⟨_, _, rfl, ?_, ?_⟩
    · refine Lies.isl kc (fun j i u hj hu => ?_) rfl (Nat.le_refl _)
      have hj2 : j = 0 ∨ j = 1 := by simp [exP] at hj; omega
      rcases hj2 with rfl | rfl
      all_goals (simp only [World.cell?, k0]; match i, hu with | 0, hu => exact hu | 1, hu => exact hu | 2, hu => exact hu)
    · refine Lies.isl ki (fun j i u hj hu => ?_) rfl (Nat.le_refl _)
      have hj2 : j = 0 ∨ j = 1 := by simp [exP] at hj; omega
      rcases hj2 with rfl | rfl
      all_goals (simp only [World.cell?, k1]; match i, hu with | 0, hu => exact hu)
  have HT := hide (text_ok W0 _ exP hP (ht.below hB) (by decide +kernel) exL (fun j => by unfold exL; split <;> decide) (fun W hW j hj => by
    have hj2 : j = 0 ∨ j = 1 := by simp [exP] at hj; omega
    rcases hj2 with rfl | rfl
    · exact line_a W ((ht.below hB).below hW)
    · exact line_b W ((ht.below hB).below hW)))
  have eT : (⟨(textL exL exP.code.length).toArray⟩ : ByteArray) = ⟨#[115, 101, 116, 32, 114, 48, 32, 53, 10, 115, 101, 110, 100, 32, 112, 49, 32, 114, 48, 10]⟩ := by decide +kernel
  rw [eT] at HT
  have HX := hide hB; have HE := hide e0
  clear hB e0 k0 k1 hP ht eT
  go_enter Tryd.func7, Tryd.ntmps7
  go_wp2_with fail
  rw [unhide HE]
  clear HE
  refine (unhide HT).mono ?_
  rintro e w1 ⟨rfl, b1⟩
  have HX1 := hide ((unhide HX).trans (b1.mono (unhide HX).size))
  clear b1 HT
  go_wp2_with fail
  go_ret
  exact ⟨rfl, (unhide HX1).alloc (unhide HX1).size _⟩

end Go.Proofs.YtgeinjldjpaleaaDoor
