/-
  taskmilllaw.RingNext: a ring with a new Next, on lists; and where the law has nothing to ask.
-/
import Derived.Test.YtcdnennfimbgoabN
namespace Go.Proofs.Ytcdnennfimbgoab
open Go.RowKit
attribute [local go_sem ↓] Go.wp_at_zero Go.wp_at_succ

theorem below_store {w w2 : World} {R : Nat} {o o' : Obj} {x y : Value} (h : Below w.heap.size w w2) (hR : w.heap.size ≤ R) : Below w.heap.size w ((((w2.setCell ⟨R, 0, none⟩ x).setCell ⟨R, 1, none⟩ y).alloc o).alloc o') :=
  have h2 := (h.setCell (p := ⟨R, 0, none⟩) hR x).setCell (p := ⟨R, 1, none⟩) hR y
  h2.trans ((below_new2 _ o o').mono h2.size)
theorem ring_store {w2 : World} {R base n : Nat} {x y : Value} {nx : Int} {zs : List Int} {a : Option Addr} {c : Nat} {o o' : Obj} (h : w2.heap[R]? = some (.cells #[x, y] 25 (0, 0))) (ho : Own base w2 (.slice a n c) zs) (hn : n = zs.length) (hR : R < base) :
    RingAt ((((w2.setCell ⟨R, 0, none⟩ (.int .i64 nx)).setCell ⟨R, 1, none⟩ (.slice a n c)).alloc o).alloc o') R nx zs := by
  subst hn
  obtain ⟨a', c', h1, h2⟩ := RingAt.set (nx := nx) h ho hR
  exact ⟨a', c', ((below_new2 _ o o').block R (block2 h1).2.2.2.2).trans h1, h2.below (below_new2 _ o o')⟩
theorem own_store {w2 : World} {R base n : Nat} {x y : Value} {zs : List Int} {a : Option Addr} {c : Nat} {o o' : Obj} (ho : Own base w2 (.slice a n c) zs) (hR : R < base) :
    Own base ((((w2.setCell ⟨R, 0, none⟩ x).setCell ⟨R, 1, none⟩ y).alloc o).alloc o') (.slice a n c) zs := (ho.set2 hR x y).below (below_new2 _ o o')

theorem fld (a b : Int) (W : World) : (Instr.field 27 (.agg #[.int .i64 a, .int .i64 b]) 0).run Try.prog W = .ok (.int .i64 a) W := by kernel_rfl

/-- The list behind a new Next. -/
def tailL (nx : Int) (zs : List Int) : List Int := if 0 < nx then zs ++ [nx] else zs

theorem tail_good {nx t : Int} {zs : List Int} (h : Good nx zs) (hl : zs.length ≤ 255) (h1 : 1 ≤ t) (h2 : t ≠ nx) (h3 : ¬ t ∈ zs) : Good t (tailL nx zs) := by
  unfold tailL
  split
  · rename_i hp
    refine ⟨by rw [List.length_append]; simp; omega, by omega, fun z hz => ?_, fun hz => ?_, ?_⟩
    · rcases List.mem_append.1 hz with hz | hz
      · exact h.pos z hz
      · have : z = nx := by simpa using hz
        omega
    · rcases List.mem_append.1 hz with hz | hz
      · exact h3 hz
      · exact h2 (by simpa using hz)
    · rw [List.nodup_append]
      refine ⟨h.once, by simp, fun a ha b hb => ?_⟩
      have : b = nx := by simpa using hb
      subst this
      intro e
      subst e
      exact h.other ha
  · exact ⟨h.len, by omega, h.pos, h3, h.once⟩

/-- The ring behind so many takes. -/
def nxAt (t : Int) (j : Nat) : Int := if j = 0 then t else 0
def zsAt (l : List Int) (j : Nat) : List Int := l.drop (j - 1)

theorem good_zero {t : Int} {l : List Int} (h : Good t l) (k : Nat) : Good 0 (l.drop k) := by
  have h1 := h.drop k
  exact ⟨h1.len, by omega, h1.pos, fun hz => by have := h1.pos 0 hz; omega, h1.once⟩

theorem drop_cons {l : List Int} {k : Nat} (h : k < l.length) : l.drop k = l.getD k 0 :: l.drop (k + 1) := by
  rw [List.drop_eq_getElem_cons h]
  simp [List.getElem?_eq_getElem h]

theorem take_at (W : World) (t : Int) (l : List Int) (j : Nat) (hg : Good t l) (h1 : 1 ≤ t) (hj : j < l.length + 1) (v : Value) (h : IsList W v (zsAt l j)) :
    Calls Try.prog 7 #[.agg #[.int .i64 (nxAt t j), v]] W fun e w' => ∃ a' c', e = .returned (.tuple #[.agg #[.int .i64 0, .slice a' (l.length - j) c'], .int .i64 ((t :: l).getD j 0), .agg #[.int .i64 0, .int .i64 0]]) ∧ Own W.heap.size w' (.slice a' (l.length - j) c') (l.drop j) ∧ Below W.heap.size W w' := by
  have hl := hg.len
  by_cases h0 : j = 0
  · subst h0
    have e : zsAt l 0 = l := rfl
    rw [e] at h
    exact rtake_next W t v l h.1 (by unfold maxLen; omega) (by omega) (good_iff.2 hg) (by omega)
  · obtain ⟨k, rfl⟩ : ∃ k, j = k + 1 := ⟨j - 1, by omega⟩
    have e : zsAt l (k + 1) = l.getD k 0 :: l.drop (k + 1) := drop_cons (by omega)
    have en : nxAt t (k + 1) = 0 := rfl
    have eg := good_iff.2 (good_zero hg k)
    rw [drop_cons (by omega)] at eg
    rw [e] at h
    rw [en]
    have hlen : (l.drop (k + 1)).length = l.length - (k + 1) := List.length_drop
    obtain ⟨b, off, c, e', _, _⟩ := IsInts.at h.1 (by simp)
    subst e'
    rw [List.length_cons, hlen] at h ⊢
    exact rtake_first W b off c _ _ _ hlen h.1 (h.2 _ _ _ rfl) (by omega) eg

set_option maxRecDepth 100000 in
set_option maxHeartbeats 400000 in
theorem rnext_long (w : World) (nx t : Int) (a : Option Addr) (n c : Nat) (hn : 255 < n) (hm : n ≤ maxLen) :
    Calls Try.prog 4 #[.agg #[.int .i64 nx, .slice a n c], .int .i64 t] w fun e w' => e = .returned (.bool true) ∧ Below w.heap.size w w' := by
  have hnot : ∀ (x : Bool) (w : World), (Op.unary .not (.bool x)).run Try.prog w = .ok (.bool (!x)) w := fun _ _ => rfl
  unfold maxLen at hm
  have h1 : (255 : Int) < (n : Int) := by omega
  go_enter Try.func4, Try.ntmps4
  go_wp2_with (go_at_call 5; refine (begun_any _).mono ?_; rintro e w1 ⟨rfl, hb1⟩; have hx1 := hb1.mono (show w.heap.size + 1 ≤ _ by simp); obtain ⟨x0, x1, s1⟩ := arg1 hx1; have HX1 := hide hx1; clear hb1 hx1)
  go_ret
  exact ⟨rfl, below1 (unhide HX1)⟩

set_option maxRecDepth 100000 in
set_option maxHeartbeats 400000 in
theorem rnext_none (w : World) (nx t : Int) (v : Value) (zs : List Int) (h : IsInts w v zs) (hv : Fits v) (hn : zs.length ≤ 255) (x y : Int) (hf : ringF nx zs = (x, y)) (r : Bool) (hr : (lineL nx zs).contains t = r) (hno : x ≠ 0 ∨ t < 1 ∨ r = true) :
    Calls Try.prog 4 #[.agg #[.int .i64 nx, v], .int .i64 t] w fun e w' => e = .returned (.bool true) ∧ Below w.heap.size w w' := by
  have hnot : ∀ (x : Bool) (w : World), (Op.unary .not (.bool x)).run Try.prog w = .ok (.bool (!x)) w := fun _ _ => rfl
  have hfld := fld
  obtain ⟨a, c, rfl⟩ := Rd.form h
  have h1 : ¬ (255 : Int) < (zs.length : Int) := by omega
  have HRF : Hid (∀ W, Below w.heap.size w W → Calls Try.prog 8 #[.agg #[.int .i64 nx, .slice a zs.length c]] W fun e w' => e = .returned (.agg #[.int .i64 x, .int .i64 y]) ∧ Below W.heap.size W w') := fun W hW => by
    have := rfault_any W nx _ zs (Rd.below h hW) hv (by unfold maxLen; omega)
    rw [hf] at this
    exact this
  have HLN : Hid (∀ W, Below w.heap.size w W → Calls Try.prog 10 #[.agg #[.int .i64 nx, .slice a zs.length c]] W fun e w' => ∃ a' c', e = .returned (.slice a' (lineL nx zs).length c') ∧ Own W.heap.size w' (.slice a' (lineL nx zs).length c') (lineL nx zs) ∧ Below W.heap.size W w') := fun W hW => line_any W nx _ zs (Rd.below h hW) (by omega)
  have HHS : Hid (∀ W v', IsInts W v' (lineL nx zs) → Calls Try.prog 9 #[v', .int .i64 t] W fun e w' => e = .returned (.bool r) ∧ Below W.heap.size W w') := fun W v' hW => by
    have hle : (lineL nx zs).length ≤ zs.length + 1 := by unfold lineL; split <;> simp
    have := has_any W v' (lineL nx zs) t hW (by unfold maxLen; omega)
    rw [hr] at this
    exact this
  obtain ⟨ln, hln⟩ : ∃ l, lineL nx zs = l := ⟨_, rfl⟩
  rw [hln] at HLN HHS
  clear hln h hv hf hr
  by_cases hx : x = 0
  · subst hx
    by_cases ht : t < 1
    · clear hno
      go_enter Try.func4, Try.ntmps4
      go_wp2_with (first
        | (go_at_call 5; refine (begun_any _).mono ?_; rintro e w1 ⟨rfl, hb1⟩; have hx1 := hb1.mono (show w.heap.size + 1 ≤ _ by simp); obtain ⟨x0, x1, s1⟩ := arg1 hx1; have HX1 := hide hx1; clear hb1 hx1)
        | (go_at_call 8; refine (unhide HRF _ (below1 (unhide HX1))).mono ?_; rintro e w2 ⟨rfl, hb2⟩; have hx2 := next1 (unhide HX1) hb2; clear x0 x1 s1; obtain ⟨x0, x1, s1⟩ := arg1 hx2; have HX2 := hide hx2; clear hb2 hx2))
      go_ret
      exact ⟨rfl, below1 (unhide HX2)⟩
    · obtain rfl : r = true := by
        rcases hno with h | h | h
        · exact absurd rfl h
        · exact absurd h ht
        · exact h
      go_enter Try.func4, Try.ntmps4
      go_wp2_with (first
        | (go_at_call 5; refine (begun_any _).mono ?_; rintro e w1 ⟨rfl, hb1⟩; have hx1 := hb1.mono (show w.heap.size + 1 ≤ _ by simp); obtain ⟨x0, x1, s1⟩ := arg1 hx1; have HX1 := hide hx1; clear hb1 hx1)
        | (go_at_call 8; refine (unhide HRF _ (below1 (unhide HX1))).mono ?_; rintro e w2 ⟨rfl, hb2⟩; have hx2 := next1 (unhide HX1) hb2; clear x0 x1 s1; obtain ⟨x0, x1, s1⟩ := arg1 hx2; have HX2 := hide hx2; clear hb2 hx2)
        | (go_at_call 10; refine (unhide HLN _ (below1 (unhide HX2))).mono ?_; rintro e w3 ⟨a3, c3, rfl, ho3, hb3⟩; have HX3 := hide (next1 (unhide HX2) hb3); have HO3 := hide ho3; clear ho3 hb3)
        | (go_at_call 9; refine (unhide HHS _ _ (unhide HO3).list.1).mono ?_; rintro e w4 ⟨rfl, hb4⟩; have HX4 := hide (next1 (unhide HX3) hb4); clear hb4))
      go_ret
      exact ⟨rfl, below1 (unhide HX4)⟩
  · have hx1 : (x != 0) = true := by simpa using hx
    clear hno hx
    go_enter Try.func4, Try.ntmps4
    go_wp2_with (first
      | (go_at_call 5; refine (begun_any _).mono ?_; rintro e w1 ⟨rfl, hb1⟩; have hx1 := hb1.mono (show w.heap.size + 1 ≤ _ by simp); obtain ⟨x0, x1, s1⟩ := arg1 hx1; have HX1 := hide hx1; clear hb1 hx1)
      | (go_at_call 8; refine (unhide HRF _ (below1 (unhide HX1))).mono ?_; rintro e w2 ⟨rfl, hb2⟩; have hx2 := next1 (unhide HX1) hb2; clear x0 x1 s1; obtain ⟨x0, x1, s1⟩ := arg1 hx2; have HX2 := hide hx2; clear hb2 hx2))
    go_ret
    exact ⟨rfl, below1 (unhide HX2)⟩
end Go.Proofs.Ytcdnennfimbgoab
