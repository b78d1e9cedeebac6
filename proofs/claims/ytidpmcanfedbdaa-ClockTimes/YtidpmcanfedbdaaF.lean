/-
  clock.fresh, clock.within, clock.goesAhead, clock.outOfRange; taskmillref.Later and F; the law's own copy; variables that are stored.
-/
import Derived.Test.YtidpmcanfedbdaaDa
namespace Go.Proofs.Ytidpmcanfedbdaa
open Go.RowKit

theorem set_block3 {w : World} {R i : Nat} {x0 x1 x2 y : Value} {t : TypeId} (h : w.heap[R]? = some (.cells #[x0, x1, x2] t (0, 0))) : (w.setCell ⟨R, i, none⟩ y).heap[R]? = some (.cells (#[x0, x1, x2].setIfInBounds i y) t (0, 0)) := by
  simp [World.setCell, Array.getElem?_modify, h]
theorem set_block4 {w : World} {R i : Nat} {x0 x1 x2 x3 y : Value} {t : TypeId} (h : w.heap[R]? = some (.cells #[x0, x1, x2, x3] t (0, 0))) : (w.setCell ⟨R, i, none⟩ y).heap[R]? = some (.cells (#[x0, x1, x2, x3].setIfInBounds i y) t (0, 0)) := by
  simp [World.setCell, Array.getElem?_modify, h]
theorem set2b {w : World} {R i : Nat} {x0 x1 y : Value} {t : TypeId} (h : w.heap[R]? = some (.cells #[x0, x1] t (0, 0))) : (w.setCell ⟨R, i, none⟩ y).heap[R]? = some (.cells (#[x0, x1].setIfInBounds i y) t (0, 0)) := by
  simp [World.setCell, Array.getElem?_modify, h]
/-- A variable of three cells that is stored. -/
def putL (w : World) (R : Nat) (y0 y1 y2 : Value) : World := ((w.setCell ⟨R, 0, none⟩ y0).setCell ⟨R, 1, none⟩ y1).setCell ⟨R, 2, none⟩ y2
theorem putL_keep {w : World} {R k : Nat} {y0 y1 y2 : Value} (h : k ≠ R) : (putL w R y0 y1 y2).heap[k]? = w.heap[k]? := by
  unfold putL
  repeat rw [Below.heap_setCell _ _ _ _ (by simpa using h)]
theorem putL_keeps {w : World} {R k : Nat} {x : Obj} (h : w.heap[k]? = some x) (hk : k ≠ R) {y0 y1 y2 : Value} : (putL w R y0 y1 y2).heap[k]? = some x := (putL_keep hk).trans h
theorem putL_below {B R : Nat} {w w' : World} (h : Below B w w') (hR : B ≤ R) {y0 y1 y2 : Value} : Below B w (putL w' R y0 y1 y2) := ((h.setCell hR y0).setCell hR y1).setCell hR y2
theorem putL_new {w : World} {R : Nat} {x0 x1 x2 y0 y1 y2 : Value} {t : TypeId} (h : w.heap[R]? = some (.cells #[x0, x1, x2] t (0, 0))) : (putL w R y0 y1 y2).heap[R]? = some (.cells #[y0, y1, y2] t (0, 0)) := by
  have h1 := set_block3 (i := 0) (y := y0) h
  have h2 := set_block3 (i := 1) (y := y1) h1
  have h3 := set_block3 (i := 2) (y := y2) h2
  exact h3
theorem putL_own {α : Type} {K : Kind α} {base R : Nat} {w : World} {v : Value} {xs : List α} (h : Own K base w v xs) {x0 x1 x2 : Value} {t : TypeId} (hR : w.heap[R]? = some (.cells #[x0, x1, x2] t (0, 0))) (ht : t ≠ K.e) {y0 y1 y2 : Value} : Own K base (putL w R y0 y1 y2) v xs := h.keep fun k hk => putL_keep (Own.ne h hR ht k hk)
theorem put2_own {α : Type} {K : Kind α} {base R : Nat} {w : World} {v : Value} {xs : List α} (h : Own K base w v xs) {x0 x1 : Value} {t : TypeId} (hR : w.heap[R]? = some (.cells #[x0, x1] t (0, 0))) (ht : t ≠ K.e) {y0 y1 : Value} : Own K base (put2 w R y0 y1) v xs := h.keep fun k hk => put2_keep (Own.ne h hR ht k hk)
theorem put2_keeps {w : World} {R k : Nat} {x : Obj} (h : w.heap[k]? = some x) (hk : k ≠ R) {y0 y1 : Value} : (put2 w R y0 y1).heap[k]? = some x := (put2_keep hk).trans h
theorem IsL.keep {α : Type} {K : Kind α} (hK : K.Ok) {w w' : World} {v : Value} {xs : List α} (h : IsL K w v xs) (hk : ∀ k, v.ownBlock = some k → w'.heap[k]? = w.heap[k]?) : IsL K w' v xs := by
  by_cases h0 : 0 < xs.length
  · obtain ⟨b, off, c, rfl, hb, hli⟩ := h.at hK h0
    exact (hli.keep (hk b rfl)).isl hK rfl h.fits
  · have e : xs = [] := List.eq_nil_of_length_eq_zero (by omega)
    subst e
    obtain ⟨a, c, rfl⟩ := h.form
    cases a with
    | none =>
      obtain ⟨⟨_, ⟨h1, _⟩ | ⟨ad, cap, h1, _⟩⟩, h2⟩ := h
      · cases h1
        exact isl_nil w'
      · cases h1
    | some ad => exact IsL.none_left rfl

/-- The value v reads as the clock of Now, Next and List. -/
def IsC (w : World) (v : Value) (now next : Int) (xs : List Al) : Prop := ∃ vl, v = .agg #[.int .i64 now, .int .i64 next, vl] ∧ IsL KA w vl xs
theorem IsC.below {w w' : World} {v : Value} {now next : Int} {xs : List Al} (h : IsC w v now next xs) (hb : Below w.heap.size w w') : IsC w' v now next xs := by
  obtain ⟨vl, rfl, h1⟩ := h
  exact ⟨vl, rfl, h1.below hb⟩
theorem IsC.form {w : World} {v : Value} {now next : Int} {xs : List Al} (h : IsC w v now next xs) : ∃ a d, v = .agg #[.int .i64 now, .int .i64 next, .slice a xs.length d] ∧ IsL KA w (.slice a xs.length d) xs := by
  obtain ⟨vl, rfl, h1⟩ := h
  obtain ⟨a, d, rfl⟩ := h1.form
  exact ⟨a, d, rfl, h1⟩
theorem zero_c (w : World) : IsC w (.agg #[.int .i64 0, .int .i64 0, .slice none 0 0]) 0 0 [] := ⟨_, rfl, isl_nil w⟩
/-- The same, and its list lies from the block base on. -/
def NewC (base : Nat) (w : World) (v : Value) (now next : Int) (xs : List Al) : Prop := ∃ vl, v = .agg #[.int .i64 now, .int .i64 next, vl] ∧ New KA base w vl xs
theorem NewC.c {base : Nat} {w : World} {v : Value} {now next : Int} {xs : List Al} (h : NewC base w v now next xs) : IsC w v now next xs := by
  obtain ⟨vl, rfl, h1⟩ := h
  exact ⟨vl, rfl, h1.1⟩
theorem NewC.below {base : Nat} {w w' : World} {v : Value} {now next : Int} {xs : List Al} (h : NewC base w v now next xs) (hb : Below w.heap.size w w') : NewC base w' v now next xs := by
  obtain ⟨vl, rfl, h1⟩ := h
  exact ⟨vl, rfl, h1.below hb⟩
theorem NewC.form {base : Nat} {w : World} {v : Value} {now next : Int} {xs : List Al} (h : NewC base w v now next xs) : ∃ a d, v = .agg #[.int .i64 now, .int .i64 next, .slice a xs.length d] ∧ New KA base w (.slice a xs.length d) xs := by
  obtain ⟨vl, rfl, h1⟩ := h
  obtain ⟨a, d, rfl⟩ := h1.1.form
  exact ⟨a, d, rfl, h1⟩
theorem zero_newc (base : Nat) (w : World) : NewC base w (.agg #[.int .i64 0, .int .i64 0, .slice none 0 0]) 0 0 [] := ⟨_, rfl, new_nil _ _⟩
theorem isl_empty {α : Type} {K : Kind α} {w w' : World} {v : Value} (h : IsL K w v []) : IsL K w' v [] := by
  obtain ⟨a, c, rfl⟩ := h.form
  cases a with
  | none =>
    obtain ⟨⟨_, ⟨h1, _⟩ | ⟨ad, cap, h1, _⟩⟩, h2⟩ := h
    · cases h1
      exact isl_nil w'
    · cases h1
  | some ad => exact IsL.none_left rfl

set_option maxRecDepth 100000 in
set_option maxHeartbeats 400000 in
theorem fresh_any (w : World) (v : Value) (xs : List Al) (hr : IsL KA w v xs) (hn : xs.length * 32 ≤ 140737488355328) :
    Calls Try.prog 35 #[v] w fun e w' => ∃ a' c', e = .returned (.slice a' xs.length c') ∧ Own KA w.heap.size w' (.slice a' xs.length c') xs ∧ Below w.heap.size w w' := by
  obtain ⟨a, c, rfl⟩ := hr.form
  have HR := hide (hr.below ((Below.refl _ _).alloc (Nat.le_refl _) (.cells #[] 42)))
  have HO1 := hide (own_empty (K := KA) w)
  have HB1 := hide ((Below.refl w.heap.size w).alloc (Nat.le_refl _) (.cells #[] 42))
  clear hr
  go_enter Try.func35, Try.ntmps35
  go_wp2_with (at_builtin; refine wpList_append ka rfl (.tmp 3) (.tmp 4) rfl w.heap.size _ [] rfl (unhide HO1) _ xs rfl (unhide HR) xs.length (by simp) hn (unhide HB1).size ?_; intro a' c' w1 ho hg; have HO := hide (own_nil_append ho); have HB := hide ((unhide HB1).grown hg (unhide HB1).size (fun k hk => ((unhide HO1).lt k hk).1)); clear ho hg)
  go_ret
  exact ⟨a', c', rfl, unhide HO, unhide HB⟩

set_option maxRecDepth 100000 in
theorem within_any (w : World) (x lo hi : Int) :
    Calls Try.prog 23 #[.int .i64 x, .int .i64 lo, .int .i64 hi] w fun e w' => e = .returned (.bool (decide (lo ≤ x ∧ x ≤ hi))) ∧ w' = w := by
  by_cases h1 : lo ≤ x
  · by_cases h2 : x ≤ hi
    · rw [decide_eq_true ⟨h1, h2⟩]
      go_enter Try.func23, Try.ntmps23
      go_wp2
      go_ret
      exact ⟨rfl, rfl⟩
    · rw [decide_eq_false (fun h => h2 h.2)]
      go_enter Try.func23, Try.ntmps23
      go_wp2
      go_ret
      exact ⟨rfl, rfl⟩
  · rw [decide_eq_false (fun h => h1 h.1)]
    go_enter Try.func23, Try.ntmps23
    go_wp2
    go_ret
    exact ⟨rfl, rfl⟩

/-- Does an alarm go off ahead of another? -/
def ahead (a b : Al) : Bool := decide (a.2.1 < b.2.1) || (a.2.1 == b.2.1 && decide (a.2.2.2 < b.2.2.2))

set_option maxRecDepth 100000 in
set_option maxHeartbeats 1000000 in
theorem goesAhead_any (w : World) (t c u y t' c' u' y' : Int) :
    Calls Try.prog 28 #[.agg #[.int .i64 t, .int .i64 c, .int .i64 u, .int .i64 y], .agg #[.int .i64 t', .int .i64 c', .int .i64 u', .int .i64 y']] w fun e w' => e = .returned (.bool (ahead (t, c, u, y) (t', c', u', y'))) ∧ Below w.heap.size w w' := by
  obtain ⟨R, eR⟩ : ∃ R, ahead (t, c, u, y) (t', c', u', y') = R := ⟨_, rfl⟩
  rw [eR]
  unfold ahead at eR
  simp only at eR
  have HR := hide eR
  clear eR
  obtain ⟨W, e0, hB, k0, k1⟩ := two_new w (.cells #[.int .i64 t, .int .i64 c, .int .i64 u, .int .i64 y] 42) (.cells #[.int .i64 t', .int .i64 c', .int .i64 u', .int .i64 y'] 42)
  have HX := hide hB; have HE := hide e0; have HK0 := hide k0; have HK1 := hide k1
  clear hB e0 k0 k1
  go_enter Try.func28, Try.ntmps28
  go_upto_region 1 with fail
  rw [unhide HE]
  clear HE
  obtain ⟨⟨p0, p1, p2, p3⟩, -, pl⟩ := block4 (unhide HK0)
  obtain ⟨⟨q0, q1, q2, q3⟩, -, ql⟩ := block4 (unhide HK1)
  by_cases h1 : c < c'
  · have hr := unhide HR
    rw [decide_eq_true h1, Bool.true_or] at hr
    subst hr
    clear HR
    go_wp2
    go_ret
    exact ⟨rfl, unhide HX⟩
  by_cases h2 : c = c'
  · subst h2
    have h3 : (c == c) = true := by simp
    have hr := unhide HR
    rw [decide_eq_false h1, h3, Bool.false_or, Bool.true_and] at hr
    subst hr
    clear HR
    go_wp2
    go_ret
    exact ⟨rfl, unhide HX⟩
  · have h3 : (c == c') = false := by simpa using h2
    have hr := unhide HR
    rw [decide_eq_false h1, h3, Bool.false_or, Bool.false_and] at hr
    subst hr
    clear HR
    go_wp2
    go_ret
    exact ⟨rfl, unhide HX⟩

set_option maxRecDepth 100000 in
set_option maxHeartbeats 1000000 in
theorem later_any (w : World) (t c u y t' c' u' y' : Int) :
    Calls Try.prog 33 #[.agg #[.int .i64 t, .int .i64 c, .int .i64 u, .int .i64 y], .agg #[.int .i64 t', .int .i64 c', .int .i64 u', .int .i64 y']] w fun e w' => e = .returned (.bool (ahead (t', c', u', y') (t, c, u, y))) ∧ Below w.heap.size w w' := by
  obtain ⟨R, eR⟩ : ∃ R, ahead (t', c', u', y') (t, c, u, y) = R := ⟨_, rfl⟩
  rw [eR]
  unfold ahead at eR
  simp only at eR
  have HR := hide eR
  clear eR
  obtain ⟨W, e0, hB, k0, k1⟩ := two_new w (.cells #[.int .i64 t, .int .i64 c, .int .i64 u, .int .i64 y] 42) (.cells #[.int .i64 t', .int .i64 c', .int .i64 u', .int .i64 y'] 42)
  have HX := hide hB; have HE := hide e0; have HK0 := hide k0; have HK1 := hide k1
  clear hB e0 k0 k1
  go_enter Try.func33, Try.ntmps33
  go_upto_region 1 with fail
  rw [unhide HE]
  clear HE
  obtain ⟨⟨p0, p1, p2, p3⟩, -, pl⟩ := block4 (unhide HK0)
  obtain ⟨⟨q0, q1, q2, q3⟩, -, ql⟩ := block4 (unhide HK1)
  by_cases h1 : c' < c
  · have hr := unhide HR
    rw [decide_eq_true h1, Bool.true_or] at hr
    subst hr
    clear HR
    go_wp2
    go_ret
    exact ⟨rfl, unhide HX⟩
  by_cases h2 : c = c'
  · subst h2
    have h3 : (c == c) = true := by simp
    have hr := unhide HR
    rw [decide_eq_false h1, h3, Bool.false_or, Bool.true_and] at hr
    subst hr
    clear HR
    go_wp2
    go_ret
    exact ⟨rfl, unhide HX⟩
  · have h3 : (c == c') = false := by simpa using h2
    have h4 : (c' == c) = false := by simpa using fun h : c' = c => h2 h.symm
    have hr := unhide HR
    rw [decide_eq_false h1, h4, Bool.false_or, Bool.false_and] at hr
    subst hr
    clear HR
    go_wp2
    go_ret
    exact ⟨rfl, unhide HX⟩

set_option maxRecDepth 100000 in
theorem f_any (w : World) (x y : Int) :
    Calls Try.prog 17 #[.int .i64 x, .int .i64 y] w fun e w' => e = .returned (.agg #[.int .i64 x, .int .i64 y]) ∧ Below w.heap.size w w' := by
  have HX := hide ((Below.refl w.heap.size w).alloc (Nat.le_refl _) (.cells #[.int .i64 0, .int .i64 0] 29))
  have HP := hide (new_block w (.cells #[.int .i64 0, .int .i64 0] 29))
  go_enter Try.func17, Try.ntmps17
  go_upto_region 1 with fail
  obtain ⟨W0, e0⟩ : ∃ W, w.alloc (.cells #[.int .i64 0, .int .i64 0] 29) = W := ⟨_, rfl⟩
  rw [e0] at HX HP ⊢
  clear e0
  obtain ⟨p0, p1, f0, f1, pl⟩ := block2 (unhide HP)
  go_wp2_with fail
  exact bodyPost_ret (v := .agg #[.int .i64 x, .int .i64 y]) (by simp [results, Try.results17, go_sem, p0, p1]) rfl ⟨rfl, below_set2 (unhide HX) (Nat.le_refl _) _ _⟩

end Go.Proofs.Ytidpmcanfedbdaa
