/-
  buddy.fresh, without, mateOf, both, unitsOf, fits; sort.Search, buddy.placeOf; taskmillref.F and MateOf.
-/
import Derived.Test.YtomhfnjnmhdpkaaDb
import Derived.Test.YtomhfnjnmhdpkaaMa
namespace Go.Proofs.Ytomhfnjnmhdpkaa
open Go.RowKit

set_option maxRecDepth 100000 in
set_option maxHeartbeats 400000 in
theorem fresh_any (w : World) (v : Value) (xs : List Bl) (hr : IsL KB w v xs) (hn : xs.length * 16 ≤ 140737488355328) :
    Calls Try.prog 42 #[v] w fun e w' => ∃ a' c', e = .returned (.slice a' xs.length c') ∧ Own KB w.heap.size w' (.slice a' xs.length c') xs ∧ Below w.heap.size w w' := by
  obtain ⟨a, c, rfl⟩ := hr.form
  have HR := hide (hr.below ((Below.refl _ _).alloc (Nat.le_refl _) (.cells #[] 38)))
  have HO1 := hide (own_empty (K := KB) w)
  have HB1 := hide ((Below.refl w.heap.size w).alloc (Nat.le_refl _) (.cells #[] 38))
  clear hr
  go_enter Try.func42, Try.ntmps42
  go_wp2_with (at_builtin; refine wpList_append kb rfl (.tmp 3) (.tmp 4) rfl w.heap.size _ [] rfl (unhide HO1) _ xs rfl (unhide HR) xs.length (by simp) hn (unhide HB1).size ?_; intro a' c' w1 ho hg; have HO := hide (own_nil_append ho); have HB := hide ((unhide HB1).grown hg (unhide HB1).size (fun k hk => ((unhide HO1).lt k hk).1)); clear ho hg)
  go_ret
  exact ⟨a', c', rfl, unhide HO, unhide HB⟩

set_option maxRecDepth 100000 in
theorem f_any (w : World) (x y : Int) :
    Calls Try.prog 15 #[.int .i64 x, .int .i64 y] w fun e w' => e = .returned (.agg #[.int .i64 x, .int .i64 y]) ∧ Below w.heap.size w w' := by
  have HX := hide ((Below.refl w.heap.size w).alloc (Nat.le_refl _) (.cells #[.int .i64 0, .int .i64 0] 29))
  have HP := hide (new_block w (.cells #[.int .i64 0, .int .i64 0] 29))
  go_enter Try.func15, Try.ntmps15
  go_upto_region 1 with fail
  obtain ⟨W0, e0⟩ : ∃ W, w.alloc (.cells #[.int .i64 0, .int .i64 0] 29) = W := ⟨_, rfl⟩
  rw [e0] at HX HP ⊢
  clear e0
  obtain ⟨p0, p1, f0, f1, pl⟩ := block2 (unhide HP)
  go_wp2_with fail
  exact bodyPost_ret (v := .agg #[.int .i64 x, .int .i64 y]) (by simp [results, Try.results15, go_sem, p0, p1]) rfl ⟨rfl, below_set2 (unhide HX) (Nat.le_refl _) _ _⟩


theorem blk_eq (w : World) (t c t' c' : Int) : (Op.equalIn 10000 38 (.agg #[.int .i64 t, .int .i64 c]) (.agg #[.int .i64 t', .int .i64 c'])).run Try.prog w = .ok (t == t' && c == c') w := by
  simp [go_sem]
  by_cases h : t = t' <;> by_cases h2 : c = c' <;> simp [h, h2]

theorem unitsOf_any (w : World) (b : Int) (h0 : 0 ≤ b) (h1 : b ≤ 30) :
    Calls Try.prog 21 #[.int .i64 b] w fun e w' => e = .returned (.int .i64 ((2 : Int) ^ b.toNat)) ∧ w' = w := by
  obtain ⟨n, rfl⟩ := Int.eq_ofNat_of_zero_le h0
  have h2 : (2 : Int) ^ n ≤ 1073741824 := by
    have h4 : 2 ^ n ≤ 2 ^ 30 := Nat.pow_le_pow_right (by decide) (by omega)
    have h3 : ((2 ^ n : Nat) : Int) ≤ ((2 ^ 30 : Nat) : Int) := Int.ofNat_le.2 h4
    simpa using h3
  have h3 : (0 : Int) < 2 ^ n := Int.pow_pos (by decide)
  go_enter Try.func21, Try.ntmps21
  go_wp2
  go_ret
  exact ⟨rfl, rfl⟩

set_option maxRecDepth 100000 in
set_option maxHeartbeats 1000000 in
theorem mateOf_any (w : World) (t c : Int) (hp : pw c = true) (h0 : 0 ≤ t) (hm : t % c = 0) (ht : t ≤ 4611686018427387904) :
    Calls Try.prog 41 #[.agg #[.int .i64 t, .int .i64 c]] w fun e w' => e = .returned (.agg #[.int .i64 (mateS t c), .int .i64 c]) ∧ Below w.heap.size w w' := by
  have hx := xor_mate hp h0 hm (by omega)
  obtain ⟨M, eM⟩ : ∃ M, mateS t c = M := ⟨_, rfl⟩
  rw [eM] at hx ⊢
  obtain ⟨W, e0, hB, k0, k1⟩ := two_new w (.cells #[.int .i64 t, .int .i64 c] 38) (.cells #[.int .i64 0, .int .i64 0] 38)
  have HX := hide hB; have HE := hide e0; have HK0 := hide k0; have HK1 := hide k1
  clear hB e0 k0 k1 hp h0 hm ht eM
  go_enter Try.func41, Try.ntmps41
  go_upto_region 1 with fail
  rw [unhide HE]
  clear HE
  obtain ⟨p0, p1, -, -, pl⟩ := block2 (unhide HK0)
  obtain ⟨q0, q1, f0, f1, ql⟩ := block2 (unhide HK1)
  go_wp2_with fail
  exact bodyPost_ret (v := .agg #[.int .i64 M, .int .i64 c]) (by simp [results, Try.results41, go_sem, q0, q1]) rfl ⟨rfl, below_set2 (unhide HX) (by omega) _ _⟩

set_option maxRecDepth 100000 in
set_option maxHeartbeats 1000000 in
theorem both_any (w : World) (t c : Int) (hp : pw c = true) (h0 : 0 ≤ t) (hm : t % c = 0) (ht : t ≤ 4611686018427387904) (hc : c ≤ 2305843009213693952) :
    Calls Try.prog 48 #[.agg #[.int .i64 t, .int .i64 c]] w fun e w' => e = .returned (.agg #[.int .i64 (bothS t c), .int .i64 (2 * c)]) ∧ Below w.heap.size w w' := by
  have hx := andNot_both hp h0 hm (by omega)
  have hpos := pw_pos hp
  have hw : IntKind.i64.wrap (2 * c) = 2 * c := wrapi (by omega) (by omega)
  obtain ⟨M, eM⟩ : ∃ M, bothS t c = M := ⟨_, rfl⟩
  rw [eM] at hx ⊢
  obtain ⟨W, e0, hB, k0, k1⟩ := two_new w (.cells #[.int .i64 t, .int .i64 c] 38) (.cells #[.int .i64 0, .int .i64 0] 38)
  have HX := hide hB; have HE := hide e0; have HK0 := hide k0; have HK1 := hide k1
  clear hB e0 k0 k1 hp h0 hm ht eM hc hpos
  go_enter Try.func48, Try.ntmps48
  go_upto_region 1 with fail
  rw [unhide HE]
  clear HE
  obtain ⟨p0, p1, -, -, pl⟩ := block2 (unhide HK0)
  obtain ⟨q0, q1, f0, f1, ql⟩ := block2 (unhide HK1)
  go_wp2_with fail
  exact bodyPost_ret (v := .agg #[.int .i64 M, .int .i64 (2 * c)]) (by simp [results, Try.results48, go_sem, q0, q1]) rfl ⟨rfl, below_set2 (unhide HX) (by omega) _ _⟩

/-- May a block stand in a space of so many units? -/
def fitB (units : Int) (x : Bl) : Bool := pw x.2 && (decide (0 ≤ x.1) && (x.1 % x.2 == 0 && decide (x.1 ≤ units - x.2)))
set_option maxRecDepth 100000 in
set_option maxHeartbeats 1000000 in
theorem fits_low (w : World) (t c u : Int) (_hu : 0 ≤ u ∧ u ≤ 1073741824) (h : c < 1) :
    Calls Try.prog 37 #[.agg #[.int .i64 t, .int .i64 c], .int .i64 u] w fun e w' => e = .returned (.bool false) ∧ Below w.heap.size w w' := by
  have HX := hide ((Below.refl w.heap.size w).alloc (Nat.le_refl _) (.cells #[.int .i64 t, .int .i64 c] 38))
  have HP := hide (new_block w (.cells #[.int .i64 t, .int .i64 c] 38))
  obtain ⟨W0, e0⟩ : ∃ W, w.alloc (.cells #[.int .i64 t, .int .i64 c] 38) = W := ⟨_, rfl⟩
  rw [e0] at HX HP
  have HE := hide e0
  clear e0
  go_enter Try.func37, Try.ntmps37
  go_upto_region 1 with fail
  rw [unhide HE]
  clear HE
  obtain ⟨p0, p1, -, -, pl⟩ := block2 (unhide HP)
  go_wp2_with fail
  go_ret
  exact ⟨rfl, unhide HX⟩

set_option maxRecDepth 100000 in
set_option maxHeartbeats 1000000 in
theorem fits_odd (w : World) (t c u : Int) (_hu : 0 ≤ u ∧ u ≤ 1073741824) (h : 1 ≤ c) (hc : c ≤ 9223372036854775807) (hp : pw c = false) :
    Calls Try.prog 37 #[.agg #[.int .i64 t, .int .i64 c], .int .i64 u] w fun e w' => e = .returned (.bool false) ∧ Below w.heap.size w w' := by
  have HX := hide ((Below.refl w.heap.size w).alloc (Nat.le_refl _) (.cells #[.int .i64 t, .int .i64 c] 38))
  have HP := hide (new_block w (.cells #[.int .i64 t, .int .i64 c] 38))
  obtain ⟨W0, e0⟩ : ∃ W, w.alloc (.cells #[.int .i64 t, .int .i64 c] 38) = W := ⟨_, rfl⟩
  rw [e0] at HX HP
  have HE := hide e0
  clear e0
  have h1 : ¬ c < 1 := by omega
  have hw : IntKind.i64.wrap (c - 1) = c - 1 := wrapi (by omega) (by omega)
  have hb : (bits .and .i64 c (c - 1) != 0) = true := by
    have := and_pred c h hc
    rw [hp] at this
    simp only [bne, this]; rfl
  clear h hc hp
  go_enter Try.func37, Try.ntmps37
  go_upto_region 1 with fail
  rw [unhide HE]
  clear HE
  obtain ⟨p0, p1, -, -, pl⟩ := block2 (unhide HP)
  go_wp2_with fail
  go_ret
  exact ⟨rfl, unhide HX⟩

set_option maxRecDepth 100000 in
set_option maxHeartbeats 1000000 in
theorem fits_neg (w : World) (t c u : Int) (_hu : 0 ≤ u ∧ u ≤ 1073741824) (hp : pw c = true) (ht : t < 0) :
    Calls Try.prog 37 #[.agg #[.int .i64 t, .int .i64 c], .int .i64 u] w fun e w' => e = .returned (.bool false) ∧ Below w.heap.size w w' := by
  have HX := hide ((Below.refl w.heap.size w).alloc (Nat.le_refl _) (.cells #[.int .i64 t, .int .i64 c] 38))
  have HP := hide (new_block w (.cells #[.int .i64 t, .int .i64 c] 38))
  obtain ⟨W0, e0⟩ : ∃ W, w.alloc (.cells #[.int .i64 t, .int .i64 c] 38) = W := ⟨_, rfl⟩
  rw [e0] at HX HP
  have HE := hide e0
  clear e0
  have h := pw_pos hp
  have hc := pw_le hp
  have h1 : ¬ c < 1 := by omega
  have h2 : ¬ c = 0 := by omega
  have hw : IntKind.i64.wrap (c - 1) = c - 1 := wrapi (by omega) (by omega)
  have hb : (bits .and .i64 c (c - 1) != 0) = false := by
    have := and_pred c h (by omega)
    rw [hp] at this
    simp only [bne, this]; rfl
  have h3 : ¬ 0 ≤ t := by omega
  clear h hc hp ht
  go_enter Try.func37, Try.ntmps37
  go_upto_region 1 with fail
  rw [unhide HE]
  clear HE
  obtain ⟨p0, p1, -, -, pl⟩ := block2 (unhide HP)
  go_wp2_with fail
  go_ret
  exact ⟨rfl, unhide HX⟩

set_option maxRecDepth 100000 in
set_option maxHeartbeats 1000000 in
theorem fits_off (w : World) (t c u : Int) (_hu : 0 ≤ u ∧ u ≤ 1073741824) (hp : pw c = true) (ht : 0 ≤ t) (hm : ¬ t % c = 0) :
    Calls Try.prog 37 #[.agg #[.int .i64 t, .int .i64 c], .int .i64 u] w fun e w' => e = .returned (.bool false) ∧ Below w.heap.size w w' := by
  have HX := hide ((Below.refl w.heap.size w).alloc (Nat.le_refl _) (.cells #[.int .i64 t, .int .i64 c] 38))
  have HP := hide (new_block w (.cells #[.int .i64 t, .int .i64 c] 38))
  obtain ⟨W0, e0⟩ : ∃ W, w.alloc (.cells #[.int .i64 t, .int .i64 c] 38) = W := ⟨_, rfl⟩
  rw [e0] at HX HP
  have HE := hide e0
  clear e0
  have h := pw_pos hp
  have hc := pw_le hp
  have h1 : ¬ c < 1 := by omega
  have h2 : ¬ c = 0 := by omega
  have hw : IntKind.i64.wrap (c - 1) = c - 1 := wrapi (by omega) (by omega)
  have hb : (bits .and .i64 c (c - 1) != 0) = false := by
    have := and_pred c h (by omega)
    rw [hp] at this
    simp only [bne, this]; rfl
  have h4 : (t.tmod c == 0) = false := by rw [Int.tmod_eq_emod_of_nonneg ht]; simpa using hm
  have h5 : (t % c == 0) = false := by simpa using hm
  clear hp
  go_enter Try.func37, Try.ntmps37
  go_upto_region 1 with fail
  rw [unhide HE]
  clear HE
  obtain ⟨p0, p1, -, -, pl⟩ := block2 (unhide HP)
  go_wp2_with fail
  go_ret
  exact ⟨rfl, unhide HX⟩

set_option maxRecDepth 100000 in
set_option maxHeartbeats 1000000 in
theorem fits_end (w : World) (t c u : Int) (hu : 0 ≤ u ∧ u ≤ 1073741824) (hp : pw c = true) (ht : 0 ≤ t) (hm : t % c = 0) :
    Calls Try.prog 37 #[.agg #[.int .i64 t, .int .i64 c], .int .i64 u] w fun e w' => e = .returned (.bool (decide (t ≤ u - c))) ∧ Below w.heap.size w w' := by
  have HX := hide ((Below.refl w.heap.size w).alloc (Nat.le_refl _) (.cells #[.int .i64 t, .int .i64 c] 38))
  have HP := hide (new_block w (.cells #[.int .i64 t, .int .i64 c] 38))
  obtain ⟨W0, e0⟩ : ∃ W, w.alloc (.cells #[.int .i64 t, .int .i64 c] 38) = W := ⟨_, rfl⟩
  rw [e0] at HX HP
  have HE := hide e0
  clear e0
  have h := pw_pos hp
  have hc := pw_le hp
  have h1 : ¬ c < 1 := by omega
  have h2 : ¬ c = 0 := by omega
  have hw : IntKind.i64.wrap (c - 1) = c - 1 := wrapi (by omega) (by omega)
  have hb : (bits .and .i64 c (c - 1) != 0) = false := by
    have := and_pred c h (by omega)
    rw [hp] at this
    simp only [bne, this]; rfl
  have h4 : (t.tmod c == 0) = true := by rw [Int.tmod_eq_emod_of_nonneg ht]; simpa using hm
  have hw2 : IntKind.i64.wrap (u - c) = u - c := wrapi (by omega) (by omega)
  have h5 : (t % c == 0) = true := by simpa using hm
  clear hp
  go_enter Try.func37, Try.ntmps37
  go_upto_region 1 with fail
  rw [unhide HE]
  clear HE
  obtain ⟨p0, p1, -, -, pl⟩ := block2 (unhide HP)
  go_wp2_with fail
  go_ret
  exact ⟨rfl, unhide HX⟩

theorem fits_any (w : World) (t c u : Int) (hu : 0 ≤ u ∧ u ≤ 1073741824) (hc : c ≤ 9223372036854775807) :
    Calls Try.prog 37 #[.agg #[.int .i64 t, .int .i64 c], .int .i64 u] w fun e w' => e = .returned (.bool (fitB u (t, c))) ∧ Below w.heap.size w w' := by
  unfold fitB
  by_cases h : c < 1
  · have : pw c = false := by
      cases e : pw c with
      | false => rfl
      | true => have := pw_pos e; omega
    rw [this, Bool.false_and]
    exact fits_low w t c u hu h
  cases hp : pw c with
  | false =>
    rw [Bool.false_and]
    exact fits_odd w t c u hu (by omega) hc hp
  | true =>
    rw [Bool.true_and]
    by_cases ht : 0 ≤ t
    · rw [decide_eq_true ht, Bool.true_and]
      by_cases hm : t % c = 0
      · have : (t % c == 0) = true := by simpa using hm
        rw [this, Bool.true_and]
        exact fits_end w t c u hu hp ht hm
      · have : (t % c == 0) = false := by simpa using hm
        rw [this, Bool.false_and]
        exact fits_off w t c u hu hp ht hm
    · rw [decide_eq_false ht, Bool.false_and]
      exact fits_neg w t c u hu hp (by omega)

theorem enters_without : ∀ args w, (callFunc 45 args).run Try.prog w = .ok (.enter 45 args) w := fun _ _ => by kernel_rfl

set_option maxRecDepth 100000 in
set_option maxHeartbeats 1000000 in
theorem without1_any (w : World) (g : Nat) (x y t c : Int) (hg : w.heap[g]? = some (.cells #[.int .i64 x, .int .i64 y] 38 (0, 0))) :
    Calls Try.prog 45 #[.agg #[.int .i64 t, .int .i64 c], .pointer (some ⟨g, 0, none⟩)] w fun e w' => e = .returned (.bool (t == x && c == y)) ∧ Below w.heap.size w w' := by
  have HX := hide ((Below.refl w.heap.size w).alloc (Nat.le_refl _) (.cells #[.int .i64 t, .int .i64 c] 38))
  have HP := hide (new_block w (.cells #[.int .i64 t, .int .i64 c] 38))
  have HG := hide (keep_alloc hg (.cells #[.int .i64 t, .int .i64 c] 38))
  obtain ⟨W0, e0⟩ : ∃ W, w.alloc (.cells #[.int .i64 t, .int .i64 c] 38) = W := ⟨_, rfl⟩
  rw [e0] at HX HP HG
  have HE := hide e0
  clear e0 hg
  have hq : ∀ w, (Op.equalIn 10000 38 (.agg #[.int .i64 t, .int .i64 c]) (.agg #[.int .i64 x, .int .i64 y])).run Try.prog w = .ok (t == x && c == y) w := fun w => blk_eq w _ _ _ _
  obtain ⟨r, er⟩ : ∃ r, (t == x && c == y) = r := ⟨_, rfl⟩
  rw [er] at hq ⊢
  clear er
  go_enter Try.func45, Try.ntmps45
  go_upto_region 1 with fail
  rw [unhide HE]
  clear HE
  obtain ⟨p0, p1, -, -, pl⟩ := block2 (unhide HP)
  obtain ⟨q0, q1, -, -, ql⟩ := block2 (unhide HG)
  go_wp2_with fail
  go_ret
  exact ⟨rfl, unhide HX⟩

/-- The blocks but one. -/
def noB (x : Bl) (xs : List Bl) : List Bl := leftL (fun p => p.1 == x.1 && p.2 == x.2) xs
set_option maxRecDepth 100000 in
set_option maxHeartbeats 1000000 in
theorem without_any (w : World) (v : Value) (xs : List Bl) (x y : Int) (h : IsL KB w v xs) (hn : xs.length ≤ 100000) :
    Calls Try.prog 29 #[v, .agg #[.int .i64 x, .int .i64 y]] w fun e w' => ∃ a c, e = .returned (.slice a (noB (x, y) xs).length c) ∧ Own KB w.heap.size w' (.slice a (noB (x, y) xs).length c) (noB (x, y) xs) ∧ Below w.heap.size w w' := by
  obtain ⟨a0, c0, rfl⟩ := h.form
  have HX := hide ((Below.refl w.heap.size w).alloc (Nat.le_refl _) (.cells #[.int .i64 x, .int .i64 y] 38))
  have HG := hide (new_block w (.cells #[.int .i64 x, .int .i64 y] 38))
  have HL := hide (h.below (unhide HX))
  obtain ⟨m, em⟩ : ∃ m, (noB (x, y) xs).length = m := ⟨_, rfl⟩
  rw [em]
  have HM := hide em
  obtain ⟨n, en⟩ : ∃ n, xs.length = n := ⟨_, rfl⟩
  rw [en] at HL hn ⊢
  have HN := hide en
  clear h en em
  go_enter Try.func29, Try.ntmps29
  go_upto_region 1 with fail
  obtain ⟨W0, e0⟩ : ∃ W, w.alloc (.cells #[.int .i64 x, .int .i64 y] 38) = W := ⟨_, rfl⟩
  rw [e0] at HX HG HL ⊢
  clear e0
  have hwW : w.heap.size < W0.heap.size := size_of (unhide HG)
  have HFR := hide (fresh_any W0 _ xs (unhide HL) (by rw [unhide HN]; omega))
  rw [unhide HN] at HFR
  go_wp2_with (first
    | (go_at_call 42; refine (unhide HFR).mono ?_; rintro e w1 ⟨a1, c1, rfl, ho1, hb1⟩; have HO1 := hide ho1; have HX1 := hide (Below.next (unhide HX) hb1 (Nat.le_refl _)); have HG1 := hide (keep_below (unhide HG) hb1); clear ho1 hb1)
    | (go_at_call 44; refine (deleteFunc_any w1 W0.heap.size _ xs (unhide HO1) (by rw [unhide HN]; unfold maxLen; omega) 45 enters_without #[.pointer (some ⟨w.heap.size, 0, none⟩)] (fun p => p.1 == x && p.2 == y) (fun W z hW => without1_any W w.heap.size x y z.1 z.2 (keep_grown (unhide HG1) hW (fun j hj => by have := ((unhide HO1).lt j hj).1; omega)))).mono ?_; rintro e w2 ⟨a2, m2, c2, rfl, hm2, ho2, hv2, hg2⟩; have e2 : m2 = m := hm2.trans (unhide HM); subst e2; have HO2 := hide (ho2.base (unhide HX).size); have HX2 := hide ((unhide HX1).grown hg2 (unhide HX1).size (fun k hk => Nat.le_trans (unhide HX).size ((unhide HO1).lt k hk).1)); clear ho2 hg2 hv2 hm2))
  go_ret
  exact ⟨a2, c2, rfl, unhide HO2, unhide HX2⟩

set_option maxRecDepth 100000 in
set_option maxHeartbeats 1000000 in
theorem search_any (w : World) (n : Nat) (hn : n ≤ 100000) (k : Nat) (hent : ∀ args w, (callFunc k args).run Try.prog w = .ok (.enter k args) w) (caps : Array Value) (p : Nat → Bool)
    (hc : ∀ W (i : Nat), Below w.heap.size w W → i < n → Calls Try.prog k (#[.int .i64 (i : Int)] ++ caps) W fun e w' => e = .returned (.bool (p i)) ∧ Below W.heap.size W w') :
    Calls Try.prog 46 #[.int .i64 (n : Int), .func (.func k) #[] caps] w fun e w' => ∃ r : Nat, e = .returned (.int .i64 (r : Int)) ∧ r ≤ n ∧ (0 < r → p (r - 1) = false) ∧ (r < n → p r = true) ∧ Below w.heap.size w w' := by
  have HC := hide hc
  clear hc
  go_enter Try.func46, Try.ntmps46
  go_wp2
  go_loopw [5, 6] (fun s i wr => ∃ (a b : Nat), a ≤ b ∧ b ≤ n ∧ s = .int .i64 a ∧ i = .int .i64 b ∧ (0 < a → p (a - 1) = false) ∧ (b < n → p b = true) ∧ Below w.heap.size w wr) (fun s i _ => (intOf i).toNat - (intOf s).toNat)
  case atStart => exact ⟨0, n, Nat.zero_le _, Nat.le_refl _, rfl, rfl, fun h => by omega, fun h => by omega, Below.refl _ _⟩
  case round =>
    obtain ⟨a, b, hab, hbn, rfl, rfl, h1, h2, hnx⟩ := hrel
    have H1 := hide h1; have H2 := hide h2; have HX := hide hnx
    clear h1 h2 hnx
    by_cases hlt : a < b
    · obtain ⟨m, em⟩ : ∃ m, (a + b) / 2 = m := ⟨_, rfl⟩
      have hmb : m < b := by omega
      have ham : a ≤ m := by omega
      have i2 : (a : Int) < (b : Int) := by omega
      have w1 : IntKind.i64.wrap ((a : Int) + (b : Int)) = (a : Int) + (b : Int) := wrapi (by omega) (by omega)
      have w2 : ((a : Int) + (b : Int)) / 2 = (m : Int) := by omega
      have HCW := hide (unhide HC wr m (unhide HX) (by omega))
      obtain ⟨r, hr⟩ : ∃ r, p m = r := ⟨_, rfl⟩
      rw [hr] at HCW
      have HR := hide hr
      clear em hr HC
      cases r with
      | true =>
        go_wp2_with (refine (unhide HCW).mono ?_; rintro e w3 ⟨rfl, hb3⟩; have HX3 := hide (Below.next (unhide HX) hb3 (Nat.le_refl _)); clear hb3)
        go_roundw
        case rel => exact ⟨a, m, ham, by omega, rfl, rfl, unhide H1, fun _ => unhide HR, unhide HX3⟩
        case measure => simp [intOf]; omega
      | false =>
        go_wp2_with (refine (unhide HCW).mono ?_; rintro e w3 ⟨rfl, hb3⟩; have HX3 := hide (Below.next (unhide HX) hb3 (Nat.le_refl _)); clear hb3)
        go_roundw
        case rel => exact ⟨m + 1, b, by omega, hbn, by go_num, rfl, fun _ => unhide HR, unhide H2, unhide HX3⟩
        case measure => simp [intOf]; omega
    · have hab2 : a = b := by omega
      subst hab2
      have i2 : ¬ (a : Int) < (a : Int) := by omega
      go_wp2
      go_ret
      exact ⟨a, rfl, hbn, unhide H1, unhide H2, unhide HX⟩

end Go.Proofs.Ytomhfnjnmhdpkaa
