/-
  taskmillref.FindBlock, NoBlock, WithBlock.
-/
import Derived.Test.YtomhfnjnmhdpkaaX
namespace Go.Proofs.Ytomhfnjnmhdpkaa
open Go.RowKit

def isB (x : Bl) (p : Bl) : Bool := p.1 == x.1 && p.2 == x.2
theorem hasB_at {x : Bl} {xs : List Bl} {j : Nat} (hj : j < xs.length) (h : isB x (aAt xs j) = true) : hasB x xs = true := (any_aAt xs _).2 ⟨j, hj, h⟩
theorem hasB_none {x : Bl} {xs : List Bl} (h : ∀ i, i < xs.length → isB x (aAt xs i) = false) : hasB x xs = false := by
  rw [Bool.eq_false_iff]
  intro h1
  obtain ⟨i, hi, he⟩ := (any_aAt xs _).1 h1
  have := h i hi
  unfold isB at this
  rw [this] at he
  cases he
theorem noB_take {x : Bl} {xs : List Bl} {j : Nat} (hj : j < xs.length) : noB x (xs.take (j + 1)) = noB x (xs.take j) ++ (if isB x (aAt xs j) = true then [] else [aAt xs j]) := left_take hj

set_option maxRecDepth 100000 in
set_option maxHeartbeats 4000000 in
theorem find_any (w : World) (v : Value) (xs : List Bl) (x y : Int) (h : IsL KB w v xs) (hn : xs.length ≤ 100000) :
    Calls Try.prog 31 #[v, .agg #[.int .i64 x, .int .i64 y]] w fun e w' => ∃ r : Int, e = .returned (.int .i64 r) ∧ decide (0 ≤ r) = hasB (x, y) xs ∧ Below w.heap.size w w' := by
  obtain ⟨a0, c0, rfl⟩ := h.form
  have H0 := hide (h.opens kb rfl)
  have HHA := hide (fun j hj h => @hasB_at (x, y) xs j hj h)
  have HHN := hide (fun h => @hasB_none (x, y) xs h)
  obtain ⟨n, en⟩ : ∃ n, xs.length = n := ⟨_, rfl⟩
  rw [en] at H0 hn HHA HHN ⊢
  have HN := hide en
  have HX0 := hide ((Below.refl w.heap.size w).alloc (Nat.le_refl _) (.cells #[.int .i64 x, .int .i64 y] 38))
  have HP0 := hide (new_block w (.cells #[.int .i64 x, .int .i64 y] 38))
  obtain ⟨W0, e0⟩ : ∃ W, w.alloc (.cells #[.int .i64 x, .int .i64 y] 38) = W := ⟨_, rfl⟩
  rw [e0] at HX0 HP0
  have HE := hide e0
  clear h en e0
  go_enter Try.func31, Try.ntmps31
  go_upto_region 1 with fail
  rw [unhide HE]
  clear HE
  go_wp2
  go_loopw [5] (fun i wr => ∃ j : Nat, j ≤ n ∧ i = .int .i64 (j : Int) ∧ Hid (∀ i, i < j → isB (x, y) (aAt xs i) = false) ∧ Hid (wr.heap[w.heap.size]? = some (.cells #[.int .i64 x, .int .i64 y] 38 (0, 0))) ∧ Hid (Below w.heap.size w wr)) (fun i _ => n - (intOf i).toNat)
  case atStart => exact ⟨0, Nat.zero_le _, rfl, hide (fun i hi => absurd hi (Nat.not_lt_zero _)), HP0, HX0⟩
  case round =>
    obtain ⟨j, hj, rfl, HF, HP, HX⟩ := hrel
    clear HP0 HX0
    by_cases hlt : j < n
    · obtain ⟨b0, o0, rfl, hb0, l0⟩ := unhide H0 (by omega)
      obtain ⟨⟨t, c⟩, hx⟩ : ∃ z, aAt xs j = z := ⟨_, rfl⟩
      obtain ⟨k0, k1⟩ := (l0.below (unhide HX) hb0).block (j := j) (by rw [unhide HN]; exact hlt) hx
      obtain ⟨p0, p1, -, -, pl⟩ := block2 (unhide HP)
      have i0 : (0 : Int) ≤ (j : Int) := by omega
      have i1 : (j : Int) < (n : Int) := by omega
      have HHJ := hide (unhide HHA j hlt)
      rw [hx] at HHJ
      obtain ⟨R, eR⟩ : ∃ R, isB (x, y) (t, c) = R := ⟨_, rfl⟩
      have hq : ∀ w, (Op.equalIn 10000 38 (.agg #[.int .i64 t, .int .i64 c]) (.agg #[.int .i64 x, .int .i64 y])).run Try.prog w = .ok R w := fun w => by rw [blk_eq, ← eR]; rfl
      rw [eR] at HHJ
      have HR : Hid (isB (x, y) (aAt xs j) = R) := by rw [hx]; exact eR
      clear hx l0 hb0 H0 eR HHA
      cases R with
      | true =>
        have HT := hide (unhide HHJ rfl)
        go_wp2_with fail
        go_quiet (fail)
        have HX2 := hide (below_drewN (unhide HX) nq)
        go_wp2_with fail
        go_ret
        exact ⟨(j : Int), rfl, by rw [unhide HT]; exact decide_eq_true i0, unhide HX2⟩
      | false =>
        go_wp2_with fail
        go_quiet (fail)
        have HX2 := hide (below_drewN (unhide HX) nq)
        have HP2 := hide (keep_below (unhide HP) (below_drewN (Below.refl _ _) nq))
        go_wp2_with fail
        go_roundw
        case rel => exact ⟨j + 1, by omega, by go_num, hide (fun i hi => by
          rcases Nat.lt_or_eq_of_le (Nat.le_of_lt_succ hi) with h | h
          · exact unhide HF i h
          · rw [h]; exact unhide HR), HP2, HX2⟩
        case measure => simp [intOf]; omega
    · obtain rfl : j = n := by omega
      have i1 : ¬ (j : Int) < (j : Int) := by omega
      have HT := hide (unhide HHN (unhide HF))
      go_wp2_with fail
      go_ret
      exact ⟨-1, rfl, by rw [unhide HT]; rfl, unhide HX⟩

set_option maxRecDepth 100000 in
set_option maxHeartbeats 4000000 in
theorem refNo_any (w : World) (v : Value) (xs : List Bl) (x y : Int) (h : IsL KB w v xs) (hn : xs.length ≤ 100000) :
    Calls Try.prog 33 #[v, .agg #[.int .i64 x, .int .i64 y]] w fun e w' => ∃ a cp, e = .returned (.slice a (noB (x, y) xs).length cp) ∧ Own KB w.heap.size w' (.slice a (noB (x, y) xs).length cp) (noB (x, y) xs) ∧ Below w.heap.size w w' := by
  obtain ⟨a0, c0, rfl⟩ := h.form
  have H0 := hide (h.opens kb rfl)
  have HNX := hide (fun j hj => @noB_take (x, y) xs j hj)
  have HFIN : Hid (noB (x, y) xs = noB (x, y) (xs.take xs.length)) := by rw [List.take_length]; exact rfl
  have HLE := hide (fun j => (noB_sub (x, y) (xs.take j)).length_le)
  obtain ⟨n, en⟩ : ∃ n, xs.length = n := ⟨_, rfl⟩
  rw [en] at H0 hn HNX HFIN ⊢
  have HN := hide en
  have HX0 := hide ((Below.refl w.heap.size w).alloc (Nat.le_refl _) (.cells #[.int .i64 x, .int .i64 y] 38))
  have HP0 := hide (new_block w (.cells #[.int .i64 x, .int .i64 y] 38))
  obtain ⟨W0, e0⟩ : ∃ W, w.alloc (.cells #[.int .i64 x, .int .i64 y] 38) = W := ⟨_, rfl⟩
  rw [e0] at HX0 HP0
  have HE := hide e0
  clear h en e0
  go_enter Try.func33, Try.ntmps33
  go_upto_region 1 with fail
  rw [unhide HE]
  clear HE
  have HON := hide (own_nil (K := KB) (w.heap.size + 1) W0)
  go_wp2
  go_loopw [5, 6] (fun s i wr => ∃ (j r : Nat) (a : Option Addr) (cp : Nat), j ≤ n ∧ i = .int .i64 (j : Int) ∧ s = .slice a r cp ∧ r ≤ j ∧ Hid ((noB (x, y) (xs.take j)).length = r) ∧ Hid (Own KB (w.heap.size + 1) wr (.slice a r cp) (noB (x, y) (xs.take j))) ∧ Hid (wr.heap[w.heap.size]? = some (.cells #[.int .i64 x, .int .i64 y] 38 (0, 0))) ∧ Hid (Below w.heap.size w wr)) (fun _ i _ => n - (intOf i).toNat)
  case atStart => exact ⟨0, 0, none, 0, Nat.zero_le _, rfl, rfl, Nat.le_refl _, hide rfl, HON, HP0, HX0⟩
  case round =>
    obtain ⟨j, r, a, cp, hj, rfl, rfl, hr, HL, HO, HP, HX⟩ := hrel
    clear HP0 HX0 HON
    by_cases hlt : j < n
    · obtain ⟨b0, o0, rfl, hb0, l0⟩ := unhide H0 (by omega)
      obtain ⟨⟨t, c⟩, hx⟩ : ∃ z, aAt xs j = z := ⟨_, rfl⟩
      have hjn : j < xs.length := by rw [unhide HN]; exact hlt
      have HCL := hide (fun W (hW : Below w.heap.size w W) => (l0.below hW hb0).block (j := j) hjn hx)
      obtain ⟨k0, k1⟩ := unhide HCL _ (unhide HX)
      obtain ⟨p0, p1, -, -, pl⟩ := block2 (unhide HP)
      have i0 : (0 : Int) ≤ (j : Int) := by omega
      have i1 : (j : Int) < (n : Int) := by omega
      have HNJ := hide (unhide HNX j hlt)
      rw [hx] at HNJ
      obtain ⟨R, eR⟩ : ∃ R, isB (x, y) (t, c) = R := ⟨_, rfl⟩
      have hq : ∀ w, (Op.equalIn 10000 38 (.agg #[.int .i64 t, .int .i64 c]) (.agg #[.int .i64 x, .int .i64 y])).run Try.prog w = .ok R w := fun w => by rw [blk_eq, ← eR]; rfl
      rw [eR] at HNJ
      clear hx l0 hb0 H0 eR hjn HNX
      cases R with
      | true =>
        have HNJ2 : Hid (noB (x, y) (xs.take (j + 1)) = noB (x, y) (xs.take j)) := by rw [unhide HNJ, if_pos rfl, List.append_nil]; exact rfl
        go_wp2_with fail
        go_quiet (fail)
        have hbq : Below wr.heap.size wr (wr.drewN nq) := below_drewN (Below.refl _ _) nq
        have HX2 := hide (below_drewN (unhide HX) nq)
        have HP2 := hide (keep_below (unhide HP) hbq)
        have HO2 := hide ((unhide HO).below hbq)
        clear hbq
        go_wp2_with fail
        go_roundw
        case rel => exact ⟨j + 1, r, a, cp, by omega, by go_num, rfl, by omega, by rw [unhide HNJ2]; exact HL, by rw [unhide HNJ2]; exact HO2, HP2, HX2⟩
        case measure => simp [intOf]; omega
      | false =>
        have HNJ2 : Hid (noB (x, y) (xs.take (j + 1)) = noB (x, y) (xs.take j) ++ [(t, c)]) := by rw [unhide HNJ, if_neg (by decide)]; exact rfl
        go_wp2_with fail
        go_quiet (fail)
        have hbq : Below wr.heap.size wr (wr.drewN nq) := below_drewN (Below.refl _ _) nq
        have HX2 := hide (below_drewN (unhide HX) nq)
        have HP2 := hide (keep_below (unhide HP) hbq)
        have HO2 := hide ((unhide HO).below hbq)
        obtain ⟨V, eV⟩ : ∃ V, wr.drewN nq = V := ⟨_, rfl⟩
        rw [eV] at HX2 HP2 HO2 ⊢
        clear hbq eV k0 k1 p0 p1 pl HX HP HO
        obtain ⟨k0, k1⟩ := unhide HCL _ (unhide HX2)
        have HX3 := hide ((unhide HX2).alloc (unhide HX2).size (.cells #[.int .i64 t, .int .i64 c] 38))
        have HP3 := hide (keep_alloc (unhide HP2) (.cells #[.int .i64 t, .int .i64 c] 38))
        have HO3 := hide ((unhide HO2).below ((Below.refl _ _).alloc (Nat.le_refl _) (.cells #[.int .i64 t, .int .i64 c] 38)))
        have HI3 : Hid (IsL KB (V.alloc (.cells #[.int .i64 t, .int .i64 c] 38)) (.slice (some ⟨V.heap.size, 0, none⟩) 1 1) [(t, c)]) := isl_one kb V (t, c)
        have HSZ : Hid (w.heap.size + 1 ≤ (V.alloc (.cells #[.int .i64 t, .int .i64 c] 38)).heap.size) := size_of (unhide HP3)
        clear HX2 HP2 HO2 HCL
        go_wp2_with (at_builtin; refine wpList_append kb rfl _ _ rfl (w.heap.size + 1) _ (noB (x, y) (xs.take j)) rfl (unhide HO3) _ [(t, c)] rfl (unhide HI3) (r + 1) (by simp [unhide HL]) (by simp [KB]; omega) (unhide HSZ) ?_; intro a7 c7 w7 ho7 hg7; have HO7 := hide ho7; have HX7 := hide ((unhide HX3).grown hg7 (unhide HX3).size (fun k hk => by have := ((unhide HO3).lt k hk).1; omega)); have HP7 := hide (keep_grown (unhide HP3) hg7 (fun k hk => by have := ((unhide HO3).lt k hk).1; omega)); clear ho7 hg7)
        go_roundw
        case rel => exact ⟨j + 1, r + 1, a7, c7, by omega, by go_num, rfl, by omega, hide (by rw [unhide HNJ2, List.length_append, unhide HL]; rfl), by rw [unhide HNJ2]; exact HO7, HP7, HX7⟩
        case measure => simp [intOf]; omega
    · obtain rfl : j = n := by omega
      have i1 : ¬ (j : Int) < (j : Int) := by omega
      go_wp2_with fail
      go_ret
      rw [unhide HFIN, unhide HL]
      exact ⟨a, cp, rfl, (unhide HO).base (by omega), unhide HX⟩

/-- taskmillref.WithBlock, block by block: the list so far, and whether the new one is in it. -/
def wStep (x : Bl) (s : List Bl × Bool) (y : Bl) : List Bl × Bool := if !s.2 && decide (x.1 < y.1) then (s.1 ++ [x] ++ [y], true) else (s.1 ++ [y], s.2)
def wAll (x : Bl) (xs : List Bl) : List Bl × Bool := xs.foldl (wStep x) ([], false)
theorem wAll_next {x : Bl} {xs : List Bl} {j : Nat} (h : j < xs.length) : wAll x (xs.take (j + 1)) = wStep x (wAll x (xs.take j)) (aAt xs j) := by
  unfold wAll
  rw [take_at h, List.foldl_append]
  rfl
theorem wAll_true (x : Bl) : ∀ (xs o : List Bl), xs.foldl (wStep x) (o, true) = (o ++ xs, true)
  | [], o => by simp
  | y :: ys, o => by
    rw [List.foldl_cons]
    show ys.foldl (wStep x) (o ++ [y], true) = _
    rw [wAll_true x ys]
    simp
theorem wAll_low {x : Bl} : ∀ (xs o : List Bl), (∀ y ∈ xs, ¬ x.1 < y.1) → xs.foldl (wStep x) (o, false) = (o ++ xs, false)
  | [], o, _ => by simp
  | y :: ys, o, h => by
    rw [List.foldl_cons]
    have e : wStep x (o, false) y = (o ++ [y], false) := by
      unfold wStep
      have := h y (by simp)
      simp [this]
    rw [e, wAll_low ys _ (fun z hz => h z (List.mem_cons_of_mem _ hz))]
    simp
theorem wAll_insB {x : Bl} {xs : List Bl} (hr : Rise xs) (hne : ∀ y ∈ xs, y.1 ≠ x.1) : (if (wAll x xs).2 = true then (wAll x xs).1 else (wAll x xs).1 ++ [x]) = insB x xs := by
  have e : wAll x xs = (xs.drop (placeN x.1 xs)).foldl (wStep x) (xs.take (placeN x.1 xs), false) := by
    have h1 := wAll_low (x := x) (xs.take (placeN x.1 xs)) [] (fun y hy => by have := take_lt y hy; omega)
    unfold wAll
    conv => lhs; rw [← List.take_append_drop (placeN x.1 xs) xs]
    rw [List.foldl_append, h1]
    rfl
  unfold insB putAt
  cases hd : xs.drop (placeN x.1 xs) with
  | nil =>
    rw [hd] at e
    rw [e]
    simp
  | cons y ys =>
    rw [hd, List.foldl_cons] at e
    have hy : x.1 < y.1 := by
      have h1 := drop_ge hr y (by rw [hd]; simp)
      have h2 := hne y (List.mem_of_mem_drop (i := placeN x.1 xs) (by rw [hd]; simp))
      omega
    have e2 : wStep x (xs.take (placeN x.1 xs), false) y = (xs.take (placeN x.1 xs) ++ [x] ++ [y], true) := by
      unfold wStep
      simp [hy]
    rw [e2, wAll_true] at e
    rw [e]
    simp

set_option maxRecDepth 100000 in
set_option maxHeartbeats 4000000 in
theorem refWith_any (w : World) (v : Value) (xs : List Bl) (x y : Int) (h : IsL KB w v xs) (hn : xs.length ≤ 100000) (hr : Rise xs) (hne : ∀ z ∈ xs, z.1 ≠ x) :
    Calls Try.prog 34 #[v, .agg #[.int .i64 x, .int .i64 y]] w fun e w' => ∃ a cp, e = .returned (.slice a (xs.length + 1) cp) ∧ Own KB w.heap.size w' (.slice a (xs.length + 1) cp) (insB (x, y) xs) ∧ Below w.heap.size w w' := by
  have hins := wAll_insB (x := (x, y)) hr hne
  obtain ⟨FL, eFL⟩ : ∃ X, insB (x, y) xs = X := ⟨_, rfl⟩
  have HFD : Hid (FL = if (wAll (x, y) xs).2 = true then (wAll (x, y) xs).1 else (wAll (x, y) xs).1 ++ [(x, y)]) := by rw [hins, eFL]; exact rfl
  have HLI : Hid (FL.length = xs.length + 1) := by rw [← eFL, insB_len]; exact rfl
  rw [eFL]
  obtain ⟨a0, c0, rfl⟩ := h.form
  have H0 := hide (h.opens kb rfl)
  have HNX := hide (fun j hj => @wAll_next (x, y) xs j hj)
  have HFIN : Hid (wAll (x, y) xs = wAll (x, y) (xs.take xs.length)) := by rw [List.take_length]; exact rfl
  obtain ⟨n, en⟩ : ∃ n, xs.length = n := ⟨_, rfl⟩
  rw [en] at H0 hn HNX HFIN HLI ⊢
  have HN := hide en
  have HX0 := hide ((Below.refl w.heap.size w).alloc (Nat.le_refl _) (.cells #[.int .i64 x, .int .i64 y] 38))
  have HP0 := hide (new_block w (.cells #[.int .i64 x, .int .i64 y] 38))
  obtain ⟨W0, e0⟩ : ∃ W, w.alloc (.cells #[.int .i64 x, .int .i64 y] 38) = W := ⟨_, rfl⟩
  rw [e0] at HX0 HP0
  have HE := hide e0
  clear h en e0 hr hne hins eFL
  go_enter Try.func34, Try.ntmps34
  go_upto_region 1 with fail
  rw [unhide HE]
  clear HE
  have HON := hide (own_nil (K := KB) (w.heap.size + 1) W0)
  go_wp2
  go_loopw [5, 6, 7] (fun s f i wr => ∃ (j r : Nat) (a : Option Addr) (cp : Nat) (fl : Bool), j ≤ n ∧ i = .int .i64 (j : Int) ∧ s = .slice a r cp ∧ f = .bool fl ∧ r ≤ j + 1 ∧ Hid ((wAll (x, y) (xs.take j)).2 = fl) ∧ Hid ((wAll (x, y) (xs.take j)).1.length = r) ∧ Hid (Own KB (w.heap.size + 1) wr (.slice a r cp) (wAll (x, y) (xs.take j)).1) ∧ Hid (wr.heap[w.heap.size]? = some (.cells #[.int .i64 x, .int .i64 y] 38 (0, 0))) ∧ Hid (Below w.heap.size w wr) ∧ Hid (fl = false → r = j)) (fun _ _ i _ => n - (intOf i).toNat)
  case atStart => exact ⟨0, 0, none, 0, false, Nat.zero_le _, rfl, rfl, rfl, by omega, hide rfl, hide rfl, HON, HP0, HX0, hide (fun _ => rfl)⟩
  case round =>
    obtain ⟨j, r, a, cp, fl, hj, rfl, rfl, rfl, hr, HFL, HL, HO, HP, HX, HRJ⟩ := hrel
    clear HP0 HX0 HON
    by_cases hlt : j < n
    · obtain ⟨b0, o0, rfl, hb0, l0⟩ := unhide H0 (by omega)
      obtain ⟨⟨t, c⟩, hx⟩ : ∃ z, aAt xs j = z := ⟨_, rfl⟩
      have hjn : j < xs.length := by rw [unhide HN]; exact hlt
      have HCL := hide (fun W (hW : Below w.heap.size w W) => (l0.below hW hb0).block (j := j) hjn hx)
      obtain ⟨k0, k1⟩ := unhide HCL _ (unhide HX)
      obtain ⟨p0, p1, -, -, pl⟩ := block2 (unhide HP)
      have i0 : (0 : Int) ≤ (j : Int) := by omega
      have i1 : (j : Int) < (n : Int) := by omega
      have HNJ := hide (unhide HNX j hlt)
      rw [hx] at HNJ
      obtain ⟨⟨zs, fb⟩, eZ⟩ : ∃ Z, wAll (x, y) (xs.take j) = Z := ⟨_, rfl⟩
      rw [eZ] at HFL HL HO HNJ
      have hfb : fb = fl := unhide HFL
      subst hfb
      have HL2 : Hid (zs.length = r) := HL
      have HO2 : Hid (Own KB (w.heap.size + 1) wr (.slice a r cp) zs) := HO
      clear hx l0 hb0 H0 hjn HNX HFL HL HO eZ
      cases fb with
      | true =>
        have HNJ2 : Hid (wAll (x, y) (xs.take (j + 1)) = (zs ++ [(t, c)], true)) := unhide HNJ
        go_wp2_with fail
        go_quiet (fail)
        have hbq : Below wr.heap.size wr (wr.drewN nq) := below_drewN (Below.refl _ _) nq
        have HX3 := hide (below_drewN (unhide HX) nq)
        have HP3 := hide (keep_below (unhide HP) hbq)
        have HO3 := hide ((unhide HO2).below hbq)
        obtain ⟨V, eV⟩ : ∃ V, wr.drewN nq = V := ⟨_, rfl⟩
        rw [eV] at HX3 HP3 HO3 ⊢
        clear hbq eV k0 k1 p0 p1 pl HX HP HO2
        obtain ⟨k0, k1⟩ := unhide HCL _ (unhide HX3)
        have HXa3 := hide ((unhide HX3).alloc (unhide HX3).size (.cells #[.int .i64 t, .int .i64 c] 38))
        have HPa3 := hide (keep_alloc (unhide HP3) (.cells #[.int .i64 t, .int .i64 c] 38))
        have HOa3 := hide ((unhide HO3).below ((Below.refl _ _).alloc (Nat.le_refl _) (.cells #[.int .i64 t, .int .i64 c] 38)))
        have HIa3 : Hid (IsL KB (V.alloc (.cells #[.int .i64 t, .int .i64 c] 38)) (.slice (some ⟨V.heap.size, 0, none⟩) 1 1) [(t, c)]) := isl_one kb V (t, c)
        have HSa3 : Hid (w.heap.size + 1 ≤ (V.alloc (.cells #[.int .i64 t, .int .i64 c] 38)).heap.size) := size_of (unhide HPa3)
        clear HX3 HP3 HO3 HCL
        go_wp2_with (at_builtin; refine wpList_append kb rfl _ _ rfl (w.heap.size + 1) _ zs rfl (unhide HOa3) _ [(t, c)] rfl (unhide HIa3) (r + 1) (by simp [unhide HL2]) (by simp [KB]; omega) (unhide HSa3) ?_; intro a7 c7 w7 ho7 hg7; have HO7 := hide ho7; have HX7 := hide ((unhide HXa3).grown hg7 (unhide HXa3).size (fun k hk => by have := ((unhide HOa3).lt k hk).1; omega)); have HP7 := hide (keep_grown (unhide HPa3) hg7 (fun k hk => by have := ((unhide HOa3).lt k hk).1; omega)); clear ho7 hg7)
        go_roundw
        case rel => exact ⟨j + 1, r + 1, a7, c7, true, by omega, by go_num, rfl, rfl, by omega, hide (by rw [unhide HNJ2] <;> rfl), hide (by rw [unhide HNJ2]; show (zs ++ [(t, c)]).length = _; rw [List.length_append, unhide HL2]; rfl), by rw [unhide HNJ2]; exact HO7, HP7, HX7, hide (fun h => by cases h)⟩
        case measure => simp [intOf]; omega
      | false =>
        by_cases hgt : x < t
        · have HNJ2 : Hid (wAll (x, y) (xs.take (j + 1)) = (zs ++ [(x, y)] ++ [(t, c)], true)) := by
            rw [unhide HNJ]; unfold wStep; simp [hgt]; exact hide trivial
          go_wp2_with fail
          go_quiet (fail)
          have hbq : Below wr.heap.size wr (wr.drewN nq) := below_drewN (Below.refl _ _) nq
          have HX3 := hide (below_drewN (unhide HX) nq)
          have HP3 := hide (keep_below (unhide HP) hbq)
          have HO3 := hide ((unhide HO2).below hbq)
          obtain ⟨V, eV⟩ : ∃ V, wr.drewN nq = V := ⟨_, rfl⟩
          rw [eV] at HX3 HP3 HO3 ⊢
          clear hbq eV k0 k1 p0 p1 pl HX HP HO2
          obtain ⟨p0, p1, -, -, pl⟩ := block2 (unhide HP3)
          have HXa3 := hide ((unhide HX3).alloc (unhide HX3).size (.cells #[.int .i64 x, .int .i64 y] 38))
          have HPa3 := hide (keep_alloc (unhide HP3) (.cells #[.int .i64 x, .int .i64 y] 38))
          have HOa3 := hide ((unhide HO3).below ((Below.refl _ _).alloc (Nat.le_refl _) (.cells #[.int .i64 x, .int .i64 y] 38)))
          have HIa3 : Hid (IsL KB (V.alloc (.cells #[.int .i64 x, .int .i64 y] 38)) (.slice (some ⟨V.heap.size, 0, none⟩) 1 1) [(x, y)]) := isl_one kb V (x, y)
          have HSa3 : Hid (w.heap.size + 1 ≤ (V.alloc (.cells #[.int .i64 x, .int .i64 y] 38)).heap.size) := size_of (unhide HPa3)
          clear HX3 HP3 HO3
          go_upto_region 9 with (at_builtin; refine wpList_append kb rfl _ _ rfl (w.heap.size + 1) _ zs rfl (unhide HOa3) _ [(x, y)] rfl (unhide HIa3) (r + 1) (by simp [unhide HL2]) (by simp [KB]; omega) (unhide HSa3) ?_; intro a6 c6 w6 ho6 hg6; have HO6 := hide ho6; have HX6 := hide ((unhide HXa3).grown hg6 (unhide HXa3).size (fun k hk => by have := ((unhide HOa3).lt k hk).1; omega)); have HP6 := hide (keep_grown (unhide HPa3) hg6 (fun k hk => by have := ((unhide HOa3).lt k hk).1; omega)); clear ho6 hg6)
          clear p0 p1 pl
          obtain ⟨k0, k1⟩ := unhide HCL _ (unhide HX6)
          have HXa6 := hide ((unhide HX6).alloc (unhide HX6).size (.cells #[.int .i64 t, .int .i64 c] 38))
          have HPa6 := hide (keep_alloc (unhide HP6) (.cells #[.int .i64 t, .int .i64 c] 38))
          have HOa6 := hide ((unhide HO6).below ((Below.refl _ _).alloc (Nat.le_refl _) (.cells #[.int .i64 t, .int .i64 c] 38)))
          have HIa6 : Hid (IsL KB (w6.alloc (.cells #[.int .i64 t, .int .i64 c] 38)) (.slice (some ⟨w6.heap.size, 0, none⟩) 1 1) [(t, c)]) := isl_one kb w6 (t, c)
          have HSa6 : Hid (w.heap.size + 1 ≤ (w6.alloc (.cells #[.int .i64 t, .int .i64 c] 38)).heap.size) := size_of (unhide HPa6)
          clear HX6 HP6 HO6 HCL
          go_wp2_with (at_builtin; refine wpList_append kb rfl _ _ rfl (w.heap.size + 1) _ (zs ++ [(x, y)]) rfl (unhide HOa6) _ [(t, c)] rfl (unhide HIa6) (r + 1 + 1) (by simp [unhide HL2]) (by simp [KB]; omega) (unhide HSa6) ?_; intro a7 c7 w7 ho7 hg7; have HO7 := hide ho7; have HX7 := hide ((unhide HXa6).grown hg7 (unhide HXa6).size (fun k hk => by have := ((unhide HOa6).lt k hk).1; omega)); have HP7 := hide (keep_grown (unhide HPa6) hg7 (fun k hk => by have := ((unhide HOa6).lt k hk).1; omega)); clear ho7 hg7)
          go_roundw
          case rel => exact ⟨j + 1, r + 1 + 1, a7, c7, true, by omega, by go_num, rfl, rfl, by have := unhide HRJ (by trivial); omega, hide (by rw [unhide HNJ2] <;> rfl), hide (by rw [unhide HNJ2]; show (zs ++ [(x, y)] ++ [(t, c)]).length = _; rw [List.length_append, List.length_append, unhide HL2]; rfl), by rw [unhide HNJ2]; exact HO7, HP7, HX7, hide (fun h => by cases h)⟩
          case measure => simp [intOf]; omega
        · have HNJ2 : Hid (wAll (x, y) (xs.take (j + 1)) = (zs ++ [(t, c)], false)) := by
            rw [unhide HNJ]; unfold wStep; simp [hgt]; exact hide trivial
          go_wp2_with fail
          go_quiet (fail)
          have hbq : Below wr.heap.size wr (wr.drewN nq) := below_drewN (Below.refl _ _) nq
          have HX3 := hide (below_drewN (unhide HX) nq)
          have HP3 := hide (keep_below (unhide HP) hbq)
          have HO3 := hide ((unhide HO2).below hbq)
          obtain ⟨V, eV⟩ : ∃ V, wr.drewN nq = V := ⟨_, rfl⟩
          rw [eV] at HX3 HP3 HO3 ⊢
          clear hbq eV k0 k1 p0 p1 pl HX HP HO2
          obtain ⟨k0, k1⟩ := unhide HCL _ (unhide HX3)
          have HXa3 := hide ((unhide HX3).alloc (unhide HX3).size (.cells #[.int .i64 t, .int .i64 c] 38))
          have HPa3 := hide (keep_alloc (unhide HP3) (.cells #[.int .i64 t, .int .i64 c] 38))
          have HOa3 := hide ((unhide HO3).below ((Below.refl _ _).alloc (Nat.le_refl _) (.cells #[.int .i64 t, .int .i64 c] 38)))
          have HIa3 : Hid (IsL KB (V.alloc (.cells #[.int .i64 t, .int .i64 c] 38)) (.slice (some ⟨V.heap.size, 0, none⟩) 1 1) [(t, c)]) := isl_one kb V (t, c)
          have HSa3 : Hid (w.heap.size + 1 ≤ (V.alloc (.cells #[.int .i64 t, .int .i64 c] 38)).heap.size) := size_of (unhide HPa3)
          clear HX3 HP3 HO3 HCL
          go_wp2_with (at_builtin; refine wpList_append kb rfl _ _ rfl (w.heap.size + 1) _ zs rfl (unhide HOa3) _ [(t, c)] rfl (unhide HIa3) (r + 1) (by simp [unhide HL2]) (by simp [KB]; omega) (unhide HSa3) ?_; intro a7 c7 w7 ho7 hg7; have HO7 := hide ho7; have HX7 := hide ((unhide HXa3).grown hg7 (unhide HXa3).size (fun k hk => by have := ((unhide HOa3).lt k hk).1; omega)); have HP7 := hide (keep_grown (unhide HPa3) hg7 (fun k hk => by have := ((unhide HOa3).lt k hk).1; omega)); clear ho7 hg7)
          go_roundw
          case rel => exact ⟨j + 1, r + 1, a7, c7, false, by omega, by go_num, rfl, rfl, by omega, hide (by rw [unhide HNJ2] <;> rfl), hide (by rw [unhide HNJ2]; show (zs ++ [(t, c)]).length = _; rw [List.length_append, unhide HL2]; rfl), by rw [unhide HNJ2]; exact HO7, HP7, HX7, hide (fun _ => by have := unhide HRJ (by trivial); omega)⟩
          case measure => simp [intOf]; omega
    · obtain rfl : j = n := by omega
      have i1 : ¬ (j : Int) < (j : Int) := by omega
      have HOF := HO
      obtain ⟨⟨zs, fb⟩, eZ⟩ : ∃ Z, wAll (x, y) (xs.take j) = Z := ⟨_, rfl⟩
      rw [eZ] at HFL HL HO HFIN
      have hfb : fb = fl := unhide HFL
      subst hfb
      have HL2 : Hid (zs.length = r) := HL
      have HO2 : Hid (Own KB (w.heap.size + 1) wr (.slice a r cp) zs) := HO
      have hFD := unhide HFD
      rw [unhide HFIN] at hFD
      have HFD2 := hide hFD
      clear HFL HL HO HOF eZ hFD HFD
      cases fb with
      | true =>
        go_wp2_with fail
        go_ret
        have e1 : FL = zs := unhide HFD2
        have hl := unhide HLI
        rw [e1] at hl ⊢
        have hl2 := unhide HL2
        have e : r = j + 1 := by omega
        subst e
        exact ⟨a, cp, rfl, (unhide HO2).base (by omega), unhide HX⟩
      | false =>
        obtain ⟨p0, p1, -, -, pl⟩ := block2 (unhide HP)
        have HX3 := hide ((unhide HX).alloc (unhide HX).size (.cells #[.int .i64 x, .int .i64 y] 38))
        have HP3 := hide (keep_alloc (unhide HP) (.cells #[.int .i64 x, .int .i64 y] 38))
        have HO3 := hide ((unhide HO2).below ((Below.refl _ _).alloc (Nat.le_refl _) (.cells #[.int .i64 x, .int .i64 y] 38)))
        have HI3 : Hid (IsL KB (wr.alloc (.cells #[.int .i64 x, .int .i64 y] 38)) (.slice (some ⟨wr.heap.size, 0, none⟩) 1 1) [(x, y)]) := isl_one kb wr (x, y)
        have HSZ : Hid (w.heap.size + 1 ≤ (wr.alloc (.cells #[.int .i64 x, .int .i64 y] 38)).heap.size) := size_of (unhide HP3)
        go_wp2_with (at_builtin; refine wpList_append kb rfl _ _ rfl (w.heap.size + 1) _ zs rfl (unhide HO3) _ [(x, y)] rfl (unhide HI3) (r + 1) (by simp [unhide HL2]) (by simp [KB]; omega) (unhide HSZ) ?_; intro a7 c7 w7 ho7 hg7; have HO7 := hide ho7; have HX7 := hide ((unhide HX3).grown hg7 (unhide HX3).size (fun k hk => by have := ((unhide HO3).lt k hk).1; omega)); clear ho7 hg7)
        go_ret
        have e : r = j := unhide HRJ (by trivial)
        subst e
        have e1 : FL = zs ++ [(x, y)] := unhide HFD2
        rw [e1]
        exact ⟨a7, c7, rfl, (unhide HO7).base (by omega), unhide HX7⟩
end Go.Proofs.Ytomhfnjnmhdpkaa
