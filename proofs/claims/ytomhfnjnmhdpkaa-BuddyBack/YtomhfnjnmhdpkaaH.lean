/-
  slices.ContainsFunc; buddy.hasMates, with.
-/
import Derived.Test.YtomhfnjnmhdpkaaG
namespace Go.Proofs.Ytomhfnjnmhdpkaa
open Go.RowKit

/-- A block's mate. -/
def mateB (x : Bl) : Bl := (mateS x.1 x.2, x.2)
/-- Has one of the blocks a mate in the list? -/
def matesL (xs : List Bl) : Bool := xs.any fun x => hasB (mateB x) xs
/-- What is known of a block that may stand in a space. -/
theorem fit_parts {u : Int} {x : Bl} (h : fitB u x = true) : pw x.2 = true ∧ 0 ≤ x.1 ∧ x.1 % x.2 = 0 ∧ x.1 ≤ u - x.2 := by
  unfold fitB at h
  simp only [Bool.and_eq_true, decide_eq_true_eq, beq_iff_eq] at h
  exact ⟨h.1, h.2.1, h.2.2.1, h.2.2.2⟩

set_option maxRecDepth 100000 in
set_option maxHeartbeats 2000000 in
theorem containsFunc_at (w : World) (v : Value) (xs : List Bl) (h : IsL KB w v xs) (hn : xs.length ≤ maxLen) (k : Nat) (hent : ∀ args w, (callFunc k args).run Try.prog w = .ok (.enter k args) w) (caps : Array Value) (p : Bl → Bool)
    (hc : ∀ W x, x ∈ xs → Below w.heap.size w W → Calls Try.prog k (#[.agg #[.int .i64 x.1, .int .i64 x.2]] ++ caps) W fun e w' => e = .returned (.bool (p x)) ∧ Below W.heap.size W w') :
    Calls Try.prog 38 #[v, .func (.func k) #[] caps] w fun e w' => e = .returned (.bool (xs.any p)) ∧ Below w.heap.size w w' := by
  have HI := hide (indexFunc_at w v xs h hn k hent caps p hc)
  have HA := hide (any_aAt xs p)
  obtain ⟨R, eR⟩ : ∃ R, xs.any p = R := ⟨_, rfl⟩
  rw [eR] at HI HA ⊢
  obtain ⟨a0, c0, rfl⟩ := h.form
  have HH := hide hent
  clear h hn hc eR hent
  go_enter Try.func38, Try.ntmps38
  go_wp2_with (go_at_call 49; refine (unhide HI).mono ?_; rintro e w1 ⟨hr, hb1⟩; have HX := hide hb1; clear hb1; obtain ⟨r, rfl, hr2⟩ : ∃ r : Int, e = .returned (.int .i64 r) ∧ decide (0 ≤ r) = R := (hr.elim (fun h => ⟨_, h.1, by rw [h.2]; rfl⟩) (fun ⟨j, h1, h2, h3, h4⟩ => ⟨_, h1, by rw [(unhide HA).2 ⟨j, h2, h3⟩]; exact decide_eq_true (by omega)⟩)); have HR := hide hr2; clear hr hr2)
  go_ret
  exact ⟨by rw [← unhide HR]; rfl, unhide HX⟩

theorem enters_mates : ∀ args w, (callFunc 39 args).run Try.prog w = .ok (.enter 39 args) w := fun _ _ => by kernel_rfl

set_option maxRecDepth 100000 in
set_option maxHeartbeats 2000000 in
theorem hasMates1_any (w : World) (G : Nat) (t c : Int) (a0 : Option Addr) (n c0 : Nat) (xs : List Bl) (u : Int) (hG : w.heap[G]? = some (.cells #[.slice a0 n c0] 22 (0, 0))) (hL : IsL KB w (.slice a0 n c0) xs) (hn : xs.length ≤ 100000) (hr : Rise xs) (hf : fitB u (t, c) = true) (hu : u ≤ 1073741824) :
    Calls Try.prog 39 #[.agg #[.int .i64 t, .int .i64 c], .pointer (some ⟨G, 0, none⟩)] w fun e w' => e = .returned (.bool (hasB (mateB (t, c)) xs)) ∧ Below w.heap.size w w' := by
  obtain ⟨f1, f2, f3, f4⟩ := fit_parts hf
  simp only at f1 f2 f3 f4
  have f5 := pw_pos f1
  have HG0 := hide hG
  have HM : Hid (∀ W, Calls Try.prog 41 #[.agg #[.int .i64 t, .int .i64 c]] W fun e w' => e = .returned (.agg #[.int .i64 (mateS t c), .int .i64 c]) ∧ Below W.heap.size W w') := fun W => mateOf_any W t c f1 f2 f3 (by omega)
  have HX := hide ((Below.refl w.heap.size w).alloc (Nat.le_refl _) (.cells #[.int .i64 t, .int .i64 c] 38))
  have HP := hide (new_block w (.cells #[.int .i64 t, .int .i64 c] 38))
  obtain ⟨R, eR⟩ : ∃ R, hasB (mateB (t, c)) xs = R := ⟨_, rfl⟩
  obtain ⟨M, eM⟩ : ∃ M, mateS t c = M := ⟨_, rfl⟩
  have eR2 : hasB (M, c) xs = R := by rw [← eR]; unfold mateB; rw [← eM]
  have HH : Hid (∀ W, Below w.heap.size w W → Calls Try.prog 40 #[.slice a0 n c0, .agg #[.int .i64 M, .int .i64 c]] W fun e w' => e = .returned (.bool R) ∧ Below W.heap.size W w') := fun W hW => by
    have := holds_any W (.slice a0 n c0) xs M c (hL.below hW) hn hr
    rw [eR2] at this
    exact this
  rw [eR]
  rw [eM] at HM
  clear f1 f2 f3 f4 f5 hL hf hr hn eR eR2 eM hG
  obtain ⟨W0, e0⟩ : ∃ W, w.alloc (.cells #[.int .i64 t, .int .i64 c] 38) = W := ⟨_, rfl⟩
  rw [e0] at HX HP
  have HE := hide e0
  clear e0
  have HSS : Hid (∀ W, Below w.heap.size w W → (W.heap[w.heap.size]? = W0.heap[w.heap.size]?) → W.cell? ⟨G, 0, none⟩ = some (.slice a0 n c0) ∧ W.cell? ⟨w.heap.size, 0, none⟩ = some (.int .i64 t) ∧ W.cell? ⟨w.heap.size, 1, none⟩ = some (.int .i64 c) ∧ Below w.heap.size w W) := fun W hW hk => by
    obtain ⟨q, -, -⟩ := block1 (keep_below (unhide HG0) hW)
    obtain ⟨p0, p1, -, -, -⟩ := block2 (hk.trans (unhide HP))
    exact ⟨q, p0, p1, hW⟩
  have hwW : w.heap.size < W0.heap.size := size_of (unhide HP)
  go_enter Try.func39, Try.ntmps39
  go_upto_region 1 with fail
  rw [unhide HE]
  clear HE
  obtain ⟨q0, p0, p1, -⟩ := unhide HSS _ (unhide HX) rfl
  go_region_held3 (fun W => W.cell? ⟨G, 0, none⟩ = some (.slice a0 n c0) ∧ W.cell? ⟨w.heap.size, 0, none⟩ = some (.int .i64 t) ∧ W.cell? ⟨w.heap.size, 1, none⟩ = some (.int .i64 c) ∧ Below w.heap.size w W)
    (first | with_reducible exact unhide HSS _ (unhide HX).drew rfl | with_reducible exact unhide HSS _ (unhide HX5) (unhide HK5) | with_reducible exact unhide HSS _ (unhide HX6) (unhide HK6))
    (first
      | (go_at_call 41; refine (unhide HM _).mono ?_; rintro e w5 ⟨rfl, hb5⟩; have HX5 : Hid (Below w.heap.size w w5) := Below.next (unhide HX).drew hb5 (Nat.le_refl _); have HK5 : Hid (w5.heap[w.heap.size]? = W0.heap[w.heap.size]?) := hb5.block _ hwW; clear hb5)
      | (go_at_call 40; refine (unhide HH _ (unhide HX5)).mono ?_; rintro e w6 ⟨rfl, hb6⟩; have HX6 := hide (Below.next (unhide HX5) hb6 (Nat.le_refl _)); have HK6 : Hid (w6.heap[w.heap.size]? = W0.heap[w.heap.size]?) := (hb6.block _ (size_of ((unhide HK5).trans (unhide HP)))).trans (unhide HK5); clear hb6))
  all_goals
    clear q0 p0 p1
    go_wp2_with fail
    go_ret
    exact ⟨rfl, unhide HX6⟩

set_option maxRecDepth 100000 in
set_option maxHeartbeats 2000000 in
theorem hasMates_any (w : World) (v : Value) (xs : List Bl) (u : Int) (h : IsL KB w v xs) (hn : xs.length ≤ 100000) (hr : Rise xs) (hf : ∀ x ∈ xs, fitB u x = true) (hu : u ≤ 1073741824) :
    Calls Try.prog 24 #[v] w fun e w' => e = .returned (.bool (matesL xs)) ∧ Below w.heap.size w w' := by
  obtain ⟨a0, c0, rfl⟩ := h.form
  have HX := hide ((Below.refl w.heap.size w).alloc (Nat.le_refl _) (.cells #[.slice a0 xs.length c0] 22))
  have HP := hide (new_block w (.cells #[.slice a0 xs.length c0] 22))
  obtain ⟨W0, e0⟩ : ∃ W, w.alloc (.cells #[.slice a0 xs.length c0] 22) = W := ⟨_, rfl⟩
  rw [e0] at HX HP
  have HE := hide e0
  have HC : Hid (∀ W, Below W0.heap.size W0 W → Calls Try.prog 38 #[.slice a0 xs.length c0, .func (.func 39) #[] #[.pointer (some ⟨w.heap.size, 0, none⟩)]] W fun e w' => e = .returned (.bool (matesL xs)) ∧ Below W.heap.size W w') := fun W hW =>
    containsFunc_at W _ xs ((h.below (unhide HX)).below hW) (by unfold maxLen; omega) 39 enters_mates #[.pointer (some ⟨w.heap.size, 0, none⟩)] (fun x => hasB (mateB x) xs)
      (fun W2 x hx hW2 => hasMates1_any W2 w.heap.size x.1 x.2 a0 xs.length c0 xs u (keep_below (keep_below (unhide HP) hW) hW2) (((h.below (unhide HX)).below hW).below hW2) hn hr (hf x hx) hu)
  obtain ⟨R, eR⟩ : ∃ R, matesL xs = R := ⟨_, rfl⟩
  rw [eR] at HC ⊢
  obtain ⟨n, en⟩ : ∃ n, xs.length = n := ⟨_, rfl⟩
  rw [en] at HC HP HE ⊢
  clear h hn hr hf hu e0 eR en
  go_enter Try.func24, Try.ntmps24
  go_upto_region 1 with fail
  rw [unhide HE]
  clear HE
  obtain ⟨p0, -, pl⟩ := block1 (unhide HP)
  go_wp2_with (go_at_call 38; refine (unhide HC _ (Below.refl _ _)).mono ?_; rintro e w1 ⟨rfl, hb1⟩; have HX1 := hide (Below.next (unhide HX) hb1 (Nat.le_refl _)); clear hb1)
  go_ret
  exact ⟨rfl, unhide HX1⟩

/-- A block put at its place. -/
def insB (x : Bl) (xs : List Bl) : List Bl := putAt xs (placeN x.1 xs) x
/-- Blocks put at their places, one after the other. -/
def insAll (xs ys : List Bl) : List Bl := ys.foldl (fun l x => insB x l) xs
theorem insB_len (x : Bl) (xs : List Bl) : (insB x xs).length = xs.length + 1 := putAt_len (placeN_le _ _) x
theorem insAll_next {xs ys : List Bl} {j : Nat} (h : j < ys.length) : insAll xs (ys.take (j + 1)) = insB (aAt ys j) (insAll xs (ys.take j)) := by
  unfold insAll
  rw [take_at h, List.foldl_append]
  rfl
theorem insAll_len (xs : List Bl) : ∀ ys : List Bl, (insAll xs ys).length = xs.length + ys.length
  | [] => rfl
  | y :: ys => by
    show (insAll (insB y xs) ys).length = _
    rw [insAll_len (insB y xs) ys, insB_len, List.length_cons]; omega

set_option maxRecDepth 100000 in
set_option maxHeartbeats 2000000 in
theorem with_any (w : World) (v vy : Value) (xs ys : List Bl) (h : IsL KB w v xs) (hy : IsL KB w vy ys) (hn : xs.length ≤ 40000) (hm : ys.length ≤ 40000) (hr : ∀ j, j < ys.length → Rise (insAll xs (ys.take j))) :
    Calls Try.prog 28 #[v, vy] w fun e w' => ∃ a' c', e = .returned (.slice a' (xs.length + ys.length) c') ∧ Own KB w.heap.size w' (.slice a' (xs.length + ys.length) c') (insAll xs ys) ∧ Below w.heap.size w w' := by
  have HFR := hide (fresh_any w v xs h (by omega))
  obtain ⟨a0, c0, rfl⟩ := h.form
  obtain ⟨ay, cy, rfl⟩ := hy.form
  have HY := hide (hy.opens kb rfl)
  have HR := hide hr
  have HLEN := hide (fun j (hj : j ≤ ys.length) => show (insAll xs (ys.take j)).length = xs.length + j by rw [insAll_len, List.length_take, Nat.min_eq_left hj])
  have HFIN : Hid (insAll xs ys = insAll xs (ys.take ys.length)) := by rw [List.take_length]; exact rfl
  have HNX := hide (fun j (hj : j < ys.length) => insAll_next (xs := xs) hj)
  obtain ⟨n, en⟩ : ∃ n, xs.length = n := ⟨_, rfl⟩
  obtain ⟨m, em⟩ : ∃ m, ys.length = m := ⟨_, rfl⟩
  rw [en] at HFR HLEN hn ⊢
  rw [em] at HY HR HLEN HFIN HNX hm ⊢
  have HM := hide em
  clear h hy hr en em
  go_enter Try.func28, Try.ntmps28
  go_upto_region 3 with (go_at_call 42; refine (unhide HFR).mono ?_; rintro e w1 ⟨a1, c1, rfl, ho1, hb1⟩; have HO1 := hide ho1; have HX1 := hide hb1; clear ho1 hb1)
  go_loopw [0, 11] (fun l i wr => ∃ (j : Nat) (a : Option Addr) (c : Nat), j ≤ m ∧ i = .int .i64 (j : Int) ∧ l = .slice a (n + j) c ∧ Hid (Own KB w.heap.size wr (.slice a (n + j) c) (insAll xs (ys.take j))) ∧ Hid (Below w.heap.size w wr)) (fun _ i _ => m - (intOf i).toNat)
  case atStart => exact ⟨0, a1, c1, Nat.zero_le _, rfl, rfl, HO1, HX1⟩
  case round =>
    obtain ⟨j, a, c, hj, rfl, rfl, HO, HB⟩ := hrel
    clear HO1 HX1
    by_cases hlt : j < m
    · obtain ⟨b0, o0, rfl, hb0, l0⟩ := unhide HY (by omega)
      obtain ⟨⟨t, d⟩, hx⟩ : ∃ z, aAt ys j = z := ⟨_, rfl⟩
      obtain ⟨k0, k1⟩ := (l0.below (unhide HB) hb0).block (j := j) (by rw [unhide HM]; exact hlt) hx
      have i0 : (0 : Int) ≤ (j : Int) := by omega
      have i1 : (j : Int) < (m : Int) := by omega
      have HRJ := hide (unhide HR j hlt)
      have HLJ := hide (unhide HLEN j (by omega))
      have HNJ := hide (unhide HNX j hlt)
      rw [hx] at HNJ
      obtain ⟨zs, ez⟩ : ∃ zs, insAll xs (ys.take j) = zs := ⟨_, rfl⟩
      rw [ez] at HO HRJ HLJ HNJ
      obtain ⟨N, eN⟩ : ∃ N, n + j = N := ⟨_, rfl⟩
      rw [eN] at HO HLJ ⊢
      have hN : N ≤ 80000 := by omega
      have HEN := hide eN
      clear ez l0 hb0 hx eN
      have HP0 := hide (new_block wr (.cells #[.int .i64 t, .int .i64 d] 38))
      have HB1 := hide ((Below.refl wr.heap.size wr).alloc (Nat.le_refl _) (.cells #[.int .i64 t, .int .i64 d] 38))
      obtain ⟨VB, eV⟩ : ∃ X, wr.heap.size = X := ⟨_, rfl⟩
      have hwV : w.heap.size ≤ VB := by rw [← eV]; exact (unhide HB).size
      go_upto_region 5 with fail
      obtain ⟨W0, e0⟩ : ∃ X, wr.alloc (.cells #[.int .i64 t, .int .i64 d] 38) = X := ⟨_, rfl⟩
      rw [e0] at HP0 HB1 ⊢
      have HX := hide (Below.next (unhide HB) (unhide HB1) (Nat.le_refl _))
      have HO0 := hide ((unhide HO).below (unhide HB1))
      have HLT : Hid (∀ k, (Value.slice a N c).ownBlock = some k → w.heap.size ≤ k ∧ k < VB) := fun k hk => by rw [← eV]; exact (unhide HO).lt k hk
      rw [eV] at HP0
      clear e0 k0 k1 eV
      have hwW : VB < W0.heap.size := size_of (unhide HP0)
      obtain ⟨p, ep⟩ : ∃ p, placeN t zs = p := ⟨_, rfl⟩
      have hple : p ≤ N := by rw [← ep, ← unhide HLJ]; exact placeN_le _ _
      have HPL : Hid (∀ W, Below W0.heap.size W0 W → Calls Try.prog 35 #[.slice a N c, .int .i64 t] W fun e w' => e = .returned (.int .i64 (p : Int)) ∧ Below W.heap.size W w') := fun W hW => by
        have := placeOf_any W (.slice a N c) zs t ((unhide HO0).isl.below hW) (by rw [unhide HLJ]; omega) (unhide HRJ)
        rw [ep] at this
        exact this
      have HSS : Hid (∀ W : World, W.heap[VB]? = some (.cells #[.int .i64 t, .int .i64 d] 38 (0, 0)) → W.cell? ⟨VB, 0, none⟩ = some (.int .i64 t) ∧ W.cell? ⟨VB, 1, none⟩ = some (.int .i64 d)) := fun W hW => ⟨(block2 hW).1, (block2 hW).2.1⟩
      have HKB : Hid (∀ W, Below W0.heap.size W0 W → W.heap[VB]? = some (.cells #[.int .i64 t, .int .i64 d] 38 (0, 0))) := fun W hW => keep_below (unhide HP0) hW
      have HIN : Hid (∀ W vb, Below W0.heap.size W0 W → W.heap[vb]? = some (.cells #[.int .i64 t, .int .i64 d] 38 (0, 0)) → W0.heap.size ≤ vb → Calls Try.prog 43 #[.slice a N c, .int .i64 (p : Int), .slice (some ⟨vb, 0, none⟩) 1 1] W fun e w' => ∃ a' c', e = .returned (.slice a' (N + 1) c') ∧ Own KB w.heap.size w' (.slice a' (N + 1) c') (insAll xs (ys.take (j + 1))) ∧ Below w.heap.size w w' ∧ w'.heap[VB]? = some (.cells #[.int .i64 t, .int .i64 d] 38 (0, 0))) := fun W vb hW hv hvb =>
        (insert_any W w.heap.size a N c p zs t d vb ((unhide HO0).below hW) (unhide HLJ) (by omega) hple hv (fun k hk => by have := unhide HLT k hk; omega) (by have := hW.size; omega)).mono fun e w' ⟨a', c', h1, h2, h3⟩ => ⟨a', c', h1, by rw [unhide HNJ]; unfold insB; rw [show ((t, d) : Bl).1 = t from rfl, ep]; exact h2, (Below.next (unhide HX) hW (Nat.le_refl _)).grown h3 (by have := hW.size; omega) (fun k hk => (unhide HLT k hk).1), keep_grown (unhide HKB W hW) h3 (fun k hk => by have := (unhide HLT k hk).2; omega)⟩
      obtain ⟨p0, p1⟩ := unhide HSS _ (unhide HP0)
      clear HO HO0 HRJ HLJ HNJ HLT ep HR HLEN HNX HFIN HY HFR
      go_region_held3 (fun W => W.cell? ⟨VB, 0, none⟩ = some (.int .i64 t) ∧ W.cell? ⟨VB, 1, none⟩ = some (.int .i64 d))
        (first | with_reducible exact unhide HSS _ (unhide HKB _ (Below.refl _ _).drew) | with_reducible exact unhide HSS _ (unhide HKB _ ((Below.refl W0.heap.size W0).alloc (Nat.le_refl _) _).drew) | with_reducible exact unhide HSS _ (unhide HKB _ (unhide HX5)) | with_reducible exact unhide HSS _ (unhide HKB _ ((unhide HX5).alloc (unhide HX5).size _)) | with_reducible exact unhide HSS _ (unhide HP6))
        (first
         | (go_at_call 35; refine (unhide HPL _ (by first | exact (Below.refl _ _).drew | exact ((Below.refl W0.heap.size W0).alloc (Nat.le_refl _) _).drew)).mono ?_; rintro e w5 ⟨rfl, hb5⟩; have HX5 : Hid (Below W0.heap.size W0 w5) := Below.next (by first | exact (Below.refl _ _).drew | exact ((Below.refl W0.heap.size W0).alloc (Nat.le_refl _) _).drew) hb5 (Nat.le_refl _); (try (have HZ5 : Hid (w5.heap[W0.heap.size]? = some (.cells #[.int .i64 t, .int .i64 d] 38)) := (keep_below (w := (W0.alloc (.cells #[.int .i64 t, .int .i64 d] 38)).drew) (new_block W0 (.cells #[.int .i64 t, .int .i64 d] 38)) hb5))); clear hb5)
         | (go_at_call 43; (first | refine (unhide HIN _ W0.heap.size (unhide HX5) (unhide HZ5) (Nat.le_refl _)).mono ?_ | refine (unhide HIN _ w5.heap.size ((unhide HX5).alloc (unhide HX5).size _) (new_block _ _) (unhide HX5).size).mono ?_); rintro e w6 ⟨a', c', rfl, ho6, hb6, hp6⟩; have HO6 := hide ho6; have HB6 := hide hb6; have HP6 := hide hp6; clear ho6 hb6 hp6))
      all_goals
        clear p0 p1
        go_wp2_with fail
        go_roundw
        case rel =>
          have eN := unhide HEN
          exact ⟨j + 1, a', c', by omega, by go_num, by rw [← eN]; rfl, by have h6 := unhide HO6; rw [← eN] at h6; exact h6, HB6⟩
        case measure => simp [intOf]; omega
    · obtain rfl : j = m := by omega
      have i1 : ¬ (j : Int) < (j : Int) := by omega
      clear HR HLEN HNX HY HFR
      go_wp2_with fail
      go_ret
      refine ⟨a, c, rfl, ?_, unhide HB⟩
      rw [unhide HFIN]
      exact unhide HO
end Go.Proofs.Ytomhfnjnmhdpkaa
