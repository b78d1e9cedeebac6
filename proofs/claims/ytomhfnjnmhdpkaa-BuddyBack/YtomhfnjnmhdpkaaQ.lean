/-
  buddy.Check.
-/
import Derived.Test.YtomhfnjnmhdpkaaP
namespace Go.Proofs.Ytomhfnjnmhdpkaa
open Go.RowKit

theorem firstW_zero {u : Int} : ∀ (xs : List Bl) (p : Option Int), firstW u p xs = 0 → (∀ x ∈ xs, fitB u x = true) ∧ Rise xs ∧ (∀ q, p = some q → ∀ x ∈ xs, q < x.1)
  | [], _, _ => ⟨fun x hx => (by cases hx), List.Pairwise.nil, fun q _ x hx => (by cases hx)⟩
  | x :: r, p, h => by
    rw [firstW_cons] at h
    by_cases hf : fitB u x = true
    · rw [if_pos hf] at h
      obtain ⟨hx, h'⟩ : (∀ q, p = some q → q < x.1) ∧ firstW u (some x.1) r = 0 := by
        cases p with
        | none => exact ⟨fun q e => (by cases e), by simpa using h⟩
        | some q =>
          by_cases hq : x.1 ≤ q
          · simp [hq] at h
          · refine ⟨fun q' e => by cases e; omega, by simpa [hq] using h⟩
      obtain ⟨h1, h2, h3⟩ := firstW_zero r (some x.1) h'
      refine ⟨fun y hy => ?_, List.Pairwise.cons (fun y hy => h3 x.1 rfl y hy) h2, fun q e y hy => ?_⟩
      · rcases List.mem_cons.1 hy with rfl | hy
        · exact hf
        · exact h1 y hy
      · have h4 := hx q e
        rcases List.mem_cons.1 hy with rfl | hy
        · exact h4
        · have := h3 x.1 rfl y hy; omega
    · rw [if_neg hf] at h
      cases h

/-- What is wrong with a space. -/
def spaceF (b : Int) (us fs : List Bl) : Int × Int :=
  if b < 0 ∨ 30 < b ∨ 5000 < us.length + fs.length then (2, 0)
  else if ¬ firstW ((2 : Int) ^ b.toNat) none us = 0 then (firstW ((2 : Int) ^ b.toNat) none us, 0)
  else if ¬ firstW ((2 : Int) ^ b.toNat) none fs = 0 then (firstW ((2 : Int) ^ b.toNat) none fs, 1)
  else if partL ((2 : Int) ^ b.toNat) us fs = false then (8, 0)
  else if matesL fs = true then (11, 0)
  else (0, 0)

/-- The value v reads as the space of Bits, Used and Free. -/
def IsS (w : World) (v : Value) (b : Int) (us fs : List Bl) : Prop := ∃ v1 v2, v = .agg #[.int .i64 b, v1, v2] ∧ IsL KB w v1 us ∧ IsL KB w v2 fs
theorem IsS.below {w w' : World} {v : Value} {b : Int} {us fs : List Bl} (h : IsS w v b us fs) (hb : Below w.heap.size w w') : IsS w' v b us fs := by
  obtain ⟨v1, v2, rfl, h1, h2⟩ := h
  exact ⟨v1, v2, rfl, h1.below hb, h2.below hb⟩
theorem IsS.form {w : World} {v : Value} {b : Int} {us fs : List Bl} (h : IsS w v b us fs) : ∃ a c a' c', v = .agg #[.int .i64 b, .slice a us.length c, .slice a' fs.length c'] ∧ IsL KB w (.slice a us.length c) us ∧ IsL KB w (.slice a' fs.length c') fs := by
  obtain ⟨v1, v2, rfl, h1, h2⟩ := h
  obtain ⟨a, c, rfl⟩ := h1.form
  obtain ⟨a', c', rfl⟩ := h2.form
  exact ⟨a, c, a', c', rfl, h1, h2⟩
/-- Sizes are numbers of the machine. -/
def Bnd (xs : List Bl) : Prop := ∀ x ∈ xs, x.2 ≤ 9223372036854775807

set_option maxRecDepth 100000 in
set_option maxHeartbeats 4000000 in
theorem check_many (w : World) (v : Value) (b : Int) (us fs : List Bl) (h : IsS w v b us fs) (hn : us.length ≤ 100000) (hm : fs.length ≤ 100000) (hw : b < 0 ∨ 30 < b ∨ 5000 < us.length + fs.length) :
    Calls Try.prog 10 #[v] w fun e w' => e = .returned (faultV (2, 0)) ∧ Below w.heap.size w w' := by
  obtain ⟨a0, c0, a1, c1, rfl, -, -⟩ := h.form
  obtain ⟨n, en⟩ : ∃ n, us.length = n := ⟨_, rfl⟩
  obtain ⟨m, em⟩ : ∃ m, fs.length = m := ⟨_, rfl⟩
  rw [en, em] at hw ⊢
  rw [en] at hn
  rw [em] at hm
  obtain ⟨W, e0, hB, k0, k1⟩ := two_new w (.cells #[.int .i64 b, .slice a0 n c0, .slice a1 m c1] 24) (.cells #[.int .i64 0, .int .i64 0] 29)
  have HX := hide hB; have HE := hide e0; have HK0 := hide k0; have HK1 := hide k1
  have HW := hide hw
  clear h en em hB e0 k0 k1 hw
  go_enter Try.func10, Try.ntmps10
  go_upto_region 1 with fail
  rw [unhide HE]
  clear HE
  obtain ⟨⟨p0, p1, p2⟩, -, pl⟩ := block3 (unhide HK0)
  obtain ⟨q0, q1, f0, f1, ql⟩ := block2 (unhide HK1)
  have HFIN := hide (set2_block (x' := .int .i64 2) (y' := .int .i64 0) (unhide HK1))
  have HXF := hide (below_set2 (unhide HX) (Nat.le_succ _) (.int .i64 2) (.int .i64 0) (R := w.heap.size + 1))
  have FIN : Hid (∀ A : Act, A.defers = [] → bodyPost Try.prog Try.f10 (fun e w' => e = .returned (faultV (2, 0)) ∧ Below w.heap.size w w') .ret A ((W.setCell ⟨w.heap.size + 1, 0, none⟩ (.int .i64 2)).setCell ⟨w.heap.size + 1, 1, none⟩ (.int .i64 0)) → True) := fun _ _ _ => trivial
  rcases unhide HW with h1 | h1 | h1
  · go_wp2_with fail
    obtain ⟨s0, s1, -⟩ := block2 (unhide HFIN)
    exact bodyPost_ret (v := faultV (2, 0)) (by simp [faultV, results, Try.results10, go_sem, s0, s1]) rfl ⟨rfl, unhide HXF⟩
  · have h0 : ¬ b < 0 := by omega
    go_wp2_with fail
    obtain ⟨s0, s1, -⟩ := block2 (unhide HFIN)
    exact bodyPost_ret (v := faultV (2, 0)) (by simp [faultV, results, Try.results10, go_sem, s0, s1]) rfl ⟨rfl, unhide HXF⟩
  · have hsum : IntKind.i64.wrap ((n : Int) + (m : Int)) = (n : Int) + (m : Int) := wrapi (by omega) (by omega)
    have h5 : (5000 : Int) < (n : Int) + (m : Int) := by omega
    by_cases h0 : b < 0
    · go_wp2_with fail
      obtain ⟨s0, s1, -⟩ := block2 (unhide HFIN)
      exact bodyPost_ret (v := faultV (2, 0)) (by simp [faultV, results, Try.results10, go_sem, s0, s1]) rfl ⟨rfl, unhide HXF⟩
    · by_cases h2 : 30 < b
      · go_wp2_with fail
        obtain ⟨s0, s1, -⟩ := block2 (unhide HFIN)
        exact bodyPost_ret (v := faultV (2, 0)) (by simp [faultV, results, Try.results10, go_sem, s0, s1]) rfl ⟨rfl, unhide HXF⟩
      · go_wp2_with fail
        obtain ⟨s0, s1, -⟩ := block2 (unhide HFIN)
        exact bodyPost_ret (v := faultV (2, 0)) (by simp [faultV, results, Try.results10, go_sem, s0, s1]) rfl ⟨rfl, unhide HXF⟩

theorem pow30 {b : Int} (h0 : 0 ≤ b) (h1 : b ≤ 30) : (1 : Int) ≤ (2 : Int) ^ b.toNat ∧ (2 : Int) ^ b.toNat ≤ 1073741824 := by
  have h3 : (0 : Int) < 2 ^ b.toNat := Int.pow_pos (by decide)
  have h4 : 2 ^ b.toNat ≤ 2 ^ 30 := Nat.pow_le_pow_right (by decide) (by omega)
  have h5 : ((2 ^ b.toNat : Nat) : Int) ≤ ((2 ^ 30 : Nat) : Int) := Int.ofNat_le.2 h4
  exact ⟨by omega, by simpa using h5⟩

set_option maxRecDepth 100000 in
set_option maxHeartbeats 4000000 in
theorem check_rest (w : World) (v : Value) (b : Int) (us fs : List Bl) (h : IsS w v b us fs) (hn : us.length ≤ 100000) (hm : fs.length ≤ 100000) (hb1 : Bnd us) (hb2 : Bnd fs) (hw : ¬ (b < 0 ∨ 30 < b ∨ 5000 < us.length + fs.length)) :
    Calls Try.prog 10 #[v] w fun e w' => e = .returned (faultV (spaceF b us fs)) ∧ Below w.heap.size w w' := by
  have hb0 : 0 ≤ b := by omega
  have hb30 : b ≤ 30 := by omega
  obtain ⟨hu1, hu2⟩ := pow30 hb0 hb30
  obtain ⟨a0, c0, a1, c1, rfl, hu, hf⟩ := h.form
  have HUN : Hid (∀ W, Calls Try.prog 21 #[.int .i64 b] W fun e w' => e = .returned (.int .i64 ((2 : Int) ^ b.toNat)) ∧ w' = W) := fun W => unitsOf_any W b hb0 hb30
  obtain ⟨S, eS⟩ : ∃ S, spaceF b us fs = S := ⟨_, rfl⟩
  have HS : Hid (spaceF b us fs = S) := eS
  rw [eS]
  unfold spaceF at HS
  rw [if_neg hw] at HS
  obtain ⟨U, eU⟩ : ∃ U, (2 : Int) ^ b.toNat = U := ⟨_, rfl⟩
  rw [eU] at HUN HS hu1 hu2
  obtain ⟨X1, eX1⟩ : ∃ X, firstW U none us = X := ⟨_, rfl⟩
  obtain ⟨X2, eX2⟩ : ∃ X, firstW U none fs = X := ⟨_, rfl⟩
  obtain ⟨X3, eX3⟩ : ∃ X, partL U us fs = X := ⟨_, rfl⟩
  obtain ⟨X4, eX4⟩ : ∃ X, matesL fs = X := ⟨_, rfl⟩
  have HF1 : Hid (∀ W, Below w.heap.size w W → Calls Try.prog 22 #[.slice a0 us.length c0, .int .i64 U] W fun e w' => e = .returned (.int .i64 X1) ∧ Below W.heap.size W w') := fun W hW => by
    have := firstWrong_any W _ us U (hu.below hW) hn ⟨by omega, hu2⟩ hb1
    rw [eX1] at this; exact this
  have HF2 : Hid (∀ W, Below w.heap.size w W → Calls Try.prog 22 #[.slice a1 fs.length c1, .int .i64 U] W fun e w' => e = .returned (.int .i64 X2) ∧ Below W.heap.size W w') := fun W hW => by
    have := firstWrong_any W _ fs U (hf.below hW) hm ⟨by omega, hu2⟩ hb2
    rw [eX2] at this; exact this
  have HF3 : Hid (X1 = 0 → X2 = 0 → ∀ W, Below w.heap.size w W → Calls Try.prog 23 #[.slice a0 us.length c0, .slice a1 fs.length c1, .int .i64 U] W fun e w' => e = .returned (.bool X3) ∧ Below W.heap.size W w') := fun z1 z2 W hW => by
    have := part_any W _ _ us fs U (hu.below hW) (hf.below hW) hn hm ⟨by omega, hu2⟩ (firstW_zero us none (eX1.trans z1)).1 (firstW_zero fs none (eX2.trans z2)).1
    rw [eX3] at this; exact this
  have HF4 : Hid (X2 = 0 → ∀ W, Below w.heap.size w W → Calls Try.prog 24 #[.slice a1 fs.length c1] W fun e w' => e = .returned (.bool X4) ∧ Below W.heap.size W w') := fun z2 W hW => by
    have := hasMates_any W _ fs U (hf.below hW) hm (firstW_zero fs none (eX2.trans z2)).2.1 (firstW_zero fs none (eX2.trans z2)).1 hu2
    rw [eX4] at this; exact this
  rw [eX1, eX2, eX3, eX4] at HS
  obtain ⟨n, en⟩ : ∃ n, us.length = n := ⟨_, rfl⟩
  obtain ⟨m, em⟩ : ∃ m, fs.length = m := ⟨_, rfl⟩
  rw [en, em] at hw HF3 ⊢
  rw [en] at hn HF1
  rw [em] at hm HF2 HF4
  obtain ⟨W, e0, hB, k0, k1⟩ := two_new w (.cells #[.int .i64 b, .slice a0 n c0, .slice a1 m c1] 24) (.cells #[.int .i64 0, .int .i64 0] 29)
  have HX := hide hB; have HE := hide e0; have HK0 := hide k0; have HK1 := hide k1
  have hs1 : IntKind.i64.wrap ((n : Int) + (m : Int)) = (n : Int) + (m : Int) := wrapi (by omega) (by omega)
  have hs2 : ¬ (5000 : Int) < (n : Int) + (m : Int) := by omega
  have hs3 : ¬ b < 0 := by omega
  have hs4 : ¬ 30 < b := by omega
  clear h hu hf hb1 hb2 eS eU eX1 eX2 eX3 eX4 en em hB e0 k0 k1 hw
  go_enter Try.func10, Try.ntmps10
  go_upto_region 1 with fail
  rw [unhide HE]
  clear HE
  obtain ⟨⟨p0, p1, p2⟩, -, pl⟩ := block3 (unhide HK0)
  obtain ⟨q0, q1, f0, f1, ql⟩ := block2 (unhide HK1)
  go_upto_region 5 with (go_at_call 21; refine (unhide HUN _).mono ?_; rintro e w1 ⟨rfl, rfl⟩)
  obtain ⟨VB, eV⟩ : ∃ X, w1.heap.size = X := ⟨_, rfl⟩
  have HP0 := hide (new_block w1 (.cells #[.slice a0 n c0, .slice a1 m c1] 22))
  have HX1 := hide ((unhide HX).alloc (unhide HX).size (.cells #[.slice a0 n c0, .slice a1 m c1] 22))
  have HA1 := hide (keep_alloc (unhide HK0) (.cells #[.slice a0 n c0, .slice a1 m c1] 22))
  have HB1 := hide (keep_alloc (unhide HK1) (.cells #[.slice a0 n c0, .slice a1 m c1] 22))
  rw [eV] at HP0
  obtain ⟨W1, e1⟩ : ∃ X, w1.alloc (.cells #[.slice a0 n c0, .slice a1 m c1] 22) = X := ⟨_, rfl⟩
  rw [e1] at HP0 HX1 HA1 HB1
  (try rw [e1]); (try rw [eV])
  clear e1 eV p0 p1 p2 pl q0 q1 f0 f1 ql
  go_loopw [35] (fun i wr => ∃ j : Nat, j ≤ 2 ∧ i = .int .i64 (j : Int) ∧ Hid (0 < j → X1 = 0) ∧ Hid (1 < j → X2 = 0) ∧ Hid (wr.heap[w.heap.size]? = some (.cells #[.int .i64 b, .slice a0 n c0, .slice a1 m c1] 24 (0, 0))) ∧ Hid (wr.heap[w.heap.size + 1]? = some (.cells #[.int .i64 0, .int .i64 0] 29 (0, 0))) ∧ Hid (wr.heap[VB]? = some (.cells #[.slice a0 n c0, .slice a1 m c1] 22 (0, 0))) ∧ Hid (Below w.heap.size w wr)) (fun i _ => 2 - (intOf i).toNat)
  case atStart => exact ⟨0, by omega, rfl, hide (fun h => absurd h (Nat.lt_irrefl _)), hide (fun h => by omega), HA1, HB1, HP0, HX1⟩
  case round =>
    clear HA1 HB1 HP0 HX1 HX HK0 HK1
    obtain ⟨j, hj, rfl, HZ1, HZ2, HA, HB, HP, HX⟩ := hrel
    have hj3 : j = 0 ∨ j = 1 ∨ j = 2 := by omega
    obtain ⟨⟨p0, p1, p2⟩, -, pl⟩ := block3 (unhide HA)
    obtain ⟨q0, q1, f0, f1, ql⟩ := block2 (unhide HB)
    obtain ⟨r0, r1, -, -, rl⟩ := block2 (unhide HP)
    rcases hj3 with rfl | rfl | rfl
    · by_cases z : X1 = 0
      · have hz0 : (X1 != 0) = false := by simp [z]
        go_wp2_with (go_at_call 22; refine (unhide HF1 _ (unhide HX)).mono ?_; rintro e w5 ⟨rfl, hb5⟩; have HX5 := hide (Below.next (unhide HX) hb5 (Nat.le_refl _)); have HB5 := hide (keep_below (unhide HB) hb5); have HA5 := hide (keep_below (unhide HA) hb5); have HP5 := hide (keep_below (unhide HP) hb5); clear hb5)
        go_roundw
        case rel => exact ⟨0 + 1, by omega, by go_num, hide (fun _ => z), hide (fun h => by omega), HA5, HB5, HP5, HX5⟩
        case measure => simp [intOf]
      · have hz0 : (X1 != 0) = true := by simp [z]
        have hS := unhide HS
        rw [if_pos (by simp [z])] at hS
        have HS2 := hide hS
        clear hS
        go_wp2_with (go_at_call 22; refine (unhide HF1 _ (unhide HX)).mono ?_; rintro e w5 ⟨rfl, hb5⟩; have HX5 := hide (Below.next (unhide HX) hb5 (Nat.le_refl _)); have HB5 := hide (keep_below (unhide HB) hb5); obtain ⟨y0, y1, g0, g1, yl⟩ := block2 (unhide HB5); clear hb5)
        have HFIN := hide (set2_block (x' := .int .i64 X1) (y' := .int .i64 0) (unhide HB5))
        obtain ⟨s0, s1, -⟩ := block2 (unhide HFIN)
        exact bodyPost_ret (v := faultV (X1, 0)) (by simp [faultV, results, Try.results10, go_sem, s0, s1]) rfl ⟨by rw [← unhide HS2] <;> rfl, below_set2 (unhide HX5) (Nat.le_succ _) _ _⟩
    · by_cases z : X2 = 0
      · have hz0 : (X2 != 0) = false := by simp [z]
        go_wp2_with (go_at_call 22; refine (unhide HF2 _ (unhide HX)).mono ?_; rintro e w5 ⟨rfl, hb5⟩; have HX5 := hide (Below.next (unhide HX) hb5 (Nat.le_refl _)); have HB5 := hide (keep_below (unhide HB) hb5); have HA5 := hide (keep_below (unhide HA) hb5); have HP5 := hide (keep_below (unhide HP) hb5); clear hb5)
        go_roundw
        case rel => exact ⟨1 + 1, by omega, by go_num, hide (fun _ => unhide HZ1 (by omega)), hide (fun _ => z), HA5, HB5, HP5, HX5⟩
        case measure => simp [intOf]
      · have hz0 : (X2 != 0) = true := by simp [z]
        have hS := unhide HS
        rw [if_neg (by simp [unhide HZ1 (by omega)]), if_pos (by simp [z])] at hS
        have HS2 := hide hS
        clear hS
        go_wp2_with (go_at_call 22; refine (unhide HF2 _ (unhide HX)).mono ?_; rintro e w5 ⟨rfl, hb5⟩; have HX5 := hide (Below.next (unhide HX) hb5 (Nat.le_refl _)); have HB5 := hide (keep_below (unhide HB) hb5); obtain ⟨y0, y1, g0, g1, yl⟩ := block2 (unhide HB5); clear hb5)
        have HFIN := hide (set2_block (x' := .int .i64 X2) (y' := .int .i64 1) (unhide HB5))
        obtain ⟨s0, s1, -⟩ := block2 (unhide HFIN)
        exact bodyPost_ret (v := faultV (X2, 1)) (by simp [faultV, results, Try.results10, go_sem, s0, s1]) rfl ⟨by rw [← unhide HS2] <;> rfl, below_set2 (unhide HX5) (Nat.le_succ _) _ _⟩
    · have z1 := unhide HZ1 (by omega)
      have z2 := unhide HZ2 (by omega)
      have HF3' := hide (unhide HF3 z1 z2); have HF4' := hide (unhide HF4 z2)
      have hS := unhide HS
      rw [if_neg (by simp [z1]), if_neg (by simp [z2])] at hS
      have HS2 := hide hS
      clear hS z1 z2 HF3 HF4 HF1 HF2 HS HZ1 HZ2 r0 r1 rl HP
      cases X3 with
      | false =>
        go_wp2_with (go_at_call 23; refine (unhide HF3' _ (unhide HX)).mono ?_; rintro e w5 ⟨rfl, hb5⟩; have HX5 := hide (Below.next (unhide HX) hb5 (Nat.le_refl _)); have HB5 := hide (keep_below (unhide HB) hb5); obtain ⟨y0, y1, g0, g1, yl⟩ := block2 (unhide HB5); clear hb5)
        have HFIN := hide (set2_block (x' := .int .i64 8) (y' := .int .i64 0) (unhide HB5))
        obtain ⟨s0, s1, -⟩ := block2 (unhide HFIN)
        exact bodyPost_ret (v := faultV (8, 0)) (by simp [faultV, results, Try.results10, go_sem, s0, s1]) rfl ⟨by rw [← unhide HS2] <;> rfl, below_set2 (unhide HX5) (Nat.le_succ _) _ _⟩
      | true =>
        cases X4 with
        | true =>
          go_wp2_with (first
            | (go_at_call 23; refine (unhide HF3' _ (unhide HX)).mono ?_; rintro e w5 ⟨rfl, hb5⟩; have HX5 := hide (Below.next (unhide HX) hb5 (Nat.le_refl _)); have HB5 := hide (keep_below (unhide HB) hb5); have HA5 := hide (keep_below (unhide HA) hb5); obtain ⟨⟨y0, y1, y2⟩, -, yl⟩ := block3 (unhide HA5); clear hb5)
            | (go_at_call 24; refine (unhide HF4' _ (unhide HX5)).mono ?_; rintro e w6 ⟨rfl, hb6⟩; have HX6 := hide (Below.next (unhide HX5) hb6 (Nat.le_refl _)); have HB6 := hide (keep_below (unhide HB5) hb6); obtain ⟨z0, z1, g0, g1, zl⟩ := block2 (unhide HB6); clear hb6))
          have HFIN := hide (set2_block (x' := .int .i64 11) (y' := .int .i64 0) (unhide HB6))
          obtain ⟨s0, s1, -⟩ := block2 (unhide HFIN)
          exact bodyPost_ret (v := faultV (11, 0)) (by simp [faultV, results, Try.results10, go_sem, s0, s1]) rfl ⟨by rw [← unhide HS2] <;> rfl, below_set2 (unhide HX6) (Nat.le_succ _) _ _⟩
        | false =>
          go_wp2_with (first
            | (go_at_call 23; refine (unhide HF3' _ (unhide HX)).mono ?_; rintro e w5 ⟨rfl, hb5⟩; have HX5 := hide (Below.next (unhide HX) hb5 (Nat.le_refl _)); have HB5 := hide (keep_below (unhide HB) hb5); have HA5 := hide (keep_below (unhide HA) hb5); obtain ⟨⟨y0, y1, y2⟩, -, yl⟩ := block3 (unhide HA5); clear hb5)
            | (go_at_call 24; refine (unhide HF4' _ (unhide HX5)).mono ?_; rintro e w6 ⟨rfl, hb6⟩; have HX6 := hide (Below.next (unhide HX5) hb6 (Nat.le_refl _)); have HB6 := hide (keep_below (unhide HB5) hb6); obtain ⟨z0, z1, g0, g1, zl⟩ := block2 (unhide HB6); clear hb6))
          have HFIN := hide (set2_block (x' := .int .i64 0) (y' := .int .i64 0) (unhide HB6))
          obtain ⟨s0, s1, -⟩ := block2 (unhide HFIN)
          exact bodyPost_ret (v := faultV (0, 0)) (by simp [faultV, results, Try.results10, go_sem, s0, s1]) rfl ⟨by rw [← unhide HS2] <;> rfl, below_set2 (unhide HX6) (Nat.le_succ _) _ _⟩

theorem check_any (w : World) (v : Value) (b : Int) (us fs : List Bl) (h : IsS w v b us fs) (hn : us.length ≤ 100000) (hm : fs.length ≤ 100000) (hb1 : Bnd us) (hb2 : Bnd fs) :
    Calls Try.prog 10 #[v] w fun e w' => e = .returned (faultV (spaceF b us fs)) ∧ Below w.heap.size w w' := by
  by_cases hw : b < 0 ∨ 30 < b ∨ 5000 < us.length + fs.length
  · have e : spaceF b us fs = (2, 0) := by unfold spaceF; rw [if_pos hw]
    rw [e]
    exact check_many w v b us fs h hn hm hw
  · exact check_rest w v b us fs h hn hm hb1 hb2 hw
end Go.Proofs.Ytomhfnjnmhdpkaa
