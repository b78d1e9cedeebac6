/-
  taskmillref.SpaceFault.
-/
import Derived.Test.YtomhfnjnmhdpkaaY
import Derived.Test.YtomhfnjnmhdpkaaXp
namespace Go.Proofs.Ytomhfnjnmhdpkaa
open Go.RowKit

set_option maxRecDepth 100000 in
set_option maxHeartbeats 4000000 in
theorem refFault_many (w : World) (v : Value) (b : Int) (us fs : List Bl) (h : IsS w v b us fs) (hn : us.length ≤ 100000) (hm : fs.length ≤ 100000) (hw : b < 0 ∨ 30 < b ∨ 5000 < us.length + fs.length) :
    Calls Try.prog 13 #[v] w fun e w' => e = .returned (faultV (2, 0)) ∧ Below w.heap.size w w' := by
  obtain ⟨a0, c0, a1, c1, rfl, -, -⟩ := h.form
  obtain ⟨n, en⟩ : ∃ n, us.length = n := ⟨_, rfl⟩
  obtain ⟨m, em⟩ : ∃ m, fs.length = m := ⟨_, rfl⟩
  rw [en, em] at hw ⊢
  rw [en] at hn
  rw [em] at hm
  obtain ⟨W, e0, hB, k0, k1⟩ := two_new w (.cells #[.int .i64 b, .slice a0 n c0, .slice a1 m c1] 24) (.cells #[.int .i64 0, .int .i64 0] 29)
  have HX := hide hB; have HE := hide e0; have HK0 := hide k0; have HK1 := hide k1
  have HW := hide hw
  clear h en em hB e0 k0 k1 hw
  go_enter Try.func13, Try.ntmps13
  go_upto_region 1 with fail
  rw [unhide HE]
  clear HE
  obtain ⟨⟨p0, p1, p2⟩, -, pl⟩ := block3 (unhide HK0)
  rcases unhide HW with h1 | h1 | h1
  · clear HW
    go_wp2_with (go_at_call 15; refine (f_any _ _ _).mono ?_; rintro e w9 ⟨rfl, hb9⟩; have HX9 := hide (Below.next (unhide HX) hb9 (Nat.le_refl _)); have HB9 := hide (keep_below (unhide HK1) hb9); obtain ⟨u0, u1, uf0, uf1, ul⟩ := block2 (unhide HB9); clear hb9)
    have HFIN := hide (set2_block (x' := .int .i64 2) (y' := .int .i64 0) (unhide HB9))
    obtain ⟨s0, s1, -⟩ := block2 (unhide HFIN)
    exact bodyPost_ret (v := faultV (2, 0)) (by simp [faultV, results, Try.results13, go_sem, s0, s1]) rfl ⟨rfl, below_set2 (unhide HX9) (Nat.le_succ _) _ _⟩
  · have h0 : ¬ b < 0 := by omega
    clear HW
    go_wp2_with (go_at_call 15; refine (f_any _ _ _).mono ?_; rintro e w9 ⟨rfl, hb9⟩; have HX9 := hide (Below.next (unhide HX) hb9 (Nat.le_refl _)); have HB9 := hide (keep_below (unhide HK1) hb9); obtain ⟨u0, u1, uf0, uf1, ul⟩ := block2 (unhide HB9); clear hb9)
    have HFIN := hide (set2_block (x' := .int .i64 2) (y' := .int .i64 0) (unhide HB9))
    obtain ⟨s0, s1, -⟩ := block2 (unhide HFIN)
    exact bodyPost_ret (v := faultV (2, 0)) (by simp [faultV, results, Try.results13, go_sem, s0, s1]) rfl ⟨rfl, below_set2 (unhide HX9) (Nat.le_succ _) _ _⟩
  · have hsum : IntKind.i64.wrap ((n : Int) + (m : Int)) = (n : Int) + (m : Int) := wrapi (by omega) (by omega)
    have h5 : (5000 : Int) < (n : Int) + (m : Int) := by omega
    clear HW
    by_cases h0 : b < 0
    · go_wp2_with (go_at_call 15; refine (f_any _ _ _).mono ?_; rintro e w9 ⟨rfl, hb9⟩; have HX9 := hide (Below.next (unhide HX) hb9 (Nat.le_refl _)); have HB9 := hide (keep_below (unhide HK1) hb9); obtain ⟨u0, u1, uf0, uf1, ul⟩ := block2 (unhide HB9); clear hb9)
      have HFIN := hide (set2_block (x' := .int .i64 2) (y' := .int .i64 0) (unhide HB9))
      obtain ⟨s0, s1, -⟩ := block2 (unhide HFIN)
      exact bodyPost_ret (v := faultV (2, 0)) (by simp [faultV, results, Try.results13, go_sem, s0, s1]) rfl ⟨rfl, below_set2 (unhide HX9) (Nat.le_succ _) _ _⟩
    · by_cases h2 : 30 < b
      · go_wp2_with (go_at_call 15; refine (f_any _ _ _).mono ?_; rintro e w9 ⟨rfl, hb9⟩; have HX9 := hide (Below.next (unhide HX) hb9 (Nat.le_refl _)); have HB9 := hide (keep_below (unhide HK1) hb9); obtain ⟨u0, u1, uf0, uf1, ul⟩ := block2 (unhide HB9); clear hb9)
        have HFIN := hide (set2_block (x' := .int .i64 2) (y' := .int .i64 0) (unhide HB9))
        obtain ⟨s0, s1, -⟩ := block2 (unhide HFIN)
        exact bodyPost_ret (v := faultV (2, 0)) (by simp [faultV, results, Try.results13, go_sem, s0, s1]) rfl ⟨rfl, below_set2 (unhide HX9) (Nat.le_succ _) _ _⟩
      · go_wp2_with (go_at_call 15; refine (f_any _ _ _).mono ?_; rintro e w9 ⟨rfl, hb9⟩; have HX9 := hide (Below.next (unhide HX) hb9 (Nat.le_refl _)); have HB9 := hide (keep_below (unhide HK1) hb9); obtain ⟨u0, u1, uf0, uf1, ul⟩ := block2 (unhide HB9); clear hb9)
        have HFIN := hide (set2_block (x' := .int .i64 2) (y' := .int .i64 0) (unhide HB9))
        obtain ⟨s0, s1, -⟩ := block2 (unhide HFIN)
        exact bodyPost_ret (v := faultV (2, 0)) (by simp [faultV, results, Try.results13, go_sem, s0, s1]) rfl ⟨rfl, below_set2 (unhide HX9) (Nat.le_succ _) _ _⟩

theorem mate_whole {U : Int} {fs : List Bl} (hf : ∀ x ∈ fs, fitB U x = true) {x : Bl} (hx : fitB U x = true) (hu : x.2 = U) : hasB (mateB x) fs = false := by
  obtain ⟨t, c⟩ := x
  obtain ⟨h1, h2, h3, h4⟩ := fit_parts hx
  simp only at h1 h2 h3 h4 hu
  have hp := pw_pos h1
  have ht : t = 0 := by omega
  rw [Bool.eq_false_iff]
  intro h
  have h5 := hf _ ((hasB_iff _ _).1 h)
  obtain ⟨-, g2, -, g4⟩ := fit_parts h5
  subst ht
  simp only [mateB, mateS, evn, Int.zero_ediv] at g2 g4
  simp at g4
  omega
def mB (fs : List Bl) (x : Bl) : Bool := hasB (mateB x) fs
theorem partN_used {U at_ : Int} {k i l : Nat} {us fs : List Bl} (hi : i < us.length) (ht : (aAt us i).1 = at_) (hlt : at_ < U) : partN U (k + 1) at_ (us.drop i) (fs.drop l) = partN U k (at_ + (aAt us i).2) (us.drop (i + 1)) (fs.drop l) := by
  rw [partN, if_pos hlt, drop_at hi, if_pos (by simp [ht])]
  rfl
theorem partN_free {U at_ : Int} {k i l : Nat} {us fs : List Bl} (hno : i < us.length → ¬ (aAt us i).1 = at_) (hl : l < fs.length) (ht : (aAt fs l).1 = at_) (hlt : at_ < U) : partN U (k + 1) at_ (us.drop i) (fs.drop l) = partN U k (at_ + (aAt fs l).2) (us.drop i) (fs.drop (l + 1)) := by
  have h1 : ¬ (us.drop i).head?.map Prod.fst = some at_ := by
    by_cases hi : i < us.length
    · rw [drop_at hi]; simpa using hno hi
    · rw [List.drop_eq_nil_of_le (by omega)]; simp
  rw [partN, if_pos hlt, if_neg h1, drop_at hl, if_pos (by simp [ht])]
  rfl
theorem partN_stop {U at_ : Int} {k i l : Nat} {us fs : List Bl} (hno : i < us.length → ¬ (aAt us i).1 = at_) (hno' : l < fs.length → ¬ (aAt fs l).1 = at_) (hs : i < us.length ∨ l < fs.length) : partN U (k + 1) at_ (us.drop i) (fs.drop l) = false := by
  have h1 : ¬ (us.drop i).head?.map Prod.fst = some at_ := by
    by_cases hi : i < us.length
    · rw [drop_at hi]; simpa using hno hi
    · rw [List.drop_eq_nil_of_le (by omega)]; simp
  have h2 : ¬ (fs.drop l).head?.map Prod.fst = some at_ := by
    by_cases hi : l < fs.length
    · rw [drop_at hi]; simpa using hno' hi
    · rw [List.drop_eq_nil_of_le (by omega)]; simp
  rw [partN, if_neg h1, if_neg h2]
  by_cases hlt : at_ < U
  · rw [if_pos hlt]
  · rw [if_neg hlt]
    rcases hs with hi | hl
    · rw [drop_at hi]; simp
    · rw [drop_at hl]; simp
theorem partN_end {U at_ : Int} {k : Nat} {us fs : List Bl} (hle : at_ ≤ U) : partN U (k + 1) at_ (us.drop us.length) (fs.drop fs.length) = decide (at_ = U) := by
  rw [partN, List.drop_length, List.drop_length]
  by_cases hlt : at_ < U
  · rw [if_pos hlt, if_neg (by simp), if_neg (by simp)]
    exact (decide_eq_false (by omega)).symm
  · rw [if_neg hlt]
    exact (decide_eq_true (by omega)).symm

theorem mates_at {fs : List Bl} {j : Nat} (hj : j < fs.length) (h : mB fs (aAt fs j) = true) : matesL fs = true := (any_aAt fs _).2 ⟨j, hj, h⟩
theorem mates_none {fs : List Bl} (h : ∀ i, i < fs.length → mB fs (aAt fs i) = false) : matesL fs = false := by
  rw [Bool.eq_false_iff]
  intro h1
  obtain ⟨i, hi, he⟩ := (any_aAt fs _).1 h1
  have := h i hi
  unfold mB at this
  rw [this] at he
  cases he

set_option maxRecDepth 100000 in
set_option maxHeartbeats 4000000 in
theorem refFault_rest (w : World) (v : Value) (b : Int) (us fs : List Bl) (h : IsS w v b us fs) (hn : us.length ≤ 100000) (hm : fs.length ≤ 100000) (hw : ¬ (b < 0 ∨ 30 < b ∨ 5000 < us.length + fs.length)) :
    Calls Try.prog 13 #[v] w fun e w' => e = .returned (faultV (spaceF b us fs)) ∧ Below w.heap.size w w' := by
  have hb0 : 0 ≤ b := by omega
  have hb30 : b ≤ 30 := by omega
  obtain ⟨hu1, hu2⟩ := pow30 hb0 hb30
  have hsh := wrapi (x := (2 : Int) ^ b.toNat) (by omega) (by omega)
  obtain ⟨a0, c0, a1, c1, rfl, hu, hf⟩ := h.form
  have HO1 := hide (hu.opens kb rfl); have HO2 := hide (hf.opens kb rfl); have HFL := hide hf
  obtain ⟨S, eS⟩ : ∃ S, spaceF b us fs = S := ⟨_, rfl⟩
  have HS : Hid (spaceF b us fs = S) := eS
  rw [eS]
  unfold spaceF at HS
  rw [if_neg hw] at HS
  have HSH : Hid (∀ n : Nat, (n : Int) = b → Op.shift .shl .i64 1 .i64 b = pure (.int .i64 ((2 : Int) ^ b.toNat))) := fun n hnb => by
    subst hnb
    have h4 : min n 64 = n := by omega
    have h5 : ¬ ((n : Int) < 0) := by omega
    simp at hsh
    simp [hsh]
  have hshift := unhide HSH b.toNat (by omega)
  obtain ⟨U, eU⟩ : ∃ U, (2 : Int) ^ b.toNat = U := ⟨_, rfl⟩
  rw [eU] at HS hu1 hu2 hsh hshift
  obtain ⟨X3, eX3⟩ : ∃ X, partL U us fs = X := ⟨_, rfl⟩
  obtain ⟨X4, eX4⟩ : ∃ X, matesL fs = X := ⟨_, rfl⟩
  have HX3D : Hid (partN U (us.length + fs.length + 1) 0 us fs = X3) := eX3
  have HX4D : Hid (matesL fs = X4) := eX4
  rw [eX3, eX4] at HS
  obtain ⟨X1, eX1⟩ : ∃ X, firstW U none us = X := ⟨_, rfl⟩
  obtain ⟨X2, eX2⟩ : ∃ X, firstW U none fs = X := ⟨_, rfl⟩
  have HF1 : Hid (firstW U (prevO us 0) (us.drop 0) = X1) := eX1
  have HF2 : Hid (firstW U (prevO fs 0) (fs.drop 0) = X2) := eX2
  have HEND1 : Hid (firstW U (prevO us us.length) (us.drop us.length) = 0) := by rw [List.drop_length]; exact rfl
  have HEND2 : Hid (firstW U (prevO fs fs.length) (fs.drop fs.length) = 0) := by rw [List.drop_length]; exact rfl
  have HG1 : Hid (X1 = 0 → ∀ x ∈ us, fitB U x = true) := fun z => (firstW_zero us none (eX1.trans z)).1
  have HG2 : Hid (X2 = 0 → ∀ x ∈ fs, fitB U x = true) := fun z => (firstW_zero fs none (eX2.trans z)).1
  rw [eX1, eX2] at HS
  obtain ⟨n, en⟩ : ∃ n, us.length = n := ⟨_, rfl⟩
  obtain ⟨m, em⟩ : ∃ m, fs.length = m := ⟨_, rfl⟩
  have HN1 := hide en; have HN2 := hide em
  rw [en, em] at hw
  rw [en] at hn HO1 HEND1 ⊢
  rw [em] at hm HO2 HEND2 HFL ⊢
  obtain ⟨W, e0, hB, k0, k1⟩ := two_new w (.cells #[.int .i64 b, .slice a0 n c0, .slice a1 m c1] 24) (.cells #[.int .i64 0, .int .i64 0] 29)
  have HX := hide hB; have HE := hide e0; have HK0 := hide k0; have HK1 := hide k1
  have hs1 : IntKind.i64.wrap ((n : Int) + (m : Int)) = (n : Int) + (m : Int) := wrapi (by omega) (by omega)
  have hs2 : ¬ (5000 : Int) < (n : Int) + (m : Int) := by omega
  have hs3 : ¬ b < 0 := by omega
  have hs4 : ¬ 30 < b := by omega
  clear h hu hf eS eX1 eX2 eX3 eX4 en em hB e0 k0 k1 hw HSH
  go_enter Try.func13, Try.ntmps13
  go_upto_region 1 with fail
  rw [unhide HE]
  clear HE
  obtain ⟨⟨p0, p1, p2⟩, -, pl⟩ := block3 (unhide HK0)
  obtain ⟨q0, q1, f0, f1, ql⟩ := block2 (unhide HK1)
  go_upto_region 5 with fail
  go_loopw [4] (fun s wr => ∃ j : Nat, j ≤ 2 ∧ s = .int .i64 (j : Int) ∧ Hid (0 < j → X1 = 0) ∧ Hid (1 < j → X2 = 0) ∧ Hid (wr.heap[w.heap.size]? = some (.cells #[.int .i64 b, .slice a0 n c0, .slice a1 m c1] 24 (0, 0))) ∧ Hid (wr.heap[w.heap.size + 1]? = some (.cells #[.int .i64 0, .int .i64 0] 29 (0, 0))) ∧ Hid (Below w.heap.size w wr)) (fun s _ => 2 - (intOf s).toNat)
  case atStart => exact ⟨0, by omega, rfl, hide (fun h => absurd h (Nat.lt_irrefl _)), hide (fun h => by omega), HK0, HK1, HX⟩
  case round =>
    clear p0 p1 p2 pl q0 q1 f0 f1 ql HX HK0 HK1
    obtain ⟨j, hj, rfl, HZ1, HZ2, HA, HB, HX⟩ := hrel
    have hj3 : j = 0 ∨ j = 1 ∨ j = 2 := by omega
    obtain ⟨⟨p0, p1, p2⟩, -, pl⟩ := block3 (unhide HA)
    rcases hj3 with rfl | rfl | rfl
    · go_upto_region 11 with fail
      go_loopw [6] (fun s wr => ∃ i : Nat, i ≤ n ∧ s = .int .i64 (i : Int) ∧ Hid (firstW U (prevO us i) (us.drop i) = X1) ∧ Hid (wr.heap[w.heap.size]? = some (.cells #[.int .i64 b, .slice a0 n c0, .slice a1 m c1] 24 (0, 0))) ∧ Hid (wr.heap[w.heap.size + 1]? = some (.cells #[.int .i64 0, .int .i64 0] 29 (0, 0))) ∧ Hid (Below w.heap.size w wr)) (fun s _ => n - (intOf s).toNat)
      case atStart => exact ⟨0, Nat.zero_le _, rfl, HF1, HA, HB, HX⟩
      case round =>
        clear HA HB HX p0 p1 p2 pl
        obtain ⟨i, hi, rfl, HR, HA, HB, HX⟩ := hrel
        obtain ⟨⟨p0, p1, p2⟩, -, pl⟩ := block3 (unhide HA)
        by_cases hlt : i < n
        · obtain ⟨b0, o0, rfl, hb0, l0⟩ := unhide HO1 (by omega)
          obtain ⟨⟨t, c⟩, hx⟩ : ∃ z, aAt us i = z := ⟨_, rfl⟩
          have hin : i < us.length := by rw [unhide HN1]; exact hlt
          obtain ⟨k0, k1⟩ := (l0.below (unhide HX) hb0).block (j := i) hin hx
          have HLL : Hid (∀ W, Below w.heap.size w W → Lies KB W b0 o0 us) := fun W hW => l0.below hW hb0
          have HBADJ := hide (@firstW_bad U us i hin); have HLOWJ := hide (@firstW_low U us i hin); have HNXTJ := hide (@firstW_next U us i hin)
          rw [hx] at HBADJ HLOWJ HNXTJ
          have i0 : (0 : Int) ≤ (i : Int) := by omega
          have i1 : (i : Int) < (n : Int) := by omega
          have hw1 : IntKind.i64.wrap ((i : Int) + 1) = (i : Int) + 1 := wrapi (by omega) (by omega)
          have HIP : Hid (∀ W, Calls Try.prog 30 #[.int .i64 c] W fun e w' => e = .returned (.bool (pw c)) ∧ w' = W) := fun W => isPower_any W c
          obtain ⟨PC, ePC⟩ : ∃ X, pw c = X := ⟨_, rfl⟩
          rw [ePC] at HIP
          have HPC := hide ePC
          have HP0 := hide (new_block wr (.cells #[.int .i64 t, .int .i64 c] 38))
          have HB1 := hide ((Below.refl wr.heap.size wr).alloc (Nat.le_refl _) (.cells #[.int .i64 t, .int .i64 c] 38))
          obtain ⟨VB, eV⟩ : ∃ X, wr.heap.size = X := ⟨_, rfl⟩
          go_upto_region 14 with fail
          obtain ⟨W1, e1⟩ : ∃ X, wr.alloc (.cells #[.int .i64 t, .int .i64 c] 38) = X := ⟨_, rfl⟩
          rw [e1] at HP0 HB1 ⊢
          rw [eV] at HP0
          have HX1 := hide (Below.next (unhide HX) (unhide HB1) (Nat.le_refl _))
          have HA1 := hide (keep_below (unhide HA) (unhide HB1))
          have HC1 := hide (keep_below (unhide HB) (unhide HB1))
          clear e1 k0 k1 eV l0 hx hb0 ePC hin p0 p1 p2 pl HA HB HX HB1
          obtain ⟨y0, y1, -, -, yl⟩ := block2 (unhide HP0)
          obtain ⟨⟨p0, p1, p2⟩, -, pl⟩ := block3 (unhide HA1)
          have hquit : Hid (fitB U (t, c) = false → X1 = 3) := fun hf => by rw [← unhide HR]; exact unhide HBADJ hf
          have HGO : Hid (X1 = 3 → ((3 : Int), (0 : Int)) = S) := fun hX3 => by
            have hS := unhide HS
            rw [if_pos (by rw [hX3]; decide), hX3] at hS
            exact hS
          have HARM : Hid True := trivial
          cases PC with
          | false =>
            have HS2 := hide (unhide HGO (unhide hquit (by unfold fitB; rw [show pw ((t, c) : Bl).2 = false from unhide HPC]; rfl)))
            clear hquit HGO HBADJ HLOWJ HNXTJ
            go_upto_region 15 with (go_at_call 30; refine (unhide HIP _).mono ?_; rintro e w8 ⟨rfl, hw8⟩; rw [hw8]; clear hw8 w8)
            go_wp2_with (go_at_call 15; refine (f_any _ _ _).mono ?_; rintro e w9 ⟨rfl, hb9⟩; have HX9 := hide (Below.next (unhide HX1) hb9 (Nat.le_refl _)); have HB9 := hide (keep_below (unhide HC1) hb9); obtain ⟨u0, u1, uf0, uf1, ul⟩ := block2 (unhide HB9); clear hb9)
            have HFIN := hide (set2_block (x' := .int .i64 3) (y' := .int .i64 0) (unhide HB9))
            obtain ⟨s0, s1, -⟩ := block2 (unhide HFIN)
            exact bodyPost_ret (v := faultV (3, 0)) (by simp [faultV, results, Try.results13, go_sem, s0, s1]) rfl ⟨by rw [← unhide HS2] <;> rfl, below_set2 (unhide HX9) (Nat.le_succ _) _ _⟩
          | true =>
            have hcp := pw_pos (unhide HPC)
            have hcl := pw_le (unhide HPC)
            have hc0 : ¬ c = 0 := by omega
            by_cases ht : t < 0
            · have HS2 := hide (unhide HGO (unhide hquit (by unfold fitB; rw [show decide (0 ≤ ((t, c) : Bl).1) = false from decide_eq_false (by simp only; omega)]; simp)))
              clear hquit HGO HBADJ HLOWJ HNXTJ
              go_upto_region 15 with (go_at_call 30; refine (unhide HIP _).mono ?_; rintro e w8 ⟨rfl, hw8⟩; rw [hw8]; clear hw8 w8)
              go_wp2_with (go_at_call 15; refine (f_any _ _ _).mono ?_; rintro e w9 ⟨rfl, hb9⟩; have HX9 := hide (Below.next (unhide HX1) hb9 (Nat.le_refl _)); have HB9 := hide (keep_below (unhide HC1) hb9); obtain ⟨u0, u1, uf0, uf1, ul⟩ := block2 (unhide HB9); clear hb9)
              have HFIN := hide (set2_block (x' := .int .i64 3) (y' := .int .i64 0) (unhide HB9))
              obtain ⟨s0, s1, -⟩ := block2 (unhide HFIN)
              exact bodyPost_ret (v := faultV (3, 0)) (by simp [faultV, results, Try.results13, go_sem, s0, s1]) rfl ⟨by rw [← unhide HS2] <;> rfl, below_set2 (unhide HX9) (Nat.le_succ _) _ _⟩
            · have ht0 : 0 ≤ t := by omega
              have htm : t.tmod c = t % c := Int.tmod_eq_emod_of_nonneg ht0
              by_cases hm : t % c = 0
              · have hb1 : (t % c != 0) = false := by simp [hm]
                have hb2 : (t.tmod c != 0) = false := by rw [htm]; exact hb1
                by_cases hcU : U < c
                · have HS2 := hide (unhide HGO (unhide hquit (by unfold fitB; rw [show decide (((t, c) : Bl).1 ≤ U - ((t, c) : Bl).2) = false from decide_eq_false (by simp only; omega)]; simp)))
                  clear hquit HGO HBADJ HLOWJ HNXTJ
                  go_upto_region 15 with (go_at_call 30; refine (unhide HIP _).mono ?_; rintro e w8 ⟨rfl, hw8⟩; rw [hw8]; clear hw8 w8)
                  go_wp2_with (go_at_call 15; refine (f_any _ _ _).mono ?_; rintro e w9 ⟨rfl, hb9⟩; have HX9 := hide (Below.next (unhide HX1) hb9 (Nat.le_refl _)); have HB9 := hide (keep_below (unhide HC1) hb9); obtain ⟨u0, u1, uf0, uf1, ul⟩ := block2 (unhide HB9); clear hb9)
                  have HFIN := hide (set2_block (x' := .int .i64 3) (y' := .int .i64 0) (unhide HB9))
                  obtain ⟨s0, s1, -⟩ := block2 (unhide HFIN)
                  exact bodyPost_ret (v := faultV (3, 0)) (by simp [faultV, results, Try.results13, go_sem, s0, s1]) rfl ⟨by rw [← unhide HS2] <;> rfl, below_set2 (unhide HX9) (Nat.le_succ _) _ _⟩
                · have hw2 : IntKind.i64.wrap (U - c) = U - c := wrapi (by omega) (by omega)
                  by_cases htU : U - c < t
                  · have HS2 := hide (unhide HGO (unhide hquit (by unfold fitB; rw [show decide (((t, c) : Bl).1 ≤ U - ((t, c) : Bl).2) = false from decide_eq_false (by simp only; omega)]; simp)))
                    clear hquit HGO HBADJ HLOWJ HNXTJ
                    go_upto_region 15 with (go_at_call 30; refine (unhide HIP _).mono ?_; rintro e w8 ⟨rfl, hw8⟩; rw [hw8]; clear hw8 w8)
                    go_wp2_with (go_at_call 15; refine (f_any _ _ _).mono ?_; rintro e w9 ⟨rfl, hb9⟩; have HX9 := hide (Below.next (unhide HX1) hb9 (Nat.le_refl _)); have HB9 := hide (keep_below (unhide HC1) hb9); obtain ⟨u0, u1, uf0, uf1, ul⟩ := block2 (unhide HB9); clear hb9)
                    have HFIN := hide (set2_block (x' := .int .i64 3) (y' := .int .i64 0) (unhide HB9))
                    obtain ⟨s0, s1, -⟩ := block2 (unhide HFIN)
                    exact bodyPost_ret (v := faultV (3, 0)) (by simp [faultV, results, Try.results13, go_sem, s0, s1]) rfl ⟨by rw [← unhide HS2] <;> rfl, below_set2 (unhide HX9) (Nat.le_succ _) _ _⟩
                  · have HFIT : Hid (fitB U (t, c) = true) := fit_of (unhide HPC) ht0 hm (by omega)
                    clear hquit
                    go_upto_region 16 with (go_at_call 30; refine (unhide HIP _).mono ?_; rintro e w8 ⟨rfl, hw8⟩; rw [hw8]; clear hw8 w8)
                    by_cases hj0 : 0 < i
                    · obtain ⟨⟨t', c'⟩, hx⟩ : ∃ z, aAt us (i - 1) = z := ⟨_, rfl⟩
                      obtain ⟨k0, k1⟩ := (unhide HLL _ (unhide HX1)).block (j := i - 1) (by rw [unhide HN1]; omega) hx
                      rw [hx] at HLOWJ HNXTJ
                      have hw3 : IntKind.i64.wrap ((i : Int) - 1) = ((i - 1 : Nat) : Int) := by rw [wrapi (by omega) (by omega)]; omega
                      have i3 : (0 : Int) ≤ ((i - 1 : Nat) : Int) := by omega
                      have i4 : ((i - 1 : Nat) : Int) < (n : Int) := by omega
                      have i5 : (0 : Int) < (i : Int) := by omega
                      have hw4 : (i : Int) - 1 = ((i - 1 : Nat) : Int) := by omega
                      have htn : (((i - 1 : Nat) : Int)).toNat = i - 1 := by omega
                      clear hx
                      by_cases hle : t ≤ t'
                      · have HX5 : Hid (X1 = 5) := (unhide HR).symm.trans (unhide HLOWJ (unhide HFIT) hj0 hle)
                        have HS2 : Hid (((5 : Int), (0 : Int)) = S) := by
                          have hX3 := unhide HX5
                          have hS := unhide HS
                          rw [if_pos (by rw [hX3]; decide), hX3] at hS
                          exact hS
                        clear HGO HBADJ HLOWJ HNXTJ
                        go_quiet (fail)
                        have HX3 := hide (below_drewN (unhide HX1) nq)
                        have HC3 := hide (keep_below (unhide HC1) (below_drewN (Below.refl _ _) nq))
                        go_upto_region 17 with fail
                        go_wp2_with (go_at_call 15; refine (f_any _ _ _).mono ?_; rintro e w9 ⟨rfl, hb9⟩; have HX9 := hide (Below.next (unhide HX3) hb9 (Nat.le_refl _)); have HB9 := hide (keep_below (unhide HC3) hb9); obtain ⟨u0, u1, uf0, uf1, ul⟩ := block2 (unhide HB9); clear hb9)
                        have HFIN := hide (set2_block (x' := .int .i64 5) (y' := .int .i64 0) (unhide HB9))
                        obtain ⟨s0, s1, -⟩ := block2 (unhide HFIN)
                        exact bodyPost_ret (v := faultV (5, 0)) (by simp [faultV, results, Try.results13, go_sem, s0, s1]) rfl ⟨by rw [← unhide HS2] <;> rfl, below_set2 (unhide HX9) (Nat.le_succ _) _ _⟩
                      · have HR2 : Hid (firstW U (prevO us (i + 1)) (us.drop (i + 1)) = X1) := by rw [← unhide HNXTJ (unhide HFIT) (fun _ => by simp only; omega)]; exact unhide HR
                        clear HGO HBADJ HLOWJ HNXTJ
                        go_quiet (fail)
                        have hbq : Below W1.heap.size W1 (W1.drewN nq) := below_drewN (Below.refl _ _) nq
                        have HX3 := hide (below_drewN (unhide HX1) nq)
                        have HA3 := hide (keep_below (unhide HA1) hbq)
                        have HC3 := hide (keep_below (unhide HC1) hbq)
                        obtain ⟨V3, eV3⟩ : ∃ V, W1.drewN nq = V := ⟨_, rfl⟩
                        rw [eV3] at HX3 HA3 HC3 ⊢
                        clear hbq eV3
                        go_wp2_with fail
                        go_roundw
                        case rel => first | exact ⟨i + 1, by omega, by go_num, HR2, HA3, HC3, HX3⟩ | exact ⟨i + 1, by omega, by go_num, HR2⟩
                        case measure => simp [intOf]; omega
                    · have hj1 : ¬ (0 : Int) < (i : Int) := by omega
                      have HR2 : Hid (firstW U (prevO us (i + 1)) (us.drop (i + 1)) = X1) := by rw [← unhide HNXTJ (unhide HFIT) (fun h => absurd h hj0)]; exact unhide HR
                      clear HGO HBADJ HLOWJ HNXTJ
                      go_quiet (fail)
                      have hbq : Below W1.heap.size W1 (W1.drewN nq) := below_drewN (Below.refl _ _) nq
                      have HX3 := hide (below_drewN (unhide HX1) nq)
                      have HA3 := hide (keep_below (unhide HA1) hbq)
                      have HC3 := hide (keep_below (unhide HC1) hbq)
                      obtain ⟨V3, eV3⟩ : ∃ V, W1.drewN nq = V := ⟨_, rfl⟩
                      rw [eV3] at HX3 HA3 HC3 ⊢
                      clear hbq eV3
                      go_wp2_with fail
                      go_roundw
                      case rel => first | exact ⟨i + 1, by omega, by go_num, HR2, HA3, HC3, HX3⟩ | exact ⟨i + 1, by omega, by go_num, HR2⟩
                      case measure => simp [intOf]; omega
              · have hb1 : (t % c != 0) = true := by simp [hm]
                have hb2 : (t.tmod c != 0) = true := by rw [htm]; exact hb1
                have HS2 := hide (unhide HGO (unhide hquit (by unfold fitB; rw [show (((t, c) : Bl).1 % ((t, c) : Bl).2 == 0) = false from by simpa using hm]; simp)))
                clear hquit HGO HBADJ HLOWJ HNXTJ
                go_upto_region 15 with (go_at_call 30; refine (unhide HIP _).mono ?_; rintro e w8 ⟨rfl, hw8⟩; rw [hw8]; clear hw8 w8)
                go_wp2_with (go_at_call 15; refine (f_any _ _ _).mono ?_; rintro e w9 ⟨rfl, hb9⟩; have HX9 := hide (Below.next (unhide HX1) hb9 (Nat.le_refl _)); have HB9 := hide (keep_below (unhide HC1) hb9); obtain ⟨u0, u1, uf0, uf1, ul⟩ := block2 (unhide HB9); clear hb9)
                have HFIN := hide (set2_block (x' := .int .i64 3) (y' := .int .i64 0) (unhide HB9))
                obtain ⟨s0, s1, -⟩ := block2 (unhide HFIN)
                exact bodyPost_ret (v := faultV (3, 0)) (by simp [faultV, results, Try.results13, go_sem, s0, s1]) rfl ⟨by rw [← unhide HS2] <;> rfl, below_set2 (unhide HX9) (Nat.le_succ _) _ _⟩
        · obtain rfl : i = n := by omega
          have i1 : ¬ (i : Int) < (i : Int) := by omega
          have HZ : Hid (X1 = 0) := by rw [← unhide HR, unhide HEND1]; exact rfl
          go_wp2_with fail
          go_roundw
          case rel => first | exact ⟨0 + 1, by omega, by go_num, hide (fun _ => unhide HZ), hide (fun h => by omega), HA, HB, HX⟩ | exact ⟨0 + 1, by omega, by go_num, hide (fun _ => unhide HZ), hide (fun h => by omega)⟩
          case measure => simp [intOf]
    · go_upto_region 11 with fail
      go_loopw [6] (fun s wr => ∃ i : Nat, i ≤ m ∧ s = .int .i64 (i : Int) ∧ Hid (firstW U (prevO fs i) (fs.drop i) = X2) ∧ Hid (wr.heap[w.heap.size]? = some (.cells #[.int .i64 b, .slice a0 n c0, .slice a1 m c1] 24 (0, 0))) ∧ Hid (wr.heap[w.heap.size + 1]? = some (.cells #[.int .i64 0, .int .i64 0] 29 (0, 0))) ∧ Hid (Below w.heap.size w wr)) (fun s _ => m - (intOf s).toNat)
      case atStart => exact ⟨0, Nat.zero_le _, rfl, HF2, HA, HB, HX⟩
      case round =>
        clear HA HB HX p0 p1 p2 pl
        obtain ⟨i, hi, rfl, HR, HA, HB, HX⟩ := hrel
        obtain ⟨⟨p0, p1, p2⟩, -, pl⟩ := block3 (unhide HA)
        by_cases hlt : i < m
        · obtain ⟨b0, o0, rfl, hb0, l0⟩ := unhide HO2 (by omega)
          obtain ⟨⟨t, c⟩, hx⟩ : ∃ z, aAt fs i = z := ⟨_, rfl⟩
          have hin : i < fs.length := by rw [unhide HN2]; exact hlt
          obtain ⟨k0, k1⟩ := (l0.below (unhide HX) hb0).block (j := i) hin hx
          have HLL : Hid (∀ W, Below w.heap.size w W → Lies KB W b0 o0 fs) := fun W hW => l0.below hW hb0
          have HBADJ := hide (@firstW_bad U fs i hin); have HLOWJ := hide (@firstW_low U fs i hin); have HNXTJ := hide (@firstW_next U fs i hin)
          rw [hx] at HBADJ HLOWJ HNXTJ
          have i0 : (0 : Int) ≤ (i : Int) := by omega
          have i1 : (i : Int) < (m : Int) := by omega
          have hw1 : IntKind.i64.wrap ((i : Int) + 1) = (i : Int) + 1 := wrapi (by omega) (by omega)
          have HIP : Hid (∀ W, Calls Try.prog 30 #[.int .i64 c] W fun e w' => e = .returned (.bool (pw c)) ∧ w' = W) := fun W => isPower_any W c
          obtain ⟨PC, ePC⟩ : ∃ X, pw c = X := ⟨_, rfl⟩
          rw [ePC] at HIP
          have HPC := hide ePC
          have HP0 := hide (new_block wr (.cells #[.int .i64 t, .int .i64 c] 38))
          have HB1 := hide ((Below.refl wr.heap.size wr).alloc (Nat.le_refl _) (.cells #[.int .i64 t, .int .i64 c] 38))
          obtain ⟨VB, eV⟩ : ∃ X, wr.heap.size = X := ⟨_, rfl⟩
          go_upto_region 14 with fail
          obtain ⟨W1, e1⟩ : ∃ X, wr.alloc (.cells #[.int .i64 t, .int .i64 c] 38) = X := ⟨_, rfl⟩
          rw [e1] at HP0 HB1 ⊢
          rw [eV] at HP0
          have HX1 := hide (Below.next (unhide HX) (unhide HB1) (Nat.le_refl _))
          have HA1 := hide (keep_below (unhide HA) (unhide HB1))
          have HC1 := hide (keep_below (unhide HB) (unhide HB1))
          clear e1 k0 k1 eV l0 hx hb0 ePC hin p0 p1 p2 pl HA HB HX HB1
          obtain ⟨y0, y1, -, -, yl⟩ := block2 (unhide HP0)
          obtain ⟨⟨p0, p1, p2⟩, -, pl⟩ := block3 (unhide HA1)
          have hquit : Hid (fitB U (t, c) = false → X2 = 3) := fun hf => by rw [← unhide HR]; exact unhide HBADJ hf
          have HGO : Hid (X2 = 3 → ((3 : Int), (1 : Int)) = S) := fun hX3 => by
            have hS := unhide HS
            rw [if_neg (by simp [unhide HZ1 (by omega)]), if_pos (by rw [hX3]; decide), hX3] at hS
            exact hS
          have HARM : Hid True := trivial
          cases PC with
          | false =>
            have HS2 := hide (unhide HGO (unhide hquit (by unfold fitB; rw [show pw ((t, c) : Bl).2 = false from unhide HPC]; rfl)))
            clear hquit HGO HBADJ HLOWJ HNXTJ
            go_upto_region 15 with (go_at_call 30; refine (unhide HIP _).mono ?_; rintro e w8 ⟨rfl, hw8⟩; rw [hw8]; clear hw8 w8)
            go_wp2_with (go_at_call 15; refine (f_any _ _ _).mono ?_; rintro e w9 ⟨rfl, hb9⟩; have HX9 := hide (Below.next (unhide HX1) hb9 (Nat.le_refl _)); have HB9 := hide (keep_below (unhide HC1) hb9); obtain ⟨u0, u1, uf0, uf1, ul⟩ := block2 (unhide HB9); clear hb9)
            have HFIN := hide (set2_block (x' := .int .i64 3) (y' := .int .i64 1) (unhide HB9))
            obtain ⟨s0, s1, -⟩ := block2 (unhide HFIN)
            exact bodyPost_ret (v := faultV (3, 1)) (by simp [faultV, results, Try.results13, go_sem, s0, s1]) rfl ⟨by rw [← unhide HS2] <;> rfl, below_set2 (unhide HX9) (Nat.le_succ _) _ _⟩
          | true =>
            have hcp := pw_pos (unhide HPC)
            have hcl := pw_le (unhide HPC)
            have hc0 : ¬ c = 0 := by omega
            by_cases ht : t < 0
            · have HS2 := hide (unhide HGO (unhide hquit (by unfold fitB; rw [show decide (0 ≤ ((t, c) : Bl).1) = false from decide_eq_false (by simp only; omega)]; simp)))
              clear hquit HGO HBADJ HLOWJ HNXTJ
              go_upto_region 15 with (go_at_call 30; refine (unhide HIP _).mono ?_; rintro e w8 ⟨rfl, hw8⟩; rw [hw8]; clear hw8 w8)
              go_wp2_with (go_at_call 15; refine (f_any _ _ _).mono ?_; rintro e w9 ⟨rfl, hb9⟩; have HX9 := hide (Below.next (unhide HX1) hb9 (Nat.le_refl _)); have HB9 := hide (keep_below (unhide HC1) hb9); obtain ⟨u0, u1, uf0, uf1, ul⟩ := block2 (unhide HB9); clear hb9)
              have HFIN := hide (set2_block (x' := .int .i64 3) (y' := .int .i64 1) (unhide HB9))
              obtain ⟨s0, s1, -⟩ := block2 (unhide HFIN)
              exact bodyPost_ret (v := faultV (3, 1)) (by simp [faultV, results, Try.results13, go_sem, s0, s1]) rfl ⟨by rw [← unhide HS2] <;> rfl, below_set2 (unhide HX9) (Nat.le_succ _) _ _⟩
            · have ht0 : 0 ≤ t := by omega
              have htm : t.tmod c = t % c := Int.tmod_eq_emod_of_nonneg ht0
              by_cases hm : t % c = 0
              · have hb1 : (t % c != 0) = false := by simp [hm]
                have hb2 : (t.tmod c != 0) = false := by rw [htm]; exact hb1
                by_cases hcU : U < c
                · have HS2 := hide (unhide HGO (unhide hquit (by unfold fitB; rw [show decide (((t, c) : Bl).1 ≤ U - ((t, c) : Bl).2) = false from decide_eq_false (by simp only; omega)]; simp)))
                  clear hquit HGO HBADJ HLOWJ HNXTJ
                  go_upto_region 15 with (go_at_call 30; refine (unhide HIP _).mono ?_; rintro e w8 ⟨rfl, hw8⟩; rw [hw8]; clear hw8 w8)
                  go_wp2_with (go_at_call 15; refine (f_any _ _ _).mono ?_; rintro e w9 ⟨rfl, hb9⟩; have HX9 := hide (Below.next (unhide HX1) hb9 (Nat.le_refl _)); have HB9 := hide (keep_below (unhide HC1) hb9); obtain ⟨u0, u1, uf0, uf1, ul⟩ := block2 (unhide HB9); clear hb9)
                  have HFIN := hide (set2_block (x' := .int .i64 3) (y' := .int .i64 1) (unhide HB9))
                  obtain ⟨s0, s1, -⟩ := block2 (unhide HFIN)
                  exact bodyPost_ret (v := faultV (3, 1)) (by simp [faultV, results, Try.results13, go_sem, s0, s1]) rfl ⟨by rw [← unhide HS2] <;> rfl, below_set2 (unhide HX9) (Nat.le_succ _) _ _⟩
                · have hw2 : IntKind.i64.wrap (U - c) = U - c := wrapi (by omega) (by omega)
                  by_cases htU : U - c < t
                  · have HS2 := hide (unhide HGO (unhide hquit (by unfold fitB; rw [show decide (((t, c) : Bl).1 ≤ U - ((t, c) : Bl).2) = false from decide_eq_false (by simp only; omega)]; simp)))
                    clear hquit HGO HBADJ HLOWJ HNXTJ
                    go_upto_region 15 with (go_at_call 30; refine (unhide HIP _).mono ?_; rintro e w8 ⟨rfl, hw8⟩; rw [hw8]; clear hw8 w8)
                    go_wp2_with (go_at_call 15; refine (f_any _ _ _).mono ?_; rintro e w9 ⟨rfl, hb9⟩; have HX9 := hide (Below.next (unhide HX1) hb9 (Nat.le_refl _)); have HB9 := hide (keep_below (unhide HC1) hb9); obtain ⟨u0, u1, uf0, uf1, ul⟩ := block2 (unhide HB9); clear hb9)
                    have HFIN := hide (set2_block (x' := .int .i64 3) (y' := .int .i64 1) (unhide HB9))
                    obtain ⟨s0, s1, -⟩ := block2 (unhide HFIN)
                    exact bodyPost_ret (v := faultV (3, 1)) (by simp [faultV, results, Try.results13, go_sem, s0, s1]) rfl ⟨by rw [← unhide HS2] <;> rfl, below_set2 (unhide HX9) (Nat.le_succ _) _ _⟩
                  · have HFIT : Hid (fitB U (t, c) = true) := fit_of (unhide HPC) ht0 hm (by omega)
                    clear hquit
                    go_upto_region 16 with (go_at_call 30; refine (unhide HIP _).mono ?_; rintro e w8 ⟨rfl, hw8⟩; rw [hw8]; clear hw8 w8)
                    by_cases hj0 : 0 < i
                    · obtain ⟨⟨t', c'⟩, hx⟩ : ∃ z, aAt fs (i - 1) = z := ⟨_, rfl⟩
                      obtain ⟨k0, k1⟩ := (unhide HLL _ (unhide HX1)).block (j := i - 1) (by rw [unhide HN2]; omega) hx
                      rw [hx] at HLOWJ HNXTJ
                      have hw3 : IntKind.i64.wrap ((i : Int) - 1) = ((i - 1 : Nat) : Int) := by rw [wrapi (by omega) (by omega)]; omega
                      have i3 : (0 : Int) ≤ ((i - 1 : Nat) : Int) := by omega
                      have i4 : ((i - 1 : Nat) : Int) < (m : Int) := by omega
                      have i5 : (0 : Int) < (i : Int) := by omega
                      have hw4 : (i : Int) - 1 = ((i - 1 : Nat) : Int) := by omega
                      have htn : (((i - 1 : Nat) : Int)).toNat = i - 1 := by omega
                      clear hx
                      by_cases hle : t ≤ t'
                      · have HX5 : Hid (X2 = 5) := (unhide HR).symm.trans (unhide HLOWJ (unhide HFIT) hj0 hle)
                        have HS2 : Hid (((5 : Int), (1 : Int)) = S) := by
                          have hX3 := unhide HX5
                          have hS := unhide HS
                          rw [if_neg (by simp [unhide HZ1 (by omega)]), if_pos (by rw [hX3]; decide), hX3] at hS
                          exact hS
                        clear HGO HBADJ HLOWJ HNXTJ
                        go_quiet (fail)
                        have HX3 := hide (below_drewN (unhide HX1) nq)
                        have HC3 := hide (keep_below (unhide HC1) (below_drewN (Below.refl _ _) nq))
                        go_upto_region 17 with fail
                        go_wp2_with (go_at_call 15; refine (f_any _ _ _).mono ?_; rintro e w9 ⟨rfl, hb9⟩; have HX9 := hide (Below.next (unhide HX3) hb9 (Nat.le_refl _)); have HB9 := hide (keep_below (unhide HC3) hb9); obtain ⟨u0, u1, uf0, uf1, ul⟩ := block2 (unhide HB9); clear hb9)
                        have HFIN := hide (set2_block (x' := .int .i64 5) (y' := .int .i64 1) (unhide HB9))
                        obtain ⟨s0, s1, -⟩ := block2 (unhide HFIN)
                        exact bodyPost_ret (v := faultV (5, 1)) (by simp [faultV, results, Try.results13, go_sem, s0, s1]) rfl ⟨by rw [← unhide HS2] <;> rfl, below_set2 (unhide HX9) (Nat.le_succ _) _ _⟩
                      · have HR2 : Hid (firstW U (prevO fs (i + 1)) (fs.drop (i + 1)) = X2) := by rw [← unhide HNXTJ (unhide HFIT) (fun _ => by simp only; omega)]; exact unhide HR
                        clear HGO HBADJ HLOWJ HNXTJ
                        go_quiet (fail)
                        have hbq : Below W1.heap.size W1 (W1.drewN nq) := below_drewN (Below.refl _ _) nq
                        have HX3 := hide (below_drewN (unhide HX1) nq)
                        have HA3 := hide (keep_below (unhide HA1) hbq)
                        have HC3 := hide (keep_below (unhide HC1) hbq)
                        obtain ⟨V3, eV3⟩ : ∃ V, W1.drewN nq = V := ⟨_, rfl⟩
                        rw [eV3] at HX3 HA3 HC3 ⊢
                        clear hbq eV3
                        go_wp2_with fail
                        go_roundw
                        case rel => first | exact ⟨i + 1, by omega, by go_num, HR2, HA3, HC3, HX3⟩ | exact ⟨i + 1, by omega, by go_num, HR2⟩
                        case measure => simp [intOf]; omega
                    · have hj1 : ¬ (0 : Int) < (i : Int) := by omega
                      have HR2 : Hid (firstW U (prevO fs (i + 1)) (fs.drop (i + 1)) = X2) := by rw [← unhide HNXTJ (unhide HFIT) (fun h => absurd h hj0)]; exact unhide HR
                      clear HGO HBADJ HLOWJ HNXTJ
                      go_quiet (fail)
                      have hbq : Below W1.heap.size W1 (W1.drewN nq) := below_drewN (Below.refl _ _) nq
                      have HX3 := hide (below_drewN (unhide HX1) nq)
                      have HA3 := hide (keep_below (unhide HA1) hbq)
                      have HC3 := hide (keep_below (unhide HC1) hbq)
                      obtain ⟨V3, eV3⟩ : ∃ V, W1.drewN nq = V := ⟨_, rfl⟩
                      rw [eV3] at HX3 HA3 HC3 ⊢
                      clear hbq eV3
                      go_wp2_with fail
                      go_roundw
                      case rel => first | exact ⟨i + 1, by omega, by go_num, HR2, HA3, HC3, HX3⟩ | exact ⟨i + 1, by omega, by go_num, HR2⟩
                      case measure => simp [intOf]; omega
              · have hb1 : (t % c != 0) = true := by simp [hm]
                have hb2 : (t.tmod c != 0) = true := by rw [htm]; exact hb1
                have HS2 := hide (unhide HGO (unhide hquit (by unfold fitB; rw [show (((t, c) : Bl).1 % ((t, c) : Bl).2 == 0) = false from by simpa using hm]; simp)))
                clear hquit HGO HBADJ HLOWJ HNXTJ
                go_upto_region 15 with (go_at_call 30; refine (unhide HIP _).mono ?_; rintro e w8 ⟨rfl, hw8⟩; rw [hw8]; clear hw8 w8)
                go_wp2_with (go_at_call 15; refine (f_any _ _ _).mono ?_; rintro e w9 ⟨rfl, hb9⟩; have HX9 := hide (Below.next (unhide HX1) hb9 (Nat.le_refl _)); have HB9 := hide (keep_below (unhide HC1) hb9); obtain ⟨u0, u1, uf0, uf1, ul⟩ := block2 (unhide HB9); clear hb9)
                have HFIN := hide (set2_block (x' := .int .i64 3) (y' := .int .i64 1) (unhide HB9))
                obtain ⟨s0, s1, -⟩ := block2 (unhide HFIN)
                exact bodyPost_ret (v := faultV (3, 1)) (by simp [faultV, results, Try.results13, go_sem, s0, s1]) rfl ⟨by rw [← unhide HS2] <;> rfl, below_set2 (unhide HX9) (Nat.le_succ _) _ _⟩
        · obtain rfl : i = m := by omega
          have i1 : ¬ (i : Int) < (i : Int) := by omega
          have HZ : Hid (X2 = 0) := by rw [← unhide HR, unhide HEND2]; exact rfl
          go_wp2_with fail
          go_roundw
          case rel => first | exact ⟨1 + 1, by omega, by go_num, hide (fun _ => unhide HZ1 (by omega)), hide (fun _ => unhide HZ), HA, HB, HX⟩ | exact ⟨1 + 1, by omega, by go_num, hide (fun _ => unhide HZ1 (by omega)), hide (fun _ => unhide HZ)⟩
          case measure => simp [intOf]
    · have HX3P : Hid (partN U (us.length + fs.length + 1) 0 (us.drop 0) (fs.drop 0) = X3) := unhide HX3D
      have HF1' := hide (unhide HG1 (unhide HZ1 (by omega))); have HF2' := hide (unhide HG2 (unhide HZ2 (by omega)))
      obtain ⟨N, eN⟩ : ∃ N, us.length + fs.length + 1 = N := ⟨_, rfl⟩
      rw [eN] at HX3P
      have hN : n + m + 1 ≤ N := by have := unhide HN1; have := unhide HN2; omega
      have hS0 := unhide HS
      rw [if_neg (by simp [unhide HZ1 (by omega)]), if_neg (by simp [unhide HZ2 (by omega)])] at hS0
      clear eN HS HZ1 HZ2 HG1 HG2 HF1 HF2
      have HS := hide hS0
      clear hS0
      go_upto_region 19 with fail
      go_loopw [8, 9, 10] (fun s8 s9 s10 wr => ∃ (k i l : Nat) (p : Int), s8 = .int .i64 p ∧ s9 = .int .i64 (i : Int) ∧ s10 = .int .i64 (l : Int) ∧ i ≤ n ∧ l ≤ m ∧ 0 ≤ p ∧ p ≤ U ∧ (n - i) + (m - l) + 1 ≤ k ∧ Hid (partN U k p (us.drop i) (fs.drop l) = X3) ∧ Hid (wr.heap[w.heap.size]? = some (.cells #[.int .i64 b, .slice a0 n c0, .slice a1 m c1] 24 (0, 0))) ∧ Hid (wr.heap[w.heap.size + 1]? = some (.cells #[.int .i64 0, .int .i64 0] 29 (0, 0))) ∧ Hid (Below w.heap.size w wr)) (fun _ s9 s10 _ => (n - (intOf s9).toNat) + (m - (intOf s10).toNat))
      case atStart => first | exact ⟨N, 0, 0, 0, rfl, rfl, rfl, Nat.zero_le _, Nat.zero_le _, Int.le_refl _, by omega, by omega, HX3P, HA, HB, HX⟩ | exact ⟨N, 0, 0, 0, rfl, rfl, rfl, Nat.zero_le _, Nat.zero_le _, Int.le_refl _, by omega, by omega, HX3P⟩
      case round =>
        clear HA HB HX p0 p1 p2 pl HX3P hN HX3D
        obtain ⟨k, i, l, p, rfl, rfl, rfl, hi, hl0, hp0, hpU, hk, HPN, HA, HB, HX⟩ := hrel
        obtain ⟨k, rfl⟩ : ∃ k', k = k' + 1 := ⟨k - 1, by omega⟩
        obtain ⟨⟨p0, p1, p2⟩, -, pl⟩ := block3 (unhide HA)
        by_cases hin : i < n
        · obtain ⟨b0, o0, rfl, hb0, l0⟩ := unhide HO1 (by omega)
          have hiu : i < us.length := by rw [unhide HN1]; exact hin
          obtain ⟨⟨t, c⟩, hx⟩ : ∃ z, aAt us i = z := ⟨_, rfl⟩
          obtain ⟨k0, k1⟩ := (l0.below (unhide HX) hb0).block (j := i) hiu hx
          have hfit := fit_parts (unhide HF1' (t, c) (by rw [← hx]; exact aAt_mem hiu))
          simp only at hfit
          have hcp := pw_pos hfit.1
          have hcu := hfit.2.2.2
          have i0 : (0 : Int) ≤ (i : Int) := by omega
          have i1 : (i : Int) < (n : Int) := by omega
          have hw3 : IntKind.i64.wrap ((i : Int) + 1) = (i : Int) + 1 := wrapi (by omega) (by omega)
          by_cases ht : t = p
          · have HPN2 : Hid (partN U k (p + c) (us.drop (i + 1)) (fs.drop l) = X3) := by
              have := unhide HPN
              rw [partN_used hiu (by rw [hx]; exact ht) (by omega), hx] at this
              exact this
            have hb4 : (t == p) = true := by simpa using ht
            have hw4 : IntKind.i64.wrap (p + c) = p + c := wrapi (by omega) (by omega)
            have ha1 : p + c ≤ U := by omega
            have ha0 : 0 ≤ p + c := by omega
            clear hfit hx l0 HPN ht hiu
            go_wp2_with fail
            go_roundw
            case rel => first | exact ⟨k, i + 1, l, p + c, rfl, by go_num, rfl, by omega, by omega, ha0, ha1, by omega, HPN2, HA, HB, HX⟩ | exact ⟨k, i + 1, l, p + c, rfl, by go_num, rfl, by omega, by omega, ha0, ha1, by omega, HPN2⟩
            case measure => simp [intOf]; omega
          · have hb4 : (t == p) = false := by simpa using ht
            have hno : Hid (i < us.length → ¬ (aAt us i).1 = p) := fun _ => by rw [hx]; exact ht
            clear hfit hx l0
            by_cases hl : l < m
            · obtain ⟨b1, o1, rfl, hb1, l1⟩ := unhide HO2 (by omega)
              have hlf : l < fs.length := by rw [unhide HN2]; exact hl
              obtain ⟨⟨t', c'⟩, hx'⟩ : ∃ z, aAt fs l = z := ⟨_, rfl⟩
              obtain ⟨r0, r1⟩ := (l1.below (unhide HX) hb1).block (j := l) hlf hx'
              have hfit' := fit_parts (unhide HF2' (t', c') (by rw [← hx']; exact aAt_mem hlf))
              simp only at hfit'
              have hcp' := pw_pos hfit'.1
              have hcu' := hfit'.2.2.2
              have j0 : (0 : Int) ≤ (l : Int) := by omega
              have j1 : (l : Int) < (m : Int) := by omega
              have hw6 : IntKind.i64.wrap ((l : Int) + 1) = (l : Int) + 1 := wrapi (by omega) (by omega)
              by_cases ht' : t' = p
              · have HPN2 : Hid (partN U k (p + c') (us.drop i) (fs.drop (l + 1)) = X3) := by
                  have := unhide HPN
                  rw [partN_free (unhide hno) hlf (by rw [hx']; exact ht') (by omega), hx'] at this
                  exact this
                have hb5 : (t' == p) = true := by simpa using ht'
                have hw7 : IntKind.i64.wrap (p + c') = p + c' := wrapi (by omega) (by omega)
                have ha1 : p + c' ≤ U := by omega
                have ha0 : 0 ≤ p + c' := by omega
                have hT := hide ht'
                clear hfit' hx' l1 HPN ht' hlf
                go_wp2_with fail
                go_roundw
                case rel => first | exact ⟨k, i, l + 1, p + c', rfl, rfl, by go_num, by omega, by omega, ha0, ha1, by omega, HPN2, HA, HB, HX⟩ | exact ⟨k, i, l + 1, p + c', rfl, rfl, by go_num, by omega, by omega, ha0, ha1, by omega, HPN2⟩
                case measure => simp [intOf]; omega
              · have hb5 : (t' == p) = false := by simpa using ht'
                have hno2 : Hid (l < fs.length → ¬ (aAt fs l).1 = p) := fun _ => by rw [hx']; exact ht'
                clear hfit' hx' l1
                have HX3F : Hid (X3 = false) := by rw [← unhide HPN, partN_stop (unhide hno) (unhide hno2) (Or.inr hlf)]; exact rfl
                have HS2 : Hid (((8 : Int), (0 : Int)) = S) := by
                  have hS := unhide HS
                  rw [if_pos (unhide HX3F)] at hS
                  exact hS
                clear HPN
                go_upto_region 26 with fail
                go_wp2_with (go_at_call 15; refine (f_any _ _ _).mono ?_; rintro e w9 ⟨rfl, hb9⟩; have HX9 := hide (Below.next (unhide HX) hb9 (Nat.le_refl _)); have HB9 := hide (keep_below (unhide HB) hb9); obtain ⟨u0, u1, uf0, uf1, ul⟩ := block2 (unhide HB9); clear hb9)
                have HFIN := hide (set2_block (x' := .int .i64 8) (y' := .int .i64 0) (unhide HB9))
                obtain ⟨s0, s1, -⟩ := block2 (unhide HFIN)
                exact bodyPost_ret (v := faultV (8, 0)) (by simp [faultV, results, Try.results13, go_sem, s0, s1]) rfl ⟨by rw [← unhide HS2] <;> rfl, below_set2 (unhide HX9) (Nat.le_succ _) _ _⟩
            · have hlm : ¬ (l : Int) < (m : Int) := by omega
              have hno2 : Hid (l < fs.length → ¬ (aAt fs l).1 = p) := fun h => absurd h (by rw [unhide HN2]; exact hl)
              have HX3F : Hid (X3 = false) := by rw [← unhide HPN, partN_stop (unhide hno) (unhide hno2) (Or.inl hiu)]; exact rfl
              have HS2 : Hid (((8 : Int), (0 : Int)) = S) := by
                have hS := unhide HS
                rw [if_pos (unhide HX3F)] at hS
                exact hS
              clear HPN
              go_upto_region 26 with fail
              go_wp2_with (go_at_call 15; refine (f_any _ _ _).mono ?_; rintro e w9 ⟨rfl, hb9⟩; have HX9 := hide (Below.next (unhide HX) hb9 (Nat.le_refl _)); have HB9 := hide (keep_below (unhide HB) hb9); obtain ⟨u0, u1, uf0, uf1, ul⟩ := block2 (unhide HB9); clear hb9)
              have HFIN := hide (set2_block (x' := .int .i64 8) (y' := .int .i64 0) (unhide HB9))
              obtain ⟨s0, s1, -⟩ := block2 (unhide HFIN)
              exact bodyPost_ret (v := faultV (8, 0)) (by simp [faultV, results, Try.results13, go_sem, s0, s1]) rfl ⟨by rw [← unhide HS2] <;> rfl, below_set2 (unhide HX9) (Nat.le_succ _) _ _⟩
        · have hni : ¬ (i : Int) < (n : Int) := by omega
          have hno : Hid (i < us.length → ¬ (aAt us i).1 = p) := fun h => absurd h (by rw [unhide HN1]; exact hin)
          by_cases hl : l < m
          · obtain ⟨b1, o1, rfl, hb1, l1⟩ := unhide HO2 (by omega)
            have hlf : l < fs.length := by rw [unhide HN2]; exact hl
            obtain ⟨⟨t', c'⟩, hx'⟩ : ∃ z, aAt fs l = z := ⟨_, rfl⟩
            obtain ⟨r0, r1⟩ := (l1.below (unhide HX) hb1).block (j := l) hlf hx'
            have hfit' := fit_parts (unhide HF2' (t', c') (by rw [← hx']; exact aAt_mem hlf))
            simp only at hfit'
            have hcp' := pw_pos hfit'.1
            have hcu' := hfit'.2.2.2
            have j0 : (0 : Int) ≤ (l : Int) := by omega
            have j1 : (l : Int) < (m : Int) := by omega
            have hw6 : IntKind.i64.wrap ((l : Int) + 1) = (l : Int) + 1 := wrapi (by omega) (by omega)
            by_cases ht' : t' = p
            · have HPN2 : Hid (partN U k (p + c') (us.drop i) (fs.drop (l + 1)) = X3) := by
                have := unhide HPN
                rw [partN_free (unhide hno) hlf (by rw [hx']; exact ht') (by omega), hx'] at this
                exact this
              have hb5 : (t' == p) = true := by simpa using ht'
              have hw7 : IntKind.i64.wrap (p + c') = p + c' := wrapi (by omega) (by omega)
              have ha1 : p + c' ≤ U := by omega
              have ha0 : 0 ≤ p + c' := by omega
              have hT := hide ht'
              clear hfit' hx' l1 HPN ht' hlf
              go_wp2_with fail
              go_roundw
              case rel => first | exact ⟨k, i, l + 1, p + c', rfl, rfl, by go_num, by omega, by omega, ha0, ha1, by omega, HPN2, HA, HB, HX⟩ | exact ⟨k, i, l + 1, p + c', rfl, rfl, by go_num, by omega, by omega, ha0, ha1, by omega, HPN2⟩
              case measure => simp [intOf]; omega
            · have hb5 : (t' == p) = false := by simpa using ht'
              have hno2 : Hid (l < fs.length → ¬ (aAt fs l).1 = p) := fun _ => by rw [hx']; exact ht'
              clear hfit' hx' l1
              have HX3F : Hid (X3 = false) := by rw [← unhide HPN, partN_stop (unhide hno) (unhide hno2) (Or.inr hlf)]; exact rfl
              have HS2 : Hid (((8 : Int), (0 : Int)) = S) := by
                have hS := unhide HS
                rw [if_pos (unhide HX3F)] at hS
                exact hS
              clear HPN
              go_upto_region 26 with fail
              go_wp2_with (go_at_call 15; refine (f_any _ _ _).mono ?_; rintro e w9 ⟨rfl, hb9⟩; have HX9 := hide (Below.next (unhide HX) hb9 (Nat.le_refl _)); have HB9 := hide (keep_below (unhide HB) hb9); obtain ⟨u0, u1, uf0, uf1, ul⟩ := block2 (unhide HB9); clear hb9)
              have HFIN := hide (set2_block (x' := .int .i64 8) (y' := .int .i64 0) (unhide HB9))
              obtain ⟨s0, s1, -⟩ := block2 (unhide HFIN)
              exact bodyPost_ret (v := faultV (8, 0)) (by simp [faultV, results, Try.results13, go_sem, s0, s1]) rfl ⟨by rw [← unhide HS2] <;> rfl, below_set2 (unhide HX9) (Nat.le_succ _) _ _⟩
          · have hlm : ¬ (l : Int) < (m : Int) := by omega
            have hno2 : Hid (l < fs.length → ¬ (aAt fs l).1 = p) := fun h => absurd h (by rw [unhide HN2]; exact hl)
            have hPE : X3 = decide (p = U) := by
              have e1 : i = us.length := by rw [unhide HN1]; omega
              have e2 : l = fs.length := by rw [unhide HN2]; omega
              have := unhide HPN
              rw [e1, e2, partN_end hpU] at this
              exact this.symm
            have HPE := hide hPE
            clear hPE HPN
            by_cases hpe : p = U
            · have HS2 : Hid ((if X4 = true then ((11 : Int), (0 : Int)) else (0, 0)) = S) := by
                have hS := unhide HS
                rw [if_neg (by rw [unhide HPE]; simp [hpe])] at hS
                exact hS
              have hbe : (p != U) = false := by simp [hpe]
              clear HS HPE hpe
              go_upto_region 30 with fail
              go_loopw [11] (fun s wr => ∃ j : Nat, j ≤ m ∧ s = .int .i64 (j : Int) ∧ Hid (∀ i, i < j → mB fs (aAt fs i) = false) ∧ Hid (wr.heap[w.heap.size]? = some (.cells #[.int .i64 b, .slice a0 n c0, .slice a1 m c1] 24 (0, 0))) ∧ Hid (wr.heap[w.heap.size + 1]? = some (.cells #[.int .i64 0, .int .i64 0] 29 (0, 0))) ∧ Hid (Below w.heap.size w wr)) (fun s _ => m - (intOf s).toNat)
              case atStart => first | exact ⟨0, Nat.zero_le _, rfl, hide (fun i hi => absurd hi (Nat.not_lt_zero _)), HA, HB, HX⟩ | exact ⟨0, Nat.zero_le _, rfl, hide (fun i hi => absurd hi (Nat.not_lt_zero _))⟩
              case round =>
                clear HA HB HX p0 p1 p2 pl
                obtain ⟨j, hj, rfl, HM, HA, HB, HX⟩ := hrel
                obtain ⟨⟨p0, p1, p2⟩, -, pl⟩ := block3 (unhide HA)
                by_cases hlt : j < m
                · obtain ⟨b1, o1, rfl, hb1, l1⟩ := unhide HO2 (by omega)
                  have hlf : j < fs.length := by rw [unhide HN2]; exact hlt
                  obtain ⟨⟨t, c⟩, hx⟩ : ∃ z, aAt fs j = z := ⟨_, rfl⟩
                  have HCL := hide (fun W (hW : Below w.heap.size w W) => (l1.below hW hb1).block (j := j) hlf hx)
                  obtain ⟨r0, r1⟩ := unhide HCL _ (unhide HX)
                  have hmem : (t, c) ∈ fs := by rw [← hx]; exact aAt_mem hlf
                  have hfit := fit_parts (unhide HF2' (t, c) hmem)
                  simp only at hfit
                  have hcp := pw_pos hfit.1
                  have hcu := hfit.2.2.2
                  have j0 : (0 : Int) ≤ (j : Int) := by omega
                  have j1 : (j : Int) < (m : Int) := by omega
                  have hw6 : IntKind.i64.wrap ((j : Int) + 1) = (j : Int) + 1 := wrapi (by omega) (by omega)
                  by_cases hcU : c < U
                  · have HMA : Hid (∀ W, Calls Try.prog 32 #[.agg #[.int .i64 t, .int .i64 c]] W fun e w' => e = .returned (.agg #[.int .i64 (mateS t c), .int .i64 c]) ∧ Below W.heap.size W w') := fun W => refMate_any W t c hfit.1 hfit.2.1 (by omega)
                    obtain ⟨R, eR⟩ : ∃ R, mB fs (t, c) = R := ⟨_, rfl⟩
                    obtain ⟨M, eM⟩ : ∃ M, mateS t c = M := ⟨_, rfl⟩
                    rw [eM] at HMA
                    have eR2 : hasB (M, c) fs = R := by rw [← eR, ← eM]; rfl
                    have HFB : Hid (∀ W, Below w.heap.size w W → Calls Try.prog 31 #[.slice (some ⟨b1, o1, none⟩) m c1, .agg #[.int .i64 M, .int .i64 c]] W fun e w' => ∃ r : Int, e = .returned (.int .i64 r) ∧ decide (0 ≤ r) = R ∧ Below W.heap.size W w') := fun W hW => by
                      have := find_any W (.slice (some ⟨b1, o1, none⟩) m c1) fs M c ((unhide HFL).below hW) (by rw [unhide HN2]; exact hm)
                      rw [eR2] at this
                      exact this
                    have HSS : Hid (∀ W, Below wr.heap.size wr W → (W.cell? ⟨w.heap.size, 2, none⟩ = some (.slice (some ⟨b1, o1, none⟩) m c1) ∧ (W.cell? ⟨b1, o1 + j * 2, none⟩ = some (.int .i64 t) ∧ W.cell? ⟨b1, o1 + j * 2 + 1, none⟩ = some (.int .i64 c))) ∧ Below wr.heap.size wr W) := fun W hW => ⟨⟨(block3 (keep_below (unhide HA) hW)).1.2.2, unhide HCL _ (Below.next (unhide HX) hW (Nat.le_refl _))⟩, hW⟩
                    have HRJ : Hid (mB fs (aAt fs j) = R) := by rw [hx]; exact eR
                    have HMAT := hide (@mates_at fs j hlf)
                    clear hfit hx l1 hmem eR eM eR2 hlf HCL
                    cases R with
                    | true =>
                      have HS3 : Hid (((11 : Int), (0 : Int)) = S) := by
                        have hS := unhide HS2
                        rw [if_pos (by rw [← unhide HX4D]; exact unhide HMAT (unhide HRJ))] at hS
                        exact hS
                      clear HS2 HMAT
                      go_upto_region 32 with fail
                      go_region_held3 (fun W => (W.cell? ⟨w.heap.size, 2, none⟩ = some (.slice (some ⟨b1, o1, none⟩) m c1) ∧ (W.cell? ⟨b1, o1 + j * 2, none⟩ = some (.int .i64 t) ∧ W.cell? ⟨b1, o1 + j * 2 + 1, none⟩ = some (.int .i64 c))) ∧ Below wr.heap.size wr W)
                        (first | with_reducible exact unhide HSS _ (Below.refl _ _).drew | with_reducible exact unhide HSS _ (unhide HY5) | with_reducible exact unhide HSS _ (unhide HY6))
                        (first
                          | (go_at_call 32; refine (unhide HMA _).mono ?_; rintro e w5 ⟨rfl, hb5⟩; have HY5 : Hid (Below wr.heap.size wr w5) := Below.next (Below.refl _ _).drew hb5 (Nat.le_refl _); clear hb5)
                          | (go_at_call 31; refine (unhide HFB _ (Below.next (unhide HX) (unhide HY5) (Nat.le_refl _))).mono ?_; rintro e w6 ⟨rr, rfl, hrr, hb6⟩; have hr0 : 0 ≤ rr := (by simpa using hrr); have HY6 : Hid (Below wr.heap.size wr w6) := Below.next (unhide HY5) hb6 (Nat.le_refl _); clear hb6 hrr))
                      all_goals
                        have HB6 := hide (keep_below (unhide HB) (unhide HY6))
                        have HX6 := hide (Below.next (unhide HX) (unhide HY6) (Nat.le_refl _))
                        clear r0 r1 p0 p1 p2 pl HSS HFB HMA
                        go_wp2_with (go_at_call 15; refine (f_any _ _ _).mono ?_; rintro e w9 ⟨rfl, hb9⟩; have HX9 := hide (Below.next (unhide HX6) hb9 (Nat.le_refl _)); have HB9 := hide (keep_below (unhide HB6) hb9); obtain ⟨u0, u1, uf0, uf1, ul⟩ := block2 (unhide HB9); clear hb9)
                        have HFIN := hide (set2_block (x' := .int .i64 11) (y' := .int .i64 0) (unhide HB9))
                        obtain ⟨s0, s1, -⟩ := block2 (unhide HFIN)
                        exact bodyPost_ret (v := faultV (11, 0)) (by simp [faultV, results, Try.results13, go_sem, s0, s1]) rfl ⟨by rw [← unhide HS3] <;> rfl, below_set2 (unhide HX9) (Nat.le_succ _) _ _⟩
                    | false =>
                      go_upto_region 32 with fail
                      go_region_held3 (fun W => (W.cell? ⟨w.heap.size, 2, none⟩ = some (.slice (some ⟨b1, o1, none⟩) m c1) ∧ (W.cell? ⟨b1, o1 + j * 2, none⟩ = some (.int .i64 t) ∧ W.cell? ⟨b1, o1 + j * 2 + 1, none⟩ = some (.int .i64 c))) ∧ Below wr.heap.size wr W)
                        (first | with_reducible exact unhide HSS _ (Below.refl _ _).drew | with_reducible exact unhide HSS _ (unhide HY5) | with_reducible exact unhide HSS _ (unhide HY6))
                        (first
                          | (go_at_call 32; refine (unhide HMA _).mono ?_; rintro e w5 ⟨rfl, hb5⟩; have HY5 : Hid (Below wr.heap.size wr w5) := Below.next (Below.refl _ _).drew hb5 (Nat.le_refl _); clear hb5)
                          | (go_at_call 31; refine (unhide HFB _ (Below.next (unhide HX) (unhide HY5) (Nat.le_refl _))).mono ?_; rintro e w6 ⟨rr, rfl, hrr, hb6⟩; have hr0 : rr < 0 := (by simpa using hrr); have HY6 : Hid (Below wr.heap.size wr w6) := Below.next (unhide HY5) hb6 (Nat.le_refl _); clear hb6 hrr))
                      all_goals
                        have HA6 := hide (keep_below (unhide HA) (unhide HY6))
                        have HB6 := hide (keep_below (unhide HB) (unhide HY6))
                        have HX6 := hide (Below.next (unhide HX) (unhide HY6) (Nat.le_refl _))
                        have HM2 : Hid (∀ i, i < j + 1 → mB fs (aAt fs i) = false) := fun i hi => by
                          rcases Nat.lt_or_eq_of_le (Nat.le_of_lt_succ hi) with h | h
                          · exact unhide HM i h
                          · rw [h]; exact unhide HRJ
                        clear r0 r1 p0 p1 p2 pl HSS HFB HMA HMAT
                        go_wp2_with fail
                        go_roundw
                        case rel => first | exact ⟨j + 1, by omega, by go_num, HM2, HA6, HB6, HX6⟩ | exact ⟨j + 1, by omega, by go_num, HM2⟩
                        case measure => simp [intOf]; omega
                  · have HRJ : Hid (mB fs (aAt fs j) = false) := by
                      rw [hx]
                      exact mate_whole (unhide HF2') (unhide HF2' (t, c) hmem) (by simp only; omega)
                    have HM2 : Hid (∀ i, i < j + 1 → mB fs (aAt fs i) = false) := fun i hi => by
                      rcases Nat.lt_or_eq_of_le (Nat.le_of_lt_succ hi) with h | h
                      · exact unhide HM i h
                      · rw [h]; exact unhide HRJ
                    clear hfit hx l1 hmem hlf HCL
                    go_upto_region 32 with fail
                    go_quiet (fail)
                    have hbq : Below wr.heap.size wr (wr.drewN nq) := below_drewN (Below.refl _ _) nq
                    have HX3 := hide (below_drewN (unhide HX) nq)
                    have HA3 := hide (keep_below (unhide HA) hbq)
                    have HC3 := hide (keep_below (unhide HB) hbq)
                    obtain ⟨V3, eV3⟩ : ∃ V, wr.drewN nq = V := ⟨_, rfl⟩
                    rw [eV3] at HX3 HA3 HC3 ⊢
                    clear hbq eV3
                    go_wp2_with fail
                    go_roundw
                    case rel => first | exact ⟨j + 1, by omega, by go_num, HM2, HA3, HC3, HX3⟩ | exact ⟨j + 1, by omega, by go_num, HM2⟩
                    case measure => simp [intOf]; omega
                · obtain rfl : j = m := by omega
                  have i1 : ¬ (j : Int) < (j : Int) := by omega
                  have HS3 : Hid (((0 : Int), (0 : Int)) = S) := by
                    have hS := unhide HS2
                    rw [if_neg (by rw [← unhide HX4D, mates_none (fun i hi => unhide HM i (by rw [← unhide HN2]; exact hi))]; decide)] at hS
                    exact hS
                  clear HS2
                  obtain ⟨u0, u1, uf0, uf1, ul⟩ := block2 (unhide HB)
                  have HFIN := hide (set2_block (x' := .int .i64 0) (y' := .int .i64 0) (unhide HB))
                  go_wp2_with fail
                  obtain ⟨s0, s1, -⟩ := block2 (unhide HFIN)
                  exact bodyPost_ret (v := faultV (0, 0)) (by simp [faultV, results, Try.results13, go_sem, s0, s1]) rfl ⟨by rw [← unhide HS3] <;> rfl, below_set2 (unhide HX) (Nat.le_succ _) _ _⟩
            · have HS2 : Hid (((8 : Int), (0 : Int)) = S) := by
                have hS := unhide HS
                rw [if_pos (by rw [unhide HPE]; exact decide_eq_false hpe)] at hS
                exact hS
              have hbe : (p != U) = true := by simpa using hpe
              clear HS HPE
              go_wp2_with (go_at_call 15; refine (f_any _ _ _).mono ?_; rintro e w9 ⟨rfl, hb9⟩; have HX9 := hide (Below.next (unhide HX) hb9 (Nat.le_refl _)); have HB9 := hide (keep_below (unhide HB) hb9); obtain ⟨u0, u1, uf0, uf1, ul⟩ := block2 (unhide HB9); clear hb9)
              have HFIN := hide (set2_block (x' := .int .i64 8) (y' := .int .i64 0) (unhide HB9))
              obtain ⟨s0, s1, -⟩ := block2 (unhide HFIN)
              exact bodyPost_ret (v := faultV (8, 0)) (by simp [faultV, results, Try.results13, go_sem, s0, s1]) rfl ⟨by rw [← unhide HS2] <;> rfl, below_set2 (unhide HX9) (Nat.le_succ _) _ _⟩

theorem refFault_any (w : World) (v : Value) (b : Int) (us fs : List Bl) (h : IsS w v b us fs) (hn : us.length ≤ 100000) (hm : fs.length ≤ 100000) :
    Calls Try.prog 13 #[v] w fun e w' => e = .returned (faultV (spaceF b us fs)) ∧ Below w.heap.size w w' := by
  by_cases hw : b < 0 ∨ 30 < b ∨ 5000 < us.length + fs.length
  · have e : spaceF b us fs = (2, 0) := by unfold spaceF; rw [if_pos hw]
    rw [e]
    exact refFault_many w v b us fs h hn hm hw
  · exact refFault_rest w v b us fs h hn hm hw
end Go.Proofs.Ytomhfnjnmhdpkaa
