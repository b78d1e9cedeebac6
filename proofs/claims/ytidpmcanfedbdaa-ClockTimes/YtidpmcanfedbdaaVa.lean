/-
  taskmillref.ClockFault.
-/
import Derived.Test.YtidpmcanfedbdaaV
namespace Go.Proofs.Ytidpmcanfedbdaa
open Go.RowKit

theorem alP_range {now next : Int} {pre : List Al} {x : Al} (h : oor now next x = true) : alP now next pre x = 3 := by
  unfold alP; rw [if_pos h]
theorem has_iff (pre : List Al) (x : Al) : ((ids pre).contains x.1 || (seqs pre).contains x.2.2.2) = true ↔ ∃ z ∈ pre, z.1 = x.1 ∨ z.2.2.2 = x.2.2.2 := by
  rw [Bool.or_eq_true, List.contains_iff_mem, List.contains_iff_mem]
  unfold ids seqs
  rw [List.mem_map, List.mem_map]
  constructor
  · rintro (⟨z, hz, e⟩ | ⟨z, hz, e⟩)
    · exact ⟨z, hz, Or.inl e⟩
    · exact ⟨z, hz, Or.inr e⟩
  · rintro ⟨z, hz, e | e⟩
    · exact Or.inl ⟨z, hz, e⟩
    · exact Or.inr ⟨z, hz, e⟩
theorem alP_twice {now next : Int} {pre : List Al} {x : Al} (h : oor now next x = false) (hz : ∃ z ∈ pre, z.1 = x.1 ∨ z.2.2.2 = x.2.2.2) : alP now next pre x = 10 := by
  unfold alP; rw [if_neg (by rw [h]; decide), if_pos ((has_iff pre x).2 hz)]
theorem alP_form {now next : Int} {pre : List Al} {x : Al} (h : oor now next x = false) (hz : ∀ z ∈ pre, z.1 ≠ x.1 ∧ z.2.2.2 ≠ x.2.2.2) (h0 : 0 < pre.length) (ha : ahead x (aAt pre (pre.length - 1)) = true) : alP now next pre x = 5 := by
  unfold alP
  rw [if_neg (by rw [h]; decide), if_neg (fun hc => by obtain ⟨z, h1, h2⟩ := (has_iff pre x).1 hc; exact h2.elim (hz z h1).1 (hz z h1).2), if_pos ⟨h0, ha⟩]
theorem oor_true {now next : Int} {a : Al} (h : ¬ (1 ≤ a.1 ∧ now < a.2.1 ∧ a.2.1 ≤ 2000000000 ∧ 0 ≤ a.2.2.1 ∧ a.2.2.1 ≤ 1000000000 ∧ 0 ≤ a.2.2.2 ∧ a.2.2.2 < next)) : oor now next a = true := by
  cases ho : oor now next a with
  | true => rfl
  | false => exact absurd ((oor_iff now next a).1 ho) h
theorem mem_take_at {xs : List Al} {j : Nat} {z : Al} (h : z ∈ xs.take j) (hj : j ≤ xs.length) : ∃ i, i < j ∧ aAt xs i = z := by
  obtain ⟨i, hi, rfl⟩ := List.getElem_of_mem h
  rw [List.length_take] at hi
  refine ⟨i, by omega, ?_⟩
  rw [aAt_get (by omega), List.getElem_take]
theorem at_mem_take {xs : List Al} {i j : Nat} (h : i < j) (hj : j ≤ xs.length) : aAt xs i ∈ xs.take j := by
  rw [aAt_get (by omega), List.mem_take_iff_getElem]
  exact ⟨i, by omega, rfl⟩
theorem take_last {xs : List Al} {j : Nat} (h : 0 < j) (hj : j ≤ xs.length) : aAt (xs.take j) ((xs.take j).length - 1) = aAt xs (j - 1) := by
  have hl : (xs.take j).length = j := by rw [List.length_take]; omega
  rw [hl, aAt_get (by rw [hl]; omega), aAt_get (by omega), List.getElem_take]

set_option maxRecDepth 100000 in
set_option maxHeartbeats 2000000 in
theorem clockFault_any (w : World) (v : Value) (now next : Int) (xs : List Al) (h : IsC w v now next xs) (hn : xs.length ≤ maxLen) :
    Calls Try.prog 15 #[v] w fun e w' => e = .returned (faultV (clockF now next xs)) ∧ Below w.heap.size w w' := by
  obtain ⟨a0, c0, rfl, hL⟩ := h.form
  have H0 := hide (hL.opens ka rfl)
  obtain ⟨R, eR⟩ : ∃ R, clockF now next xs = R := ⟨_, rfl⟩
  rw [eR]
  unfold clockF at eR
  obtain ⟨n, en⟩ : ∃ n, xs.length = n := ⟨_, rfl⟩
  rw [en] at H0 hn eR ⊢
  unfold maxLen at hn
  have HN := hide en; have HR := hide eR
  clear h hL en eR
  obtain ⟨W0, e0, hB, k0, k1⟩ := two_new w (.cells #[.int .i64 now, .int .i64 next, .slice a0 n c0] 24) (.cells #[.int .i64 0, .int .i64 0] 29)
  have HX := hide hB; have HP := hide k0; have HQ := hide k1; have HE := hide e0
  clear hB k0 k1 e0
  go_enter Try.func15, Try.ntmps15
  go_upto_region 1 with fail
  rw [unhide HE]
  clear HE
  obtain ⟨⟨p0, p1, p2⟩, -, pl⟩ := block3 (unhide HP)
  by_cases c1 : 5000 < n
  · have HE : Hid (R = (2, 0)) := hide (by have := unhide HR; rw [if_pos c1] at this; exact this.symm)
    have j1 : (5000 : Int) < (n : Int) := by omega
    clear HR
    go_wp2_with (go_at_call 17; refine (f_any _ _ _).mono ?_; rintro e w9 ⟨rfl, hb9⟩; have HX9 := hide (Below.next (unhide HX) hb9 (Nat.le_refl _)); have HQ9 := hide (keep_below (unhide HQ) hb9); clear hb9; obtain ⟨q0, q1, f0, f1, ql⟩ := block2 (unhide HQ9))
    refine bodyPost_ret (v := .agg #[.int .i64 2, .int .i64 (0)]) (by simp [results, Try.results15, go_sem, q0, q1]) rfl ⟨?_, below_set2 (unhide HX9) (by omega) _ _⟩
    rw [unhide HE]
    rfl
  have hr := unhide HR
  rw [if_neg c1] at hr
  have HR2 := hide hr
  have j1 : ¬ (5000 : Int) < (n : Int) := by omega
  clear HR hr
  by_cases c2 : now < 0
  · have HE : Hid (R = (3, 0)) := hide (by have := unhide HR2; rw [if_pos (Or.inl c2)] at this; exact this.symm)
    clear HR2
    go_wp2_with (go_at_call 17; refine (f_any _ _ _).mono ?_; rintro e w9 ⟨rfl, hb9⟩; have HX9 := hide (Below.next (unhide HX) hb9 (Nat.le_refl _)); have HQ9 := hide (keep_below (unhide HQ) hb9); clear hb9; obtain ⟨q0, q1, f0, f1, ql⟩ := block2 (unhide HQ9))
    refine bodyPost_ret (v := .agg #[.int .i64 3, .int .i64 (0)]) (by simp [results, Try.results15, go_sem, q0, q1]) rfl ⟨?_, below_set2 (unhide HX9) (by omega) _ _⟩
    rw [unhide HE]
    rfl
  by_cases c3 : 1000000000 < now
  · have HE : Hid (R = (3, 0)) := hide (by have := unhide HR2; rw [if_pos (Or.inr (Or.inl c3))] at this; exact this.symm)
    clear HR2
    go_wp2_with (go_at_call 17; refine (f_any _ _ _).mono ?_; rintro e w9 ⟨rfl, hb9⟩; have HX9 := hide (Below.next (unhide HX) hb9 (Nat.le_refl _)); have HQ9 := hide (keep_below (unhide HQ) hb9); clear hb9; obtain ⟨q0, q1, f0, f1, ql⟩ := block2 (unhide HQ9))
    refine bodyPost_ret (v := .agg #[.int .i64 3, .int .i64 (0)]) (by simp [results, Try.results15, go_sem, q0, q1]) rfl ⟨?_, below_set2 (unhide HX9) (by omega) _ _⟩
    rw [unhide HE]
    rfl
  by_cases c4 : next < 0
  · have HE : Hid (R = (3, 0)) := hide (by have := unhide HR2; rw [if_pos (Or.inr (Or.inr (Or.inl c4)))] at this; exact this.symm)
    clear HR2
    go_wp2_with (go_at_call 17; refine (f_any _ _ _).mono ?_; rintro e w9 ⟨rfl, hb9⟩; have HX9 := hide (Below.next (unhide HX) hb9 (Nat.le_refl _)); have HQ9 := hide (keep_below (unhide HQ) hb9); clear hb9; obtain ⟨q0, q1, f0, f1, ql⟩ := block2 (unhide HQ9))
    refine bodyPost_ret (v := .agg #[.int .i64 3, .int .i64 (0)]) (by simp [results, Try.results15, go_sem, q0, q1]) rfl ⟨?_, below_set2 (unhide HX9) (by omega) _ _⟩
    rw [unhide HE]
    rfl
  by_cases c5 : 1000000000 < next
  · have HE : Hid (R = (3, 0)) := hide (by have := unhide HR2; rw [if_pos (Or.inr (Or.inr (Or.inr c5)))] at this; exact this.symm)
    clear HR2
    go_wp2_with (go_at_call 17; refine (f_any _ _ _).mono ?_; rintro e w9 ⟨rfl, hb9⟩; have HX9 := hide (Below.next (unhide HX) hb9 (Nat.le_refl _)); have HQ9 := hide (keep_below (unhide HQ) hb9); clear hb9; obtain ⟨q0, q1, f0, f1, ql⟩ := block2 (unhide HQ9))
    refine bodyPost_ret (v := .agg #[.int .i64 3, .int .i64 (0)]) (by simp [results, Try.results15, go_sem, q0, q1]) rfl ⟨?_, below_set2 (unhide HX9) (by omega) _ _⟩
    rw [unhide HE]
    rfl
  have HR : Hid (firstC (alP now next) (xs.take 0) (xs.drop 0) ((0 : Nat) : Int) = R) := by
    have := unhide HR2
    rw [if_neg (by omega)] at this
    exact this
  clear HR2
  go_wp2_with fail
  go_loopw [3] (fun i W => ∃ j : Nat, j ≤ n ∧ i = .int .i64 j ∧ Hid (firstC (alP now next) (xs.take j) (xs.drop j) (j : Int) = R) ∧ Hid (Below W0.heap.size W0 W)) (fun i _ => n - (intOf i).toNat)
  case atStart => exact ⟨0, Nat.zero_le _, rfl, HR, Below.refl _ _⟩
  case round =>
    obtain ⟨j, hj, rfl, HRj, HB⟩ := hrel
    clear HR p0 p1 p2 pl
    have HP2 := hide (keep_below (unhide HP) (unhide HB)); have HQ2 := hide (keep_below (unhide HQ) (unhide HB)); have HXA := hide (Below.next (unhide HX) (unhide HB) (Nat.le_refl _))
    obtain ⟨⟨p0, p1, p2⟩, -, pl⟩ := block3 (unhide HP2)
    by_cases hlt : j < n
    · obtain ⟨b0, o0, rfl, hb0, l0⟩ := unhide H0 (by omega)
      have HL0 := hide l0; have HB0 := hide hb0
      have hjx : j < xs.length := by rw [unhide HN]; exact hlt
      obtain ⟨⟨t, d, u, y⟩, hx⟩ : ∃ x, aAt xs j = x := ⟨_, rfl⟩
      obtain ⟨l0, l1, l2, l3⟩ := ((unhide HL0).below (unhide HXA) hb0).alarm (j := j) hjx hx
      have HRn := unhide HRj
      rw [drop_at hjx, hx] at HRn
      have HRN := hide HRn
      have HTT : Hid (xs.take (j + 1) = xs.take j ++ [(t, d, u, y)]) := hide (by rw [take_at hjx, hx])
      have hjl : j ≤ xs.length := by omega
      have HJL := hide hjl
      have i0 : (0 : Int) ≤ (j : Int) := by omega
      have i1 : (j : Int) < (n : Int) := by omega
      have hw1 : IntKind.i64.wrap ((j : Int) + 1) = (j : Int) + 1 := wrapi (by omega) (by omega)
      clear H0 HRj HRn hx hjx hjl hb0
      go_upto_region 9 with fail
      clear l0 l1 l2 l3 p0 p1 p2 pl
      have HXB := hide ((unhide HXA).alloc (unhide HXA).size (.cells #[.int .i64 t, .int .i64 d, .int .i64 u, .int .i64 y] 42)); have HP3 := hide (keep_alloc (unhide HP2) (.cells #[.int .i64 t, .int .i64 d, .int .i64 u, .int .i64 y] 42)); have HQ3 := hide (keep_alloc (unhide HQ2) (.cells #[.int .i64 t, .int .i64 d, .int .i64 u, .int .i64 y] 42)); have HZ3 := hide (new_block wr (.cells #[.int .i64 t, .int .i64 d, .int .i64 u, .int .i64 y] 42)); have HBB := hide ((unhide HB).alloc (unhide HB).size (.cells #[.int .i64 t, .int .i64 d, .int .i64 u, .int .i64 y] 42))
      obtain ⟨Z, eZ⟩ : ∃ X, wr.heap.size = X := ⟨_, rfl⟩
      obtain ⟨W2, e2⟩ : ∃ X, wr.alloc (.cells #[.int .i64 t, .int .i64 d, .int .i64 u, .int .i64 y] 42) = X := ⟨_, rfl⟩
      rw [eZ, e2] at HZ3; rw [e2] at HXB HP3 HQ3 HBB; rw [eZ, e2]
      clear eZ e2 HXA HP2 HQ2 HB
      obtain ⟨⟨p0, p1, p2⟩, -, pl⟩ := block3 (unhide HP3)
      obtain ⟨⟨z0, z1, z2, z3⟩, -, zl⟩ := block4 (unhide HZ3)
      by_cases d1 : t < 1
      · have HE : Hid (R = (3, (j : Int) + 1)) := hide (by have := unhide HRN; rw [firstC_stop (alP_range (oor_true (by simp only; omega))) (by decide)] at this; exact this.symm)
        go_wp2_with (go_at_call 17; refine (f_any _ _ _).mono ?_; rintro e w9 ⟨rfl, hb9⟩; have HX9 := hide (Below.next (unhide HXB) hb9 (Nat.le_refl _)); have HQ9 := hide (keep_below (unhide HQ3) hb9); clear hb9; obtain ⟨q0, q1, f0, f1, ql⟩ := block2 (unhide HQ9))
        refine bodyPost_ret (v := .agg #[.int .i64 3, .int .i64 ((j : Int) + 1)]) (by simp [results, Try.results15, go_sem, q0, q1]) rfl ⟨?_, below_set2 (unhide HX9) (by omega) _ _⟩
        rw [unhide HE]
        rfl
      by_cases d2 : d ≤ now
      · have HE : Hid (R = (3, (j : Int) + 1)) := hide (by have := unhide HRN; rw [firstC_stop (alP_range (oor_true (by simp only; omega))) (by decide)] at this; exact this.symm)
        go_wp2_with (go_at_call 17; refine (f_any _ _ _).mono ?_; rintro e w9 ⟨rfl, hb9⟩; have HX9 := hide (Below.next (unhide HXB) hb9 (Nat.le_refl _)); have HQ9 := hide (keep_below (unhide HQ3) hb9); clear hb9; obtain ⟨q0, q1, f0, f1, ql⟩ := block2 (unhide HQ9))
        refine bodyPost_ret (v := .agg #[.int .i64 3, .int .i64 ((j : Int) + 1)]) (by simp [results, Try.results15, go_sem, q0, q1]) rfl ⟨?_, below_set2 (unhide HX9) (by omega) _ _⟩
        rw [unhide HE]
        rfl
      by_cases d3 : 2000000000 < d
      · have HE : Hid (R = (3, (j : Int) + 1)) := hide (by have := unhide HRN; rw [firstC_stop (alP_range (oor_true (by simp only; omega))) (by decide)] at this; exact this.symm)
        go_wp2_with (go_at_call 17; refine (f_any _ _ _).mono ?_; rintro e w9 ⟨rfl, hb9⟩; have HX9 := hide (Below.next (unhide HXB) hb9 (Nat.le_refl _)); have HQ9 := hide (keep_below (unhide HQ3) hb9); clear hb9; obtain ⟨q0, q1, f0, f1, ql⟩ := block2 (unhide HQ9))
        refine bodyPost_ret (v := .agg #[.int .i64 3, .int .i64 ((j : Int) + 1)]) (by simp [results, Try.results15, go_sem, q0, q1]) rfl ⟨?_, below_set2 (unhide HX9) (by omega) _ _⟩
        rw [unhide HE]
        rfl
      by_cases d4 : u < 0
      · have HE : Hid (R = (3, (j : Int) + 1)) := hide (by have := unhide HRN; rw [firstC_stop (alP_range (oor_true (by simp only; omega))) (by decide)] at this; exact this.symm)
        go_wp2_with (go_at_call 17; refine (f_any _ _ _).mono ?_; rintro e w9 ⟨rfl, hb9⟩; have HX9 := hide (Below.next (unhide HXB) hb9 (Nat.le_refl _)); have HQ9 := hide (keep_below (unhide HQ3) hb9); clear hb9; obtain ⟨q0, q1, f0, f1, ql⟩ := block2 (unhide HQ9))
        refine bodyPost_ret (v := .agg #[.int .i64 3, .int .i64 ((j : Int) + 1)]) (by simp [results, Try.results15, go_sem, q0, q1]) rfl ⟨?_, below_set2 (unhide HX9) (by omega) _ _⟩
        rw [unhide HE]
        rfl
      by_cases d5 : 1000000000 < u
      · have HE : Hid (R = (3, (j : Int) + 1)) := hide (by have := unhide HRN; rw [firstC_stop (alP_range (oor_true (by simp only; omega))) (by decide)] at this; exact this.symm)
        go_wp2_with (go_at_call 17; refine (f_any _ _ _).mono ?_; rintro e w9 ⟨rfl, hb9⟩; have HX9 := hide (Below.next (unhide HXB) hb9 (Nat.le_refl _)); have HQ9 := hide (keep_below (unhide HQ3) hb9); clear hb9; obtain ⟨q0, q1, f0, f1, ql⟩ := block2 (unhide HQ9))
        refine bodyPost_ret (v := .agg #[.int .i64 3, .int .i64 ((j : Int) + 1)]) (by simp [results, Try.results15, go_sem, q0, q1]) rfl ⟨?_, below_set2 (unhide HX9) (by omega) _ _⟩
        rw [unhide HE]
        rfl
      by_cases d6 : y < 0
      · have HE : Hid (R = (3, (j : Int) + 1)) := hide (by have := unhide HRN; rw [firstC_stop (alP_range (oor_true (by simp only; omega))) (by decide)] at this; exact this.symm)
        go_wp2_with (go_at_call 17; refine (f_any _ _ _).mono ?_; rintro e w9 ⟨rfl, hb9⟩; have HX9 := hide (Below.next (unhide HXB) hb9 (Nat.le_refl _)); have HQ9 := hide (keep_below (unhide HQ3) hb9); clear hb9; obtain ⟨q0, q1, f0, f1, ql⟩ := block2 (unhide HQ9))
        refine bodyPost_ret (v := .agg #[.int .i64 3, .int .i64 ((j : Int) + 1)]) (by simp [results, Try.results15, go_sem, q0, q1]) rfl ⟨?_, below_set2 (unhide HX9) (by omega) _ _⟩
        rw [unhide HE]
        rfl
      by_cases d7 : next ≤ y
      · have HE : Hid (R = (3, (j : Int) + 1)) := hide (by have := unhide HRN; rw [firstC_stop (alP_range (oor_true (by simp only; omega))) (by decide)] at this; exact this.symm)
        go_wp2_with (go_at_call 17; refine (f_any _ _ _).mono ?_; rintro e w9 ⟨rfl, hb9⟩; have HX9 := hide (Below.next (unhide HXB) hb9 (Nat.le_refl _)); have HQ9 := hide (keep_below (unhide HQ3) hb9); clear hb9; obtain ⟨q0, q1, f0, f1, ql⟩ := block2 (unhide HQ9))
        refine bodyPost_ret (v := .agg #[.int .i64 3, .int .i64 ((j : Int) + 1)]) (by simp [results, Try.results15, go_sem, q0, q1]) rfl ⟨?_, below_set2 (unhide HX9) (by omega) _ _⟩
        rw [unhide HE]
        rfl
      have hoo : oor now next (t, d, u, y) = false := by rw [oor_iff]; simp only; omega
      have HOO := hide hoo
      clear hoo
      go_wp2_with fail
      go_loopw [5] (fun i W => ∃ k : Nat, k ≤ j ∧ i = .int .i64 k ∧ Hid (∀ i, i < k → (aAt xs i).1 ≠ t ∧ (aAt xs i).2.2.2 ≠ y) ∧ Hid (Below W2.heap.size W2 W)) (fun i _ => j - (intOf i).toNat)
      case atStart => exact ⟨0, Nat.zero_le _, rfl, fun i hi => absurd hi (Nat.not_lt_zero i), Below.refl _ _⟩
      case round =>
        obtain ⟨k, hk, rfl, HNE, HBk⟩ := hrel
        clear p0 p1 p2 pl z0 z1 z2 z3 zl
        have HP4 := hide (keep_below (unhide HP3) (unhide HBk)); have HQ4 := hide (keep_below (unhide HQ3) (unhide HBk)); have HZ4 := hide (keep_below (unhide HZ3) (unhide HBk)); have HXC := hide (Below.next (unhide HXB) (unhide HBk) (Nat.le_refl _)); have HBC := hide (Below.next (unhide HBB) (unhide HBk) (Nat.le_refl _))
        obtain ⟨⟨p0, p1, p2⟩, -, pl⟩ := block3 (unhide HP4)
        obtain ⟨⟨z0, z1, z2, z3⟩, -, zl⟩ := block4 (unhide HZ4)
        by_cases hkj : k < j
        · obtain ⟨⟨xt, xd, xu, xy⟩, hx⟩ : ∃ x, aAt xs k = x := ⟨_, rfl⟩
          obtain ⟨l0, l1, l2, l3⟩ := ((unhide HL0).below (unhide HXC) (unhide HB0)).alarm (j := k) (by rw [unhide HN]; omega) hx
          have HXK := hide hx
          have k0 : (0 : Int) ≤ (k : Int) := by omega
          have k1 : (k : Int) < (n : Int) := by omega
          have k2 : (k : Int) < (j : Int) := by omega
          clear hx
          by_cases e1 : xt = t
          · have HE : Hid (R = (10, (j : Int) + 1)) := hide (by have := unhide HRN; rw [firstC_stop (alP_twice (unhide HOO) ⟨_, at_mem_take hkj (unhide HJL), Or.inl (by rw [unhide HXK]; exact e1)⟩) (by decide)] at this; exact this.symm)
            have x1 : (xt == t) = true := by simpa using e1
            clear e1
            go_wp2_with fail
            go_quiet (fail)
            have HX8 := hide (below_drewN (unhide HXC) nq); have HQ8 := hide (keep_below (unhide HQ4) (below_drewN (Below.refl _ _) nq))
            go_wp2_with (go_at_call 17; refine (f_any _ _ _).mono ?_; rintro e w9 ⟨rfl, hb9⟩; have HX9 := hide (Below.next (unhide HX8) hb9 (Nat.le_refl _)); have HQ9 := hide (keep_below (unhide HQ8) hb9); clear hb9; obtain ⟨q0, q1, f0, f1, ql⟩ := block2 (unhide HQ9))
            refine bodyPost_ret (v := .agg #[.int .i64 10, .int .i64 ((j : Int) + 1)]) (by simp [results, Try.results15, go_sem, q0, q1]) rfl ⟨?_, below_set2 (unhide HX9) (by omega) _ _⟩
            rw [unhide HE]
            rfl
          · have x1 : (xt == t) = false := by simpa using e1
            by_cases e2 : xy = y
            · have HE : Hid (R = (10, (j : Int) + 1)) := hide (by have := unhide HRN; rw [firstC_stop (alP_twice (unhide HOO) ⟨_, at_mem_take hkj (unhide HJL), Or.inr (by rw [unhide HXK]; exact e2)⟩) (by decide)] at this; exact this.symm)
              have x2 : (xy == y) = true := by simpa using e2
              clear e1 e2
              go_wp2_with fail
              go_quiet (fail)
              have HX8 := hide (below_drewN (unhide HXC) nq); have HQ8 := hide (keep_below (unhide HQ4) (below_drewN (Below.refl _ _) nq))
              go_wp2_with (go_at_call 17; refine (f_any _ _ _).mono ?_; rintro e w9 ⟨rfl, hb9⟩; have HX9 := hide (Below.next (unhide HX8) hb9 (Nat.le_refl _)); have HQ9 := hide (keep_below (unhide HQ8) hb9); clear hb9; obtain ⟨q0, q1, f0, f1, ql⟩ := block2 (unhide HQ9))
              refine bodyPost_ret (v := .agg #[.int .i64 10, .int .i64 ((j : Int) + 1)]) (by simp [results, Try.results15, go_sem, q0, q1]) rfl ⟨?_, below_set2 (unhide HX9) (by omega) _ _⟩
              rw [unhide HE]
              rfl
            · have x2 : (xy == y) = false := by simpa using e2
              have HNN : Hid (∀ i, i < k + 1 → (aAt xs i).1 ≠ t ∧ (aAt xs i).2.2.2 ≠ y) := fun i hi => by
                by_cases e : i = k
                · subst e; rw [unhide HXK]; exact ⟨e1, e2⟩
                · exact unhide HNE i (by omega)
              clear e1 e2
              go_wp2_with fail
              go_quiet (fail)
              go_wp2_with fail
              go_roundw
              case rel => exact ⟨k + 1, by omega, by go_num, HNN, below_drewN (unhide HBk) _⟩
              case measure => simp [intOf]; omega
        · have hkj2 : k = j := by omega
          have HNO : Hid (∀ z ∈ xs.take j, z.1 ≠ t ∧ z.2.2.2 ≠ y) := fun z hz => by
            obtain ⟨i, hi, e⟩ := mem_take_at hz (unhide HJL)
            rw [← e]
            exact unhide HNE i (by omega)
          have k2 : ¬ (k : Int) < (j : Int) := by omega
          clear hkj2
          by_cases hj0 : 0 < j
          · obtain ⟨k, ek⟩ : ∃ k', j - 1 = k' := ⟨_, rfl⟩
            obtain ⟨⟨xt, xd, xu, xy⟩, hx⟩ : ∃ x, aAt xs k = x := ⟨_, rfl⟩
            have HLL : Hid (∀ W, Below w.heap.size w W → W.cell? ⟨b0, o0 + k * 4, none⟩ = some (.int .i64 xt) ∧ W.cell? ⟨b0, o0 + k * 4 + 1, none⟩ = some (.int .i64 xd) ∧ W.cell? ⟨b0, o0 + k * 4 + 2, none⟩ = some (.int .i64 xu) ∧ W.cell? ⟨b0, o0 + k * 4 + 3, none⟩ = some (.int .i64 xy)) := fun W hW => ((unhide HL0).below hW (unhide HB0)).alarm (j := k) (by rw [unhide HN]; omega) hx
            have hla := take_last hj0 (unhide HJL)
            rw [ek, hx] at hla
            have HLA := hide hla
            have htl : 0 < (xs.take j).length := by rw [List.length_take]; have := unhide HJL; omega
            have HTL := hide htl
            have jj : (0 : Int) < (j : Int) := by omega
            have hw2 : IntKind.i64.wrap ((j : Int) - 1) = (k : Int) := by rw [wrapi (by omega) (by omega)]; omega
            have k0 : (0 : Int) ≤ (k : Int) := by omega
            have k1 : (k : Int) < (n : Int) := by omega
            have HLT := hide (fun W => later_any W xt xd xu xy t d u y)
            obtain ⟨r, er⟩ : ∃ r, ahead (t, d, u, y) (xt, xd, xu, xy) = r := ⟨_, rfl⟩
            rw [er] at HLT
            have HER := hide er
            have HSS : Hid (∀ W, Below wr.heap.size wr W → W.cell? ⟨w.heap.size, 2, none⟩ = some (.slice (some ⟨b0, o0, none⟩) n c0) ∧ (W.cell? ⟨Z, 0, none⟩ = some (.int .i64 t) ∧ W.cell? ⟨Z, 1, none⟩ = some (.int .i64 d) ∧ W.cell? ⟨Z, 2, none⟩ = some (.int .i64 u) ∧ W.cell? ⟨Z, 3, none⟩ = some (.int .i64 y)) ∧ (W.cell? ⟨b0, o0 + k * 4, none⟩ = some (.int .i64 xt) ∧ W.cell? ⟨b0, o0 + k * 4 + 1, none⟩ = some (.int .i64 xd) ∧ W.cell? ⟨b0, o0 + k * 4 + 2, none⟩ = some (.int .i64 xu) ∧ W.cell? ⟨b0, o0 + k * 4 + 3, none⟩ = some (.int .i64 xy)) ∧ Below wr.heap.size wr W) := fun W hW => ⟨(block3 (keep_below (unhide HP4) hW)).1.2.2, (block4 (keep_below (unhide HZ4) hW)).1, unhide HLL W (Below.next (unhide HXC) hW (Nat.le_refl _)), hW⟩
            clear er hx hla htl ek
            go_upto_region 16 with fail
            clear p0 p1 p2 pl z0 z1 z2 z3 zl
            obtain ⟨p2, ⟨z0, z1, z2, z3⟩, ⟨l0, l1, l2, l3⟩, -⟩ := unhide HSS _ (Below.refl _ _)
            go_wp2_with fail
            go_region_held3 (fun W => W.cell? ⟨w.heap.size, 2, none⟩ = some (.slice (some ⟨b0, o0, none⟩) n c0) ∧ (W.cell? ⟨Z, 0, none⟩ = some (.int .i64 t) ∧ W.cell? ⟨Z, 1, none⟩ = some (.int .i64 d) ∧ W.cell? ⟨Z, 2, none⟩ = some (.int .i64 u) ∧ W.cell? ⟨Z, 3, none⟩ = some (.int .i64 y)) ∧ (W.cell? ⟨b0, o0 + k * 4, none⟩ = some (.int .i64 xt) ∧ W.cell? ⟨b0, o0 + k * 4 + 1, none⟩ = some (.int .i64 xd) ∧ W.cell? ⟨b0, o0 + k * 4 + 2, none⟩ = some (.int .i64 xu) ∧ W.cell? ⟨b0, o0 + k * 4 + 3, none⟩ = some (.int .i64 xy)) ∧ Below wr.heap.size wr W)
              (first | with_reducible exact unhide HSS _ (Below.refl _ _).drew | with_reducible exact unhide HSS _ (unhide HY5))
              (first | (go_at_call 33; refine (unhide HLT _).mono ?_; rintro e w5 ⟨rfl, hb5⟩; have HY5 : Hid (Below wr.heap.size wr w5) := Below.next (by go_split_ands; assumption) hb5 (Nat.le_refl _); clear hb5))
            all_goals
              clear p2 z0 z1 z2 z3 l0 l1 l2 l3
              have HX8 := hide (Below.next (unhide HXC) (unhide HY5) (Nat.le_refl _)); have HQ8 := hide (keep_below (unhide HQ4) (unhide HY5)); have HB8 := hide (Below.next (unhide HBC) (unhide HY5) (Nat.le_refl _))
              cases r with
              | true =>
                have HE : Hid (R = (5, (j : Int) + 1)) := hide (by have := unhide HRN; rw [firstC_stop (alP_form (unhide HOO) (unhide HNO) (unhide HTL) (by rw [unhide HLA]; exact unhide HER)) (by decide)] at this; exact this.symm)
                go_wp2_with (go_at_call 17; refine (f_any _ _ _).mono ?_; rintro e w9 ⟨rfl, hb9⟩; have HX9 := hide (Below.next (unhide HX8) hb9 (Nat.le_refl _)); have HQ9 := hide (keep_below (unhide HQ8) hb9); clear hb9; obtain ⟨q0, q1, f0, f1, ql⟩ := block2 (unhide HQ9))
                refine bodyPost_ret (v := .agg #[.int .i64 5, .int .i64 ((j : Int) + 1)]) (by simp [results, Try.results15, go_sem, q0, q1]) rfl ⟨?_, below_set2 (unhide HX9) (by omega) _ _⟩
                rw [unhide HE]
                rfl
              | false =>
                have HRN2 : Hid (firstC (alP now next) (xs.take (j + 1)) (xs.drop (j + 1)) ((j : Int) + 1) = R) := by
                  have := unhide HRN
                  rw [firstC_go ((alP_zero now next _ _).2 ⟨unhide HOO, unhide HNO, fun _ => by rw [unhide HLA]; exact unhide HER⟩)] at this
                  rw [unhide HTT]
                  exact this
                go_wp2_with fail
                go_roundw
                case rel => exact ⟨j + 1, by omega, by go_num, HRN2, HB8⟩
                case measure => simp [intOf]; omega
          · have jj : ¬ (0 : Int) < (j : Int) := by omega
            have HRN2 : Hid (firstC (alP now next) (xs.take (j + 1)) (xs.drop (j + 1)) ((j : Int) + 1) = R) := by
              have := unhide HRN
              rw [firstC_go ((alP_zero now next _ _).2 ⟨unhide HOO, unhide HNO, fun h => absurd h (by rw [List.length_take]; omega)⟩)] at this
              rw [unhide HTT]
              exact this
            go_upto_region 16 with fail
            go_wp2_with fail
            go_quiet (fail)
            go_wp2_with fail
            go_roundw
            case rel => exact ⟨j + 1, by omega, by go_num, HRN2, below_drewN (unhide HBC) _⟩
            case measure => simp [intOf]; omega
    · have hjn : j = n := by omega
      subst hjn
      have i1 : ¬ (j : Int) < (j : Int) := by omega
      have HE : Hid (R = (0, 0)) := hide (by have := unhide HRj; rw [List.drop_eq_nil_of_le (by rw [unhide HN]; exact Nat.le_refl _)] at this; exact this.symm)
      clear HRj
      obtain ⟨q0, q1, f0, f1, ql⟩ := block2 (unhide HQ2)
      go_wp2_with fail
      refine bodyPost_ret (v := .agg #[.int .i64 0, .int .i64 0]) (by simp [results, Try.results15, go_sem, q0, q1]) rfl ⟨?_, below_set2 (unhide HXA) (by omega) _ _⟩
      rw [unhide HE]
      rfl

end Go.Proofs.Ytidpmcanfedbdaa
