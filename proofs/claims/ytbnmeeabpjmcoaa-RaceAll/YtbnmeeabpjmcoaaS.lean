/-
  order.Check.
-/
import Derived.Test.YtbnmeeabpjmcoaaR
namespace Go.Proofs.Ytbnmeeabpjmcoaa
open Go.RowKit

set_option maxRecDepth 100000 in
set_option maxHeartbeats 2000000 in
theorem check_many1 (w : World) (a0 : Option Addr) (n0 c0 : Nat) (a1 : Option Addr) (n1 c1 : Nat) (h : 2000 < n0) :
    Calls Try.prog 12 #[.slice a0 n0 c0, .slice a1 n1 c1] w fun e w' => e = .returned (.agg #[.int .i64 2, .int .i64 0]) ∧ Below w.heap.size w w' := by
  have i1 : (2000 : Int) < (n0 : Int) := by omega
  have HQ := hide (new_block w (.cells #[.int .i64 0, .int .i64 0] 28))
  have HX := hide ((Below.refl w.heap.size w).alloc (Nat.le_refl _) (.cells #[.int .i64 0, .int .i64 0] 28))
  obtain ⟨W0, e0⟩ : ∃ X, w.alloc (.cells #[.int .i64 0, .int .i64 0] 28) = X := ⟨_, rfl⟩
  rw [e0] at HQ HX
  have HE := hide e0
  clear e0
  go_enter Try.func12, Try.ntmps12
  go_upto_region 1 with fail
  rw [unhide HE]
  clear HE
  obtain ⟨q0, q1, f0, f1, ql⟩ := block2 (unhide HQ)
  go_wp2_with fail
  exact bodyPost_ret (v := .agg #[.int .i64 2, .int .i64 0]) (by simp [results, Try.results12, go_sem, q0, q1]) rfl ⟨rfl, below_set2 (unhide HX) (Nat.le_refl _) _ _⟩

set_option maxRecDepth 100000 in
set_option maxHeartbeats 2000000 in
theorem check_many2 (w : World) (a0 : Option Addr) (n0 c0 : Nat) (a1 : Option Addr) (n1 c1 : Nat) (h : ¬ 2000 < n0) (h2 : 20 < n1) :
    Calls Try.prog 12 #[.slice a0 n0 c0, .slice a1 n1 c1] w fun e w' => e = .returned (.agg #[.int .i64 2, .int .i64 0]) ∧ Below w.heap.size w w' := by
  have i1 : ¬ (2000 : Int) < (n0 : Int) := by omega
  have i2 : (20 : Int) < (n1 : Int) := by omega
  have HQ := hide (new_block w (.cells #[.int .i64 0, .int .i64 0] 28))
  have HX := hide ((Below.refl w.heap.size w).alloc (Nat.le_refl _) (.cells #[.int .i64 0, .int .i64 0] 28))
  obtain ⟨W0, e0⟩ : ∃ X, w.alloc (.cells #[.int .i64 0, .int .i64 0] 28) = X := ⟨_, rfl⟩
  rw [e0] at HQ HX
  have HE := hide e0
  clear e0
  go_enter Try.func12, Try.ntmps12
  go_upto_region 1 with fail
  rw [unhide HE]
  clear HE
  obtain ⟨q0, q1, f0, f1, ql⟩ := block2 (unhide HQ)
  go_wp2_with fail
  exact bodyPost_ret (v := .agg #[.int .i64 2, .int .i64 0]) (by simp [results, Try.results12, go_sem, q0, q1]) rfl ⟨rfl, below_set2 (unhide HX) (Nat.le_refl _) _ _⟩

set_option maxRecDepth 100000 in
set_option maxHeartbeats 2000000 in
theorem check_loops (w : World) (a0 : Option Addr) (n0 c0 : Nat) (a1 : Option Addr) (n1 c1 : Nat) (l : List Ev) (hs : List Int) (hl : IsL KE w (.slice a0 n0 c0) l) (hh : IsL KI w (.slice a1 n1 c1) hs) (h1 : ¬ 2000 < n0) (h2 : ¬ 20 < n1) (R : Int × Int) (hR : (if (firstF holdC hs 0).1 ≠ 0 then firstF holdC hs 0 else firstF (wrongC (n1 : Int)) l 0) = R) :
    Calls Try.prog 12 #[.slice a0 n0 c0, .slice a1 n1 c1] w fun e w' => e = .returned (.agg #[.int .i64 R.1, .int .i64 R.2]) ∧ Below w.heap.size w w' := by
  have e0 := hl.len
  have e1 := hh.len
  obtain ⟨RA, eRA⟩ : ∃ X, firstF holdC hs 0 = X := ⟨_, rfl⟩
  rw [eRA] at hR
  have HRA : Hid (firstF holdC (hs.drop 0) ((0 : Nat) : Int) = RA) := eRA
  have HR := hide hR; have HL := hide hl; have HH := hide hh; have HN0 := hide e0; have HN1 := hide e1
  have i1 : ¬ (2000 : Int) < (n0 : Int) := by omega
  have i2 : ¬ (20 : Int) < (n1 : Int) := by omega
  clear hR hl hh e0 e1 eRA
  have HQ := hide (new_block w (.cells #[.int .i64 0, .int .i64 0] 28))
  have HX := hide ((Below.refl w.heap.size w).alloc (Nat.le_refl _) (.cells #[.int .i64 0, .int .i64 0] 28))
  obtain ⟨W0, e0⟩ : ∃ X, w.alloc (.cells #[.int .i64 0, .int .i64 0] 28) = X := ⟨_, rfl⟩
  rw [e0] at HQ HX
  have HE := hide e0
  clear e0
  go_enter Try.func12, Try.ntmps12
  go_upto_region 1 with fail
  rw [unhide HE]
  clear HE
  go_upto_region 4 with fail
  go_loopw [21] (fun i W => ∃ j : Nat, j ≤ n1 ∧ i = .int .i64 j ∧ Hid (firstF holdC (hs.drop j) (j : Int) = RA) ∧ Hid (W.heap[w.heap.size]? = some (.cells #[.int .i64 0, .int .i64 0] 28 (0, 0))) ∧ Hid (Below w.heap.size w W)) (fun i _ => n1 - (intOf i).toNat)
  case atStart => exact ⟨0, Nat.zero_le _, rfl, HRA, HQ, HX⟩
  case round =>
    obtain ⟨j, hj, rfl, HRj, HQj, HXj⟩ := hrel
    clear HRA HQ HX
    by_cases hlt : j < n1
    · obtain ⟨b, off, rfl, hbl, hli⟩ := (unhide HH).opens ki (unhide HN1) (by omega)
      have hlt2 : j < hs.length := by rw [unhide HN1]; exact hlt
      have cx := (hli.below (unhide HXj) hbl).ints hlt2
      have HRn := unhide HRj
      rw [drop_at (d := 0) hlt2] at HRn
      obtain ⟨x, ex⟩ : ∃ X, hs.getD j 0 = X := ⟨_, rfl⟩
      rw [ex] at cx HRn
      have i0 : (0 : Int) ≤ (j : Int) := by omega
      have i3 : (j : Int) < (n1 : Int) := by omega
      have hw1 : IntKind.i64.wrap ((j : Int) + 1) = (j : Int) + 1 := wrapi (by omega) (by omega)
      have HRN := hide HRn
      clear HRj HRn ex hlt2 hli
      by_cases hx : 0 ≤ x ∧ x ≤ 100
      · have HR2 : Hid (firstF holdC (hs.drop (j + 1)) ((j : Int) + 1) = RA) := by have := unhide HRN; rw [firstF_go (by unfold holdC; rw [if_pos hx])] at this; exact this
        have hdx := decide_eq_true hx
        clear HRN hx
        go_wp2_with (go_at_call 31; (with_reducible refine Calls.mono (within_any _ _ _ _) ?_); rintro e w1 ⟨rfl, ew1⟩; rw [ew1]; clear ew1 w1; simp only [hdx])
        go_roundw
        case rel => exact ⟨j + 1, by omega, by go_num, by have := unhide HR2; exact this, HQj, HXj⟩
        case measure => simp [intOf]; omega
      · have HR2 : Hid (R = (8, (j : Int))) := by have h3 := unhide HRN; rw [firstF_stop (d := 8) (by unfold holdC; rw [if_neg hx]) (by decide)] at h3; have h4 := unhide HR; rw [← h3, if_pos (show (8 : Int) ≠ 0 by decide)] at h4; exact h4.symm
        have hdx := decide_eq_false hx
        clear HRN hx
        obtain ⟨q0, q1, f0, f1, ql⟩ := block2 (unhide HQj)
        go_wp2_with (go_at_call 31; (with_reducible refine Calls.mono (within_any _ _ _ _) ?_); rintro e w1 ⟨rfl, ew1⟩; rw [ew1]; clear ew1 w1; simp only [hdx])
        refine bodyPost_ret (v := .agg #[.int .i64 8, .int .i64 (j : Int)]) (by simp [results, Try.results12, go_sem, q0, q1]) rfl ⟨?_, below_set2 (unhide HXj) (Nat.le_refl _) _ _⟩
        rw [unhide HR2]
    · obtain rfl : j = n1 := by omega
      have i3 : ¬ (j : Int) < (j : Int) := by omega
      have HR2 : Hid (firstF (wrongC (j : Int)) (l.drop 0) ((0 : Nat) : Int) = R) := by
        have h3 := unhide HRj
        rw [List.drop_eq_nil_of_le (by rw [unhide HN1]; exact Nat.le_refl _)] at h3
        have h4 := unhide HR
        rw [← h3] at h4
        exact h4
      clear HRj HR hlt hj
      go_upto_region 10 with fail
      go_loopw [34] (fun i W => ∃ k : Nat, k ≤ n0 ∧ i = .int .i64 k ∧ Hid (firstF (wrongC (j : Int)) (l.drop k) (k : Int) = R) ∧ Hid (W.heap[w.heap.size]? = some (.cells #[.int .i64 0, .int .i64 0] 28 (0, 0))) ∧ Hid (Below w.heap.size w W)) (fun i _ => n0 - (intOf i).toNat)
      case atStart => exact ⟨0, Nat.zero_le _, rfl, HR2, HQj, HXj⟩
      case round =>
        obtain ⟨k, hk, rfl, HRk, HQk, HXk⟩ := hrel
        clear HR2 HQj HXj
        by_cases hlt : k < n0
        · obtain ⟨b, off, rfl, hbl, hli⟩ := (unhide HL).opens ke (unhide HN0) (by omega)
          have hlt2 : k < l.length := by rw [unhide HN0]; exact hlt
          obtain ⟨⟨tk, op, ob, vl⟩, ex⟩ : ∃ X, l.getD k ev0 = X := ⟨_, rfl⟩
          obtain ⟨k0, k1, k2, k3⟩ := (hli.below (unhide HXk) hbl).ev hlt2 ex
          have HRn := unhide HRk
          rw [drop_at (d := ev0) hlt2, ex] at HRn
          have i0 : (0 : Int) ≤ (k : Int) := by omega
          have i4 : (k : Int) < (n0 : Int) := by omega
          have hw1 : IntKind.i64.wrap ((k : Int) + 1) = (k : Int) + 1 := wrapi (by omega) (by omega)
          have HRN := hide HRn
          clear HRk HRn ex hlt2 hli
          go_upto_region 12 with fail
          clear k0 k1 k2 k3
          have HQ3 := hide (keep_alloc (unhide HQk) (.cells #[.int .i64 tk, .int .i64 op, .int .i64 ob, .int .i64 vl] 41)); have HX3 := hide ((unhide HXk).alloc (unhide HXk).size (.cells #[.int .i64 tk, .int .i64 op, .int .i64 ob, .int .i64 vl] 41)); have HZ3 := hide (new_block wr (.cells #[.int .i64 tk, .int .i64 op, .int .i64 ob, .int .i64 vl] 41))
          have hZl : w.heap.size < wr.heap.size := size_of (unhide HQk)
          obtain ⟨Z, eZ⟩ : ∃ X, wr.heap.size = X := ⟨_, rfl⟩
          obtain ⟨W3, e3⟩ : ∃ X, wr.alloc (.cells #[.int .i64 tk, .int .i64 op, .int .i64 ob, .int .i64 vl] 41) = X := ⟨_, rfl⟩
          rw [eZ, e3] at HZ3; rw [e3] at HQ3 HX3; rw [eZ] at hZl; rw [eZ, e3]
          clear eZ e3 HQk HXk
          have HCW := hide (wrong_any W3 tk op ob vl (j : Int))
          obtain ⟨d, ed⟩ : ∃ d, wrongC (j : Int) ⟨tk, op, ob, vl⟩ = d := ⟨_, rfl⟩
          rw [ed] at HCW
          obtain ⟨⟨z0, z1, z2, z3⟩, -, zl⟩ := block4 (unhide HZ3)
          by_cases hd : d = 0
          · subst hd
            have HRN2 : Hid (firstF (wrongC (j : Int)) (l.drop (k + 1)) ((k : Int) + 1) = R) := by have := unhide HRN; rw [firstF_go ed] at this; exact this
            clear ed HRN
            go_wp2_with (go_at_call 32; refine (unhide HCW).mono ?_; rintro e w4 ⟨rfl, hb4⟩; have HQ4 := hide (keep_below (unhide HQ3) hb4); have HX4 := hide (Below.next (unhide HX3) hb4 (Nat.le_refl _)); clear hb4 z0 z1 z2 z3 zl HQ3 HX3 HZ3 HCW)
            go_roundw
            case rel => exact ⟨k + 1, by omega, by go_num, HRN2, HQ4, HX4⟩
            case measure => simp [intOf]; omega
          · have x1 : (d != 0) = true := by simpa using hd
            have HE2 : Hid (R = (d, (k : Int))) := by have := unhide HRN; rw [firstF_stop ed hd] at this; exact this.symm
            clear ed HRN hd
            go_wp2_with (go_at_call 32; refine (unhide HCW).mono ?_; rintro e w4 ⟨rfl, hb4⟩; have HQ4 := hide (keep_below (unhide HQ3) hb4); have HX4 := hide (Below.next (unhide HX3) hb4 (Nat.le_refl _)); clear hb4 z0 z1 z2 z3 zl HQ3 HX3 HZ3 HCW; obtain ⟨q0, q1, f0, f1, ql⟩ := block2 (unhide HQ4))
            refine bodyPost_ret (v := .agg #[.int .i64 d, .int .i64 (k : Int)]) (by simp [results, Try.results12, go_sem, q0, q1]) rfl ⟨?_, below_set2 (unhide HX4) (Nat.le_refl _) _ _⟩
            rw [unhide HE2]
        · obtain rfl : k = n0 := by omega
          have i4 : ¬ (k : Int) < (k : Int) := by omega
          have HE2 : Hid (R = (0, 0)) := by have h3 := unhide HRk; rw [List.drop_eq_nil_of_le (by rw [unhide HN0]; exact Nat.le_refl _)] at h3; exact h3.symm
          clear HRk hlt hk
          obtain ⟨q0, q1, f0, f1, ql⟩ := block2 (unhide HQk)
          go_wp2_with fail
          refine bodyPost_ret (v := .agg #[.int .i64 0, .int .i64 0]) (by simp [results, Try.results12, go_sem, q0, q1]) rfl ⟨?_, below_set2 (unhide HXk) (Nat.le_refl _) _ _⟩
          rw [unhide HE2]
theorem check_any (w : World) (a0 : Option Addr) (n0 c0 : Nat) (a1 : Option Addr) (n1 c1 : Nat) (l : List Ev) (hs : List Int) (hl : IsL KE w (.slice a0 n0 c0) l) (hh : IsL KI w (.slice a1 n1 c1) hs) :
    Calls Try.prog 12 #[.slice a0 n0 c0, .slice a1 n1 c1] w fun e w' => e = .returned (.agg #[.int .i64 (checkF hs l).1, .int .i64 (checkF hs l).2]) ∧ Below w.heap.size w w' := by
  unfold checkF
  rw [hl.len, hh.len]
  by_cases h1 : 2000 < n0
  · rw [if_pos (Or.inl h1)]
    exact check_many1 w a0 n0 c0 a1 n1 c1 h1
  · by_cases h2 : 20 < n1
    · rw [if_pos (Or.inr h2)]
      exact check_many2 w a0 n0 c0 a1 n1 c1 h1 h2
    · rw [if_neg (fun h => h.elim h1 h2)]
      exact check_loops w a0 n0 c0 a1 n1 c1 l hs hl hh h1 h2 _ rfl

theorem firstF_zero {α : Type} {f : α → Int} {d : α} : ∀ {l : List α} {i : Int}, (firstF f l i).1 = 0 → ∀ j, j < l.length → f (l.getD j d) = 0
  | [], _, _, j, hj => by simp at hj
  | x :: r, i, h, j, hj => by
    by_cases e : f x = 0
    · rw [firstF_go e] at h
      cases j with
      | zero => simpa using e
      | succ j => simpa using firstF_zero (d := d) h j (by simpa using hj)
    · rw [firstF_stop rfl e] at h
      exact absurd h e
theorem firstF_all {α : Type} {f : α → Int} {d : α} : ∀ {l : List α} {i : Int}, (∀ j, j < l.length → f (l.getD j d) = 0) → firstF f l i = (0, 0)
  | [], _, _ => rfl
  | x :: r, i, h => by
    rw [firstF_go (by simpa using h 0 (by simp))]
    exact firstF_all (d := d) fun j hj => by simpa using h (j + 1) (by simpa using hj)
/-- A trace of which nothing is wrong. -/
structure GoodT (hs : List Int) (l : List Ev) : Prop where
  n : l.length ≤ 2000
  m : hs.length ≤ 20
  h : HoldsOk hs
  e : ∀ j, j < l.length → wrongC (hs.length : Int) (l.getD j ev0) = 0
theorem good_of {hs : List Int} {l : List Ev} (h : (checkF hs l).1 = 0) : GoodT hs l := by
  unfold checkF at h
  split at h
  · exact absurd h (by decide)
  · next h1 =>
    split at h
    · next h2 => exact absurd h h2
    · next h2 =>
      refine ⟨by omega, by omega, fun i => ?_, firstF_zero h⟩
      by_cases hi : i < hs.length
      · have := firstF_zero (d := 0) (by simpa using h2) i hi
        unfold holdC at this
        split at this
        · assumption
        · exact absurd this (by decide)
      · rw [List.getD_eq_getElem?_getD, List.getElem?_eq_none (by omega)]
        decide
theorem GoodT.zero {hs : List Int} {l : List Ev} (h : GoodT hs l) : checkF hs l = (0, 0) := by
  have hA : firstF holdC hs 0 = (0, 0) := firstF_all (d := 0) fun j _ => by unfold holdC; rw [if_pos (h.h j)]
  unfold checkF
  rw [if_neg (by have := h.n; have := h.m; omega), hA, if_neg (by decide)]
  exact firstF_all (d := ev0) h.e
theorem wrong_ok {np : Int} {e : Ev} (h : wrongC np e = 0) : (1 ≤ e.task ∧ e.task ≤ 64) ∧ (8 ≤ e.op ∧ e.op ≤ 22) ∧ (0 ≤ e.obj ∧ e.obj ≤ 20) ∧ (ofPipe e.op = true → e.obj < np) ∧ (e.op = 11 → 1 ≤ e.val ∧ e.val ≤ 64) := by
  unfold wrongC at h
  split at h
  · cases h
  · split at h
    · cases h
    · split at h
      · cases h
      · split at h
        · cases h
        · split at h
          · cases h
          · next h1 h2 h3 h4 h5 =>
            refine ⟨by omega, by omega, by omega, fun ho => ?_, fun ho => ?_⟩
            · exact Int.not_le.1 fun hc => h4 ⟨ho, hc⟩
            · exact Decidable.byContradiction fun hc => h5 ⟨ho, hc⟩
theorem GoodT.ev {hs : List Int} {l : List Ev} (h : GoodT hs l) {j : Nat} (hj : j < l.length) : EvOk hs (l.getD j ev0) := by
  obtain ⟨h1, h2, h3, h4, h5⟩ := wrong_ok (h.e j hj)
  refine ⟨h1.1, h1.2, fun hp => ⟨h3.1, h4 ?_⟩⟩
  simp only [ofPipe, Bool.or_eq_true, decide_eq_true_eq]
  omega
theorem GoodT.tasks {hs : List Int} {l : List Ev} (h : GoodT hs l) : Tasks1 l := fun _i hi => (h.ev hi).t1
theorem GoodT.take {hs : List Int} {l : List Ev} (h : GoodT hs l) (m : Nat) : GoodT hs (l.take m) := by
  refine ⟨by have := h.n; rw [List.length_take]; omega, h.m, h.h, fun j hj => ?_⟩
  rw [List.length_take] at hj
  have e : (l.take m).getD j ev0 = l.getD j ev0 := by simp [show j < m by omega]
  rw [e]
  exact h.e j (by omega)
end Go.Proofs.Ytbnmeeabpjmcoaa
