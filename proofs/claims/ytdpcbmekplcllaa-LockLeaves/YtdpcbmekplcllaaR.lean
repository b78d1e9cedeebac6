/-
  taskmillref.LockFault.
-/
import Derived.Test.YtdpcbmekplcllaaGr
import Derived.Test.YtdpcbmekplcllaaL
namespace Go.Proofs.Ytdpcbmekplcllaa
open Go.RowKit

theorem admR_some {r : Int} {b : Bool} {l : List Po} (h : lets r b l = true) : 0 < (admR r b l).2.length := by
  obtain ⟨t, c, u, l2, rfl, -, -⟩ := lets_cons h
  rw [admR_go h]
  exact Nat.succ_pos _
theorem admR_most (r : Int) (b : Bool) (l : List Po) : (admR r b l).2.length ≤ l.length := by
  induction l generalizing r b with
  | nil => exact Nat.le_refl _
  | cons x l ih =>
    unfold admR
    split
    · exact Nat.succ_le_succ (ih _ _)
    · exact Nat.zero_le _

set_option maxRecDepth 100000 in
set_option maxHeartbeats 1000000 in
theorem fault_many (w : World) (v : Value) (P : Lk) (h : IsLock w v P) (h1 : 5000 < P.line.length) :
    Calls Try.prog 12 #[v] w fun e w' => e = .returned (.agg #[.int .i64 2, .int .i64 0]) ∧ Below w.heap.size w w' := by
  obtain ⟨r, bw, line⟩ := P
  obtain ⟨a0, c0, rfl, -⟩ := h.form
  simp only at h1 h ⊢
  generalize line.length = n at *
  clear h
  have j1 : (5000 : Int) < (n : Int) := by omega
  obtain ⟨W0, e0, hB, k0, k1⟩ := two_new w (.cells #[.int .i64 r, .bool bw, .slice a0 n c0] 24) (.cells #[.int .i64 0, .int .i64 0] 28)
  have HX := hide hB; have HP := hide k0; have HQ := hide k1; have HE := hide e0
  clear hB k0 k1 e0
  go_enter Try.func12, Try.ntmps12
  go_upto_region 1 with fail
  rw [unhide HE]
  clear HE
  obtain ⟨⟨p0, p1, p2⟩, -, pl⟩ := block3 (unhide HP)
  go_wp2_with (go_at_call 14; refine (refF_any _ _ _).mono ?_; rintro e w1 ⟨rfl, hb1⟩; have HX1 := hide (Below.next (unhide HX) hb1 (Nat.le_refl _)); have HQ1 := hide (keep_below (unhide HQ) hb1); clear hb1 p0 p1 p2 pl; obtain ⟨q0, q1, f0, f1, ql⟩ := block2 (unhide HQ1))
  exact bodyPost_ret (v := .agg #[.int .i64 2, .int .i64 0]) (by simp [results, Try.results12, go_sem, q0, q1]) rfl ⟨rfl, below_set2 (unhide HX1) (Nat.le_succ _) _ _⟩

set_option maxRecDepth 100000 in
set_option maxHeartbeats 1000000 in
theorem fault_low (w : World) (v : Value) (P : Lk) (h : IsLock w v P) (h1 : ¬ 5000 < P.line.length) (h2 : P.readers < 0) :
    Calls Try.prog 12 #[v] w fun e w' => e = .returned (.agg #[.int .i64 3, .int .i64 0]) ∧ Below w.heap.size w w' := by
  obtain ⟨r, bw, line⟩ := P
  obtain ⟨a0, c0, rfl, -⟩ := h.form
  simp only at h1 h2 h ⊢
  generalize line.length = n at *
  clear h
  have j1 : ¬ (5000 : Int) < (n : Int) := by omega
  obtain ⟨W0, e0, hB, k0, k1⟩ := two_new w (.cells #[.int .i64 r, .bool bw, .slice a0 n c0] 24) (.cells #[.int .i64 0, .int .i64 0] 28)
  have HX := hide hB; have HP := hide k0; have HQ := hide k1; have HE := hide e0
  clear hB k0 k1 e0
  go_enter Try.func12, Try.ntmps12
  go_upto_region 1 with fail
  rw [unhide HE]
  clear HE
  obtain ⟨⟨p0, p1, p2⟩, -, pl⟩ := block3 (unhide HP)
  go_wp2_with (go_at_call 14; refine (refF_any _ _ _).mono ?_; rintro e w1 ⟨rfl, hb1⟩; have HX1 := hide (Below.next (unhide HX) hb1 (Nat.le_refl _)); have HQ1 := hide (keep_below (unhide HQ) hb1); clear hb1 p0 p1 p2 pl; obtain ⟨q0, q1, f0, f1, ql⟩ := block2 (unhide HQ1))
  exact bodyPost_ret (v := .agg #[.int .i64 3, .int .i64 0]) (by simp [results, Try.results12, go_sem, q0, q1]) rfl ⟨rfl, below_set2 (unhide HX1) (Nat.le_succ _) _ _⟩

set_option maxRecDepth 100000 in
set_option maxHeartbeats 1000000 in
theorem fault_high (w : World) (v : Value) (P : Lk) (h : IsLock w v P) (h1 : ¬ 5000 < P.line.length) (h2 : ¬ P.readers < 0) (h3 : 1000000000 < P.readers) :
    Calls Try.prog 12 #[v] w fun e w' => e = .returned (.agg #[.int .i64 3, .int .i64 0]) ∧ Below w.heap.size w w' := by
  obtain ⟨r, bw, line⟩ := P
  obtain ⟨a0, c0, rfl, -⟩ := h.form
  simp only at h1 h2 h3 h ⊢
  generalize line.length = n at *
  clear h
  have j1 : ¬ (5000 : Int) < (n : Int) := by omega
  obtain ⟨W0, e0, hB, k0, k1⟩ := two_new w (.cells #[.int .i64 r, .bool bw, .slice a0 n c0] 24) (.cells #[.int .i64 0, .int .i64 0] 28)
  have HX := hide hB; have HP := hide k0; have HQ := hide k1; have HE := hide e0
  clear hB k0 k1 e0
  go_enter Try.func12, Try.ntmps12
  go_upto_region 1 with fail
  rw [unhide HE]
  clear HE
  obtain ⟨⟨p0, p1, p2⟩, -, pl⟩ := block3 (unhide HP)
  go_wp2_with (go_at_call 14; refine (refF_any _ _ _).mono ?_; rintro e w1 ⟨rfl, hb1⟩; have HX1 := hide (Below.next (unhide HX) hb1 (Nat.le_refl _)); have HQ1 := hide (keep_below (unhide HQ) hb1); clear hb1 p0 p1 p2 pl; obtain ⟨q0, q1, f0, f1, ql⟩ := block2 (unhide HQ1))
  exact bodyPost_ret (v := .agg #[.int .i64 3, .int .i64 0]) (by simp [results, Try.results12, go_sem, q0, q1]) rfl ⟨rfl, below_set2 (unhide HX1) (Nat.le_succ _) _ _⟩

set_option maxRecDepth 100000 in
set_option maxHeartbeats 1000000 in
theorem fault_both (w : World) (v : Value) (P : Lk) (h : IsLock w v P) (h1 : ¬ 5000 < P.line.length) (h2 : ¬ P.readers < 0) (h3 : ¬ 1000000000 < P.readers) (h4 : P.writer = true) (h5 : 0 < P.readers) :
    Calls Try.prog 12 #[v] w fun e w' => e = .returned (.agg #[.int .i64 5, .int .i64 0]) ∧ Below w.heap.size w w' := by
  obtain ⟨r, bw, line⟩ := P
  obtain ⟨a0, c0, rfl, -⟩ := h.form
  simp only at h1 h2 h3 h4 h5 h ⊢
  generalize line.length = n at *
  clear h
  have j1 : ¬ (5000 : Int) < (n : Int) := by omega
  subst h4
  obtain ⟨W0, e0, hB, k0, k1⟩ := two_new w (.cells #[.int .i64 r, .bool true, .slice a0 n c0] 24) (.cells #[.int .i64 0, .int .i64 0] 28)
  have HX := hide hB; have HP := hide k0; have HQ := hide k1; have HE := hide e0
  clear hB k0 k1 e0
  go_enter Try.func12, Try.ntmps12
  go_upto_region 1 with fail
  rw [unhide HE]
  clear HE
  obtain ⟨⟨p0, p1, p2⟩, -, pl⟩ := block3 (unhide HP)
  go_wp2_with (go_at_call 14; refine (refF_any _ _ _).mono ?_; rintro e w1 ⟨rfl, hb1⟩; have HX1 := hide (Below.next (unhide HX) hb1 (Nat.le_refl _)); have HQ1 := hide (keep_below (unhide HQ) hb1); clear hb1 p0 p1 p2 pl; obtain ⟨q0, q1, f0, f1, ql⟩ := block2 (unhide HQ1))
  exact bodyPost_ret (v := .agg #[.int .i64 5, .int .i64 0]) (by simp [results, Try.results12, go_sem, q0, q1]) rfl ⟨rfl, below_set2 (unhide HX1) (Nat.le_succ _) _ _⟩

set_option maxRecDepth 100000 in
set_option maxHeartbeats 1000000 in
theorem fault_lets (w : World) (v : Value) (P : Lk) (h : IsLock w v P) (h1 : ¬ 5000 < P.line.length) (h2 : ¬ P.readers < 0) (h3 : ¬ 1000000000 < P.readers) (h4 : P.writer = false ∨ ¬ 0 < P.readers) (h5 : 0 < P.line.length) (h6 : lets P.readers P.writer P.line = true) :
    Calls Try.prog 12 #[v] w fun e w' => e = .returned (.agg #[.int .i64 5, .int .i64 0]) ∧ Below w.heap.size w w' := by
  obtain ⟨r, bw, line⟩ := P
  obtain ⟨a0, c0, rfl, hL⟩ := h.form
  simp only at h1 h2 h3 h4 h5 h6 hL ⊢
  have HAD : Hid (∀ W, Below w.heap.size w W → Calls Try.prog 17 #[.agg #[.int .i64 r, .bool bw, .slice a0 line.length c0]] W fun e w' => ∃ ra ba sa na ca sb cb, e = .returned (.tuple #[.agg #[.int .i64 ra, .bool ba, .slice sa na ca], .slice sb (admR r bw line).2.length cb]) ∧ Below W.heap.size W w') := fun W hW => (refAdm_any W _ _ ⟨r, bw, line⟩ ⟨_, rfl, at_own (hL.below hW)⟩ (by simp only; omega) (by simp only; omega) (by simp only; omega) (by simp only; omega)).mono fun e w' ⟨v1, v2, q1, q2, q3, q4⟩ => by
    obtain ⟨sa, ca, rfl, -⟩ := q2.form
    obtain ⟨sb, cb, rfl⟩ := q3.form
    exact ⟨_, _, sa, _, ca, sb, cb, q1, q4⟩
  have hm := admR_some h6
  generalize (admR r bw line).2.length = m at *
  generalize line.length = n at *
  have j1 : ¬ (5000 : Int) < (n : Int) := by omega
  have j2 : (0 : Int) < (n : Int) := by omega
  have j3 : (0 : Int) < (m : Int) := by omega
  clear h hL h6
  obtain ⟨W0, e0, hB, k0, k1⟩ := two_new w (.cells #[.int .i64 r, .bool bw, .slice a0 n c0] 24) (.cells #[.int .i64 0, .int .i64 0] 28)
  have HX := hide hB; have HP := hide k0; have HQ := hide k1; have HE := hide e0
  clear hB k0 k1 e0
  go_enter Try.func12, Try.ntmps12
  go_upto_region 1 with fail
  rw [unhide HE]
  clear HE
  obtain ⟨⟨p0, p1, p2⟩, -, pl⟩ := block3 (unhide HP)
  have h45 : (bw = false ∨ (bw = true ∧ ¬ 0 < r)) := by cases bw <;> simp_all
  clear h4
  rcases h45 with rfl | ⟨rfl, h45⟩
  · go_upto_region 9 with (go_at_call 17; refine (unhide HAD _ (unhide HX)).mono ?_; rintro e w1 ⟨ra, ba, sa, na, ca, sb, cb, rfl, hb1⟩; have HX_1 := hide (Below.next (unhide HX) hb1 (by first | exact Nat.le_refl _ | (have := unhide HBA; omega))); have Kq_1 := hide (keep_below (unhide HQ) hb1); clear HX HQ; clear hb1 p0 p1 p2 pl)
    have HX_2 := hide ((unhide HX_1).alloc (Nat.le_trans (show w.heap.size ≤ w.heap.size from Nat.le_refl _) (unhide HX_1).size) (.cells #[.int .i64 ra, .bool ba, .slice sa na ca] 24))
    have Kq_2 := hide (keep_alloc (unhide Kq_1) (.cells #[.int .i64 ra, .bool ba, .slice sa na ca] 24))
    have Km_2 := hide (new_block w1 (.cells #[.int .i64 ra, .bool ba, .slice sa na ca] 24))
    have hlq_m : w.heap.size + 1 < w1.heap.size := size_of (unhide Kq_1)
    obtain ⟨M, eM⟩ : ∃ X, w1.heap.size = X := ⟨_, rfl⟩
    obtain ⟨W2, eW2⟩ : ∃ X, w1.alloc (.cells #[.int .i64 ra, .bool ba, .slice sa na ca] 24) = X := ⟨_, rfl⟩
    rw [eM, eW2] at Km_2; rw [eW2] at HX_2 Kq_2; rw [eM] at hlq_m; rw [eM, eW2]
    clear eM eW2 HX_1 Kq_1
    go_wp2_with (go_at_call 14; refine (refF_any _ _ _).mono ?_; rintro e w3 ⟨rfl, hb3⟩; have HX_3 := hide (Below.next (unhide HX_2) hb3 (by first | exact Nat.le_refl _ | (have := unhide HBA; omega))); have Kq_3 := hide (keep_below (unhide Kq_2) hb3); have Km_3 := hide (keep_below (unhide Km_2) hb3); clear HX_2 Kq_2 Km_2; clear hb3; obtain ⟨q0, q1, f0, f1, ql⟩ := block2 (unhide Kq_3))
    exact bodyPost_ret (v := .agg #[.int .i64 5, .int .i64 0]) (by simp [results, Try.results12, go_sem, q0, q1]) rfl ⟨rfl, below_set2 (unhide HX_3) (Nat.le_succ _) _ _⟩
  · go_upto_region 9 with (go_at_call 17; refine (unhide HAD _ (unhide HX)).mono ?_; rintro e w1 ⟨ra, ba, sa, na, ca, sb, cb, rfl, hb1⟩; have HX_1 := hide (Below.next (unhide HX) hb1 (by first | exact Nat.le_refl _ | (have := unhide HBA; omega))); have Kq_1 := hide (keep_below (unhide HQ) hb1); clear HX HQ; clear hb1 p0 p1 p2 pl)
    have HX_2 := hide ((unhide HX_1).alloc (Nat.le_trans (show w.heap.size ≤ w.heap.size from Nat.le_refl _) (unhide HX_1).size) (.cells #[.int .i64 ra, .bool ba, .slice sa na ca] 24))
    have Kq_2 := hide (keep_alloc (unhide Kq_1) (.cells #[.int .i64 ra, .bool ba, .slice sa na ca] 24))
    have Km_2 := hide (new_block w1 (.cells #[.int .i64 ra, .bool ba, .slice sa na ca] 24))
    have hlq_m : w.heap.size + 1 < w1.heap.size := size_of (unhide Kq_1)
    obtain ⟨M, eM⟩ : ∃ X, w1.heap.size = X := ⟨_, rfl⟩
    obtain ⟨W2, eW2⟩ : ∃ X, w1.alloc (.cells #[.int .i64 ra, .bool ba, .slice sa na ca] 24) = X := ⟨_, rfl⟩
    rw [eM, eW2] at Km_2; rw [eW2] at HX_2 Kq_2; rw [eM] at hlq_m; rw [eM, eW2]
    clear eM eW2 HX_1 Kq_1
    go_wp2_with (go_at_call 14; refine (refF_any _ _ _).mono ?_; rintro e w3 ⟨rfl, hb3⟩; have HX_3 := hide (Below.next (unhide HX_2) hb3 (by first | exact Nat.le_refl _ | (have := unhide HBA; omega))); have Kq_3 := hide (keep_below (unhide Kq_2) hb3); have Km_3 := hide (keep_below (unhide Km_2) hb3); clear HX_2 Kq_2 Km_2; clear hb3; obtain ⟨q0, q1, f0, f1, ql⟩ := block2 (unhide Kq_3))
    exact bodyPost_ret (v := .agg #[.int .i64 5, .int .i64 0]) (by simp [results, Try.results12, go_sem, q0, q1]) rfl ⟨rfl, below_set2 (unhide HX_3) (Nat.le_succ _) _ _⟩

set_option maxRecDepth 100000 in
set_option maxHeartbeats 1000000 in
theorem fault_empty (w : World) (v : Value) (P : Lk) (h : IsLock w v P) (h1 : ¬ 5000 < P.line.length) (h2 : ¬ P.readers < 0) (h3 : ¬ 1000000000 < P.readers) (h4 : P.writer = false ∨ ¬ 0 < P.readers) (h5 : P.line.length = 0) :
    Calls Try.prog 12 #[v] w fun e w' => e = .returned (.agg #[.int .i64 0, .int .i64 0]) ∧ Below w.heap.size w w' := by
  obtain ⟨r, bw, line⟩ := P
  obtain ⟨a0, c0, rfl, hL⟩ := h.form
  simp only at h1 h2 h3 h4 h5 hL ⊢
  rw [h5] at h1 ⊢
  clear h hL h5 h1
  obtain ⟨n, en⟩ : ∃ n : Nat, 0 = n := ⟨_, rfl⟩
  have h45 : (bw = false ∨ (bw = true ∧ ¬ 0 < r)) := by cases bw <;> simp_all
  clear h4
  obtain ⟨W0, e0, hB, k0, k1⟩ := two_new w (.cells #[.int .i64 r, .bool bw, .slice a0 0 c0] 24) (.cells #[.int .i64 0, .int .i64 0] 28)
  have HX := hide hB; have HP := hide k0; have HQ := hide k1; have HE := hide e0
  clear hB k0 k1 e0 en
  go_enter Try.func12, Try.ntmps12
  go_upto_region 1 with fail
  rw [unhide HE]
  clear HE
  obtain ⟨⟨p0, p1, p2⟩, -, pl⟩ := block3 (unhide HP)
  obtain ⟨q0, q1, f0, f1, ql⟩ := block2 (unhide HQ)
  rcases h45 with rfl | ⟨rfl, h45⟩
  all_goals
    go_wp2_with fail
    go_loopw [5] (fun i W => i = .int .i64 0 ∧ W = W0) (fun _ _ => 0)
    case atStart => exact ⟨rfl, rfl⟩
    case round =>
      obtain ⟨rfl, rfl⟩ := hrel
      go_wp2_with fail
      exact bodyPost_ret (v := .agg #[.int .i64 0, .int .i64 0]) (by simp [results, Try.results12, go_sem, q0, q1]) rfl ⟨rfl, below_set2 (unhide HX) (Nat.le_succ _) _ _⟩
end Go.Proofs.Ytdpcbmekplcllaa
