/-
  lock.fresh, lock.waits; taskmilllaw.ownLock, taskmilllaw.noLock; taskmillref.F, SameLock, InLine.
-/
import Derived.Test.YtdpcbmekplcllaaF
namespace Go.Proofs.Ytdpcbmekplcllaa
open Go.RowKit

set_option maxRecDepth 100000 in
set_option maxHeartbeats 1000000 in
theorem fresh_any (w : World) (v : Value) (P : Lk) (h : IsLock w v P) (hn : P.line.length ≤ 100000) :
    Calls Try.prog 29 #[v] w fun e w' => ∃ v', e = .returned v' ∧ OwnLock w.heap.size w' v' P ∧ Below w.heap.size w w' := by
  obtain ⟨r, bw, line⟩ := P
  obtain ⟨a0, c0, rfl, hL⟩ := h.form
  simp only at hL hn ⊢
  clear h
  have HL := hide hL
  obtain ⟨n, en⟩ : ∃ n, line.length = n := ⟨_, rfl⟩
  rw [en] at HL hn ⊢
  have HN := hide en
  clear hL en
  obtain ⟨W0, e0, hB, k0, k1⟩ := two_new w (.cells #[.int .i64 r, .bool bw, .slice a0 n c0] 24) (.cells #[.int .i64 0, .bool false, .slice none 0 0] 24)
  have HX := hide hB; have HP := hide k0; have HQ := hide k1; have HE := hide e0
  clear hB k0 k1 e0
  go_enter Try.func29, Try.ntmps29
  go_upto_region 1 with fail
  rw [unhide HE]
  clear HE
  have HEE := hide (own_empty (K := KP) W0)
  obtain ⟨⟨p0, p1, p2⟩, ⟨f0, f1, f2⟩, pl⟩ := block3 (keep_alloc (unhide HP) (.cells #[] 41))
  have HS0 := hide (size_of (unhide HQ))
  go_upto_region 2 with (at_builtin; refine wpList_append kp rfl (.tmp 3) (.tmp 5) rfl W0.heap.size _ [] rfl (unhide HEE) _ line rfl (IsL.below (unhide HL) ((unhide HX).alloc (unhide HX).size _)) n (by simp [unhide HN]) (by simp [KP]; omega) (by simp) ?_; intro b1 d1 w1 ho1 hg1; have HO1 := hide (own_nil_append ho1); have HX1 := hide (((Below.refl W0.heap.size W0).alloc (Nat.le_refl _) _).grown hg1 (by simp) (fun k hk => by cases hk; exact Nat.le_refl _)); clear ho1 hg1 p0 p1 p2 pl f0 f1 f2; obtain ⟨⟨p0, p1, p2⟩, ⟨f0, f1, f2⟩, pl⟩ := block3 (keep_below (unhide HP) (unhide HX1)))
  clear p0 p1 p2 pl f0 f1 f2
  have HP1 := hide (keep_below (unhide HP) (unhide HX1)); have HQ1 := hide (keep_below (unhide HQ) (unhide HX1)); have HX2 := hide (Below.next (unhide HX) (unhide HX1) (Nat.le_refl _))
  clear HP HQ HX HX1 HEE
  have HX_1 := hide (below_set (i := 2) (unhide HX2) (show w.heap.size ≤ w.heap.size by first | omega | (have := unhide HBA; omega)) (.slice b1 n d1))
  have Kp_1 := hide (set_block3 (i := 2) (y := .slice b1 n d1) (unhide HP1))
  have Kq_1 := hide (keep_set (g := w.heap.size) (o := 2) (v := .slice b1 n d1) (unhide HQ1) (by omega))
  have Ol_1 := hide ((unhide HO1).keep (fun k hk => Below.heap_setCell w1 ⟨w.heap.size, 2, none⟩ (.slice b1 n d1) k (by have := Own.ne (unhide HO1) (unhide HP1) (by decide) k hk; simpa using this)))
  obtain ⟨W2, eW2⟩ : ∃ X, w1.setCell ⟨w.heap.size, 2, none⟩ (.slice b1 n d1) = X := ⟨_, rfl⟩
  rw [eW2] at HX_1 Kp_1 Kq_1 Ol_1 ⊢
  clear eW2 HX2 HP1 HQ1 HO1
  simp only [List.setIfInBounds_toArray, List.set_cons_zero, List.set_cons_succ] at Kp_1
  obtain ⟨⟨p0, p1, p2⟩, ⟨pf0, pf1, pf2⟩, pl⟩ := block3 (unhide Kp_1)
  obtain ⟨⟨q0, q1, q2⟩, ⟨qf0, qf1, qf2⟩, ql⟩ := block3 (unhide Kq_1)
  go_wp2_with fail
  have HF2 := hide (putL_own (y0 := .int .i64 r) (y1 := .bool bw) (y2 := .slice b1 n d1) (unhide Ol_1) (unhide Kq_1) (by decide)); have HF3 := hide (putL_below (y0 := .int .i64 r) (y1 := .bool bw) (y2 := .slice b1 n d1) (unhide HX_1) (Nat.le_succ _)); have HF1 := hide (putL_new (y0 := .int .i64 r) (y1 := .bool bw) (y2 := .slice b1 n d1) (unhide Kq_1))
  obtain ⟨Wf, ef⟩ : ∃ W, putL W2 (w.heap.size + 1) (.int .i64 r) (.bool bw) (.slice b1 n d1) = W := ⟨_, rfl⟩
  rw [ef] at HF1 HF2 HF3
  have ef2 : ((W2.setCell ⟨w.heap.size + 1, 0, none⟩ (.int .i64 r)).setCell ⟨w.heap.size + 1, 1, none⟩ (.bool bw)).setCell ⟨w.heap.size + 1, 2, none⟩ (.slice b1 n d1) = Wf := ef
  rw [ef2]
  clear ef ef2 q0 q1 q2 qf0 qf1 qf2 ql p0 p1 p2 pf0 pf1 pf2 pl
  obtain ⟨⟨q0, q1, q2⟩, -, -⟩ := block3 (unhide HF1)
  exact bodyPost_ret (v := .agg #[.int .i64 r, .bool bw, .slice b1 n d1]) (by simp [results, Try.results29, go_sem, q0, q1, q2]) rfl ⟨_, rfl, ⟨_, rfl, (unhide HF2).base (by have := unhide HS0; omega)⟩, unhide HF3⟩

/-- Is it this task? -/
def isOfP (x : Int) (p : Po) : Bool := p.1 == x
theorem containsOf_any (w : World) (v : Value) (xs : List Po) (h : IsL KP w v xs) (hn : xs.length ≤ maxLen) (g : Nat) (x : Int) (hg : w.heap[g]? = some (.cells #[.int .i64 x] 3 (0, 0))) :
    Calls Try.prog 37 #[v, .func (.func 39) #[] #[.pointer (some ⟨g, 0, none⟩)]] w fun e w' => e = .returned (.bool (xs.any (isOfP x))) ∧ Below w.heap.size w w' :=
  containsFunc_any w v xs h hn 39 enters39 _ (isOfP x) (fun W y hW => isof39_any W g x y.1 y.2.1 y.2.2 (keep_below hg hW))

set_option maxRecDepth 100000 in
set_option maxHeartbeats 1000000 in
theorem waits_any (w : World) (v : Value) (P : Lk) (x : Int) (h : IsLock w v P) (hn : P.line.length ≤ maxLen) :
    Calls Try.prog 31 #[v, .int .i64 x] w fun e w' => e = .returned (.bool (P.line.any (isOfP x))) ∧ Below w.heap.size w w' := by
  obtain ⟨r, bw, line⟩ := P
  obtain ⟨a0, c0, rfl, hL⟩ := h.form
  simp only at hL hn ⊢
  have HCS : Hid (∀ W g, Below w.heap.size w W → W.heap[g]? = some (.cells #[.int .i64 x] 3 (0, 0)) → Calls Try.prog 37 #[.slice a0 line.length c0, .func (.func 39) #[] #[.pointer (some ⟨g, 0, none⟩)]] W fun e w' => e = .returned (.bool (line.any (isOfP x))) ∧ Below W.heap.size W w') := fun W g hW hg => containsOf_any W _ line (hL.below hW) hn g x hg
  obtain ⟨q, hq⟩ : ∃ q, line.any (isOfP x) = q := ⟨_, rfl⟩
  rw [hq] at HCS ⊢
  generalize line.length = n at *
  clear h hL hn hq line
  have HW0 := hide ((Below.refl w.heap.size w).alloc (Nat.le_refl _) (.cells #[.int .i64 r, .bool bw, .slice a0 n c0] 24))
  have HB0 := hide (new_block w (.cells #[.int .i64 r, .bool bw, .slice a0 n c0] 24))
  go_enter Try.func31, Try.ntmps31
  go_upto_region 1 with fail
  obtain ⟨W0, e0⟩ : ∃ W, w.alloc (.cells #[.int .i64 r, .bool bw, .slice a0 n c0] 24) = W := ⟨_, rfl⟩
  rw [e0] at HW0 HB0 ⊢
  clear e0
  have HSS : Hid (∀ W, Below W0.heap.size W0 W → W.cell? ⟨w.heap.size, 2, none⟩ = some (.slice a0 n c0) ∧ Below W0.heap.size W0 W) := fun W hW => by
    obtain ⟨⟨-, -, k2⟩, -, -⟩ := block3 (keep_below (unhide HB0) hW)
    exact ⟨k2, hW⟩
  obtain ⟨k2, -⟩ := unhide HSS _ (Below.refl _ _)
  go_wp2_with fail
  go_region_held3 (fun W => W.cell? ⟨w.heap.size, 2, none⟩ = some (.slice a0 n c0) ∧ Below W0.heap.size W0 W)
    (first | with_reducible exact unhide HSS _ (Below.refl _ _).drew | with_reducible exact unhide HSS _ (unhide HX))
    (first
     | (go_at_call 34; refine (isOf_any _ _).mono ?_; rintro e w1 ⟨rfl, hg1, hb1⟩; have HX : Hid (Below W0.heap.size W0 w1) := Below.next (by go_split_ands; assumption) hb1 (Nat.le_refl _); have HG := hide hg1; clear hg1 hb1)
     | (go_at_call 37; refine (unhide HCS _ _ (Below.next (unhide HW0) (unhide HX) (Nat.le_refl _)) (unhide HG)).mono ?_; rintro e w1 ⟨rfl, hb1⟩; have HX2 := hide (Below.next (unhide HX) hb1 (Nat.le_refl _)); clear HX; have HX := HX2; clear HX2 hb1))
  go_wp2_with fail
  go_ret
  exact ⟨rfl, Below.next (unhide HW0) (unhide HX) (Nat.le_refl _)⟩

set_option maxRecDepth 100000 in
theorem refF_any (w : World) (x y : Int) :
    Calls Try.prog 14 #[.int .i64 x, .int .i64 y] w fun e w' => e = .returned (.agg #[.int .i64 x, .int .i64 y]) ∧ Below w.heap.size w w' := by
  have HK := hide (new_block w (.cells #[.int .i64 0, .int .i64 0] 28)); have HX := hide ((Below.refl w.heap.size w).alloc (Nat.le_refl _) (.cells #[.int .i64 0, .int .i64 0] 28))
  go_enter Try.func14, Try.ntmps14
  go_upto_region 1 with fail
  obtain ⟨W0, e0⟩ : ∃ W, w.alloc (.cells #[.int .i64 0, .int .i64 0] 28) = W := ⟨_, rfl⟩
  rw [e0] at HK HX ⊢
  clear e0
  obtain ⟨p0, p1, f0, f1, pl⟩ := block2 (unhide HK)
  go_wp2_with fail
  exact bodyPost_ret (v := .agg #[.int .i64 x, .int .i64 y]) (by simp [results, Try.results14, go_sem, p0, p1]) rfl ⟨rfl, below_set2 (unhide HX) (Nat.le_refl _) _ _⟩

set_option maxRecDepth 100000 in
set_option maxHeartbeats 1000000 in
theorem sameLock_any (w : World) (v v' : Value) (P : Lk) (h : IsLock w v P) (h' : IsLock w v' P) (hn : P.line.length ≤ maxLen) :
    Calls Try.prog 13 #[v, v'] w fun e w' => e = .returned (.bool true) ∧ Below w.heap.size w w' := by
  obtain ⟨r, bw, line⟩ := P
  obtain ⟨a0, c0, rfl, hL⟩ := h.form
  obtain ⟨a1, c1, rfl, hL'⟩ := h'.form
  simp only at hL hL' hn ⊢
  have HS : Hid (∀ W, Below w.heap.size w W → Calls Try.prog 32 #[.slice a0 line.length c0, .slice a1 line.length c1] W fun e w' => e = .returned (.bool true) ∧ Below W.heap.size W w') := fun W hW => posts_same W _ _ line (hL.below hW) (hL'.below hW) hn
  generalize line.length = n at *
  clear h h' hL hL' line
  have x1 : (r == r) = true := by simp
  have x2 : (bw == bw) = true := by simp
  obtain ⟨W0, e0, hB, k0, k1⟩ := two_new w (.cells #[.int .i64 r, .bool bw, .slice a0 n c0] 24) (.cells #[.int .i64 r, .bool bw, .slice a1 n c1] 24)
  have HX := hide hB; have HP := hide k0; have HQ := hide k1; have HE := hide e0
  clear hB k0 k1 e0
  go_enter Try.func13, Try.ntmps13
  go_upto_region 1 with fail
  rw [unhide HE]
  clear HE
  obtain ⟨⟨p0, p1, p2⟩, -, pl⟩ := block3 (unhide HP)
  obtain ⟨⟨q0, q1, q2⟩, -, ql⟩ := block3 (unhide HQ)
  go_wp2_with (go_at_call 32; refine (unhide HS _ (unhide HX)).mono ?_; rintro e w1 ⟨rfl, hb1⟩; have HX1 := hide (Below.next (unhide HX) hb1 (Nat.le_refl _)); clear hb1)
  go_ret
  exact ⟨rfl, unhide HX1⟩

set_option maxRecDepth 100000 in
theorem noLock_zero (w : World) :
    Calls Try.prog 16 #[.agg #[.int .i64 0, .bool false, .slice none 0 0]] w fun e w' => e = .returned (.bool true) ∧ Below w.heap.size w w' := by
  have HS : Hid (∀ W, Calls Try.prog 13 #[.agg #[.int .i64 0, .bool false, .slice none 0 0], .agg #[.int .i64 0, .bool false, .slice none 0 0]] W fun e w' => e = .returned (.bool true) ∧ Below W.heap.size W w') := fun W => sameLock_any W _ _ zeroL (zero_lock W) (zero_lock W) (by decide)
  go_enter Try.func16, Try.ntmps16
  go_wp2_with (go_at_call 13; refine (unhide HS _).mono ?_; rintro e w1 ⟨rfl, hb1⟩; have HX1 := hide (Below.next ((Below.refl w.heap.size w).alloc (Nat.le_refl _) _) hb1 (Nat.le_refl _)); clear hb1)
  go_ret
  exact ⟨rfl, unhide HX1⟩
end Go.Proofs.Ytdpcbmekplcllaa
