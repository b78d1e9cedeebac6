/-
  lock.admitted and taskmillref.Admitted.
-/
import Derived.Test.YtdpcbmekplcllaaF
namespace Go.Proofs.Ytdpcbmekplcllaa
open Go.RowKit

def lenV : Value → Nat
  | .slice _ n _ => n
  | _ => 0
theorem lets_cons {r : Int} {wr : Bool} {l : List Po} (h : lets r wr l = true) : ∃ t c u l2, l = (t, c, u) :: l2 ∧ wr = false ∧ (c = true → r = 0) := by
  cases l with
  | nil => cases h
  | cons x l2 =>
    obtain ⟨t, c, u⟩ := x
    refine ⟨t, c, u, l2, rfl, ?_, fun hc => ?_⟩
    · cases wr with
      | false => rfl
      | true => simp [lets] at h
    · subst hc
      simp [lets] at h
      exact h.2

set_option maxRecDepth 100000 in
set_option maxHeartbeats 2000000 in
theorem admitted_any (w : World) (o : Option Nat) (v : Value) (P : Lk) (h : AtLock o w v P) (hr0 : -2000000000 ≤ P.readers) (hr1 : P.readers ≤ 2000000000) (hn : P.line.length ≤ 100000) :
    Calls Try.prog 30 #[v] w fun e w' => ∃ v1 v2, e = .returned (.tuple #[v1, v2]) ∧ AtLock o w' v1 (admR P.readers P.writer P.line).1 ∧ Own KI w.heap.size w' v2 (admR P.readers P.writer P.line).2 ∧ Below w.heap.size w w' := by
  obtain ⟨r, bw, line⟩ := P
  obtain ⟨a0, c0, rfl, hL⟩ := h.form
  simp only at hL hr0 hr1 hn ⊢
  clear h
  have HL := hide hL
  obtain ⟨R, eR⟩ : ∃ R, admR r bw line = R := ⟨_, rfl⟩
  rw [eR]
  have HR : Hid (R = ((admR r bw line).1, [] ++ (admR r bw line).2)) := hide (by rw [← eR]; simp)
  clear hL eR
  obtain ⟨W0, e0, hB, k0, k1⟩ := two_new w (.cells #[.int .i64 r, .bool bw, .slice a0 line.length c0] 24) (.cells #[.int .i64 0, .bool false, .slice none 0 0] 24)
  have HB := hide hB; have HK0 := hide k0; have HK1 := hide k1; have HE := hide e0
  clear hB k0 k1 e0
  obtain ⟨N, eN⟩ : ∃ N, line.length = N := ⟨_, rfl⟩
  have HN := hide eN
  rw [eN] at hn
  clear eN
  go_enter Try.func30, Try.ntmps30
  go_upto_region 1 with fail
  rw [unhide HE]
  clear HE
  go_wp2_with fail
  go_loopw [4] (fun x W => ∃ (r1 : Int) (b1 : Bool) (l1 : List Po) (s1 : Option Addr) (c1 : Nat) (ts : List Int) (s2 : Option Addr) (c2 : Nat), x = .slice s2 ts.length c2 ∧ Hid (R = ((admR r1 b1 l1).1, ts ++ (admR r1 b1 l1).2)) ∧ Hid (ts.length + l1.length = N) ∧ -2000000000 ≤ r1 ∧ r1 ≤ 2000000000 + (ts.length : Int) ∧ Hid (W.heap[w.heap.size]? = some (.cells #[.int .i64 r1, .bool b1, .slice s1 l1.length c1] 24)) ∧ Hid (W.heap[w.heap.size + 1]? = some (.cells #[.int .i64 0, .bool false, .slice none 0 0] 24)) ∧ Hid (At KP o w (.slice s1 l1.length c1) l1) ∧ Hid (Own KI w.heap.size W (.slice s2 ts.length c2) ts) ∧ Hid (Below w.heap.size w W)) (fun x _ => N - lenV x)
  case atStart => exact ⟨r, bw, line, a0, c0, [], none, 0, rfl, HR, (by have := unhide HN; show ([] : List Int).length + line.length = N; simpa using this), hr0, by simpa using hr1, HK0, HK1, HL, own_nil _ _, HB⟩
  case round =>
    obtain ⟨r1, b1, l1, s1, c1, ts, s2, c2, rfl, HR1, HM, q0, q1, HP, HQ, HW, HO, HX⟩ := hrel
    clear HR HB HK0 HK1 HL HN
    have HA : Hid (∀ W, Below w.heap.size w W → Calls Try.prog 35 #[.agg #[.int .i64 r1, .bool b1, .slice s1 l1.length c1]] W fun e w' => e = .returned (.bool (lets r1 b1 l1)) ∧ Below W.heap.size W w') := fun W hW => admits_any W _ ⟨r1, b1, l1⟩ ⟨_, rfl, (unhide HW).1.below hW⟩
    obtain ⟨m, em⟩ : ∃ m, ts.length = m := ⟨_, rfl⟩
    rw [em] at HO HM q1 ⊢
    have hm : m ≤ N := by have := unhide HM; omega
    cases hlet : lets r1 b1 l1 with
    | false =>
      have ER := unhide HR1
      rw [admR_stay hlet, List.append_nil] at ER
      have HER := hide ER
      rw [hlet] at HA
      clear ER HR1 hlet
      obtain ⟨n, en⟩ : ∃ n, l1.length = n := ⟨_, rfl⟩
      rw [en] at HP HW HA
      have HEN := hide en
      clear en
      obtain ⟨⟨p0, p1, p2⟩, -, pl⟩ := block3 (unhide HP)
      go_wp2_with (go_at_call 35; refine (unhide HA _ (unhide HX)).mono ?_; rintro e w1 ⟨rfl, hb1⟩; have HX_1 := hide (Below.next (unhide HX) hb1 (by first | exact Nat.le_refl _ | (have := unhide HBA; omega))); have Kp_1 := hide (keep_below (unhide HP) hb1); have Kq_1 := hide (keep_below (unhide HQ) hb1); have Ot_1 := hide ((unhide HO).below hb1); clear HX HP HQ HO; clear p0 p1 p2 pl hb1; obtain ⟨⟨p0, p1, p2⟩, -, pl⟩ := block3 (unhide Kp_1); obtain ⟨⟨q0, q1, q2⟩, ⟨f0, f1, f2⟩, ql⟩ := block3 (unhide Kq_1))
      obtain ⟨Wf, ef⟩ : ∃ W, putL w1 (w.heap.size + 1) (.int .i64 r1) (.bool b1) (.slice s1 n c1) = W := ⟨_, rfl⟩
      have HF1 := hide (putL_new (y0 := .int .i64 r1) (y1 := .bool b1) (y2 := .slice s1 n c1) (unhide Kq_1)); have HF2 := hide (putL_own (y0 := .int .i64 r1) (y1 := .bool b1) (y2 := .slice s1 n c1) (unhide Ot_1) (unhide Kq_1) (by decide)); have HF3 := hide (putL_below (y0 := .int .i64 r1) (y1 := .bool b1) (y2 := .slice s1 n c1) (unhide HX_1) (Nat.le_succ _))
      rw [ef] at HF1 HF2 HF3
      have ef2 : ((w1.setCell ⟨w.heap.size + 1, 0, none⟩ (.int .i64 r1)).setCell ⟨w.heap.size + 1, 1, none⟩ (.bool b1)).setCell ⟨w.heap.size + 1, 2, none⟩ (.slice s1 n c1) = Wf := ef
      rw [ef2]
      clear ef ef2 p0 p1 p2 pl q0 q1 q2 f0 f1 f2 ql
      obtain ⟨⟨q0, q1, q2⟩, -, -⟩ := block3 (unhide HF1)
      refine bodyPost_ret (v := .tuple #[.agg #[.int .i64 r1, .bool b1, .slice s1 n c1], .slice s2 m c2]) (by simp [results, Try.results30, go_sem, q0, q1, q2]) rfl ⟨_, _, rfl, ?_, ?_, unhide HF3⟩
      · rw [unhide HER]
        exact ⟨_, rfl, (unhide HW).1.below (unhide HF3), (unhide HW).2⟩
      · rw [unhide HER]
        exact unhide HF2
    | true =>
      obtain ⟨t, c, u, l2, rfl, rfl, hc⟩ := lets_cons hlet
      have ER := unhide HR1
      rw [admR_go hlet] at ER
      have HER : Hid (R = ((admR (if c = true then r1 else r1 + 1) (if c = true then true else false) l2).1, (ts ++ [t]) ++ (admR (if c = true then r1 else r1 + 1) (if c = true then true else false) l2).2)) := hide (by rw [ER]; simp)
      rw [hlet] at HA
      obtain ⟨b, off, rfl, hbl, hli⟩ := (unhide HW).1.opens kp rfl (by simp)
      have HPF := hide (post_first hli (by simp) rfl)
      have HFT := hide (unhide HW).1.fits
      obtain ⟨n, en⟩ : ∃ n, l2.length = n := ⟨_, rfl⟩
      have en1 : ((t, c, u) :: l2).length = n + 1 := by rw [← en]; rfl
      rw [en1] at HP HW HA HFT HM
      have HEN := hide en
      clear ER HR1 hlet hli en en1
      obtain ⟨A, hA⟩ : ∃ A, A = (if c1 = 1 then some ⟨b, off, none⟩ else some ⟨b, off + 3, none⟩ : Option Addr) := ⟨_, rfl⟩
      have HNW : Hid (At KP o w (.slice A n (c1 - 1)) l2) := ⟨IsL.drop_if kp (unhide HW).1 (p := 1) (by omega) (by rw [hA]; rfl), fun k hk => (unhide HW).2 k (by
        rw [hA] at hk
        split at hk <;> · simp [Value.ownBlock] at hk ⊢; exact hk)⟩
      have HA2 := hide hA
      clear hA
      have i1 : (0 : Int) < ((n + 1 : Nat) : Int) := by omega
      have i2 : (1 : Int) ≤ ((n + 1 : Nat) : Int) := by omega
      have i3 : ((n + 1 : Nat) : Int) ≤ (c1 : Int) := by have := unhide HFT; omega
      obtain ⟨⟨p0, p1, p2⟩, ⟨pf0, pf1, pf2⟩, pl⟩ := block3 (unhide HP)
      go_upto_region 3 with (go_at_call 35; refine (unhide HA _ (unhide HX)).mono ?_; rintro e w1 ⟨rfl, hb1⟩; have HX_1 := hide (Below.next (unhide HX) hb1 (by first | exact Nat.le_refl _ | (have := unhide HBA; omega))); have Kp_1 := hide (keep_below (unhide HP) hb1); have Kq_1 := hide (keep_below (unhide HQ) hb1); have Ot_1 := hide ((unhide HO).below hb1); clear HX HP HQ HO; clear p0 p1 p2 pf0 pf1 pf2 pl hb1)
      obtain ⟨⟨p0, p1, p2⟩, ⟨pf0, pf1, pf2⟩, pl⟩ := block3 (unhide Kp_1)
      have k0 : w1.cell? ⟨b, off, none⟩ = some (.int .i64 t) := ((unhide HX_1).cell (p := ⟨b, off, none⟩) hbl).trans (unhide HPF).1
      have k1 : w1.cell? ⟨b, off + 1, none⟩ = some (.bool c) := ((unhide HX_1).cell (p := ⟨b, off + 1, none⟩) hbl).trans (unhide HPF).2.1
      have k2 : w1.cell? ⟨b, off + 2, none⟩ = some (.int .i64 u) := ((unhide HX_1).cell (p := ⟨b, off + 2, none⟩) hbl).trans (unhide HPF).2.2
      go_upto_region 4 with fail
      clear p0 p1 p2 pf0 pf1 pf2 pl k0 k1 k2
      have HX_2 := hide ((unhide HX_1).alloc (Nat.le_trans (show w.heap.size ≤ w.heap.size from Nat.le_refl _) (unhide HX_1).size) (.cells #[.int .i64 t, .bool c, .int .i64 u] 41))
      have Kp_2 := hide (keep_alloc (unhide Kp_1) (.cells #[.int .i64 t, .bool c, .int .i64 u] 41))
      have Kq_2 := hide (keep_alloc (unhide Kq_1) (.cells #[.int .i64 t, .bool c, .int .i64 u] 41))
      have Ot_2 := hide ((unhide Ot_1).below ((Below.refl _ _).alloc (Nat.le_refl _) (.cells #[.int .i64 t, .bool c, .int .i64 u] 41)))
      have Kz_2 := hide (new_block w1 (.cells #[.int .i64 t, .bool c, .int .i64 u] 41))
      have hlp_z : w.heap.size < w1.heap.size := size_of (unhide Kp_1)
      have hlq_z : w.heap.size + 1 < w1.heap.size := size_of (unhide Kq_1)
      obtain ⟨Z, eZ⟩ : ∃ X, w1.heap.size = X := ⟨_, rfl⟩
      obtain ⟨W2, eW2⟩ : ∃ X, w1.alloc (.cells #[.int .i64 t, .bool c, .int .i64 u] 41) = X := ⟨_, rfl⟩
      rw [eZ, eW2] at Kz_2; rw [eW2] at HX_2 Kp_2 Kq_2 Ot_2; rw [eZ] at hlp_z hlq_z; rw [eZ, eW2]
      clear eZ eW2 HX_1 Kp_1 Kq_1 Ot_1
      obtain ⟨⟨p0, p1, p2⟩, ⟨pf0, pf1, pf2⟩, pl⟩ := block3 (unhide Kp_2)
      go_upto_region 5 with fail
      clear p0 p1 p2 pf0 pf1 pf2 pl
      have hA := unhide HA2
      rw [← hA]
      clear hA
      obtain ⟨c4, ec4⟩ : ∃ x, c1 - 1 = x := ⟨_, rfl⟩
      rw [ec4] at HNW ⊢
      clear ec4 i1 i2 i3
      have HX_3 := hide (below_set (i := 2) (unhide HX_2) (show w.heap.size ≤ w.heap.size by first | omega | (have := unhide HBA; omega)) (.slice A n c4))
      have Kp_3 := hide (set_block3 (i := 2) (y := .slice A n c4) (unhide Kp_2))
      have Kq_3 := hide (keep_set (g := w.heap.size) (o := 2) (v := .slice A n c4) (unhide Kq_2) (by omega))
      have Kz_3 := hide (keep_set (g := w.heap.size) (o := 2) (v := .slice A n c4) (unhide Kz_2) (by omega))
      have Ot_3 := hide ((unhide Ot_2).keep (fun k hk => Below.heap_setCell W2 ⟨w.heap.size, 2, none⟩ (.slice A n c4) k (by have := Own.ne (unhide Ot_2) (unhide Kp_2) (by decide) k hk; simpa using this)))
      obtain ⟨W3, eW3⟩ : ∃ X, W2.setCell ⟨w.heap.size, 2, none⟩ (.slice A n c4) = X := ⟨_, rfl⟩
      rw [eW3] at HX_3 Kp_3 Kq_3 Kz_3 Ot_3 ⊢
      clear eW3 HX_2 Kp_2 Kq_2 Kz_2 Ot_2
      simp only [List.setIfInBounds_toArray, List.set_cons_zero, List.set_cons_succ] at Kp_3
      have hsz3 : w.heap.size + 1 < Z := by omega
      obtain ⟨⟨p0, p1, p2⟩, ⟨pf0, pf1, pf2⟩, pl⟩ := block3 (unhide Kp_3)
      obtain ⟨⟨z0, z1, z2⟩, ⟨zf0, zf1, zf2⟩, zl⟩ := block3 (unhide Kz_3)
      cases c with
      | true =>
        have hr := hc rfl
        clear hc
        simp only [if_true] at HER
        go_upto_region 8 with fail
        clear p0 p1 p2 pf0 pf1 pf2 pl z0 z1 z2 zf0 zf1 zf2 zl
        have HX_u4 := hide (below_set (i := 1) (unhide HX_3) (show w.heap.size ≤ w.heap.size by first | omega | (have := unhide HBA; omega)) (.bool true))
        have Kp_u4 := hide (set_block3 (i := 1) (y := .bool true) (unhide Kp_3))
        have Kq_u4 := hide (keep_set (g := w.heap.size) (o := 1) (v := .bool true) (unhide Kq_3) (by omega))
        have Kz_u4 := hide (keep_set (g := w.heap.size) (o := 1) (v := .bool true) (unhide Kz_3) (by omega))
        have Ot_u4 := hide ((unhide Ot_3).keep (fun k hk => Below.heap_setCell W3 ⟨w.heap.size, 1, none⟩ (.bool true) k (by have := Own.ne (unhide Ot_3) (unhide Kp_3) (by decide) k hk; simpa using this)))
        obtain ⟨W4, eW4⟩ : ∃ X, W3.setCell ⟨w.heap.size, 1, none⟩ (.bool true) = X := ⟨_, rfl⟩
        rw [eW4] at HX_u4 Kp_u4 Kq_u4 Kz_u4 Ot_u4 ⊢
        clear eW4 HX_3 Kp_3 Kq_3 Kz_3 Ot_3
        simp only [List.setIfInBounds_toArray, List.set_cons_zero, List.set_cons_succ] at Kp_u4
        obtain ⟨⟨z0, z1, z2⟩, ⟨zf0, zf1, zf2⟩, zl⟩ := block3 (unhide Kz_u4)
        have HI1 := hide (isl_one ki W4 t)
        have HO5 := hide ((unhide Ot_u4).below ((Below.refl _ _).alloc (Nat.le_refl _) (.cells #[.int .i64 t] 3)))
        go_wp2_with (at_builtin; refine wpList_append ki rfl (.tmp 23) (.tmp 26) rfl w.heap.size _ ts rfl (unhide HO5) _ [t] rfl (unhide HI1) (m + 1) (by simp [em]) (by simp [KI]; omega) ((unhide HX_u4).alloc (unhide HX_u4).size (.cells #[.int .i64 t] 3)).size ?_; intro a6 c6 w6 ho6 hg6; have HO6 := hide ho6; have HX6 := hide (((unhide HX_u4).alloc (unhide HX_u4).size (.cells #[.int .i64 t] 3)).grown hg6 ((unhide HX_u4).alloc (unhide HX_u4).size (.cells #[.int .i64 t] 3)).size (fun k hk => (unhide HO5).lt k hk |>.1)); have HP6 := hide (keep_grown (keep_alloc (unhide Kp_u4) (.cells #[.int .i64 t] 3)) hg6 (fun j hj => Own.ne (unhide HO5) (keep_alloc (unhide Kp_u4) (.cells #[.int .i64 t] 3)) (by decide) j hj)); have HQ6 := hide (keep_grown (keep_alloc (unhide Kq_u4) (.cells #[.int .i64 t] 3)) hg6 (fun j hj => Own.ne (unhide HO5) (keep_alloc (unhide Kq_u4) (.cells #[.int .i64 t] 3)) (by decide) j hj)); clear ho6 hg6)
        go_roundw
        case rel =>
          have el : (ts ++ [t]).length = m + 1 := by simp [em]
          refine ⟨r1, true, l2, A, c4, ts ++ [t], a6, c6, by rw [el], HER, ?_, by omega, ?_, ?_, HQ6, ?_, ?_, HX6⟩
          · have := unhide HM
            have := unhide HEN
            show (ts ++ [t]).length + l2.length = N
            omega
          · rw [el]; omega
          · rw [unhide HEN]; exact HP6
          · rw [unhide HEN]; exact HNW
          · rw [el]; exact HO6
        case measure => (simp only [lenV]; have := unhide HM; omega)
      | false =>
        clear hc
        simp only [Bool.false_eq_true, if_false] at HER
        have hwr : IntKind.i64.wrap (r1 + 1) = r1 + 1 := wrapi (by omega) (by omega)
        go_upto_region 8 with fail
        clear p0 p1 p2 pf0 pf1 pf2 pl z0 z1 z2 zf0 zf1 zf2 zl
        try rw [hwr]
        have HX_v4 := hide (below_set (i := 0) (unhide HX_3) (show w.heap.size ≤ w.heap.size by first | omega | (have := unhide HBA; omega)) (.int .i64 (r1 + 1)))
        have Kp_v4 := hide (set_block3 (i := 0) (y := .int .i64 (r1 + 1)) (unhide Kp_3))
        have Kq_v4 := hide (keep_set (g := w.heap.size) (o := 0) (v := .int .i64 (r1 + 1)) (unhide Kq_3) (by omega))
        have Kz_v4 := hide (keep_set (g := w.heap.size) (o := 0) (v := .int .i64 (r1 + 1)) (unhide Kz_3) (by omega))
        have Ot_v4 := hide ((unhide Ot_3).keep (fun k hk => Below.heap_setCell W3 ⟨w.heap.size, 0, none⟩ (.int .i64 (r1 + 1)) k (by have := Own.ne (unhide Ot_3) (unhide Kp_3) (by decide) k hk; simpa using this)))
        obtain ⟨W4, eW4⟩ : ∃ X, W3.setCell ⟨w.heap.size, 0, none⟩ (.int .i64 (r1 + 1)) = X := ⟨_, rfl⟩
        rw [eW4] at HX_v4 Kp_v4 Kq_v4 Kz_v4 Ot_v4 ⊢
        clear eW4 HX_3 Kp_3 Kq_3 Kz_3 Ot_3
        simp only [List.setIfInBounds_toArray, List.set_cons_zero] at Kp_v4
        obtain ⟨⟨z0, z1, z2⟩, ⟨zf0, zf1, zf2⟩, zl⟩ := block3 (unhide Kz_v4)
        have HI1 := hide (isl_one ki W4 t)
        have HO5 := hide ((unhide Ot_v4).below ((Below.refl _ _).alloc (Nat.le_refl _) (.cells #[.int .i64 t] 3)))
        go_wp2_with (at_builtin; refine wpList_append ki rfl (.tmp 23) (.tmp 26) rfl w.heap.size _ ts rfl (unhide HO5) _ [t] rfl (unhide HI1) (m + 1) (by simp [em]) (by simp [KI]; omega) ((unhide HX_v4).alloc (unhide HX_v4).size (.cells #[.int .i64 t] 3)).size ?_; intro a6 c6 w6 ho6 hg6; have HO6 := hide ho6; have HX6 := hide (((unhide HX_v4).alloc (unhide HX_v4).size (.cells #[.int .i64 t] 3)).grown hg6 ((unhide HX_v4).alloc (unhide HX_v4).size (.cells #[.int .i64 t] 3)).size (fun k hk => (unhide HO5).lt k hk |>.1)); have HP6 := hide (keep_grown (keep_alloc (unhide Kp_v4) (.cells #[.int .i64 t] 3)) hg6 (fun j hj => Own.ne (unhide HO5) (keep_alloc (unhide Kp_v4) (.cells #[.int .i64 t] 3)) (by decide) j hj)); have HQ6 := hide (keep_grown (keep_alloc (unhide Kq_v4) (.cells #[.int .i64 t] 3)) hg6 (fun j hj => Own.ne (unhide HO5) (keep_alloc (unhide Kq_v4) (.cells #[.int .i64 t] 3)) (by decide) j hj)); clear ho6 hg6)
        go_roundw
        case rel =>
          have el : (ts ++ [t]).length = m + 1 := by simp [em]
          refine ⟨r1 + 1, false, l2, A, c4, ts ++ [t], a6, c6, by rw [el], HER, ?_, by omega, ?_, ?_, HQ6, ?_, ?_, HX6⟩
          · have := unhide HM
            have := unhide HEN
            show (ts ++ [t]).length + l2.length = N
            omega
          · rw [el]; omega
          · rw [unhide HEN]; exact HP6
          · rw [unhide HEN]; exact HNW
          · rw [el]; exact HO6
        case measure => (simp only [lenV]; have := unhide HM; omega)
end Go.Proofs.Ytdpcbmekplcllaa
