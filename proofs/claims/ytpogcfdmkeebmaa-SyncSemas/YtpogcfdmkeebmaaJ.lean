/-
  sync.gives, sync.given.
-/
import Derived.Test.YtpogcfdmkeebmaaF
namespace Go.Proofs.Ytpogcfdmkeebmaa
open Go.RowKit

def lenV : Value → Nat
  | .slice _ n _ => n
  | _ => 0
/-- Does somebody wait first who wants no more than is free? -/
def lets (f : Int) : List Po → Bool
  | [] => false
  | x :: _ => decide (x.2.2 ≤ f)
/-- A semaphore when all who can be are given theirs; who. -/
def giveR (f : Int) : List Po → (Int × List Po) × List Int
  | [] => ((f, []), [])
  | x :: l => if lets f (x :: l) = true then ((giveR (f - x.2.2) l).1, x.1 :: (giveR (f - x.2.2) l).2) else ((f, x :: l), [])
theorem giveR_stay {f : Int} {l : List Po} (h : lets f l = false) : giveR f l = ((f, l), []) := by
  cases l with
  | nil => rfl
  | cons x l => unfold giveR; rw [if_neg (by rw [h]; simp)]
theorem giveR_go {f : Int} {t : Int} {c : Bool} {u : Int} {l : List Po} (h : lets f ((t, c, u) :: l) = true) : giveR f ((t, c, u) :: l) = ((giveR (f - u) l).1, t :: (giveR (f - u) l).2) := by
  rw [giveR, if_pos h]
theorem giveR_len (f : Int) (l : List Po) : (giveR f l).1.2.length ≤ l.length := by
  induction l generalizing f with
  | nil => exact Nat.le_refl _
  | cons x l ih =>
    unfold giveR
    split
    · exact Nat.le_trans (ih _) (Nat.le_succ _)
    · exact Nat.le_refl _
theorem lets_cons {f : Int} {l : List Po} (h : lets f l = true) : ∃ t c u l2, l = (t, c, u) :: l2 ∧ u ≤ f := by
  cases l with
  | nil => cases h
  | cons x l2 =>
    obtain ⟨t, c, u⟩ := x
    exact ⟨t, c, u, l2, rfl, by simpa [lets] using h⟩

set_option maxRecDepth 100000 in
set_option maxHeartbeats 400000 in
theorem gives_any (w : World) (v : Value) (f : Int) (line : List Po) (h : IsG KP w v f line) :
    Calls Try.prog 53 #[v] w fun e w' => e = .returned (.bool (lets f line)) ∧ Below w.heap.size w w' := by
  obtain ⟨a, c, rfl, hL⟩ := h.form
  clear h
  cases line with
  | nil =>
    simp only [List.length_nil]
    go_enter Try.func53, Try.ntmps53
    go_wp2
    go_quiet (fail)
    go_wp2
    go_ret
    exact ⟨rfl, below_drewN ((Below.refl _ _).alloc (Nat.le_refl _) _) _⟩
  | cons x l =>
    obtain ⟨b, off, rfl, hb, hl⟩ := hL.opens kp rfl (by simp)
    obtain ⟨t, q, u⟩ := x
    have e : lets f ((t, q, u) :: l) = decide (u ≤ f) := rfl
    rw [e]
    obtain ⟨n, en⟩ : ∃ n, ((t, q, u) :: l).length = n := ⟨_, rfl⟩
    have i1 : 0 < n := by rw [← en]; simp
    have i2 : (0 : Int) < (n : Int) := by omega
    have HPF := hide (post_first hl (by simp) rfl)
    rw [en]
    have HB := hide ((Below.refl w.heap.size w).alloc (Nat.le_refl _) (.cells #[.int .i64 f, .slice (some ⟨b, off, none⟩) n c] 51))
    have HK := hide (new_block w (.cells #[.int .i64 f, .slice (some ⟨b, off, none⟩) n c] 51))
    obtain ⟨z, hz⟩ : ∃ z, decide (u ≤ f) = z := ⟨_, rfl⟩
    rw [hz]
    clear hL hl e en
    go_enter Try.func53, Try.ntmps53
    go_upto_region 1 with fail
    obtain ⟨W0, e0⟩ : ∃ W, w.alloc (.cells #[.int .i64 f, .slice (some ⟨b, off, none⟩) n c] 51) = W := ⟨_, rfl⟩
    rw [e0] at HB HK ⊢
    clear e0
    obtain ⟨p0, p1, -, -, pl⟩ := block2 (unhide HK)
    have k2 : W0.cell? ⟨b, off + 2, none⟩ = some (.int .i64 u) := ((unhide HB).cell (p := ⟨b, off + 2, none⟩) hb).trans (unhide HPF).2.2
    cases z
    all_goals
      go_wp2
      go_quiet (fail)
      go_wp2
      go_ret
      exact ⟨rfl, below_drewN (unhide HB) _⟩

set_option maxRecDepth 100000 in
set_option maxHeartbeats 2000000 in
theorem given_any (w : World) (o : Option Nat) (v : Value) (f : Int) (line : List Po) (h : AtG KP o w v f line) (hf0 : 0 ≤ f) (hf1 : f ≤ 4000000000) (hu : ∀ x ∈ line, 0 ≤ x.2.2) (hn : line.length ≤ 100000) :
    Calls Try.prog 43 #[v] w fun e w' => ∃ v1 v2, e = .returned (.tuple #[v1, v2]) ∧ AtG KP o w' v1 (giveR f line).1.1 (giveR f line).1.2 ∧ Own KI w.heap.size w' v2 (giveR f line).2 ∧ Below w.heap.size w w' := by
  obtain ⟨a0, c0, rfl, hL⟩ := h.form
  clear h
  have HL := hide hL
  obtain ⟨R, eR⟩ : ∃ R, giveR f line = R := ⟨_, rfl⟩
  rw [eR]
  have HR : Hid (R = ((giveR f line).1, [] ++ (giveR f line).2)) := hide (by rw [← eR]; simp)
  have HU := hide hu
  clear hL eR hu
  obtain ⟨W0, e0, hB, k0, k1⟩ := two_new w (.cells #[.int .i64 f, .slice a0 line.length c0] 51) (.cells #[.int .i64 0, .slice none 0 0] 51)
  have HB := hide hB; have HK0 := hide k0; have HK1 := hide k1; have HE := hide e0
  clear hB k0 k1 e0
  obtain ⟨N, eN⟩ : ∃ N, line.length = N := ⟨_, rfl⟩
  have HN := hide eN
  rw [eN] at hn
  clear eN
  go_enter Try.func43, Try.ntmps43
  go_upto_region 1 with fail
  rw [unhide HE]
  clear HE
  go_wp2_with fail
  go_loopw [4] (fun x W => ∃ (f1 : Int) (l1 : List Po) (s1 : Option Addr) (c1 : Nat) (ts : List Int) (s2 : Option Addr) (c2 : Nat), x = .slice s2 ts.length c2 ∧ Hid (R = ((giveR f1 l1).1, ts ++ (giveR f1 l1).2)) ∧ Hid (ts.length + l1.length = N) ∧ 0 ≤ f1 ∧ f1 ≤ 4000000000 ∧ Hid (∀ x ∈ l1, 0 ≤ x.2.2) ∧ Hid (W.heap[w.heap.size]? = some (.cells #[.int .i64 f1, .slice s1 l1.length c1] 51)) ∧ Hid (W.heap[w.heap.size + 1]? = some (.cells #[.int .i64 0, .slice none 0 0] 51)) ∧ Hid (At KP o w (.slice s1 l1.length c1) l1) ∧ Hid (Own KI w.heap.size W (.slice s2 ts.length c2) ts) ∧ Hid (Below w.heap.size w W)) (fun x _ => N - lenV x)
  case atStart => exact ⟨f, line, a0, c0, [], none, 0, rfl, HR, (by have := unhide HN; show ([] : List Int).length + line.length = N; simpa using this), hf0, hf1, HU, HK0, HK1, HL, own_nil _ _, HB⟩
  case round =>
    obtain ⟨f1, l1, s1, c1, ts, s2, c2, rfl, HR1, HM, q0, q1, HU1, HP, HQ, HW, HO, HX⟩ := hrel
    clear HR HB HK0 HK1 HL HN HU
    obtain ⟨m, em⟩ : ∃ m, ts.length = m := ⟨_, rfl⟩
    rw [em] at HO HM ⊢
    have hm : m ≤ N := by have := unhide HM; omega
    have HA : Hid (∀ W, Below w.heap.size w W → Calls Try.prog 53 #[.agg #[.int .i64 f1, .slice s1 l1.length c1]] W fun e w' => e = .returned (.bool (lets f1 l1)) ∧ Below W.heap.size W w') := fun W hW => gives_any W _ f1 l1 ⟨_, rfl, (unhide HW).1.below hW⟩
    cases hlet : lets f1 l1 with
    | false =>
      have ER := unhide HR1
      rw [giveR_stay hlet, List.append_nil] at ER
      have HER := hide ER
      rw [hlet] at HA
      clear ER HR1 hlet
      obtain ⟨n, en⟩ : ∃ n, l1.length = n := ⟨_, rfl⟩
      rw [en] at HP HW HA
      have HEN := hide en
      clear en
      obtain ⟨p0, p1, pf0, pf1, pl⟩ := block2 (unhide HP)
      go_wp2_with (go_at_call 53; refine (unhide HA _ (unhide HX)).mono ?_; rintro e w1 ⟨rfl, hb1⟩; have HX_1 := hide (Below.next (unhide HX) hb1 (by first | exact Nat.le_refl _ | (have := unhide HBA; omega))); have Kp_1 := hide (keep_below (unhide HP) hb1); have Kq_1 := hide (keep_below (unhide HQ) hb1); have Ot_1 := hide ((unhide HO).below hb1); clear HX HP HQ HO; clear p0 p1 pf0 pf1 pl hb1; obtain ⟨p0, p1, pf0, pf1, pl⟩ := block2 (unhide Kp_1); obtain ⟨r0, r1, rf0, rf1, rl⟩ := block2 (unhide Kq_1))
      obtain ⟨Wf, ef⟩ : ∃ W, put2 w1 (w.heap.size + 1) (.int .i64 f1) (.slice s1 n c1) = W := ⟨_, rfl⟩
      have HF1 := hide (put2_new (y0 := .int .i64 f1) (y1 := .slice s1 n c1) (unhide Kq_1)); have HF2 := hide (put2_own (y0 := .int .i64 f1) (y1 := .slice s1 n c1) (unhide Ot_1) (unhide Kq_1) (by decide)); have HF3 := hide (put2_below (y0 := .int .i64 f1) (y1 := .slice s1 n c1) (unhide HX_1) (Nat.le_succ _))
      rw [ef] at HF1 HF2 HF3
      have ef2 : (w1.setCell ⟨w.heap.size + 1, 0, none⟩ (.int .i64 f1)).setCell ⟨w.heap.size + 1, 1, none⟩ (.slice s1 n c1) = Wf := ef
      rw [ef2]
      clear ef ef2 p0 p1 pf0 pf1 pl r0 r1 rf0 rf1 rl
      obtain ⟨r0, r1, -, -, -⟩ := block2 (unhide HF1)
      refine bodyPost_ret (v := .tuple #[.agg #[.int .i64 f1, .slice s1 n c1], .slice s2 m c2]) (by simp [results, Try.results43, go_sem, r0, r1]) rfl ⟨_, _, rfl, ?_, ?_, unhide HF3⟩
      · rw [unhide HER]
        exact ⟨_, rfl, (unhide HW).1.below (unhide HF3), (unhide HW).2⟩
      · rw [unhide HER]
        exact unhide HF2
    | true =>
      obtain ⟨t, c, u, l2, rfl, huf⟩ := lets_cons hlet
      have hu0 : 0 ≤ u := unhide HU1 _ List.mem_cons_self
      have HU2 : Hid (∀ x ∈ l2, 0 ≤ x.2.2) := fun x hx => unhide HU1 x (List.mem_cons_of_mem _ hx)
      have ER := unhide HR1
      rw [giveR_go hlet] at ER
      have HER : Hid (R = ((giveR (f1 - u) l2).1, (ts ++ [t]) ++ (giveR (f1 - u) l2).2)) := hide (by rw [ER]; simp)
      rw [hlet] at HA
      obtain ⟨b, off, rfl, hbl, hli⟩ := (unhide HW).1.opens kp rfl (by simp)
      have HPF := hide (post_first hli (by simp) rfl)
      have HFT := hide (unhide HW).1.fits
      obtain ⟨n, en⟩ : ∃ n, l2.length = n := ⟨_, rfl⟩
      have en1 : ((t, c, u) :: l2).length = n + 1 := by rw [← en]; rfl
      rw [en1] at HP HW HA HFT HM
      have HEN := hide en
      clear ER HR1 hlet hli en en1 HU1
      obtain ⟨A, hA⟩ : ∃ A, A = (if c1 = 1 then some ⟨b, off, none⟩ else some ⟨b, off + 3, none⟩ : Option Addr) := ⟨_, rfl⟩
      have HNW : Hid (At KP o w (.slice A n (c1 - 1)) l2) := ⟨IsL.drop_if kp (unhide HW).1 (p := 1) (by omega) (by rw [hA]; rfl), fun k hk => (unhide HW).2 k (by
        rw [hA] at hk
        split at hk <;> · simp [Value.ownBlock] at hk ⊢; exact hk)⟩
      have HA2 := hide hA
      clear hA
      have i1 : (0 : Int) < ((n + 1 : Nat) : Int) := by omega
      have i2 : (1 : Int) ≤ ((n + 1 : Nat) : Int) := by omega
      have i3 : ((n + 1 : Nat) : Int) ≤ (c1 : Int) := by have := unhide HFT; omega
      have hwu : IntKind.i64.wrap (f1 - u) = f1 - u := wrapi (by omega) (by omega)
      obtain ⟨p0, p1, pf0, pf1, pl⟩ := block2 (unhide HP)
      go_upto_region 3 with (go_at_call 53; refine (unhide HA _ (unhide HX)).mono ?_; rintro e w1 ⟨rfl, hb1⟩; have HX_1 := hide (Below.next (unhide HX) hb1 (by first | exact Nat.le_refl _ | (have := unhide HBA; omega))); have Kp_1 := hide (keep_below (unhide HP) hb1); have Kq_1 := hide (keep_below (unhide HQ) hb1); have Ot_1 := hide ((unhide HO).below hb1); clear HX HP HQ HO; clear p0 p1 pf0 pf1 pl hb1)
      obtain ⟨p0, p1, pf0, pf1, pl⟩ := block2 (unhide Kp_1)
      have k0 : w1.cell? ⟨b, off, none⟩ = some (.int .i64 t) := ((unhide HX_1).cell (p := ⟨b, off, none⟩) hbl).trans (unhide HPF).1
      have k1 : w1.cell? ⟨b, off + 1, none⟩ = some (.bool c) := ((unhide HX_1).cell (p := ⟨b, off + 1, none⟩) hbl).trans (unhide HPF).2.1
      have k2 : w1.cell? ⟨b, off + 2, none⟩ = some (.int .i64 u) := ((unhide HX_1).cell (p := ⟨b, off + 2, none⟩) hbl).trans (unhide HPF).2.2
      go_upto_region 4 with fail
      clear p0 p1 pf0 pf1 pl k0 k1 k2
      have HX_2 := hide ((unhide HX_1).alloc (Nat.le_trans (show w.heap.size ≤ w.heap.size from Nat.le_refl _) (unhide HX_1).size) (.cells #[.int .i64 t, .bool c, .int .i64 u] 63))
      have Kp_2 := hide (keep_alloc (unhide Kp_1) (.cells #[.int .i64 t, .bool c, .int .i64 u] 63))
      have Kq_2 := hide (keep_alloc (unhide Kq_1) (.cells #[.int .i64 t, .bool c, .int .i64 u] 63))
      have Ot_2 := hide ((unhide Ot_1).below ((Below.refl _ _).alloc (Nat.le_refl _) (.cells #[.int .i64 t, .bool c, .int .i64 u] 63)))
      have Kz_2 := hide (new_block w1 (.cells #[.int .i64 t, .bool c, .int .i64 u] 63))
      have hlp_z : w.heap.size < w1.heap.size := size_of (unhide Kp_1)
      have hlq_z : w.heap.size + 1 < w1.heap.size := size_of (unhide Kq_1)
      obtain ⟨Z, eZ⟩ : ∃ X, w1.heap.size = X := ⟨_, rfl⟩
      obtain ⟨W2, eW2⟩ : ∃ X, w1.alloc (.cells #[.int .i64 t, .bool c, .int .i64 u] 63) = X := ⟨_, rfl⟩
      rw [eZ, eW2] at Kz_2; rw [eW2] at HX_2 Kp_2 Kq_2 Ot_2; rw [eZ] at hlp_z hlq_z; rw [eZ, eW2]
      clear eZ eW2 HX_1 Kp_1 Kq_1 Ot_1
      obtain ⟨p0, p1, pf0, pf1, pl⟩ := block2 (unhide Kp_2)
      go_upto_region 5 with fail
      clear p0 p1 pf0 pf1 pl
      have hA := unhide HA2
      rw [← hA]
      clear hA
      obtain ⟨c4, ec4⟩ : ∃ x, c1 - 1 = x := ⟨_, rfl⟩
      rw [ec4] at HNW ⊢
      clear ec4 i1 i2 i3
      have HX_3 := hide (below_set (i := 1) (unhide HX_2) (show w.heap.size ≤ w.heap.size by first | omega | (have := unhide HBA; omega)) (.slice A n c4))
      have Kp_3 := hide (set2b (i := 1) (y := .slice A n c4) (unhide Kp_2))
      have Kq_3 := hide (keep_set (g := w.heap.size) (o := 1) (v := .slice A n c4) (unhide Kq_2) (by omega))
      have Kz_3 := hide (keep_set (g := w.heap.size) (o := 1) (v := .slice A n c4) (unhide Kz_2) (by omega))
      have Ot_3 := hide ((unhide Ot_2).keep (fun k hk => Below.heap_setCell W2 ⟨w.heap.size, 1, none⟩ (.slice A n c4) k (by have := Own.ne (unhide Ot_2) (unhide Kp_2) (by decide) k hk; simpa using this)))
      obtain ⟨W3, eW3⟩ : ∃ X, W2.setCell ⟨w.heap.size, 1, none⟩ (.slice A n c4) = X := ⟨_, rfl⟩
      rw [eW3] at HX_3 Kp_3 Kq_3 Kz_3 Ot_3 ⊢
      clear eW3 HX_2 Kp_2 Kq_2 Kz_2 Ot_2
      simp only [List.setIfInBounds_toArray, List.set_cons_zero, List.set_cons_succ] at Kp_3
      have hsz3 : w.heap.size + 1 < Z := by omega
      obtain ⟨p0, p1, pf0, pf1, pl⟩ := block2 (unhide Kp_3)
      obtain ⟨⟨z0, z1, z2⟩, ⟨zf0, zf1, zf2⟩, zl⟩ := block3 (unhide Kz_3)
      go_upto_region 6 with fail
      clear p0 p1 pf0 pf1 pl z0 z1 z2 zf0 zf1 zf2 zl
      try rw [hwu]
      have HX_4 := hide (below_set (i := 0) (unhide HX_3) (show w.heap.size ≤ w.heap.size by first | omega | (have := unhide HBA; omega)) (.int .i64 (f1 - u)))
      have Kp_4 := hide (set2b (i := 0) (y := .int .i64 (f1 - u)) (unhide Kp_3))
      have Kq_4 := hide (keep_set (g := w.heap.size) (o := 0) (v := .int .i64 (f1 - u)) (unhide Kq_3) (by omega))
      have Kz_4 := hide (keep_set (g := w.heap.size) (o := 0) (v := .int .i64 (f1 - u)) (unhide Kz_3) (by omega))
      have Ot_4 := hide ((unhide Ot_3).keep (fun k hk => Below.heap_setCell W3 ⟨w.heap.size, 0, none⟩ (.int .i64 (f1 - u)) k (by have := Own.ne (unhide Ot_3) (unhide Kp_3) (by decide) k hk; simpa using this)))
      obtain ⟨W4, eW4⟩ : ∃ X, W3.setCell ⟨w.heap.size, 0, none⟩ (.int .i64 (f1 - u)) = X := ⟨_, rfl⟩
      rw [eW4] at HX_4 Kp_4 Kq_4 Kz_4 Ot_4 ⊢
      clear eW4 HX_3 Kp_3 Kq_3 Kz_3 Ot_3
      simp only [List.setIfInBounds_toArray, List.set_cons_zero] at Kp_4
      obtain ⟨⟨z0, z1, z2⟩, ⟨zf0, zf1, zf2⟩, zl⟩ := block3 (unhide Kz_4)
      have HI1 := hide (isl_one ki W4 t)
      have HO5 := hide ((unhide Ot_4).below ((Below.refl _ _).alloc (Nat.le_refl _) (.cells #[.int .i64 t] 3)))
      go_wp2_with (at_builtin; refine wpList_append ki rfl (.tmp 22) (.tmp 25) rfl w.heap.size _ ts rfl (unhide HO5) _ [t] rfl (unhide HI1) (m + 1) (by simp [em]) (by simp [KI]; omega) ((unhide HX_4).alloc (unhide HX_4).size (.cells #[.int .i64 t] 3)).size ?_; intro a6 c6 w6 ho6 hg6; have HO6 := hide ho6; have HX6 := hide (((unhide HX_4).alloc (unhide HX_4).size (.cells #[.int .i64 t] 3)).grown hg6 ((unhide HX_4).alloc (unhide HX_4).size (.cells #[.int .i64 t] 3)).size (fun k hk => (unhide HO5).lt k hk |>.1)); have HP6 := hide (keep_grown (keep_alloc (unhide Kp_4) (.cells #[.int .i64 t] 3)) hg6 (fun j hj => Own.ne (unhide HO5) (keep_alloc (unhide Kp_4) (.cells #[.int .i64 t] 3)) (by decide) j hj)); have HQ6 := hide (keep_grown (keep_alloc (unhide Kq_4) (.cells #[.int .i64 t] 3)) hg6 (fun j hj => Own.ne (unhide HO5) (keep_alloc (unhide Kq_4) (.cells #[.int .i64 t] 3)) (by decide) j hj)); clear ho6 hg6)
      go_roundw
      case rel =>
        have el : (ts ++ [t]).length = m + 1 := by simp [em]
        refine ⟨f1 - u, l2, A, c4, ts ++ [t], a6, c6, by rw [el], HER, ?_, by omega, by omega, HU2, ?_, HQ6, ?_, ?_, HX6⟩
        · have := unhide HM
          have := unhide HEN
          show (ts ++ [t]).length + l2.length = N
          omega
        · rw [unhide HEN]; exact HP6
        · rw [unhide HEN]; exact HNW
        · rw [el]; exact HO6
      case measure => (simp only [lenV]; have := unhide HM; omega)
end Go.Proofs.Ytpogcfdmkeebmaa
