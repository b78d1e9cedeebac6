/-
  taskmilllaw.SyncSemas: sync.Release in one contract; what is wrong with the semaphore.
-/
import Derived.Test.YtpogcfdmkeebmaaLo
import Derived.Test.YtpogcfdmkeebmaaSf
import Derived.Test.YtpogcfdmkeebmaaGi
import Derived.Test.YtpogcfdmkeebmaaBe
import Derived.Test.YtpogcfdmkeebmaaSa
import Derived.Test.YtpogcfdmkeebmaaR
import Derived.Test.YtpogcfdmkeebmaaL
namespace Go.Proofs.Ytpogcfdmkeebmaa
open Go.RowKit

theorem giveR_most (f : Int) (l : List Po) : (giveR f l).2.length ≤ l.length := by
  induction l generalizing f with
  | nil => exact Nat.le_refl _
  | cons x l ih =>
    unfold giveR
    split
    · simpa using ih _
    · simp
theorem isl_one2 {α : Type} {K : Kind α} (hK : K.Ok) (w : World) (o : Obj) (x : α) : IsL K ((w.alloc o).alloc (.cells (K.f x).toArray K.e)) (.slice (some ⟨w.heap.size + 1, 0, none⟩) 1 1) [x] := by
  have := isl_one hK (w.alloc o) x
  rw [World.size_alloc] at this
  exact this
theorem new_block2 (w : World) (o0 o1 : Obj) : ((w.alloc o0).alloc o1).heap[w.heap.size + 1]? = some o1 := by
  have := new_block (w.alloc o0) o1
  rw [World.size_alloc] at this
  exact this
/-- What a Release answers, in letters. -/
theorem release_all (f : Int) (xs : List Po) (u : Int) (hg : (semaF f xs).1 = 0) (hl : xs.length ≤ 6000) : ∃ (BC : Int) (BL : List Po) (LL : List Int) (B0 B1 : Int), (∀ W v', IsG KP W v' f xs → Calls Try.prog 25 #[v', .int .i64 u] W fun e w' => ∃ a2 d2 a3 d3, e = .returned (.tuple #[.agg #[.int .i64 BC, .slice a2 BL.length d2], .slice a3 LL.length d3, .agg #[.int .i64 B0, .int .i64 B1]]) ∧ IsL KP w' (.slice a2 BL.length d2) BL ∧ IsL KI w' (.slice a3 LL.length d3) LL ∧ Below W.heap.size W w') ∧
    ((u < 0 ∧ BC = 0 ∧ BL = [] ∧ LL = [] ∧ B0 = 3 ∧ B1 = -1) ∨ (¬ u < 0 ∧ 1000000000 < u ∧ BC = 0 ∧ BL = [] ∧ LL = [] ∧ B0 = 3 ∧ B1 = -1) ∨ (¬ u < 0 ∧ ¬ 1000000000 < u ∧ 1000000000 < f + u ∧ BC = 0 ∧ BL = [] ∧ LL = [] ∧ B0 = 9 ∧ B1 = 0) ∨ (¬ u < 0 ∧ ¬ 1000000000 < u ∧ ¬ 1000000000 < f + u ∧ BC = (giveR (f + u) xs).1.1 ∧ BL = (giveR (f + u) xs).1.2 ∧ LL = (giveR (f + u) xs).2 ∧ B0 = 0 ∧ B1 = 0)) := by
  have bad : ∀ B0 B1 : Int, relF f xs u = (B0, B1) → B0 ≠ 0 → (∀ W v', IsG KP W v' f xs → Calls Try.prog 25 #[v', .int .i64 u] W fun e w' => ∃ a2 d2 a3 d3, e = .returned (.tuple #[.agg #[.int .i64 0, .slice a2 ([] : List Po).length d2], .slice a3 ([] : List Int).length d3, .agg #[.int .i64 B0, .int .i64 B1]]) ∧ IsL KP w' (.slice a2 ([] : List Po).length d2) [] ∧ IsL KI w' (.slice a3 ([] : List Int).length d3) [] ∧ Below W.heap.size W w') := fun B0 B1 e0 hB W v' hv => (release_fault W v' f xs u hv (by unfold maxLen; omega) (by rw [e0]; exact hB)).mono fun e w' ⟨h1, h2⟩ => ⟨none, 0, none, 0, by rw [h1, e0]; rfl, isl_nil _, isl_nil _, h2⟩
  by_cases h1 : u < 0
  · exact ⟨0, [], [], 3, -1, bad 3 (-1) (by unfold relF; rw [if_neg (by omega), if_pos (Or.inl h1)]) (by decide), Or.inl ⟨h1, rfl, rfl, rfl, rfl, rfl⟩⟩
  by_cases h2 : 1000000000 < u
  · exact ⟨0, [], [], 3, -1, bad 3 (-1) (by unfold relF; rw [if_neg (by omega), if_pos (Or.inr h2)]) (by decide), Or.inr (Or.inl ⟨h1, h2, rfl, rfl, rfl, rfl, rfl⟩)⟩
  by_cases h3 : 1000000000 < f + u
  · exact ⟨0, [], [], 9, 0, bad 9 0 (by unfold relF; rw [if_neg (by omega), if_neg (fun h => h.elim h1 h2), if_pos h3]) (by decide), Or.inr (Or.inr (Or.inl ⟨h1, h2, h3, rfl, rfl, rfl, rfl, rfl⟩))⟩
  · refine ⟨_, _, _, 0, 0, fun W v' hv => (release_ok W v' f xs u hv (by unfold relF; rw [if_neg (by omega), if_neg (fun h => h.elim h1 h2), if_neg h3])).mono fun e w' ⟨v1, v2, q1, q2, q3, q4⟩ => ?_, Or.inr (Or.inr (Or.inr ⟨h1, h2, h3, rfl, rfl, rfl, rfl, rfl⟩))⟩
    obtain ⟨a2, d2, rfl, q5⟩ := q2.form
    obtain ⟨a3, d3, rfl⟩ := q3.1.form
    exact ⟨a2, d2, a3, d3, q1, q5.1, q3.1, q4⟩

set_option maxRecDepth 100000 in
set_option maxHeartbeats 2000000 in
theorem semas_long (w : World) (v : Value) (f : Int) (xs : List Po) (x u : Int) (try_ : Bool) (h : IsG KP w v f xs) (hm : xs.length * 24 ≤ 140737488355328) (hl : (700 < xs.length ∧ xs.length < 4999) ∨ 6000 < xs.length) :
    Calls Try.prog 5 #[v, .int .i64 x, .int .i64 u, .bool try_] w fun e w' => e = .returned (.bool true) ∧ Below w.heap.size w w' := by
  have hnot : ∀ (x : Bool) (w : World), (Op.unary .not (.bool x)).run Try.prog w = .ok (.bool (!x)) w := fun _ _ => rfl
  obtain ⟨a0, c0, rfl, -⟩ := h.form
  generalize xs.length = n at *
  have hl2 : (700 < (n : Int) ∧ (n : Int) < 4999) ∨ 6000 < (n : Int) := by omega
  have HLG : Hid (∀ W, Calls Try.prog 10 #[.int .i64 (n : Int)] W fun e w' => e = .returned (.bool true) ∧ w' = W) := fun W => long_yes W _ hl2
  clear h hl hl2
  obtain ⟨W0, e0, hB, k0⟩ : ∃ W, w.alloc (.cells #[.int .i64 f, .slice a0 n c0] 51) = W ∧ Below w.heap.size w W ∧ W.heap[w.heap.size]? = some (.cells #[.int .i64 f, .slice a0 n c0] 51) := ⟨_, rfl, (Below.refl _ _).alloc (Nat.le_refl _) _, new_block _ _⟩
  have HX := hide hB; have HP := hide k0; have HE := hide e0
  clear hB k0 e0
  go_enter Try.func5, Try.ntmps5
  go_upto_region 1 with fail
  rw [unhide HE]
  clear HE
  obtain ⟨p0, p1, pf0, pf1, pl⟩ := block2 (unhide HP)
  go_wp2_with (first | (go_at_call 9; refine (begun_any _).mono ?_; rintro e w1 ⟨rfl, hb1⟩; have HX_1 := hide (Below.next (unhide HX) hb1 (by first | exact Nat.le_refl _ | (have := unhide HBA; omega))); have Kp_1 := hide (keep_below (unhide HP) hb1); clear HX HP; clear hb1 p0 p1 pf0 pf1 pl; obtain ⟨p0, p1, pf0, pf1, pl⟩ := block2 (unhide Kp_1)) | (go_at_call 10; refine (unhide HLG _).mono ?_; rintro e w1 ⟨rfl, rfl⟩))
  go_ret
  exact ⟨rfl, unhide HX_1⟩

set_option maxRecDepth 100000 in
set_option maxHeartbeats 4000000 in
theorem sema_bad (w : World) (v : Value) (f : Int) (xs : List Po) (x u : Int) (try_ : Bool) (h : IsG KP w v f xs) (hm : xs.length * 24 ≤ 140737488355328) (hl : ¬ ((700 < xs.length ∧ xs.length < 4999) ∨ 6000 < xs.length)) (hg : (semaF f xs).1 ≠ 0) :
    Calls Try.prog 5 #[v, .int .i64 x, .int .i64 u, .bool try_] w fun e w' => e = .returned (.bool true) ∧ Below w.heap.size w w' := by
  have hnot : ∀ (x : Bool) (w : World), (Op.unary .not (.bool x)).run Try.prog w = .ok (.bool (!x)) w := fun _ _ => rfl
  have hn6 : xs.length ≤ 6000 := by omega
  obtain ⟨a0, c0, rfl, hL⟩ := h.form
  have HOW0 : Hid (∀ W, Below w.heap.size w W → Calls Try.prog 23 #[.slice a0 xs.length c0] W fun e w' => ∃ a' c', e = .returned (.slice a' xs.length c') ∧ Own KP W.heap.size w' (.slice a' xs.length c') xs ∧ Below W.heap.size W w') := fun W hW => ownPosts_any W _ xs (hL.below hW) (by omega)
  have HSF0 : Hid (∀ W, Below w.heap.size w W → Calls Try.prog 26 #[.agg #[.int .i64 f, .slice a0 xs.length c0]] W fun e w' => e = .returned (faultV (semaF f xs)) ∧ Below W.heap.size W w') := fun W hW => semaFault_any W _ f xs (h.below hW) (by unfold maxLen; omega)
  have HIN0 : Hid (∀ W, Below w.heap.size w W → Calls Try.prog 28 #[.slice a0 xs.length c0, .int .i64 x] W fun e w' => ∃ j : Int, e = .returned (.int .i64 j) ∧ (0 ≤ j ↔ xs.any (isOfP x) = true) ∧ w' = W) := fun W hW => inLine_any W _ xs x (hL.below hW) (by unfold maxLen; omega)
  have HL0 := hide hL
  have haf : acqF f xs x u = semaF f xs := by unfold acqF; rw [if_pos hg]
  have hrf : relF f xs u = semaF f xs := by unfold relF; rw [if_pos hg]
  obtain ⟨⟨F0, F1⟩, eF⟩ : ∃ F, semaF f xs = F := ⟨_, rfl⟩
  rw [eF] at HSF0 hg haf hrf
  have HAQ0 : Hid (∀ W v', IsG KP W v' f xs → Calls Try.prog 24 #[v', .int .i64 x, .int .i64 u, .bool try_] W fun e w' => ∃ a1 d1, e = .returned (.tuple #[.agg #[.int .i64 0, .slice a1 0 d1], .bool false, .agg #[.int .i64 F0, .int .i64 F1]]) ∧ IsL KP w' (.slice a1 0 d1) [] ∧ Below W.heap.size W w') := fun W v' hv => (acquire_fault W v' f xs x u try_ hv (by unfold maxLen; omega) (by rw [haf]; exact hg)).mono fun e w' ⟨h1, h2⟩ => ⟨none, 0, by rw [h1, haf]; rfl, isl_nil _, h2⟩
  have HRL0 : Hid (∀ W v', IsG KP W v' f xs → Calls Try.prog 25 #[v', .int .i64 u] W fun e w' => ∃ a2 d2 a3 d3, e = .returned (.tuple #[.agg #[.int .i64 0, .slice a2 0 d2], .slice a3 0 d3, .agg #[.int .i64 F0, .int .i64 F1]]) ∧ IsL KP w' (.slice a2 0 d2) [] ∧ IsL KI w' (.slice a3 0 d3) [] ∧ Below W.heap.size W w') := fun W v' hv => (release_fault W v' f xs u hv (by unfold maxLen; omega) (by rw [hrf]; exact hg)).mono fun e w' ⟨h1, h2⟩ => ⟨none, 0, none, 0, by rw [h1, hrf]; rfl, isl_nil _, isl_nil _, h2⟩
  have x0 : (F0 != 0) = true := by simpa using hg
  have x00 : (F0 == 0) = false := by simpa using hg
  have x1 : (F0 == F0) = true := by simp
  have x2 : (F1 == F1) = true := by simp
  clear haf hrf eF hg
  obtain ⟨n, en⟩ : ∃ n, xs.length = n := ⟨_, rfl⟩
  rw [en] at hl hn6 HOW0 HSF0 HIN0 HL0 ⊢
  have hl2 : ¬ ((700 < (n : Int) ∧ (n : Int) < 4999) ∨ 6000 < (n : Int)) := by omega
  have HLG : Hid (∀ W, Calls Try.prog 10 #[.int .i64 (n : Int)] W fun e w' => e = .returned (.bool false) ∧ w' = W) := fun W => long_no W _ hl2
  have HEN := hide en
  clear h hl hl2 hL en hm
  obtain ⟨W0, e0, hB, k0⟩ : ∃ W, w.alloc (.cells #[.int .i64 f, .slice a0 n c0] 51) = W ∧ Below w.heap.size w W ∧ W.heap[w.heap.size]? = some (.cells #[.int .i64 f, .slice a0 n c0] 51) := ⟨_, rfl, (Below.refl _ _).alloc (Nat.le_refl _) _, new_block _ _⟩
  have HX := hide hB; have HP := hide k0; have HE := hide e0
  clear hB k0 e0
  go_enter Try.func5, Try.ntmps5
  go_upto_region 1 with fail
  rw [unhide HE]
  clear HE
  obtain ⟨p0, p1, pf0, pf1, pl⟩ := block2 (unhide HP)
  go_upto_region 5 with (first | (go_at_call 9; refine (begun_any _).mono ?_; rintro e w1 ⟨rfl, hb1⟩; have HX_1 := hide (Below.next (unhide HX) hb1 (by first | exact Nat.le_refl _ | (have := unhide HBA; omega))); have Kp_1 := hide (keep_below (unhide HP) hb1); clear HX HP; clear hb1 p0 p1 pf0 pf1 pl; obtain ⟨p0, p1, pf0, pf1, pl⟩ := block2 (unhide Kp_1)) | (go_at_call 10; refine (unhide HLG _).mono ?_; rintro e w1 ⟨rfl, rfl⟩))
  clear p0 p1 pf0 pf1 pl
  have HOW : Hid (∀ W, Below w1.heap.size w1 W → Calls Try.prog 23 #[.slice a0 n c0] W fun e w' => ∃ a' c', e = .returned (.slice a' n c') ∧ Own KP W.heap.size w' (.slice a' n c') xs ∧ Below W.heap.size W w') := fun W hW => unhide HOW0 W (Below.next (unhide HX_1) hW (Nat.le_refl _))
  go_cut [9] (fun s W => ∃ (Y : Nat) (a5 : Option Addr) (c5 : Nat), s = .pointer (some ⟨Y, 0, none⟩) ∧ Hid (W.heap[Y]? = some (.cells #[.int .i64 f, .slice a5 n c5] 51)) ∧ Hid (Own KP w1.heap.size W (.slice a5 n c5) xs) ∧ Hid (w1.heap.size ≤ Y) ∧ Hid (Below w1.heap.size w1 W))
  case first =>
    have HSS : Hid (∀ W, Below w1.heap.size w1 W → W.cell? ⟨w.heap.size, 0, none⟩ = some (.int .i64 f) ∧ W.cell? ⟨w.heap.size, 1, none⟩ = some (.slice a0 n c0) ∧ Below w1.heap.size w1 W) := fun W hW => by
      obtain ⟨k0, k1, -, -, -⟩ := block2 (keep_below (unhide Kp_1) hW)
      exact ⟨k0, k1, hW⟩
    obtain ⟨k0, k1, -⟩ := unhide HSS _ (Below.refl _ _)
    go_wp2_with fail
    go_region_held3 (fun W => W.cell? ⟨w.heap.size, 0, none⟩ = some (.int .i64 f) ∧ W.cell? ⟨w.heap.size, 1, none⟩ = some (.slice a0 n c0) ∧ Below w1.heap.size w1 W)
      (first | with_reducible exact unhide HSS _ (Below.refl _ _).drew | with_reducible exact unhide HSS _ ((Below.refl w1.heap.size w1).alloc (Nat.le_refl _) _).drew | with_reducible exact unhide HSS _ (unhide HX3) | with_reducible exact unhide HSS _ ((unhide HX3).alloc (unhide HX3).size _) | exact unhide HSS _ (put2_below (unhide HX3) (Nat.le_refl _)))
      (first | (go_at_call 23; refine (unhide HOW _ (by go_split_ands; assumption)).mono ?_; rintro e w3 ⟨a3, c3, rfl, ho3, hb3⟩; have HX3 : Hid (Below w1.heap.size w1 w3) := Below.next (by go_split_ands; assumption) hb3 (Nat.le_refl _); have HO3 := hide (ho3.base (show w1.heap.size ≤ _ from (show Below w1.heap.size w1 _ by go_split_ands; assumption).size)); (try (have HZ3 : Hid (w3.heap[w1.heap.size]? = some (.cells #[.int .i64 0, .slice none 0 0] 51)) := (keep_below (w := (w1.alloc (.cells #[.int .i64 0, .slice none 0 0] 51)).drew) (new_block w1 (.cells #[.int .i64 0, .slice none 0 0] 51)) hb3); have hz := block2 (unhide HZ3); have z0 := hz.1; have z1 := hz.2.1; have zf0 := hz.2.2.1; have zf1 := hz.2.2.2.1; have zl := hz.2.2.2.2)); clear ho3 hb3))
    all_goals
      go_wp2_with fail
      go_meet
      case rel =>
        first
          | exact ⟨_, a3, c3, rfl, put2_new (unhide HZ3), put2_own (unhide HO3) (unhide HZ3) (by decide), Nat.le_refl _, put2_below (unhide HX3) (Nat.le_refl _)⟩
          | exact ⟨_, a3, c3, rfl, new_block _ _, (unhide HO3).below ((Below.refl _ _).alloc (Nat.le_refl _) _), (unhide HX3).size, (unhide HX3).alloc (unhide HX3).size _⟩
  case rest =>
    obtain ⟨Y, a5, c5, rfl, HY_, HOY_, HBY_, HXY_⟩ := hcut
    have hlp_Y : w.heap.size < Y := Nat.lt_of_lt_of_le (size_of (unhide Kp_1)) (unhide HBY_)
    (have HX_2 := hide (Below.next (unhide HX_1) (unhide HXY_) (by first | exact Nat.le_refl _ | (have := unhide HBA; omega))); have Kp_2 := hide (keep_below (unhide Kp_1) (unhide HXY_)); clear HX_1 Kp_1)
    obtain ⟨x0, x1, xf0, xf1, xl⟩ := block2 (unhide HY_)
    go_upto_region 7 with (go_at_call 24; refine (unhide HAQ0 _ _ ⟨_, rfl, (unhide HOY_).isl⟩).mono ?_; rintro e w5 ⟨b1, d1, rfl, hi1, hb5⟩; have HI1 := hide hi1; have HC5 : Hid (Below w5.heap.size w5 w5) := Below.refl _ _; have HX_3 := hide (Below.next (unhide HX_2) hb5 (by first | exact Nat.le_refl _ | (have := unhide HBA; omega))); have Kp_3 := hide (keep_below (unhide Kp_2) hb5); have Kx_3 := hide (keep_below (unhide HY_) hb5); have Ox_3 := hide ((unhide HOY_).below hb5); clear HX_2 Kp_2 HY_ HOY_; clear hb5 hi1 x0 x1 xf0 xf1 xl)
    obtain ⟨W6, eW6, hBW6, k0_4, k1_4⟩ := two_new w5 (.cells #[.int .i64 0, .slice b1 0 d1] 51) (.cells #[.int .i64 F0, .int .i64 F1] 29)
    rw [eW6]
    clear eW6
    have hlp_m : w.heap.size < w5.heap.size := size_of (unhide Kp_3)
    have hlx_m : Y < w5.heap.size := size_of (unhide Kx_3)
    (have HX_4 := hide (Below.next (unhide HX_3) hBW6 (by first | exact Nat.le_refl _ | (have := unhide HBA; omega))); have Kp_4 := hide (keep_below (unhide Kp_3) hBW6); have Kx_4 := hide (keep_below (unhide Kx_3) hBW6); have Ox_4 := hide ((unhide Ox_3).below hBW6); have CJ_4 := hide (Below.next (unhide HC5) hBW6 (Nat.le_refl _)); clear HX_3 Kp_3 Kx_3 Ox_3 HC5)
    obtain ⟨M, eM⟩ : ∃ X, w5.heap.size = X := ⟨_, rfl⟩
    rw [eM] at k0_4 k1_4 hlp_m hlx_m ⊢
    have Km_4 := hide k0_4
    have Kf_4 := hide k1_4
    clear eM hBW6 k0_4 k1_4
    obtain ⟨x0, x1, xf0, xf1, xl⟩ := block2 (unhide Kx_4)
    go_upto_region 8 with (go_at_call 25; refine (unhide HRL0 _ _ ⟨_, rfl, (unhide Ox_4).isl⟩).mono ?_; rintro e w7 ⟨b2, d2, b3, d3, rfl, hi2, hi3, hb7⟩; have HI2 := hide hi2; have HI3 := hide hi3; have HC7 : Hid (Below w7.heap.size w7 w7) := Below.refl _ _; have HX_5 := hide (Below.next (unhide HX_4) hb7 (by first | exact Nat.le_refl _ | (have := unhide HBA; omega))); have Kp_5 := hide (keep_below (unhide Kp_4) hb7); have Kx_5 := hide (keep_below (unhide Kx_4) hb7); have Km_5 := hide (keep_below (unhide Km_4) hb7); have Kf_5 := hide (keep_below (unhide Kf_4) hb7); have Ox_5 := hide ((unhide Ox_4).below hb7); have CJ_5 := hide (Below.next (unhide CJ_4) hb7 (Nat.le_refl _)); clear HX_4 Kp_4 Kx_4 Km_4 Kf_4 Ox_4 CJ_4; clear hb7 hi2 hi3 x0 x1 xf0 xf1 xl)
    obtain ⟨W8, eW8, hBW8, k0_6, k1_6⟩ := two_new w7 (.cells #[.int .i64 0, .slice b2 0 d2] 51) (.cells #[.int .i64 F0, .int .i64 F1] 29)
    rw [eW8]
    clear eW8
    have hlp_q : w.heap.size < w7.heap.size := size_of (unhide Kp_5)
    have hlx_q : Y < w7.heap.size := size_of (unhide Kx_5)
    have hlm_q : M < w7.heap.size := size_of (unhide Km_5)
    have hlf_q : M + 1 < w7.heap.size := size_of (unhide Kf_5)
    (have HX_6 := hide (Below.next (unhide HX_5) hBW8 (by first | exact Nat.le_refl _ | (have := unhide HBA; omega))); have Kp_6 := hide (keep_below (unhide Kp_5) hBW8); have Kx_6 := hide (keep_below (unhide Kx_5) hBW8); have Km_6 := hide (keep_below (unhide Km_5) hBW8); have Kf_6 := hide (keep_below (unhide Kf_5) hBW8); have Ox_6 := hide ((unhide Ox_5).below hBW8); have CJ_6 := hide (Below.next (unhide CJ_5) hBW8 (Nat.le_refl _)); have CK_6 := hide (Below.next (unhide HC7) hBW8 (Nat.le_refl _)); clear HX_5 Kp_5 Kx_5 Km_5 Kf_5 Ox_5 CJ_5 HC7)
    obtain ⟨M2, eM2⟩ : ∃ X, w7.heap.size = X := ⟨_, rfl⟩
    rw [eM2] at k0_6 k1_6 hlp_q hlx_q hlm_q hlf_q ⊢
    have Kq_6 := hide k0_6
    have Kg_6 := hide k1_6
    clear eM2 hBW8 k0_6 k1_6
    obtain ⟨p0, p1, pf0, pf1, pl⟩ := block2 (unhide Kp_6)
    go_upto_region 9 with (go_at_call 26; refine (unhide HSF0 _ (unhide HX_6)).mono ?_; rintro e w9 ⟨he, hb9⟩; obtain rfl : e = .returned (.agg #[.int .i64 F0, .int .i64 F1]) := he; have HX_7 := hide (Below.next (unhide HX_6) hb9 (by first | exact Nat.le_refl _ | (have := unhide HBA; omega))); have Kp_7 := hide (keep_below (unhide Kp_6) hb9); have Kx_7 := hide (keep_below (unhide Kx_6) hb9); have Km_7 := hide (keep_below (unhide Km_6) hb9); have Kf_7 := hide (keep_below (unhide Kf_6) hb9); have Kq_7 := hide (keep_below (unhide Kq_6) hb9); have Kg_7 := hide (keep_below (unhide Kg_6) hb9); have Ox_7 := hide ((unhide Ox_6).below hb9); have CJ_7 := hide (Below.next (unhide CJ_6) hb9 (Nat.le_refl _)); have CK_7 := hide (Below.next (unhide CK_6) hb9 (Nat.le_refl _)); clear HX_6 Kp_6 Kx_6 Km_6 Kf_6 Kq_6 Kg_6 Ox_6 CJ_6 CK_6; clear hb9 p0 p1 pf0 pf1 pl)
    have hch : w5.heap.size ≤ w9.heap.size := (unhide CJ_7).size
    have hch7 : w7.heap.size ≤ w9.heap.size := (unhide CK_7).size
    have HX_8 := hide ((unhide HX_7).alloc (Nat.le_trans (show w.heap.size ≤ w.heap.size from Nat.le_refl _) (unhide HX_7).size) (.cells #[.int .i64 F0, .int .i64 F1] 29))
    have Kp_8 := hide (keep_alloc (unhide Kp_7) (.cells #[.int .i64 F0, .int .i64 F1] 29))
    have Kx_8 := hide (keep_alloc (unhide Kx_7) (.cells #[.int .i64 F0, .int .i64 F1] 29))
    have Km_8 := hide (keep_alloc (unhide Km_7) (.cells #[.int .i64 F0, .int .i64 F1] 29))
    have Kf_8 := hide (keep_alloc (unhide Kf_7) (.cells #[.int .i64 F0, .int .i64 F1] 29))
    have Kq_8 := hide (keep_alloc (unhide Kq_7) (.cells #[.int .i64 F0, .int .i64 F1] 29))
    have Kg_8 := hide (keep_alloc (unhide Kg_7) (.cells #[.int .i64 F0, .int .i64 F1] 29))
    have Ox_8 := hide ((unhide Ox_7).below ((Below.refl _ _).alloc (Nat.le_refl _) (.cells #[.int .i64 F0, .int .i64 F1] 29)))
    have CJ_8 := hide ((unhide CJ_7).alloc (unhide CJ_7).size (.cells #[.int .i64 F0, .int .i64 F1] 29))
    have CK_8 := hide ((unhide CK_7).alloc (unhide CK_7).size (.cells #[.int .i64 F0, .int .i64 F1] 29))
    have Ku_8 := hide (new_block w9 (.cells #[.int .i64 F0, .int .i64 F1] 29))
    have hlp_u : w.heap.size < w9.heap.size := size_of (unhide Kp_7)
    have hlx_u : Y < w9.heap.size := size_of (unhide Kx_7)
    have hlm_u : M < w9.heap.size := size_of (unhide Km_7)
    have hlf_u : M + 1 < w9.heap.size := size_of (unhide Kf_7)
    have hlq_u : M2 < w9.heap.size := size_of (unhide Kq_7)
    have hlg_u : M2 + 1 < w9.heap.size := size_of (unhide Kg_7)
    obtain ⟨U, eU⟩ : ∃ X, w9.heap.size = X := ⟨_, rfl⟩
    obtain ⟨W10, eW10⟩ : ∃ X, w9.alloc (.cells #[.int .i64 F0, .int .i64 F1] 29) = X := ⟨_, rfl⟩
    rw [eU, eW10] at Ku_8; rw [eW10] at HX_8 Kp_8 Kx_8 Km_8 Kf_8 Kq_8 Kg_8 Ox_8 CJ_8 CK_8; rw [eU] at hlp_u hlx_u hlm_u hlf_u hlq_u hlg_u hch hch7; rw [eU, eW10]
    clear eU eW10 HX_7 Kp_7 Kx_7 Km_7 Kf_7 Kq_7 Kg_7 Ox_7 CJ_7 CK_7
    obtain ⟨p0, p1, pf0, pf1, pl⟩ := block2 (unhide Kp_8)
    obtain ⟨x0, x1, xf0, xf1, xl⟩ := block2 (unhide Kx_8)
    obtain ⟨u0, u1, uf0, uf1, ul⟩ := block2 (unhide Ku_8)
    go_upto_region 12 with (go_at_call 27; refine (sameSema_any _ _ _ f xs ⟨_, rfl, (unhide Ox_8).isl⟩ ⟨_, rfl, (unhide HL0).below (unhide HX_8)⟩ (by rw [unhide HEN]; unfold maxLen; omega)).mono ?_; rintro e w11 ⟨rfl, hb11⟩; have HX_9 := hide (Below.next (unhide HX_8) hb11 (by first | exact Nat.le_refl _ | (have := unhide HBA; omega))); have Kp_9 := hide (keep_below (unhide Kp_8) hb11); have Kx_9 := hide (keep_below (unhide Kx_8) hb11); have Km_9 := hide (keep_below (unhide Km_8) hb11); have Kf_9 := hide (keep_below (unhide Kf_8) hb11); have Kq_9 := hide (keep_below (unhide Kq_8) hb11); have Kg_9 := hide (keep_below (unhide Kg_8) hb11); have Ku_9 := hide (keep_below (unhide Ku_8) hb11); have Ox_9 := hide ((unhide Ox_8).below hb11); have CJ_9 := hide (Below.next (unhide CJ_8) hb11 (Nat.le_refl _)); have CK_9 := hide (Below.next (unhide CK_8) hb11 (Nat.le_refl _)); clear HX_8 Kp_8 Kx_8 Km_8 Kf_8 Kq_8 Kg_8 Ku_8 Ox_8 CJ_8 CK_8; clear hb11 p0 p1 pf0 pf1 pl x0 x1 xf0 xf1 xl u0 u1 uf0 uf1 ul; obtain ⟨u0, u1, uf0, uf1, ul⟩ := block2 (unhide Ku_9))
    clear u0 u1 uf0 uf1 ul
    have hch2 : w5.heap.size ≤ w11.heap.size := (unhide CJ_9).size
    have hch27 : w7.heap.size ≤ w11.heap.size := (unhide CK_9).size
    have HX_10 := hide ((unhide HX_9).alloc (Nat.le_trans (show w.heap.size ≤ w.heap.size from Nat.le_refl _) (unhide HX_9).size) (.cells #[.int .i64 F0, .int .i64 F1] 29))
    have Kp_10 := hide (keep_alloc (unhide Kp_9) (.cells #[.int .i64 F0, .int .i64 F1] 29))
    have Kx_10 := hide (keep_alloc (unhide Kx_9) (.cells #[.int .i64 F0, .int .i64 F1] 29))
    have Km_10 := hide (keep_alloc (unhide Km_9) (.cells #[.int .i64 F0, .int .i64 F1] 29))
    have Kf_10 := hide (keep_alloc (unhide Kf_9) (.cells #[.int .i64 F0, .int .i64 F1] 29))
    have Kq_10 := hide (keep_alloc (unhide Kq_9) (.cells #[.int .i64 F0, .int .i64 F1] 29))
    have Kg_10 := hide (keep_alloc (unhide Kg_9) (.cells #[.int .i64 F0, .int .i64 F1] 29))
    have Ku_10 := hide (keep_alloc (unhide Ku_9) (.cells #[.int .i64 F0, .int .i64 F1] 29))
    have Ox_10 := hide ((unhide Ox_9).below ((Below.refl _ _).alloc (Nat.le_refl _) (.cells #[.int .i64 F0, .int .i64 F1] 29)))
    have CJ_10 := hide ((unhide CJ_9).alloc (unhide CJ_9).size (.cells #[.int .i64 F0, .int .i64 F1] 29))
    have CK_10 := hide ((unhide CK_9).alloc (unhide CK_9).size (.cells #[.int .i64 F0, .int .i64 F1] 29))
    have Kv_10 := hide (new_block w11 (.cells #[.int .i64 F0, .int .i64 F1] 29))
    have hlp_v : w.heap.size < w11.heap.size := size_of (unhide Kp_9)
    have hlx_v : Y < w11.heap.size := size_of (unhide Kx_9)
    have hlm_v : M < w11.heap.size := size_of (unhide Km_9)
    have hlf_v : M + 1 < w11.heap.size := size_of (unhide Kf_9)
    have hlq_v : M2 < w11.heap.size := size_of (unhide Kq_9)
    have hlg_v : M2 + 1 < w11.heap.size := size_of (unhide Kg_9)
    have hlu_v : U < w11.heap.size := size_of (unhide Ku_9)
    obtain ⟨V, eV⟩ : ∃ X, w11.heap.size = X := ⟨_, rfl⟩
    obtain ⟨W12, eW12⟩ : ∃ X, w11.alloc (.cells #[.int .i64 F0, .int .i64 F1] 29) = X := ⟨_, rfl⟩
    rw [eV, eW12] at Kv_10; rw [eW12] at HX_10 Kp_10 Kx_10 Km_10 Kf_10 Kq_10 Kg_10 Ku_10 Ox_10 CJ_10 CK_10; rw [eV] at hlp_v hlx_v hlm_v hlf_v hlq_v hlg_v hlu_v hch2 hch27; rw [eV, eW12]
    clear eV eW12 HX_9 Kp_9 Kx_9 Km_9 Kf_9 Kq_9 Kg_9 Ku_9 Ox_9 CJ_9 CK_9
    obtain ⟨p0, p1, pf0, pf1, pl⟩ := block2 (unhide Kp_10)
    obtain ⟨v0, v1, vf0, vf1, vl⟩ := block2 (unhide Kv_10)
    go_upto_region 18 with fail
    clear p0 p1 pf0 pf1 pl v0 v1 vf0 vf1 vl
    obtain ⟨p0, p1, pf0, pf1, pl⟩ := block2 (unhide Kp_10)
    obtain ⟨v0, v1, vf0, vf1, vl⟩ := block2 (unhide Kv_10)
    obtain ⟨f0, f1, ff0, ff1, fl⟩ := block2 (unhide Kf_10)
    obtain ⟨m0, m1, mf0, mf1, ml⟩ := block2 (unhide Km_10)
    go_upto_region 30 with (go_at_call 27; refine (sameSema_any _ _ _ 0 [] ⟨_, rfl, (unhide HI1).below (unhide CJ_10)⟩ (zero_g _ 0) (by simp [maxLen])).mono ?_; rintro e w15 ⟨rfl, hb15⟩; have HX_11 := hide (Below.next (unhide HX_10) hb15 (by first | exact Nat.le_refl _ | (have := unhide HBA; omega))); have Kp_11 := hide (keep_below (unhide Kp_10) hb15); have Kx_11 := hide (keep_below (unhide Kx_10) hb15); have Km_11 := hide (keep_below (unhide Km_10) hb15); have Kf_11 := hide (keep_below (unhide Kf_10) hb15); have Kq_11 := hide (keep_below (unhide Kq_10) hb15); have Kg_11 := hide (keep_below (unhide Kg_10) hb15); have Ku_11 := hide (keep_below (unhide Ku_10) hb15); have Kv_11 := hide (keep_below (unhide Kv_10) hb15); have Ox_11 := hide ((unhide Ox_10).below hb15); have CJ_11 := hide (Below.next (unhide CJ_10) hb15 (Nat.le_refl _)); have CK_11 := hide (Below.next (unhide CK_10) hb15 (Nat.le_refl _)); clear HX_10 Kp_10 Kx_10 Km_10 Kf_10 Kq_10 Kg_10 Ku_10 Kv_10 Ox_10 CJ_10 CK_10; clear hb15 p0 p1 pf0 pf1 pl v0 v1 vf0 vf1 vl f0 f1 ff0 ff1 fl m0 m1 mf0 mf1 ml; obtain ⟨p0, p1, pf0, pf1, pl⟩ := block2 (unhide Kp_11))
    clear p0 p1 pf0 pf1 pl
    clear HI1
    obtain ⟨p0, p1, pf0, pf1, pl⟩ := block2 (unhide Kp_11)
    obtain ⟨u0, u1, uf0, uf1, ul⟩ := block2 (unhide Ku_11)
    obtain ⟨g0, g1, gf0, gf1, gl⟩ := block2 (unhide Kg_11)
    obtain ⟨q0, q1, qf0, qf1, ql⟩ := block2 (unhide Kq_11)
    go_wp2_with (go_at_call 27; refine (sameSema_any _ _ _ 0 [] ⟨_, rfl, (unhide HI2).below (unhide CK_11)⟩ (zero_g _ 0) (by simp [maxLen])).mono ?_; rintro e w35 ⟨rfl, hb35⟩; have HX35 := hide (Below.next (unhide HX_11) hb35 (Nat.le_refl _)); clear hb35)
    go_ret
    exact ⟨rfl, unhide HX35⟩
end Go.Proofs.Ytpogcfdmkeebmaa
