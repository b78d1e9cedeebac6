/-
  taskmilllaw.RaceOnline: its walk.
-/
import Derived.Test.YtbnmeeabpjmcoabXg
namespace Go.Proofs.Ytbnmeeabpjmcoab
open Go.RowKit

set_option maxRecDepth 100000 in
set_option maxHeartbeats 4000000 in
theorem ro_long (w : World) (a0 : Option Addr) (n0 c0 : Nat) (a1 : Option Addr) (n1 c1 : Nat) (h : 300 < n0) :
    Calls Try.prog 3 #[.slice a0 n0 c0, .slice a1 n1 c1] w fun e w' => e = .returned (.bool true) ∧ Below w.heap.size w w' := by
  have i1 : (300 : Int) < (n0 : Int) := by omega
  go_enter Try.func3, Try.ntmps3
  go_wp2_with (go_at_call 4; (with_reducible refine Calls.mono (raceBegun_any _) ?_); rintro e w1 ⟨rfl, hb1⟩; have HX1 := hide hb1; clear hb1)
  go_ret
  exact ⟨rfl, unhide HX1⟩

set_option maxRecDepth 100000 in
set_option maxHeartbeats 4000000 in
theorem ro_many (w : World) (a0 : Option Addr) (n0 c0 : Nat) (a1 : Option Addr) (n1 c1 : Nat) (h : ¬ 300 < n0) (h2 : 100 < n1) :
    Calls Try.prog 3 #[.slice a0 n0 c0, .slice a1 n1 c1] w fun e w' => e = .returned (.bool true) ∧ Below w.heap.size w w' := by
  have i1 : ¬ (300 : Int) < (n0 : Int) := by omega
  have i2 : (100 : Int) < (n1 : Int) := by omega
  go_enter Try.func3, Try.ntmps3
  go_wp2_with (go_at_call 4; (with_reducible refine Calls.mono (raceBegun_any _) ?_); rintro e w1 ⟨rfl, hb1⟩; have HX1 := hide hb1; clear hb1)
  go_ret
  exact ⟨rfl, unhide HX1⟩

set_option maxRecDepth 100000 in
set_option maxHeartbeats 4000000 in
theorem ro_fault (w : World) (a0 : Option Addr) (n0 c0 : Nat) (a1 : Option Addr) (n1 c1 : Nat) (l : List Ev) (hs : List Int) (hl : IsL KE w (.slice a0 n0 c0) l) (hh : IsL KI w (.slice a1 n1 c1) hs) (h : ¬ 300 < n0) (h2 : ¬ 100 < n1) (fc fa : Int) (hf : checkF hs l = (fc, fa)) (hfc : fc ≠ 0) :
    Calls Try.prog 3 #[.slice a0 n0 c0, .slice a1 n1 c1] w fun e w' => e = .returned (.bool true) ∧ Below w.heap.size w w' := by
  have i1 : ¬ (300 : Int) < (n0 : Int) := by omega
  have i2 : ¬ (100 : Int) < (n1 : Int) := by omega
  have x1 : (fc != 0) = true := by simpa using hfc
  have HCF : Hid (∀ W, Below w.heap.size w W → Calls Try.prog 5 #[.slice a0 n0 c0, .slice a1 n1 c1] W fun e w' => e = .returned (.tuple #[.int .i64 0, .agg #[.int .i64 fc, .int .i64 fa]]) ∧ Below W.heap.size W w') := fun W hW => first_fault W a0 n0 c0 a1 n1 c1 l hs (hl.below hW) (hh.below hW) fc fa hf hfc
  clear hl hh
  go_enter Try.func3, Try.ntmps3
  go_upto_region 6 with (first
    | (go_at_call 4; (with_reducible refine Calls.mono (raceBegun_any _) ?_); rintro e w1 ⟨rfl, hb1⟩; have HX1 := hide hb1; clear hb1)
    | (go_at_call 5; (with_reducible refine Calls.mono (unhide HCF _ (unhide HX1)) ?_); rintro e w2 ⟨rfl, hb2⟩; have HX2 := hide (Below.next (unhide HX1) hb2 (Nat.le_refl _)); clear hb2))
  have HX3 := hide ((unhide HX2).alloc (unhide HX2).size (.cells #[.int .i64 fc, .int .i64 fa] 26 (0, 0))); have HF3 := hide (new_block w2 (.cells #[.int .i64 fc, .int .i64 fa] 26 (0, 0)))
  obtain ⟨W3, e3⟩ : ∃ X, w2.alloc (.cells #[.int .i64 fc, .int .i64 fa] 26 (0, 0)) = X := ⟨_, rfl⟩
  rw [e3] at HX3 HF3 ⊢
  clear e3
  obtain ⟨g0, g1, gf0, gf1, gl⟩ := block2 (unhide HF3)
  go_wp2_with fail
  go_ret
  exact ⟨rfl, unhide HX3⟩

set_option maxRecDepth 100000 in
set_option maxHeartbeats 4000000 in
theorem ro_none (w : World) (a0 : Option Addr) (n0 c0 : Nat) (a1 : Option Addr) (n1 c1 : Nat) (l : List Ev) (hs : List Int) (hl : IsL KE w (.slice a0 n0 c0) l) (hh : IsL KI w (.slice a1 n1 c1) hs) (h : ¬ 300 < n0) (h2 : ¬ 100 < n1) (hg : GoodT hs l) (hn : firstR hs l = none) :
    Calls Try.prog 3 #[.slice a0 n0 c0, .slice a1 n1 c1] w fun e w' => e = .returned (.bool true) ∧ Below w.heap.size w w' := by
  have i1 : ¬ (300 : Int) < (n0 : Int) := by omega
  have i2 : ¬ (100 : Int) < (n1 : Int) := by omega
  have HCF : Hid (∀ W, Below w.heap.size w W → Calls Try.prog 5 #[.slice a0 n0 c0, .slice a1 n1 c1] W fun e w' => e = .returned (.tuple #[.int .i64 0, .agg #[.int .i64 6, .int .i64 0]]) ∧ Below W.heap.size W w') := fun W hW => (first_good W a0 n0 c0 a1 n1 c1 l hs (hl.below hW) (hh.below hW) hg).mono fun e w' ⟨h, hb⟩ => ⟨by unfold FirstIs at h; rw [hn] at h; exact h, hb⟩
  clear hl hh
  go_enter Try.func3, Try.ntmps3
  go_upto_region 6 with (first
    | (go_at_call 4; (with_reducible refine Calls.mono (raceBegun_any _) ?_); rintro e w1 ⟨rfl, hb1⟩; have HX1 := hide hb1; clear hb1)
    | (go_at_call 5; (with_reducible refine Calls.mono (unhide HCF _ (unhide HX1)) ?_); rintro e w2 ⟨rfl, hb2⟩; have HX2 := hide (Below.next (unhide HX1) hb2 (Nat.le_refl _)); clear hb2))
  have HX3 := hide ((unhide HX2).alloc (unhide HX2).size (.cells #[.int .i64 6, .int .i64 0] 26 (0, 0))); have HF3 := hide (new_block w2 (.cells #[.int .i64 6, .int .i64 0] 26 (0, 0)))
  obtain ⟨W3, e3⟩ : ∃ X, w2.alloc (.cells #[.int .i64 6, .int .i64 0] 26 (0, 0)) = X := ⟨_, rfl⟩
  rw [e3] at HX3 HF3 ⊢
  clear e3
  obtain ⟨g0, g1, gf0, gf1, gl⟩ := block2 (unhide HF3)
  go_wp2_with fail
  go_ret
  exact ⟨rfl, unhide HX3⟩

set_option maxRecDepth 100000 in
set_option maxHeartbeats 4000000 in
theorem ro_some (w : World) (a0 : Option Addr) (n0 c0 : Nat) (a1 : Option Addr) (n1 c1 : Nat) (l : List Ev) (hs : List Int) (hl : IsL KE w (.slice a0 n0 c0) l) (hh : IsL KI w (.slice a1 n1 c1) hs) (h : ¬ 300 < n0) (h2 : ¬ 100 < n1) (hg : GoodT hs l) (k : Nat) (hk : firstR hs l = some k) :
    Calls Try.prog 3 #[.slice a0 n0 c0, .slice a1 n1 c1] w fun e w' => e = .returned (.bool true) ∧ Below w.heap.size w w' := by
  have i1 : ¬ (300 : Int) < (n0 : Int) := by omega
  have i2 : ¬ (100 : Int) < (n1 : Int) := by omega
  have hln := hl.len
  obtain ⟨hk1, hk2, -⟩ := firstR_some hk
  obtain ⟨hacc, hk0⟩ := races_acc hk2
  have HCF : Hid (∀ W, Below w.heap.size w W → Calls Try.prog 5 #[.slice a0 n0 c0, .slice a1 n1 c1] W fun e w' => e = .returned (.tuple #[.int .i64 (k : Int), .agg #[.int .i64 0, .int .i64 0]]) ∧ Below W.heap.size W w') := fun W hW => (first_good W a0 n0 c0 a1 n1 c1 l hs (hl.below hW) (hh.below hW) hg).mono fun e w' ⟨h, hb⟩ => ⟨by unfold FirstIs at h; rw [hk] at h; exact h, hb⟩
  have HCG : Hid (∀ W, Below w.heap.size w W → Calls Try.prog 5 #[.slice a0 k c0, .slice a1 n1 c1] W fun e w' => e = .returned (.tuple #[.int .i64 0, .agg #[.int .i64 6, .int .i64 0]]) ∧ Below W.heap.size W w') := fun W hW => (first_good W a0 k c0 a1 n1 c1 (l.take k) hs ((hl.below hW).take ke (by omega) (by omega)) (hh.below hW) (hg.take k)).mono fun e w' ⟨h, hb⟩ => ⟨by unfold FirstIs at h; rw [first_ahead hk] at h; exact h, hb⟩
  have HCH : Hid (∀ W, Below w.heap.size w W → Calls Try.prog 5 #[.slice a0 (k + 1) c0, .slice a1 n1 c1] W fun e w' => e = .returned (.tuple #[.int .i64 (k : Int), .agg #[.int .i64 0, .int .i64 0]]) ∧ Below W.heap.size W w') := fun W hW => (first_good W a0 (k + 1) c0 a1 n1 c1 (l.take (k + 1)) hs ((hl.below hW).take ke (by omega) (by omega)) (hh.below hW) (hg.take (k + 1))).mono fun e w' ⟨h, hb⟩ => ⟨by unfold FirstIs at h; rw [first_with hk] at h; exact h, hb⟩
  obtain ⟨tb, tof, rfl, htb, hli⟩ := hl.opens ke hln (by omega)
  obtain ⟨⟨tk, op, ob, vl⟩, ex⟩ : ∃ X, l.getD k ev0 = X := ⟨_, rfl⟩
  have hop : (op == 12 || op == 13) = true := by rw [ex] at hacc; exact hacc
  have HCE : Hid (∀ W, Below w.heap.size w W → W.cell? ⟨tb, tof + k * 4, none⟩ = some (.int .i64 tk) ∧ W.cell? ⟨tb, tof + k * 4 + 1, none⟩ = some (.int .i64 op) ∧ W.cell? ⟨tb, tof + k * 4 + 2, none⟩ = some (.int .i64 ob) ∧ W.cell? ⟨tb, tof + k * 4 + 3, none⟩ = some (.int .i64 vl)) := fun W hW => (hli.below hW htb).ev (j := k) hk1 ex
  have HAC : Hid (∀ W, Calls Try.prog 6 #[.agg #[.int .i64 tk, .int .i64 op, .int .i64 ob, .int .i64 vl]] W fun e w' => e = .returned (.bool true) ∧ Below W.heap.size W w') := fun W => by have := access_any W tk op ob vl; rwa [hop] at this
  have hfit := hl.fits
  have j1 : ¬ (k : Int) < 1 := by omega
  have j2 : ¬ (n0 : Int) ≤ (k : Int) := by omega
  have j3 : (0 : Int) ≤ (k : Int) := by omega
  have j4 : (k : Int) < (n0 : Int) := by omega
  have j5 : (k : Int) ≤ (n0 : Int) := by omega
  have j6 : (n0 : Int) ≤ (c0 : Int) := by omega
  have j7 : (k : Int) ≤ (c0 : Int) := by omega
  have j8 : (k : Int) + 1 ≤ (c0 : Int) := by omega
  have j9 : (0 : Int) ≤ (k : Int) + 1 := by omega
  have j10 : (k : Int) + 1 ≤ (n0 : Int) := by omega
  have wi : IntKind.i64.wrap ((k : Int) + 1) = (k : Int) + 1 := wrapi (by omega) (by omega)
  clear hl hh hg hk hk1 hk2 hacc hli ex hop hln
  go_enter Try.func3, Try.ntmps3
  go_upto_region 6 with (first
    | (go_at_call 4; (with_reducible refine Calls.mono (raceBegun_any _) ?_); rintro e w1 ⟨rfl, hb1⟩; have HX1 := hide hb1; clear hb1)
    | (go_at_call 5; (with_reducible refine Calls.mono (unhide HCF _ (unhide HX1)) ?_); rintro e w2 ⟨rfl, hbx⟩; have HY3 := hide (Below.next (unhide HX1) hbx (Nat.le_refl _));  clear hbx))
  have HX3 := hide ((unhide HY3).alloc (unhide HY3).size (.cells #[.int .i64 0, .int .i64 0] 26 (0, 0))); have HF3 := hide (new_block w2 (.cells #[.int .i64 0, .int .i64 0] 26 (0, 0)))
  obtain ⟨V3, eV3⟩ : ∃ X, w2.heap.size = X := ⟨_, rfl⟩
  obtain ⟨W3, e3⟩ : ∃ X, w2.alloc (.cells #[.int .i64 0, .int .i64 0] 26 (0, 0)) = X := ⟨_, rfl⟩
  rw [e3] at HX3; rw [eV3, e3] at HF3; rw [eV3, e3]
  clear e3 eV3 HY3
  obtain ⟨g0, g1, gf0, gf1, gl⟩ := block2 (unhide HF3)
  go_upto_region 8 with fail
  obtain ⟨v0, v1, v2, v3⟩ := unhide HCE _ (unhide HX3)
  go_upto_region 10 with (go_at_call 6; (with_reducible refine Calls.mono (unhide HAC _) ?_); rintro e w4 ⟨rfl, hb4⟩; have HX4 := hide (Below.next (unhide HX3) hb4 (Nat.le_refl _)); clear hb4)
  clear v0 v1 v2 v3 g0 g1 gf0 gf1 gl
  go_upto_region 11 with (go_at_call 5; (with_reducible refine Calls.mono (unhide HCG _ (unhide HX4)) ?_); rintro e w5 ⟨rfl, hbx⟩; have HY6 := hide (Below.next (unhide HX4) hbx (Nat.le_refl _));  clear hbx)
  have HX6 := hide ((unhide HY6).alloc (unhide HY6).size (.cells #[.int .i64 6, .int .i64 0] 26 (0, 0))); have HF6 := hide (new_block w5 (.cells #[.int .i64 6, .int .i64 0] 26 (0, 0)))
  obtain ⟨V6, eV6⟩ : ∃ X, w5.heap.size = X := ⟨_, rfl⟩
  obtain ⟨W6, e6⟩ : ∃ X, w5.alloc (.cells #[.int .i64 6, .int .i64 0] 26 (0, 0)) = X := ⟨_, rfl⟩
  rw [e6] at HX6; rw [eV6, e6] at HF6; rw [eV6, e6]
  clear e6 eV6 HY6
  go_upto_region 12 with (go_at_call 5; (with_reducible refine Calls.mono (unhide HCH _ (unhide HX6)) ?_); rintro e w7 ⟨rfl, hb7⟩; have HY8 := hide (Below.next (unhide HX6) hb7 (Nat.le_refl _)); have HG7 := hide (keep_below (unhide HF6) hb7); clear hb7)
  have HX8 := hide ((unhide HY8).alloc (unhide HY8).size (.cells #[.int .i64 0, .int .i64 0] 26 (0, 0))); have HF8 := hide (new_block w7 (.cells #[.int .i64 0, .int .i64 0] 26 (0, 0))); have HG8 := hide (keep_alloc (unhide HG7) (.cells #[.int .i64 0, .int .i64 0] 26 (0, 0)))
  obtain ⟨V8, eV8⟩ : ∃ X, w7.heap.size = X := ⟨_, rfl⟩
  obtain ⟨W8, e8⟩ : ∃ X, w7.alloc (.cells #[.int .i64 0, .int .i64 0] 26 (0, 0)) = X := ⟨_, rfl⟩
  rw [e8] at HX8 HG8; rw [eV8, e8] at HF8; rw [eV8, e8]
  clear e8 eV8 HY8 HG7 HF6
  have HSS : Hid (∀ W', Below W8.heap.size W8 W' → (W'.cell? ⟨V6, 0, none⟩ = some (.int .i64 6) ∧ W'.cell? ⟨V6, 1, none⟩ = some (.int .i64 0)) ∧ W'.cell? ⟨V8, 0, none⟩ = some (.int .i64 0)) := fun W' hW => by
    obtain ⟨k0, k1, -, -, -⟩ := block2 (keep_below (unhide HG8) hW)
    obtain ⟨k2, -, -, -, -⟩ := block2 (keep_below (unhide HF8) hW)
    exact ⟨⟨k0, k1⟩, k2⟩
  have HS0 := hide (unhide HSS W8.drew (Below.refl _ _).drew)
  obtain ⟨⟨k0, k1⟩, k2⟩ := unhide HSS W8 (Below.refl _ _)
  have x6 : ((6 : Int) == 6) = true := rfl
  have x0 : ((0 : Int) == 0) = true := rfl
  have xk : ((k : Int) == (k : Int)) = true := by simp
  go_region_held3 (fun W' => (W'.cell? ⟨V6, 0, none⟩ = some (.int .i64 6) ∧ W'.cell? ⟨V6, 1, none⟩ = some (.int .i64 0)) ∧ W'.cell? ⟨V8, 0, none⟩ = some (.int .i64 0))
    (first | exact unhide HS0 | exact unhide HS9)
    (first
      | (go_at_call 7; (with_reducible refine Calls.mono (fault_any _ _ _) ?_); rintro e w9 ⟨rfl, hb9⟩; have hb10 := Below.next (Below.refl W8.heap.size W8).drew hb9 (Nat.le_refl _); have HS9 := hide (unhide HSS w9 hb10); have HX9 := hide (Below.next (unhide HX8) hb10 (Nat.le_refl _)); clear hb9 hb10))
  go_wp2_with fail
  go_ret
  exact ⟨rfl, unhide HX9⟩

theorem online_walk (w : World) (v0 : Value) (l : List Ev) (v1 : Value) (hs : List Int) (hl : IsL KE w v0 l) (_ml : l.length * 32 ≤ 140737488355328) (hh : IsL KI w v1 hs) (_mh : hs.length * 8 ≤ 140737488355328) :
    Calls Try.prog 3 #[v0, v1] w fun e w' => e = .returned (.bool true) ∧ Below w.heap.size w w' := by
  obtain ⟨a0, c0, rfl⟩ := hl.form
  obtain ⟨a1, c1, rfl⟩ := hh.form
  by_cases h1 : 300 < l.length
  · exact ro_long w a0 _ c0 a1 _ c1 h1
  · by_cases h2 : 100 < hs.length
    · exact ro_many w a0 _ c0 a1 _ c1 h1 h2
    · obtain ⟨⟨fc, fa⟩, hf⟩ : ∃ X, checkF hs l = X := ⟨_, rfl⟩
      by_cases hfc : fc = 0
      · have hg : GoodT hs l := good_of (by rw [hf]; exact hfc)
        cases hn : firstR hs l with
        | none => exact ro_none w a0 _ c0 a1 _ c1 l hs hl hh h1 h2 hg hn
        | some k => exact ro_some w a0 _ c0 a1 _ c1 l hs hl hh h1 h2 hg k hn
      · exact ro_fault w a0 _ c0 a1 _ c1 l hs hl hh h1 h2 fc fa hf hfc
end Go.Proofs.Ytbnmeeabpjmcoab
