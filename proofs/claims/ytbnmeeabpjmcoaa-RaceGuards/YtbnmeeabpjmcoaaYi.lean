/-
  taskmilllaw.RaceGuards: its walk.
-/
import Derived.Test.YtbnmeeabpjmcoaaYh
import Derived.Test.YtbnmeeabpjmcoaaV
namespace Go.Proofs.Ytbnmeeabpjmcoaa
open Go.RowKit

set_option maxRecDepth 100000 in
set_option maxHeartbeats 4000000 in
theorem gu_long (w : World) (a0 : Option Addr) (n0 c0 : Nat) (a1 : Option Addr) (n1 c1 : Nat) (h : 300 < n0) :
    Calls Try.prog 8 #[.slice a0 n0 c0, .slice a1 n1 c1] w fun e w' => e = .returned (.bool true) ∧ Below w.heap.size w w' := by
  have i1 : (300 : Int) < (n0 : Int) := by omega
  go_enter Try.func8, Try.ntmps8
  go_wp2_with (go_at_call 22; (with_reducible refine Calls.mono (raceBegun_any _) ?_); rintro e w1 ⟨rfl, hb1⟩; have HX1 := hide hb1; clear hb1)
  go_ret
  exact ⟨rfl, unhide HX1⟩

set_option maxRecDepth 100000 in
set_option maxHeartbeats 4000000 in
theorem gu_many (w : World) (a0 : Option Addr) (n0 c0 : Nat) (a1 : Option Addr) (n1 c1 : Nat) (h : ¬ 300 < n0) (h2 : 100 < n1) :
    Calls Try.prog 8 #[.slice a0 n0 c0, .slice a1 n1 c1] w fun e w' => e = .returned (.bool true) ∧ Below w.heap.size w w' := by
  have i1 : ¬ (300 : Int) < (n0 : Int) := by omega
  have i2 : (100 : Int) < (n1 : Int) := by omega
  go_enter Try.func8, Try.ntmps8
  go_wp2_with (go_at_call 22; (with_reducible refine Calls.mono (raceBegun_any _) ?_); rintro e w1 ⟨rfl, hb1⟩; have HX1 := hide hb1; clear hb1)
  go_ret
  exact ⟨rfl, unhide HX1⟩

set_option maxRecDepth 100000 in
set_option maxHeartbeats 4000000 in
theorem gu_fault (w : World) (a0 : Option Addr) (n0 c0 : Nat) (a1 : Option Addr) (n1 c1 : Nat) (l : List Ev) (hs : List Int) (hl : IsL KE w (.slice a0 n0 c0) l) (hh : IsL KI w (.slice a1 n1 c1) hs) (h : ¬ 300 < n0) (h2 : ¬ 100 < n1) (fc fa : Int) (hf : checkF hs l = (fc, fa)) (hfc : fc ≠ 0) :
    Calls Try.prog 8 #[.slice a0 n0 c0, .slice a1 n1 c1] w fun e w' => e = .returned (.bool true) ∧ Below w.heap.size w w' := by
  have i1 : ¬ (300 : Int) < (n0 : Int) := by omega
  have i2 : ¬ (100 : Int) < (n1 : Int) := by omega
  have x1 : (fc != 0) = true := by simpa using hfc
  have xx : ∀ b : Int, (b == b) = true := fun b => by simp
  have xy : ∀ b : Int, (b != b) = false := fun b => by simp
  have hln := hl.len
  have hhn := hh.len
  have HOT : Hid (∀ W, Below w.heap.size w W → Calls Try.prog 10 #[.slice a0 n0 c0] W fun e w' => ∃ a' c', e = .returned (.slice a' n0 c') ∧ IsL KE w' (.slice a' n0 c') l ∧ Below W.heap.size W w') := fun W hW => by
    refine (ownTrace_any W _ l (hl.below hW) (by omega)).mono ?_
    rintro e w' ⟨a', c', rfl, ho, hb⟩
    rw [hln] at ho ⊢
    exact ⟨a', c', rfl, ho.isl, hb⟩
  have HOW : Hid (∀ W, Below w.heap.size w W → Calls Try.prog 11 #[.slice a1 n1 c1] W fun e w' => ∃ a' c', e = .returned (.slice a' n1 c') ∧ IsL KI w' (.slice a' n1 c') hs ∧ Below W.heap.size W w') := fun W hW => by
    refine (own_any W _ hs (hh.below hW) (by omega)).mono ?_
    rintro e w' ⟨a', c', rfl, ho, hb⟩
    rw [hhn] at ho ⊢
    exact ⟨a', c', rfl, ho.isl, hb⟩
  have HTF : Hid (∀ W, Below w.heap.size w W → Calls Try.prog 15 #[.slice a0 n0 c0, .slice a1 n1 c1] W fun e w' => e = .returned (.agg #[.int .i64 fc, .int .i64 fa]) ∧ Below W.heap.size W w') := fun W hW => by
    have := tf_any W a0 n0 c0 a1 n1 c1 l hs (hl.below hW) (hh.below hW)
    rwa [hf] at this
  have HF := hide hf; have HFC := hide hfc
  clear hl hh hf hfc hln hhn
  go_enter Try.func8, Try.ntmps8
  go_upto_region 6 with (first
    | (go_at_call 22; (with_reducible refine Calls.mono (raceBegun_any _) ?_); rintro e w1 ⟨rfl, hb1⟩; have HX1 := hide hb1; clear hb1)
    | (go_at_call 10; (with_reducible refine Calls.mono (unhide HOT _ (unhide HX1)) ?_); rintro e w2 ⟨b2, d2, rfl, ht2, hb2⟩; have HX2 := hide (Below.next (unhide HX1) hb2 (Nat.le_refl _)); have HT2 := hide ht2; clear ht2 hb2)
    | (go_at_call 11; (with_reducible refine Calls.mono (unhide HOW _ (unhide HX2)) ?_); rintro e w3 ⟨b3, d3, rfl, hp3, hb3⟩; have HX3 := hide (Below.next (unhide HX2) hb3 (Nat.le_refl _)); have HT3 := hide ((unhide HT2).below hb3); have HP3 := hide hp3; clear hp3 hb3)
    | (go_at_call 27; (with_reducible refine Calls.mono (guards_fault w3 b2 n0 d2 b3 n1 d3 l hs (unhide HT3) (unhide HP3) fc fa (unhide HF) (unhide HFC)) ?_); rintro e w4 ⟨rfl, hb4⟩; have HX4 := hide (Below.next (unhide HX3) hb4 (Nat.le_refl _)); clear hb4))
  have HX5 := hide ((unhide HX4).alloc (unhide HX4).size (.cells #[.int .i64 fc, .int .i64 fa] 28 (0, 0))); have HF5 := hide (new_block w4 (.cells #[.int .i64 fc, .int .i64 fa] 28 (0, 0)))
  obtain ⟨V5, eV5⟩ : ∃ X, w4.heap.size = X := ⟨_, rfl⟩
  obtain ⟨W5, e5⟩ : ∃ X, w4.alloc (.cells #[.int .i64 fc, .int .i64 fa] 28 (0, 0)) = X := ⟨_, rfl⟩
  rw [e5] at HX5; rw [eV5, e5] at HF5; rw [eV5, e5]
  clear e5 eV5
  go_upto_region 7 with (go_at_call 15; (with_reducible refine Calls.mono (unhide HTF _ (unhide HX5)) ?_); rintro e w6 ⟨rfl, hb6⟩; have HX6 := hide (Below.next (unhide HX5) hb6 (Nat.le_refl _)); have HG6 := hide (keep_below (unhide HF5) hb6); clear hb6)
  have HX7 := hide ((unhide HX6).alloc (unhide HX6).size (.cells #[.int .i64 fc, .int .i64 fa] 28 (0, 0))); have HF7 := hide (new_block w6 (.cells #[.int .i64 fc, .int .i64 fa] 28 (0, 0))); have HG7 := hide (keep_alloc (unhide HG6) (.cells #[.int .i64 fc, .int .i64 fa] 28 (0, 0)))
  obtain ⟨V7, eV7⟩ : ∃ X, w6.heap.size = X := ⟨_, rfl⟩
  obtain ⟨W7, e7⟩ : ∃ X, w6.alloc (.cells #[.int .i64 fc, .int .i64 fa] 28 (0, 0)) = X := ⟨_, rfl⟩
  rw [e7] at HX7 HG7; rw [eV7, e7] at HF7; rw [eV7, e7]
  clear e7 eV7
  obtain ⟨q0, q1, f0, f1, ql⟩ := block2 (unhide HG7)
  obtain ⟨g0, g1, gf0, gf1, gl⟩ := block2 (unhide HF7)
  go_wp2_with fail
  go_ret
  exact ⟨rfl, unhide HX7⟩

set_option maxRecDepth 100000 in
set_option maxHeartbeats 4000000 in
theorem gu_main (w : World) (a0 : Option Addr) (n0 c0 : Nat) (a1 : Option Addr) (n1 c1 : Nat) (l : List Ev) (hs : List Int) (hl : IsL KE w (.slice a0 n0 c0) l) (hh : IsL KI w (.slice a1 n1 c1) hs) (h : ¬ 300 < n0) (h2 : ¬ 100 < n1) (hg : GoodT hs l) :
    Calls Try.prog 8 #[.slice a0 n0 c0, .slice a1 n1 c1] w fun e w' => e = .returned (.bool true) ∧ Below w.heap.size w w' := by
  have i1 : ¬ (300 : Int) < (n0 : Int) := by omega
  have i2 : ¬ (100 : Int) < (n1 : Int) := by omega
  have hln := hl.len
  have hhn := hh.len
  have HOT : Hid (∀ W, Below w.heap.size w W → Calls Try.prog 10 #[.slice a0 n0 c0] W fun e w' => ∃ a' c', e = .returned (.slice a' n0 c') ∧ IsL KE w' (.slice a' n0 c') l ∧ Below W.heap.size W w') := fun W hW => by
    refine (ownTrace_any W _ l (hl.below hW) (by omega)).mono ?_
    rintro e w' ⟨a', c', rfl, ho, hb⟩
    rw [hln] at ho ⊢
    exact ⟨a', c', rfl, ho.isl, hb⟩
  have HOW : Hid (∀ W, Below w.heap.size w W → Calls Try.prog 11 #[.slice a1 n1 c1] W fun e w' => ∃ a' c', e = .returned (.slice a' n1 c') ∧ IsL KI w' (.slice a' n1 c') hs ∧ Below W.heap.size W w') := fun W hW => by
    refine (own_any W _ hs (hh.below hW) (by omega)).mono ?_
    rintro e w' ⟨a', c', rfl, ho, hb⟩
    rw [hhn] at ho ⊢
    exact ⟨a', c', rfl, ho.isl, hb⟩
  have hf := hg.zero
  have HTF : Hid (∀ W, Below w.heap.size w W → Calls Try.prog 15 #[.slice a0 n0 c0, .slice a1 n1 c1] W fun e w' => e = .returned (.agg #[.int .i64 0, .int .i64 0]) ∧ Below W.heap.size W w') := fun W hW => by
    have := tf_any W a0 n0 c0 a1 n1 c1 l hs (hl.below hW) (hh.below hW)
    rwa [hf] at this
  have hob := good_objs hg
  have hmc := cells_nn hob n0 (by omega)
  obtain ⟨m, hm⟩ : ∃ m : Nat, cellsN l n0 = (m : Int) := ⟨(cellsN l n0).toNat, by omega⟩
  have HM := hide hm; have HG := hide hg; have HOB := hide hob; have HLN := hide hln
  have HL := hide hl; have HH := hide hh
  have HTR := hide (hl.opens ke hln)
  clear hl hh hf hg hln hhn hob hm hmc
  go_enter Try.func8, Try.ntmps8
  go_upto_region 6 with (first
    | (go_at_call 22; (with_reducible refine Calls.mono (raceBegun_any _) ?_); rintro e w1 ⟨rfl, hb1⟩; have HX1 := hide hb1; clear hb1)
    | (go_at_call 10; (with_reducible refine Calls.mono (unhide HOT _ (unhide HX1)) ?_); rintro e w2 ⟨b2, d2, rfl, ht2, hb2⟩; have HX2 := hide (Below.next (unhide HX1) hb2 (Nat.le_refl _)); have HT2 := hide ht2; clear ht2 hb2)
    | (go_at_call 11; (with_reducible refine Calls.mono (unhide HOW _ (unhide HX2)) ?_); rintro e w3 ⟨b3, d3, rfl, hp3, hb3⟩; have HX3 := hide (Below.next (unhide HX2) hb3 (Nat.le_refl _)); have HT3 := hide ((unhide HT2).below hb3); have HP3 := hide hp3; clear hp3 hb3)
    | (go_at_call 27; (with_reducible refine Calls.mono (guards_good w3 b2 n0 d2 b3 n1 d3 l hs (unhide HT3) (unhide HP3) (unhide HG) m (unhide HM)) ?_); rintro e w4 ⟨G, rfl, hr4, hb4⟩; have HX4 := hide (Below.next (unhide HX3) hb4 (Nat.le_refl _)); have HR4 := hide hr4; clear hr4; clear hb4))
  have HX5 := hide ((unhide HX4).alloc (unhide HX4).size (.cells #[.int .i64 0, .int .i64 0] 28 (0, 0))); have HF5 := hide (new_block w4 (.cells #[.int .i64 0, .int .i64 0] 28 (0, 0))); have HR5 := hide ((unhide HR4).below ((Below.refl _ _).alloc (Nat.le_refl _) (.cells #[.int .i64 0, .int .i64 0] 28 (0, 0))))
  obtain ⟨V5, eV5⟩ : ∃ X, w4.heap.size = X := ⟨_, rfl⟩
  obtain ⟨W5, e5⟩ : ∃ X, w4.alloc (.cells #[.int .i64 0, .int .i64 0] 28 (0, 0)) = X := ⟨_, rfl⟩
  rw [e5] at HX5 HR5; rw [eV5, e5] at HF5; rw [eV5, e5]
  clear e5 eV5
  go_upto_region 7 with (go_at_call 15; (with_reducible refine Calls.mono (unhide HTF _ (unhide HX5)) ?_); rintro e w6 ⟨rfl, hb6⟩; have HX6 := hide (Below.next (unhide HX5) hb6 (Nat.le_refl _)); have HG6 := hide (keep_below (unhide HF5) hb6); have HR6 := hide ((unhide HR5).below hb6); clear hb6)
  have HX7 := hide ((unhide HX6).alloc (unhide HX6).size (.cells #[.int .i64 0, .int .i64 0] 28 (0, 0))); have HF7 := hide (new_block w6 (.cells #[.int .i64 0, .int .i64 0] 28 (0, 0))); have HG7 := hide (keep_alloc (unhide HG6) (.cells #[.int .i64 0, .int .i64 0] 28 (0, 0))); have HR7 := hide ((unhide HR6).below ((Below.refl _ _).alloc (Nat.le_refl _) (.cells #[.int .i64 0, .int .i64 0] 28 (0, 0))))
  obtain ⟨V7, eV7⟩ : ∃ X, w6.heap.size = X := ⟨_, rfl⟩
  obtain ⟨W7, e7⟩ : ∃ X, w6.alloc (.cells #[.int .i64 0, .int .i64 0] 28 (0, 0)) = X := ⟨_, rfl⟩
  rw [e7] at HX7 HG7 HR7; rw [eV7, e7] at HF7; rw [eV7, e7]
  clear e7 eV7
  obtain ⟨q0, q1, f0, f1, ql⟩ := block2 (unhide HG7)
  obtain ⟨g0, g1, gf0, gf1, gl⟩ := block2 (unhide HF7)
  go_upto_region 11 with fail
  clear q0 q1 f0 f1 ql g0 g1 gf0 gf1 gl
  have HZ : Hid (Below W7.heap.size W7 W7) := Below.refl _ _
  go_wp2_with fail
  go_loopw [8, 9] (fun s8 i wr => ∃ (j : Nat) (v : Int), j ≤ n0 ∧ i = .int .i64 (j : Int) ∧ s8 = .int .i64 v ∧ Hid (cellsN l j = v) ∧ Hid (Below W7.heap.size W7 wr)) (fun _ i _ => n0 - (intOf i).toNat)
  case atStart => exact ⟨0, 0, Nat.zero_le _, rfl, rfl, hide rfl, HZ⟩
  case round =>
    obtain ⟨j, v, hj, rfl, rfl, HV, HBj⟩ := hrel
    clear HZ
    by_cases hlt : j < n0
    · have i0 : (0 : Int) ≤ (j : Int) := by omega
      have i3 : (j : Int) < (n0 : Int) := by omega
      have hw1 : IntKind.i64.wrap ((j : Int) + 1) = (j : Int) + 1 := wrapi (by omega) (by omega)
      obtain ⟨tb, tof, rfl, htb, hli⟩ := unhide HTR (by omega)
      obtain ⟨⟨tk, op, ob, vl⟩, ex⟩ : ∃ X, l.getD j ev0 = X := ⟨_, rfl⟩
      have HCE : Hid (∀ W, Below W7.heap.size W7 W → W.cell? ⟨tb, tof + j * 4, none⟩ = some (.int .i64 tk) ∧ W.cell? ⟨tb, tof + j * 4 + 1, none⟩ = some (.int .i64 op) ∧ W.cell? ⟨tb, tof + j * 4 + 2, none⟩ = some (.int .i64 ob) ∧ W.cell? ⟨tb, tof + j * 4 + 3, none⟩ = some (.int .i64 vl)) := fun W hW => (hli.below ((unhide HX7).trans (hW.mono (unhide HX7).size)) htb).ev (j := j) (by rw [unhide HLN]; exact hlt) ex
      obtain ⟨q, hq⟩ : ∃ X, (op == 12 || op == 13) = X := ⟨_, rfl⟩
      have HAC : Hid (∀ W, Calls Try.prog 28 #[.agg #[.int .i64 tk, .int .i64 op, .int .i64 ob, .int .i64 vl]] W fun e w' => e = .returned (.bool q) ∧ Below W.heap.size W w') := fun W => by have := access_any W tk op ob vl; rwa [hq] at this
      have HQQ := hide (show isAcc (l.getD j ev0) = q by rw [ex]; exact hq)
      have HOO := hide (show (l.getD j ev0).obj = ob by rw [ex])
      have hob := (unhide HOB) j (by rw [unhide HLN]; exact hlt)
      rw [unhide HOO] at hob
      have hvn := cells_nn (unhide HOB) j (by rw [unhide HLN]; omega)
      rw [unhide HV] at hvn
      have wo : IntKind.i64.wrap (ob + 1) = ob + 1 := wrapi (by omega) (by omega)
      obtain ⟨k0, k1, k2, k3⟩ := unhide HCE _ (unhide HBj)
      clear hli ex hq
      have ARM : True := trivial
      cases q
      · have HS := hide (show cellsN l (j + 1) = v by show (if isAcc (l.getD j ev0) then _ else _) = v; rw [unhide HQQ, unhide HV]; rfl)
        go_wp2_with (go_at_call 28; (with_reducible refine Calls.mono (unhide HAC _) ?_); rintro e w9 ⟨rfl, hb9⟩; have HB9 := hide ((unhide HBj).trans (hb9.mono (unhide HBj).size)); clear hb9)
        go_roundw
        case rel => exact ⟨j + 1, v, by omega, by go_num, rfl, HS, HB9⟩
        case measure => simp [intOf]; omega
      · have HS0 := hide (show cellsN l (j + 1) = max v (ob + 1) by show (if isAcc (l.getD j ev0) then _ else _) = _; rw [unhide HQQ, unhide HV, unhide HOO]; rfl)
        by_cases hbig : v < ob + 1
        · have HS := hide (show cellsN l (j + 1) = ob + 1 by rw [unhide HS0]; omega)
          go_wp2_with (go_at_call 28; (with_reducible refine Calls.mono (unhide HAC _) ?_); rintro e w9 ⟨rfl, hb9⟩; have HB9 := hide ((unhide HBj).trans (hb9.mono (unhide HBj).size)); obtain ⟨m0, m1, m2, m3⟩ := unhide HCE _ (unhide HB9); clear hb9)
          go_roundw
          case rel => exact ⟨j + 1, ob + 1, by omega, by go_num, rfl, HS, HB9⟩
          case measure => simp [intOf]; omega
        · have HS := hide (show cellsN l (j + 1) = v by rw [unhide HS0]; omega)
          go_wp2_with (go_at_call 28; (with_reducible refine Calls.mono (unhide HAC _) ?_); rintro e w9 ⟨rfl, hb9⟩; have HB9 := hide ((unhide HBj).trans (hb9.mono (unhide HBj).size)); obtain ⟨m0, m1, m2, m3⟩ := unhide HCE _ (unhide HB9); clear hb9)
          go_roundw
          case rel => exact ⟨j + 1, v, by omega, by go_num, rfl, HS, HB9⟩
          case measure => simp [intOf]; omega
    · obtain rfl : j = n0 := by omega
      have i3 : ¬ (j : Int) < (j : Int) := by omega
      have hvm : v = (m : Int) := (unhide HV).symm.trans (unhide HM)
      subst hvm
      have xm : ((m : Int) != (m : Int)) = false := by simp
      have HRR := hide ((unhide HR7).below (unhide HBj))
      have HXX := hide ((unhide HX7).trans ((unhide HBj).mono (unhide HX7).size))
      go_upto_region 19 with fail
      exact gu_tail w a0 _ c0 a1 n1 c1 l hs (unhide HL) (unhide HH) (by omega) (unhide HG) G m (unhide HM) wr (unhide HRR) (unhide HXX) _ _ _ _ _ (by assumption) (by assumption) (by kernel_rfl)

theorem guards_walk (w : World) (v0 : Value) (l : List Ev) (v1 : Value) (hs : List Int) (hl : IsL KE w v0 l) (_ml : l.length * 32 ≤ 140737488355328) (hh : IsL KI w v1 hs) (_mh : hs.length * 8 ≤ 140737488355328) :
    Calls Try.prog 8 #[v0, v1] w fun e w' => e = .returned (.bool true) ∧ Below w.heap.size w w' := by
  obtain ⟨a0, c0, rfl⟩ := hl.form
  obtain ⟨a1, c1, rfl⟩ := hh.form
  by_cases h1 : 300 < l.length
  · exact gu_long w a0 _ c0 a1 _ c1 h1
  · by_cases h2 : 100 < hs.length
    · exact gu_many w a0 _ c0 a1 _ c1 h1 h2
    · obtain ⟨⟨fc, fa⟩, hf⟩ : ∃ X, checkF hs l = X := ⟨_, rfl⟩
      by_cases hfc : fc = 0
      · exact gu_main w a0 _ c0 a1 _ c1 l hs hl hh h1 h2 (good_of (by rw [hf]; exact hfc))
      · exact gu_fault w a0 _ c0 a1 _ c1 l hs hl hh h1 h2 fc fa hf hfc
end Go.Proofs.Ytbnmeeabpjmcoaa
