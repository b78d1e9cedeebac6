/-
  wait.changed.
-/
import Derived.Test.YtjlcfdhghohccaaH
namespace Go.Proofs.Ytjlcfdhghohccaa
open Go.RowKit

/-- All blocks but those from lo up to hi are as they were. -/
structure Gap (lo hi : Nat) (w w' : World) : Prop where
  os : w'.os = w.os
  tape : w'.tape = w.tape
  output : w'.output = w.output
  size : w.heap.size ≤ w'.heap.size
  block : ∀ k, k < w.heap.size → k < lo ∨ hi ≤ k → w'.heap[k]? = w.heap[k]?
theorem Gap.of_below {lo hi : Nat} {w w' : World} (h : Below w.heap.size w w') : Gap lo hi w w' := ⟨h.os, h.tape, h.output, h.size, fun k hk _ => h.block k hk⟩
theorem Gap.low {lo hi : Nat} {w w' : World} (h : Gap lo hi w w') (hl : lo ≤ w.heap.size) : Below lo w w' := ⟨h.os, h.tape, h.output, h.size, fun k hk => h.block k (by omega) (Or.inl hk)⟩
theorem OwnL.gap {base lo hi : Nat} {w w' : World} {v : Value} {rs : List Rl} (h : OwnL base w v rs) (hg : Gap lo hi w w') (hb : hi ≤ base) : OwnL base w' v rs := h.keep fun k h1 h2 => hg.block k h2 (Or.inr (by omega))

theorem ReadsO.gap {base lo hi : Nat} {w w' : World} {rs : List Rl} {ls : List Ln} (h : ReadsO base w rs ls) (hg : Gap lo hi w w') (hb : hi ≤ base) : ReadsO base w' rs ls := h.keep fun k h1 h2 => hg.block k h2 (Or.inr (by omega))
theorem made_own (w : World) (n : Nat) (hn : n ≤ 100000) (Z : Array Value) (hZ : Z.size = n * 2) : OwnL w.heap.size (w.alloc (.cells Z 55)) (.slice (some ⟨w.heap.size, 0, none⟩) 0 n) [] :=
  ⟨rfl, Or.inr ⟨w.heap.size, n, Z, rfl, Nat.le_refl _, new_block w _, Nat.zero_le _, by unfold maxLen; omega, hZ, by simp [flatL]⟩⟩
theorem make_lines (n : Nat) (hn : n ≤ 100000) : ∃ Z : Array Value, Z.size = (n + 1) * 2 ∧ ∀ W, (Instr.makeSlice 22 (.int .i64 0) (.int .i64 ((n : Int) + 1))).run Try.prog W = .ok (.slice (some ⟨W.heap.size, 0, none⟩) 0 (n + 1)) (W.alloc (.cells Z 55)) := by
  obtain ⟨i0, hi, hz0, hz1, hz2⟩ := info_parts Try.info55
  refine ⟨madeCells (Value.agg #[.int .i64 0, .slice none 0 0]).cells ((n + 1) * 2), size_madeCells _ _, fun W => ?_⟩
  have := run_make (P := Try.prog) W 22 55 i0 _ Try.underlying22 hi hz0 .i64 .i64 0 ((n : Int) + 1) (by omega) (by omega) (by rw [hz2]; omega) (by omega)
  rw [hz1, show ((n : Int) + 1).toNat = n + 1 by omega] at this
  exact this

/-- The slice v is lines in new memory, from the block base on. -/
def FreshL (base : Nat) (w : World) (v : Value) (ls : List Ln) : Prop := ∃ rs, OwnL base w v rs ∧ ReadsO base w rs ls
theorem FreshL.ls {base : Nat} {w : World} {v : Value} {ls : List Ln} (h : FreshL base w v ls) : IsLs w v ls := by
  obtain ⟨rs, h1, h2⟩ := h
  exact h1.ls h2.reads
theorem FreshL.keep {base : Nat} {w w' : World} {v : Value} {ls : List Ln} (h : FreshL base w v ls) (hk : ∀ k, base ≤ k → k < w.heap.size → w'.heap[k]? = w.heap[k]?) : FreshL base w' v ls := by
  obtain ⟨rs, h1, h2⟩ := h
  exact ⟨rs, h1.keep hk, h2.keep hk⟩
theorem FreshL.below {base : Nat} {w w' : World} {v : Value} {ls : List Ln} (h : FreshL base w v ls) (hb : Below w.heap.size w w') : FreshL base w' v ls := h.keep fun k _ hk => hb.block k hk
theorem FreshL.base {base base' : Nat} {w : World} {v : Value} {ls : List Ln} (h : FreshL base w v ls) (hb : base' ≤ base) : FreshL base' w v ls := by
  obtain ⟨rs, h1, h2⟩ := h
  exact ⟨rs, h1.base hb, h2.len, fun j hj => ⟨(h2.at' j hj).1, (h2.at' j hj).2.base hb⟩⟩
theorem FreshL.set2 {base : Nat} {w : World} {v : Value} {ls : List Ln} (h : FreshL base w v ls) {r : Nat} (hr : r < base) (x y : Value) : FreshL base ((w.setCell ⟨r, 0, none⟩ x).setCell ⟨r, 1, none⟩ y) v ls :=
  h.keep fun k hk _ => by
    have hne : k ≠ r := by omega
    rw [Below.heap_setCell _ _ _ _ (by simpa using hne), Below.heap_setCell _ _ _ _ (by simpa using hne)]

/-- The lines, with other tasks at an address. -/
def setL (x : Int) (zs : List Int) (ls : List Ln) : List Ln := ls.take (posL x ls) ++ ((if zs = [] then [] else [(x, zs)]) ++ ls.drop (posL x ls + if thereL x ls = true then 1 else 0))
/-- The tasks at an address, by its place. -/
def tasksL (x : Int) (ls : List Ln) : List Int := if thereL x ls = true then (lAt ls (posL x ls)).2 else []

theorem IsLs.take {w : World} {a : Option Addr} {n c : Nat} {ls : List Ln} (h : IsLs w (.slice a n c) ls) {p : Nat} (hp : p ≤ n) : IsLs w (.slice a p c) (ls.take p) := by
  have hl := h.len
  have hc := h.fits
  by_cases h0 : 0 < n
  · obtain ⟨b, off, rfl, hb, hcs⟩ := h.opens hl h0
    have e : (ls.take p).length = p := by rw [List.length_take]; omega
    have := (hcs.take p).ls c (by omega)
    rw [e] at this
    exact this
  · have e : n = 0 := by omega
    subst e
    have e2 : ls = [] := List.eq_nil_of_length_eq_zero hl
    have e3 : p = 0 := by omega
    subst e2 e3
    exact h
theorem IsLs.drop {w : World} {b off : Nat} {n c : Nat} {ls : List Ln} (h : IsLs w (.slice (some ⟨b, off, none⟩) n c) ls) {p : Nat} (hp : p ≤ n) (hn : 0 < n) : IsLs w (.slice (some ⟨b, off + p * 2, none⟩) (n - p) (c - p)) (ls.drop p) := by
  have hl := h.len
  have hc := h.fits
  obtain ⟨b', off', e, hb, hcs⟩ := h.opens hl hn
  cases e
  have e : (ls.drop p).length = n - p := by rw [List.length_drop]; omega
  have := (hcs.drop p).ls (c - p) (by omega)
  rw [e] at this
  exact this
theorem IsLs.none_left {w : World} {ad : Addr} {c p : Nat} {ls : List Ln} (hp : ls.length ≤ p) : IsLs w (.slice (some ad) 0 c) (ls.drop p) := by
  rw [List.drop_eq_nil_of_le hp]
  exact ⟨⟨[], ⟨rfl, Or.inr ⟨ad, c, rfl, fun j u hj => by simp [flatL] at hj⟩⟩, Reads.nil w⟩, fits_of (Nat.zero_le _)⟩

set_option maxRecDepth 100000 in
set_option maxHeartbeats 2000000 in
theorem changed_any (w0 w : World) (a : Option Addr) (n c : Nat) (ls : List Ln) (hl : ls.length = n) (h : IsLs w0 (.slice a n c) ls) (h0 : Below w0.heap.size w0 w) (hm : n ≤ 40000) (ht : (waitL ls).length ≤ 50000) (hs : Rises ls)
    (x : Int) (k : Nat) (hent : ∀ args w, (callFunc k args).run Try.prog w = .ok (.enter k args) w) (caps : Array Value) (zs : List Int) (hz : zs.length ≤ 50000) (P : World → Prop) (hP : ∀ W W', P W → Steady W W' → P W')
    (hc : ∀ W a' c', Below w.heap.size w W → IsInts W (.slice a' (tasksL x ls).length c') (tasksL x ls) → Calls Try.prog k (#[.slice a' (tasksL x ls).length c'] ++ caps) W fun e W' => ∃ a2 c2, e = .returned (.slice a2 zs.length c2) ∧ IsInts W' (.slice a2 zs.length c2) zs ∧ P W' ∧ Gap w0.heap.size w.heap.size W W') :
    Calls Try.prog 32 #[.slice a n c, .int .i64 x, .func (.func k) #[] caps] w fun e w' => ∃ a' c', e = .returned (.slice a' (setL x zs ls).length c') ∧ FreshL w.heap.size w' (.slice a' (setL x zs ls).length c') (setL x zs ls) ∧ P w' ∧ Below w0.heap.size w0 w' := by
  have hfit := h.fits
  have hple : posL x ls ≤ n := by rw [← hl]; exact posL_le x ls
  have HPL : Hid (Calls Try.prog 44 #[.slice a n c, .int .i64 x] w fun e w' => e = .returned (.tuple #[.int .i64 (posL x ls : Nat), .bool (thereL x ls)]) ∧ Below w.heap.size w w') := place_any w _ n c x ls hl (h.below h0) (by omega) hs
  have HTH : Hid (thereL x ls = true → posL x ls < n) := fun h2 => by
    unfold thereL at h2
    simp at h2
    rw [← hl]
    exact h2.1
  have HC := hide hc; have HV := hide h; have H0 := hide h0; have HL := hide hl; have HT := hide ht; have HPP := hide hP
  unfold setL
  unfold tasksL at HC
  obtain ⟨p, hp⟩ : ∃ p, posL x ls = p := ⟨_, rfl⟩
  obtain ⟨t, htt⟩ : ∃ t, thereL x ls = t := ⟨_, rfl⟩
  rw [hp, htt] at HPL HTH HC ⊢
  rw [hp] at hple
  obtain ⟨T, hT⟩ : ∃ T, (if t = true then (lAt ls p).2 else []) = T := ⟨_, rfl⟩
  obtain ⟨R, hR⟩ : ∃ R, ls.drop (p + if t = true then 1 else 0) = R := ⟨_, rfl⟩
  obtain ⟨AH, hAH⟩ : ∃ AH, ls.take p = AH := ⟨_, rfl⟩
  rw [hT] at HC
  rw [hR, hAH]
  obtain ⟨m, hTm⟩ : ∃ m, T.length = m := ⟨_, rfl⟩
  obtain ⟨r, hRr⟩ : ∃ r, R.length = r := ⟨_, rfl⟩
  obtain ⟨zn, hzn⟩ : ∃ z, zs.length = z := ⟨_, rfl⟩
  rw [hTm, hzn] at HC
  rw [hzn] at hz
  have hAHl : AH.length = p := by rw [← hAH, List.length_take]; omega
  have hrn : r ≤ n := by rw [← hRr, ← hR, List.length_drop]; omega
  have htA : (waitL AH).length ≤ 50000 := by rw [← hAH]; exact Nat.le_trans (waitL_take_le _ _) ht
  have htR : (waitL R).length ≤ 50000 := by rw [← hR]; exact Nat.le_trans (waitL_drop_le _ _) ht
  obtain ⟨L, hL⟩ : ∃ L, AH ++ ((if zs = [] then [] else [(x, zs)]) ++ R) = L := ⟨_, rfl⟩
  rw [hL]
  obtain ⟨ln, hln⟩ : ∃ k, L.length = k := ⟨_, rfl⟩
  rw [hln]
  have HLE := hide hL; have HLn := hide hln
  clear hL hln
  have HTE := hide hT; have HRE := hide hR; have HTm := hide hTm; have HRr := hide hRr; have HAl := hide hAHl; have HZN := hide hzn
  have HAH := hide ((unhide HV).take hple)
  rw [hAH] at HAH
  clear hc h h0 hl ht hs hP hp htt hT hR hAH hTm hRr hAHl hzn
  have HBE : Hid (∀ b off, a = some ⟨b, off, none⟩ → 0 < n → ∀ A, (A = if c = p then some ⟨b, off, none⟩ else some ⟨b, off + p * 2, none⟩) → IsLs w0 (.slice A (n - p) (c - p)) (ls.drop p)) := fun b off ha hn A hA => by
    have hv := unhide HV
    rw [ha] at hv
    by_cases e : c = p
    · rw [if_pos e] at hA
      subst hA
      have : n = p := by omega
      subst this
      rw [Nat.sub_self]
      exact IsLs.none_left (by rw [unhide HL]; exact Nat.le_refl _)
    · rw [if_neg e] at hA
      subst hA
      exact hv.drop hple hn
  have HBE2 : Hid (∀ b off, a = some ⟨b, off, none⟩ → ∀ A, p < n → (A = if c = p + 1 then some ⟨b, off, none⟩ else some ⟨b, off + (p + 1) * 2, none⟩) → IsLs w0 (.slice A (n - (p + 1)) (c - (p + 1))) (ls.drop (p + 1))) := fun b off ha A hpn hA => by
    have hv := unhide HV
    rw [ha] at hv
    by_cases e : c = p + 1
    · rw [if_pos e] at hA
      subst hA
      have e2 : n - (p + 1) = 0 := by omega
      rw [e2]
      exact IsLs.none_left (by rw [unhide HL]; omega)
    · rw [if_neg e] at hA
      subst hA
      exact hv.drop (by omega) (by omega)
  obtain ⟨Zm, hZm, hmk⟩ := make_lines n (by omega)
  have HZM := hide hZm
  clear hZm
  have i0 : (0 : Int) ≤ (p : Int) := by omega
  have i1 : (p : Int) ≤ (n : Int) := by omega
  have i2 : (p : Int) ≤ (c : Int) := by omega
  have i3 : (n : Int) ≤ (c : Int) := by omega
  go_enter Try.func32, Try.ntmps32
  go_upto_region 3 with (go_at_call 44; refine (unhide HPL).mono ?_; rintro e w1 ⟨rfl, hb1⟩; have HX1 := hide hb1; clear hb1)
  go_cut [10, 11] (fun v10 v11 W => (∃ A1 c1 A2 c2, v10 = .slice A1 p c1 ∧ IsLs w0 (.slice A1 p c1) AH ∧ v11 = .slice A2 (n - p) c2 ∧ IsLs w0 (.slice A2 (n - p) c2) (ls.drop p)) ∧ Below w.heap.size w W)
  case first =>
    by_cases hn : 0 < n
    · obtain ⟨b, off, rfl, hb, hcs⟩ := (unhide HV).opens (unhide HL) hn
      clear hb hcs
      go_quiet (fail)
      obtain ⟨A, hA⟩ : ∃ A, (if c = p then some (⟨b, off, none⟩ : Addr) else some ⟨b, off + p * 2, none⟩) = A := ⟨_, rfl⟩
      rw [hA]
      have HB1 := hide (unhide HBE b off rfl hn A hA.symm)
      clear hA
      go_wp2_with fail
      go_meet
      case rel => exact ⟨⟨_, _, A, _, rfl, unhide HAH, rfl, unhide HB1⟩, below_drewN (unhide HX1) _⟩
    · obtain rfl : n = 0 := by omega
      obtain rfl : p = 0 := by omega
      obtain rfl : ls = [] := List.eq_nil_of_length_eq_zero (unhide HL)
      cases a with
      | none =>
        have e : c = 0 := by
          obtain ⟨⟨rs, ⟨_, ⟨h1, _⟩ | ⟨ad, cap, h1, _⟩⟩, _⟩, _⟩ := unhide HV
          · cases h1; rfl
          · cases h1
        subst e
        go_quiet (fail)
        go_wp2_with fail
        go_meet
        case rel => exact ⟨⟨_, _, none, 0, rfl, unhide HAH, rfl, ls_nil _⟩, below_drewN (unhide HX1) _⟩
      | some ad =>
        go_quiet (fail)
        go_wp2_with fail
        go_meet
        case rel => exact ⟨⟨_, _, some ad, c, rfl, unhide HAH, rfl, unhide HV⟩, below_drewN (unhide HX1) _⟩
  case rest =>
  obtain ⟨⟨A1, c1, A, c11, rfl, hah, rfl, hbe⟩, hx2⟩ := hcut
  clear HAH
  have HAH := hide hah; have HB1 := hide hbe; have HX2 := hide hx2
  clear hah hbe hx2 HPL HX1 HBE
  obtain ⟨W2, eW2⟩ : ∃ W, wc = W := ⟨_, rfl⟩
  rw [eW2] at HX2
  rw [eW2]
  clear eW2 wc
  go_upto_if 25 with fail
  go_cut [7, 11] (fun v7 v11 W => (∃ a7 c7 A2 c2, v7 = .slice a7 m c7 ∧ IsInts w0 (.slice a7 m c7) T ∧ v11 = .slice A2 r c2 ∧ IsLs w0 (.slice A2 r c2) R) ∧ Below w.heap.size w W)
  case first =>
    cases t with
    | false =>
      have h1 := unhide HTE
      have h2 := unhide HRE
      simp at h1 h2
      have h3 := unhide HTm
      rw [h1] at h3
      have h4 := unhide HB1
      have h5 := h4.len
      rw [h2] at h4 h5
      rw [unhide HRr] at h5
      have HH : Hid (m = 0 ∧ T = [] ∧ r = n - p ∧ IsLs w0 (.slice A (n - p) c11) R) := ⟨h3.symm, h1, h5, h4⟩
      clear h1 h2 h3 h4 h5
      go_wp2_with fail
      go_meet
      case rel =>
        obtain ⟨e1, e2, e3, h4⟩ := unhide HH
        rw [e1, e2, e3]
        exact ⟨⟨none, 0, A, _, rfl, ints_nil _, rfl, h4⟩, unhide HX2⟩
    | true =>
      have hpn := unhide HTH rfl
      obtain ⟨b, off, rfl, hb, hcs⟩ := (unhide HV).opens (unhide HL) (by omega)
      obtain ⟨_, av, cv, k1, hi⟩ := hcs p (by rw [unhide HL]; exact hpn)
      have k2 := ((Below.next (unhide H0) (unhide HX2) (Nat.le_refl _)).cell (p := ⟨b, off + p * 2 + 1, none⟩) hb).trans k1
      have h1 := unhide HTE
      have h2 := unhide HRE
      simp at h1 h2
      rw [h1, unhide HTm] at k2 hi
      have HH : Hid (∀ A, (A = if c = p + 1 then some ⟨b, off, none⟩ else some ⟨b, off + (p + 1) * 2, none⟩) → r = n - (p + 1) ∧ IsLs w0 (.slice A (n - (p + 1)) (c - (p + 1))) R) := fun A hA => by
        have h4 := unhide HBE2 b off rfl A hpn hA
        have h5 := h4.len
        rw [h2] at h4 h5
        rw [unhide HRr] at h5
        exact ⟨h5, h4⟩
      have HI := hide hi
      have j0 : (p : Int) < (n : Int) := by omega
      have j1 : IntKind.i64.wrap ((p : Int) + 1) = (p : Int) + 1 := by simp [IntKind.wrap, IntKind.bits, IntKind.signed]; omega
      have j2 : (p : Int) + 1 ≤ (n : Int) := by omega
      have j3 : (0 : Int) ≤ (p : Int) + 1 := by omega
      have j4 : (p : Int) + 1 ≤ (c : Int) := by omega
      clear k1 hi h1 h2 hcs hb
      go_wp2_with fail
      go_quiet (fail)
      obtain ⟨A3, hA3⟩ : ∃ A, (if c = p + 1 then some (⟨b, off, none⟩ : Addr) else some ⟨b, off + (p + 1) * 2, none⟩) = A := ⟨_, rfl⟩
      rw [hA3]
      have HA3 := hide (unhide HH A3 hA3.symm)
      clear hA3 HH
      go_wp2_with fail
      go_meet
      case rel =>
        obtain ⟨e1, h4⟩ := unhide HA3
        rw [e1]
        exact ⟨⟨av, cv, A3, _, rfl, unhide HI, rfl, h4⟩, below_drewN (unhide HX2) _⟩
  case rest =>
    obtain ⟨⟨a7, c7, A2, c2, rfl, hi7, rfl, hbe⟩, hx3⟩ := hcut
    have HI7 := hide hi7; have HBE := hide hbe; have HX3 := hide hx3
    have HBa := hide ((Below.refl wc.heap.size wc).alloc (Nat.le_refl _) (.cells Zm 55))
    have HMO := hide (made_own wc (n + 1) (by omega) Zm (unhide HZM))
    have HX4 := hide (Below.next hx3 (unhide HBa) (Nat.le_refl _))
    have HWC := hide hx3.size
    have HAF := hide (appfresh_any w0 (wc.alloc (.cells Zm 55)) wc.heap.size (some ⟨wc.heap.size, 0, none⟩) 0 (n + 1) [] [] A1 p c1 AH (unhide HAl) (unhide HAH) (Below.next (unhide H0) (unhide HX4) (Nat.le_refl _)) (Nat.le_trans (unhide H0).size hx3.size) (unhide HBa).size (unhide HMO) (ReadsO.nil _ _) (by omega) (by omega))
    rw [Nat.zero_add, List.nil_append] at HAF
    clear hi7 hbe hx3
    go_upto_if 46 with (first
      | (go_at_call 45; (with_reducible refine Calls.mono (unhide HAF) ?_); rintro e w3 ⟨a3, c3, rs3, rfl, ho3, hr3, hb3, hs3⟩; have HO3 := hide ho3; have HR3 := hide hr3; have HX5 := hide ((unhide HX4).trans (hb3.mono (unhide HWC))); have HW3 := hide (Nat.le_trans (unhide HBa).size hb3.size); clear ho3 hr3 hb3 hs3)
      | (refine (unhide HC _ a7 c7 (unhide HX5) ((unhide HI7).below (Below.next (unhide H0) (unhide HX5) (Nat.le_refl _)))).mono ?_; rintro e w4 ⟨a4, c4, rfl, hi4, hp4, hg4⟩; have HI4 := hide hi4; have HP4 := hide hp4; have HO4 := hide ((unhide HO3).gap hg4 (unhide HWC)); have HR4 := hide ((unhide HR3).gap hg4 (unhide HWC)); have HX6 := hide ((Below.next (unhide H0) (unhide HX5) (Nat.le_refl _)).trans (hg4.low (Nat.le_trans (unhide H0).size (unhide HX5).size))); have HW4 := hide (Nat.le_trans (unhide HW3) hg4.size); clear hi4 hp4 hg4))
    clear HC HAF HMO HZM HBa HX4 HX3 HO3 HR3 HW3 HI7
    have H0B := hide (Nat.le_trans (unhide H0).size (unhide HWC))
    have HRL3 : Hid (rs3.length = p) := by rw [← unhide HAl]; exact (unhide HR4).len
    by_cases hz0 : 0 < zn
    · have hz1 : (0 : Int) < (zn : Int) := by omega
      have HZE : Hid ((if zs = [] then [] else [(x, zs)]) = [(x, zs)]) := if_neg (fun e => by have := unhide HZN; rw [e] at this; simp at this; omega)
      have HFR : Hid (Calls Try.prog 46 #[.slice a4 zn c4] w4 fun e w' => ∃ a' c', e = .returned (.slice a' zn c') ∧ Own w4.heap.size w' (.slice a' zn c') zs ∧ Below w4.heap.size w4 w') := by
        have := fresh_any w4 (.slice a4 zn c4) zs.length _ (unhide HI4).1 (ints_one zs) (by rw [unhide HZN]; omega)
        rw [unhide HZN] at this
        refine this.mono ?_
        rintro e w' ⟨v', rfl, h2, h3⟩
        obtain ⟨a', c', rfl⟩ := Rd.form (Rd.of_owns h2)
        exact ⟨a', c', rfl, by rw [Own, unhide HZN]; exact h2, h3⟩
      go_upto_region 10 with (first
        | (go_at_call 46; refine (unhide HFR).mono ?_; rintro e w5 ⟨a5, c5, rfl, ho5, hb5⟩; have HO5 := hide ho5; have HB5 := hide hb5; clear ho5 hb5)
        | (at_builtin; refine wpList_append_ls rfl (.tmp 47) (.tmp 52) rfl wc.heap.size (.slice a3 p c3) rs3 rfl (((unhide HO4).below (unhide HB5)).below ((Below.refl _ _).alloc (Nat.le_refl _) _)) _ [(x, .slice a5 zn c5)] rfl (rd_new w5 x _) ones_one (p + 1) (by rw [unhide HRL3]; rfl) (by omega) (Nat.le_trans (unhide HW4) (Nat.le_trans (unhide HB5).size (by simp))) ?_; intro a6 c6 w6 ho6 hg6; have HO6 := hide ho6; have HR6 := hide ((unhide HR4).more (unhide HB5) (unhide HO4) (unhide HO5) (unhide HW4) hg6); have HX7 := hide (grown_below (unhide HX6) (Nat.le_refl _) (unhide HB5) ((unhide HO4).base (unhide H0B)) hg6); have HW6 : Hid (wc.heap.size ≤ w6.heap.size) := Nat.le_trans (unhide HW4) (Nat.le_trans (unhide HB5).size (Nat.le_trans (by simp) hg6.size)); have HS6 := hide ((Steady.of_below (unhide HB5)).trans ((Steady.of_below ((Below.refl _ _).alloc (Nat.le_refl _) _)).trans (Steady.of_grown (((unhide HO4).below (unhide HB5)).below ((Below.refl _ _).alloc (Nat.le_refl _) _)) hg6))); clear ho6 hg6))
      have HAF := hide (appfresh_any w0 w6 wc.heap.size a6 (p + 1) c6 _ _ A2 r c2 R (unhide HRr) (unhide HBE) (unhide HX7) (unhide H0B) (unhide HW6) (unhide HO6) (unhide HR6) (by omega) (by omega))
      go_wp2_with (go_at_call 45; (with_reducible refine Calls.mono (unhide HAF) ?_); rintro e w8 ⟨a8, c8, rs8, rfl, ho8, hr8, hb8, hs8⟩; have HL8 := hide (FreshL.base ⟨rs8, ho8, hr8⟩ (unhide HWC)); have HX8 := hide ((unhide HX7).trans (hb8.mono (unhide H0B))); have HP8 := hide (unhide HPP _ _ (unhide HP4) ((unhide HS6).trans hs8)); clear ho8 hr8 hb8 hs8)
      go_ret
      have hLL := unhide HLE
      rw [unhide HZE, ← List.append_assoc] at hLL
      have hlen : ln = p + 1 + r := by rw [← unhide HLn, ← hLL, List.length_append, List.length_append, unhide HAl, unhide HRr]; rfl
      refine ⟨a8, c8, ?_, ?_, unhide HP8, unhide HX8⟩
      · rw [hlen]; rfl
      · rw [hlen, ← hLL]; exact unhide HL8
    · have hz1 : ¬ (0 : Int) < (zn : Int) := by omega
      have HZE : Hid ((if zs = [] then [] else [(x, zs)]) = ([] : List Ln)) := if_pos (List.eq_nil_of_length_eq_zero (by rw [unhide HZN]; omega))
      have HAF := hide (appfresh_any w0 w4 wc.heap.size a3 p c3 _ _ A2 r c2 R (unhide HRr) (unhide HBE) (unhide HX6) (unhide H0B) (unhide HW4) (unhide HO4) (unhide HR4) (by omega) (by omega))
      go_wp2_with (go_at_call 45; (with_reducible refine Calls.mono (unhide HAF) ?_); rintro e w8 ⟨a8, c8, rs8, rfl, ho8, hr8, hb8, hs8⟩; have HL8 := hide (FreshL.base ⟨rs8, ho8, hr8⟩ (unhide HWC)); have HX8 := hide ((unhide HX6).trans (hb8.mono (unhide H0B))); have HP8 := hide (unhide HPP _ _ (unhide HP4) hs8); clear ho8 hr8 hb8 hs8)
      go_ret
      have hLL := unhide HLE
      rw [unhide HZE, List.nil_append] at hLL
      have hlen : ln = p + r := by rw [← unhide HLn, ← hLL, List.length_append, unhide HAl, unhide HRr]
      refine ⟨a8, c8, ?_, ?_, unhide HP8, unhide HX8⟩
      · rw [hlen]; rfl
      · rw [hlen, ← hLL]; exact unhide HL8
end Go.Proofs.Ytjlcfdhghohccaa
