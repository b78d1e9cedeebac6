/-
  taskmillref.RacesOf, SameOff.
-/
import Derived.Test.YtbnmeeabpjmcoaaZl
import Derived.Test.YtbnmeeabpjmcoaaZm
import Derived.Test.YtbnmeeabpjmcoaaXg
namespace Go.Proofs.Ytbnmeeabpjmcoaa
open Go.RowKit

/-- Does the event k race with i? -/
def rcB (hs : List Int) (l : List Ev) (k i : Nat) : Bool := isAcc (l.getD i ev0) && (isAcc (l.getD k ev0) && ((l.getD i ev0).obj == (l.getD k ev0).obj && (!((l.getD i ev0).task == (l.getD k ev0).task) && (((l.getD i ev0).op == 13 || (l.getD k ev0).op == 13) && !befL hs l i k))))
theorem racing_rc (hs : List Int) (l : List Ev) (k : Nat) : pairsAt hs l k = ((List.range k).filter (rcB hs l k)).map fun i : Nat => ((i : Int), (k : Int)) := by
  unfold pairsAt racing
  cases hk : isAcc (l.getD k ev0) with
  | false =>
    rw [if_neg Bool.false_ne_true]
    have e : (List.range k).filter (rcB hs l k) = [] := by
      apply List.filter_eq_nil_iff.2
      intro i _
      unfold rcB
      rw [hk]
      simp
    rw [e]
    rfl
  | true =>
    rw [if_pos rfl]
    unfold accL
    rw [List.filter_map, List.filter_filter, List.map_map]
    have e : (List.range k).filter (fun a => ((fun a => raceA hs l a (accOf l k)) ∘ accOf l) a && onCell l (l.getD k ev0).obj a) = (List.range k).filter (rcB hs l k) := by
      apply List.filter_congr
      intro i hi
      have hik : i < k := List.mem_range.1 hi
      unfold rcB raceA onCell accOf befL
      rw [hk, decide_eq_true hik]
      simp only [Function.comp, Bool.true_and]
      have e2 : decide (ckAt hs l k ((l.getD i ev0).task - 1).toNat < ckAt hs l i ((l.getD i ev0).task - 1).toNat) = !decide (ckAt hs l i (plOf (l.getD i ev0)) ≤ ckAt hs l k (plOf (l.getD i ev0))) := by
        unfold plOf
        by_cases h : ckAt hs l k ((l.getD i ev0).task - 1).toNat < ckAt hs l i ((l.getD i ev0).task - 1).toNat
        · rw [decide_eq_true h, decide_eq_false (by omega)]; rfl
        · rw [decide_eq_false h, decide_eq_true (by omega)]; rfl
      rw [e2]
      generalize isAcc (l.getD i ev0) = A
      generalize ((l.getD i ev0).obj == (l.getD k ev0).obj) = B
      generalize ((l.getD i ev0).task == (l.getD k ev0).task) = C
      generalize ((l.getD i ev0).op == 13 || (l.getD k ev0).op == 13) = D
      generalize decide (ckAt hs l i (plOf (l.getD i ev0)) ≤ ckAt hs l k (plOf (l.getD i ev0))) = E
      revert A B C D E
      decide
    rw [e]
    rfl
/-- The races when those of the events ahead of k are told, and with k those of i events. -/
def outI (hs : List Int) (l : List Ev) (k i : Nat) : List (Int × Int) := pairsL hs l k ++ ((List.range i).filter (rcB hs l k)).map fun i : Nat => ((i : Int), (k : Int))
theorem outI_zero (hs : List Int) (l : List Ev) (k : Nat) : outI hs l k 0 = pairsL hs l k := by unfold outI; simp
theorem outI_end (hs : List Int) (l : List Ev) (k : Nat) : outI hs l k k = pairsL hs l (k + 1) := by unfold outI; rw [pairsL_succ, racing_rc]
theorem outI_no {hs : List Int} {l : List Ev} {k i : Nat} (h : rcB hs l k i = false) : outI hs l k (i + 1) = outI hs l k i := by
  unfold outI
  rw [List.range_succ, List.filter_append, List.filter_cons, List.filter_nil, h, if_neg Bool.false_ne_true, List.append_nil]
theorem outI_yes {hs : List Int} {l : List Ev} {k i : Nat} (h : rcB hs l k i = true) : outI hs l k (i + 1) = outI hs l k i ++ [((i : Int), (k : Int))] := by
  unfold outI
  rw [List.range_succ, List.filter_append, List.filter_cons, List.filter_nil, h, if_pos rfl, List.map_append, List.append_assoc]
  rfl

set_option maxRecDepth 100000 in
set_option maxHeartbeats 4000000 in
theorem racesOf_any (w : World) (a0 : Option Addr) (n0 c0 : Nat) (a1 : Option Addr) (n1 c1 : Nat) (l : List Ev) (hs : List Int) (hl : IsL KE w (.slice a0 n0 c0) l) (hh : IsL KI w (.slice a1 n1 c1) hs) (hg : GoodT hs l) (hn : n0 ≤ 300) :
    Calls Try.prog 25 #[.slice a0 n0 c0, .slice a1 n1 c1] w fun e w' => ∃ a c, e = .returned (.slice a (pairsL hs l n0).length c) ∧ IsL KP w' (.slice a (pairsL hs l n0).length c) (pairsL hs l n0) ∧ (pairsL hs l n0).length ≤ 90000 ∧ Below w.heap.size w w' := by
  have hln := hl.len
  have HRE : Hid (Calls Try.prog 19 #[.slice a0 n0 c0, .slice a1 n1 c1] w fun e w' => ∃ R, e = .returned (.slice (some ⟨R, 0, none⟩) n0 n0) ∧ ∃ bf M, RowsB w' R n0 n0 bf M ∧ Tells n0 M (fun k j => Rch hs l j k) ∧ w.heap.size ≤ R ∧ Below w.heap.size w w') := reach_any w a0 n0 c0 a1 n1 c1 l hs hl hh hg
  have HTR := hide (hl.opens ke hln)
  have HLN := hide hln; have HG := hide hg
  clear hl hh hg hln
  go_enter Try.func25, Try.ntmps25
  go_upto_region 3 with (go_at_call 19; (with_reducible refine Calls.mono (unhide HRE) ?_); rintro e w0 ⟨R, rfl, bf, M, hRB, hM, hle, hb0⟩; have HX0 := hide hb0; have HRB := hide hRB; have HTM := hide hM; clear hRB hM hle hb0)
  obtain ⟨Z, eZ⟩ : ∃ X, w0.heap.size = X := ⟨_, rfl⟩
  have HZ := hide eZ
  have HO : Hid (Own KP Z w0 (.slice none 0 0) (pairsL hs l 0)) := own_nil _ _
  have HB : Hid (Below Z w0 w0) := Below.refl _ _
  clear eZ HRE
  go_wp2_with fail
  go_loopw [6, 7] (fun s6 s7 wr => ∃ (k : Nat) (a : Option Addr) (r c : Nat), k ≤ n0 ∧ s7 = .int .i64 (k : Int) ∧ s6 = .slice a r c ∧ r ≤ k * 300 ∧ Hid ((pairsL hs l k).length = r) ∧ Hid (Own KP Z wr (.slice a r c) (pairsL hs l k)) ∧ Hid (Below Z w0 wr)) (fun _ s _ => n0 - (intOf s).toNat)
  case atStart => exact ⟨0, none, 0, 0, Nat.zero_le _, rfl, rfl, Nat.le_refl _, hide rfl, HO, HB⟩
  case round =>
    obtain ⟨k, a, r, c, hk, rfl, rfl, hr, HRL, HOk, HBk⟩ := hrel
    clear HO HB
    by_cases hlt : k < n0
    · have i0 : (0 : Int) ≤ (k : Int) := by omega
      have i1 : (k : Int) < (n0 : Int) := by omega
      have hw1 : IntKind.i64.wrap ((k : Int) + 1) = (k : Int) + 1 := wrapi (by omega) (by omega)
      have HO : Hid (Own KP Z wr (.slice a r c) (outI hs l k 0)) := by show Own _ _ _ _ _; rw [outI_zero]; exact unhide HOk
      have HRL0 : Hid ((outI hs l k 0).length = r) := by show _ = _; rw [outI_zero]; exact unhide HRL
      have HLT := hide hlt
      obtain ⟨tb, tof, rfl, htb, hli⟩ := unhide HTR (by omega)
      have hat : ∀ W, Below Z w0 W → ∀ j, j < n0 → ∀ e, l.getD j ev0 = e → W.cell? ⟨tb, tof + j * 4, none⟩ = some (.int .i64 e.task) ∧ W.cell? ⟨tb, tof + j * 4 + 1, none⟩ = some (.int .i64 e.op) ∧ W.cell? ⟨tb, tof + j * 4 + 2, none⟩ = some (.int .i64 e.obj) ∧ W.cell? ⟨tb, tof + j * 4 + 3, none⟩ = some (.int .i64 e.val) := fun W hW j hj e he =>
        ((hli.below (unhide HX0) htb).below (B := Z) hW (by rw [← unhide HZ]; exact Nat.lt_of_lt_of_le htb (unhide HX0).size)).ev (j := j) (by rw [unhide HLN]; exact hj) he
      have HAT := hide hat
      obtain ⟨⟨tk, ok, bk, vk⟩, exk⟩ : ∃ X, l.getD k ev0 = X := ⟨_, rfl⟩
      have HEK := hide exk
      clear hli hat exk
      go_wp2_with fail
      go_loopw [6, 8] (fun s6 s8 wr => ∃ (i : Nat) (a : Option Addr) (r c : Nat), i ≤ k ∧ s8 = .int .i64 (i : Int) ∧ s6 = .slice a r c ∧ r ≤ k * 300 + i ∧ Hid ((outI hs l k i).length = r) ∧ Hid (Own KP Z wr (.slice a r c) (outI hs l k i)) ∧ Hid (Below Z w0 wr)) (fun _ s _ => k - (intOf s).toNat)
      case atStart => exact ⟨0, a, r, c, Nat.zero_le _, rfl, rfl, hr, HRL0, HO, HBk⟩
      case round =>
        clear hr HRL HOk HBk HO HRL0
        obtain ⟨i, a, r, c, hi, rfl, rfl, hr, HRL, HOi, HBi⟩ := hrel
        by_cases hik : i < k
        · have j0 : (0 : Int) ≤ (i : Int) := by omega
          have j1 : (i : Int) < (k : Int) := by omega
          have j2 : (i : Int) < (n0 : Int) := by omega
          have hw2 : IntKind.i64.wrap ((i : Int) + 1) = (i : Int) + 1 := wrapi (by omega) (by omega)
          obtain ⟨⟨ti, oi, bi, vi⟩, exi⟩ : ∃ X, l.getD i ev0 = X := ⟨_, rfl⟩
          obtain ⟨rM, erM⟩ : ∃ X, M k i = X := ⟨_, rfl⟩
          have hin : i < n0 := by omega
          have HBE : Hid (befL hs l i k = rM) := by
            show _ = _
            have h1 := unhide HTM k i (unhide HLT) hin
            have h2 := bef_rch (unhide HG).tasks (fun j => ((unhide HG).h j).1) (i := i) (k := k) (by rw [unhide HLN]; exact unhide HLT)
            rw [← erM]
            cases q1 : M k i with
            | true => exact h2.2 (h1.1 q1)
            | false =>
              cases q2 : befL hs l i k with
              | false => rfl
              | true => rw [h1.2 (h2.1 q2)] at q1; cases q1
          have HW1 : Hid (Z ≤ wr.heap.size) := by have h_ := (unhide HBi).size; rw [unhide HZ] at h_; exact h_
          have hss : ∀ W', Below wr.heap.size wr W' → W'.cell? ⟨tb, tof + i * 4, none⟩ = some (.int .i64 ti) ∧ W'.cell? ⟨tb, tof + i * 4 + 1, none⟩ = some (.int .i64 oi) ∧ W'.cell? ⟨tb, tof + i * 4 + 2, none⟩ = some (.int .i64 bi) ∧ W'.cell? ⟨tb, tof + i * 4 + 3, none⟩ = some (.int .i64 vi) ∧ W'.cell? ⟨tb, tof + k * 4, none⟩ = some (.int .i64 tk) ∧ W'.cell? ⟨tb, tof + k * 4 + 1, none⟩ = some (.int .i64 ok) ∧ W'.cell? ⟨tb, tof + k * 4 + 2, none⟩ = some (.int .i64 bk) ∧ W'.cell? ⟨tb, tof + k * 4 + 3, none⟩ = some (.int .i64 vk) ∧ W'.cell? ⟨R, k, none⟩ = some (.slice (some ⟨bf k, 0, none⟩) n0 n0) ∧ W'.cell? ⟨bf k, i, none⟩ = some (.bool rM) := fun W' hW => by
            have hW2 := Below.next (unhide HBi) hW (Nat.le_of_eq (unhide HZ).symm)
            obtain ⟨p0, p1, p2, p3⟩ := unhide HAT _ hW2 i hin _ exi
            obtain ⟨q0, q1, q2, q3⟩ := unhide HAT _ hW2 k (unhide HLT) _ (unhide HEK)
            have hrb := (unhide HRB).below (w' := W') (by rw [unhide HZ]; exact hW2)
            have hr1 := hrb.row k (unhide HLT) i hin
            rw [erM] at hr1
            exact ⟨p0, p1, p2, p3, q0, q1, q2, q3, hrb.cell k (unhide HLT), hr1⟩
          have HSS := hide hss
          have HS0 := hide (hss wr.drew (Below.refl _ _).drew)
          have HRC : Hid (rcB hs l k i = ((oi == 12 || oi == 13) && ((ok == 12 || ok == 13) && (bi == bk && (!(ti == tk) && ((oi == 13 || ok == 13) && !befL hs l i k)))))) := by show _ = _; unfold rcB isAcc; rw [exi, unhide HEK]
          obtain ⟨Ai, eAi⟩ : ∃ X, (oi == 12 || oi == 13) = X := ⟨_, rfl⟩
          obtain ⟨Ak, eAk⟩ : ∃ X, (ok == 12 || ok == 13) = X := ⟨_, rfl⟩
          have HAI : Hid (∀ W, Calls Try.prog 28 #[.agg #[.int .i64 ti, .int .i64 oi, .int .i64 bi, .int .i64 vi]] W fun e w' => e = .returned (.bool Ai) ∧ Below W.heap.size W w') := fun W => by have h_ := access_any W ti oi bi vi; rwa [eAi] at h_
          have HAK : Hid (∀ W, Calls Try.prog 28 #[.agg #[.int .i64 tk, .int .i64 ok, .int .i64 bk, .int .i64 vk]] W fun e w' => e = .returned (.bool Ak) ∧ Below W.heap.size W w') := fun W => by have h_ := access_any W tk ok bk vk; rwa [eAk] at h_
          have HEAI := hide eAi; have HEAK := hide eAk
          clear hss exi erM eAi eAk hin
          cases Ai
          · skip
            have HNO : Hid (rcB hs l k i = false) := by show _ = _; rw [unhide HRC]; rw [unhide HEAI]; rfl
            have HO2 : Hid (outI hs l k (i + 1) = outI hs l k i) := outI_no (unhide HNO)
            go_upto_region 9 with fail
            refine wp_region_noPanic ?_
            refine wp_region_held_drew (S := (fun W' => W'.cell? ⟨tb, tof + i * 4, none⟩ = some (.int .i64 ti) ∧ W'.cell? ⟨tb, tof + i * 4 + 1, none⟩ = some (.int .i64 oi) ∧ W'.cell? ⟨tb, tof + i * 4 + 2, none⟩ = some (.int .i64 bi) ∧ W'.cell? ⟨tb, tof + i * 4 + 3, none⟩ = some (.int .i64 vi) ∧ W'.cell? ⟨tb, tof + k * 4, none⟩ = some (.int .i64 tk) ∧ W'.cell? ⟨tb, tof + k * 4 + 1, none⟩ = some (.int .i64 ok) ∧ W'.cell? ⟨tb, tof + k * 4 + 2, none⟩ = some (.int .i64 bk) ∧ W'.cell? ⟨tb, tof + k * 4 + 3, none⟩ = some (.int .i64 vk) ∧ W'.cell? ⟨R, k, none⟩ = some (.slice (some ⟨bf k, 0, none⟩) n0 n0) ∧ W'.cell? ⟨bf k, i, none⟩ = some (.bool rM))) (by kernel_rfl) (unhide HS0) (fun hHeld => ?_)
            refine wpAnyH_take (i := 0) (oi := ⟨some 23, .move (.tmp 0), 22, "race.go:14", #[], none⟩) (v := ?va0) rfl (by kernel_rfl) (by kernel_rfl) (by kernel_rfl) (fun _ _ _ h => h) (Or.inl ⟨by rfl, ?ya0⟩) (by assumption) ?ra0
            case ya0 => (intro w hSw; (try dsimp only at hSw); go_simp; try with_reducible rfl)
            refine wpAnyH_take (i := 1) (oi := ⟨some 24, .move (.tmp 8), 3, "race.go:14", #[], none⟩) (v := ?va1) rfl (by kernel_rfl) (by kernel_rfl) (by kernel_rfl) (fun _ _ _ h => h) (Or.inl ⟨by rfl, ?ya1⟩) (by assumption) ?ra1
            case ya1 => (intro w hSw; (try dsimp only at hSw); go_simp; try with_reducible rfl)
            refine wpAnyH_take (i := 2) (oi := ⟨some 25, .indexAddr 22 (.tmp 23) (.tmp 24), 0, "race.go:14", #[⟨0, .data⟩, ⟨1, .data⟩], none⟩) (v := ?va2) rfl (by kernel_rfl) (by kernel_rfl) (by kernel_rfl) (fun _ _ _ h => h) (Or.inl ⟨by rfl, ?ya2⟩) (by assumption) ?ra2
            case ya2 => (intro w hSw; (try dsimp only at hSw); go_simp; try with_reducible rfl)
            try simp only [Act.put, List.setIfInBounds_toArray, List.set_cons_zero, List.set_cons_succ]
            refine wpAnyH_take (i := 3) (oi := ⟨some 26, .load 41 (.tmp 25), 41, "race.go:14", #[⟨2, .data⟩], none⟩) (v := ?va3) rfl (by kernel_rfl) (by kernel_rfl) (by kernel_rfl) (fun _ _ _ h => h) (Or.inl ⟨by rfl, ?ya3⟩) (by assumption) ?ra3
            case ya3 => (intro w hSw; (try dsimp only at hSw); go_simp; try with_reducible rfl)
            try simp only [Act.put, List.setIfInBounds_toArray, List.set_cons_zero, List.set_cons_succ]
            refine wpAnyH_ready (rs := [4]) (by kernel_rfl) (by simp) ?_
            refine AllReadyH.cons (o := ⟨some 27, .call { callee := .value (.func 28), args := #[.tmp 26], argTypes := #[41] }, 4, "race.go:14", #[⟨3, .data⟩], none⟩) rfl (fun K hK => ?_) AllReadyH.nil
            go_simp
            (go_at_call 28; (with_reducible refine Calls.mono (unhide HAI _) ?_); rintro e w1 ⟨rfl, hb1⟩; have HX1 := hide (Below.next (Below.refl wr.heap.size wr).drew hb1 (Nat.le_refl _)); have HS1 := hide (unhide HSS _ (unhide HX1)); clear hb1)
            refine hK.out _ _ (unhide HS1) (fun hHeld => ?_)
            clear hK K
            try simp only [Act.put, List.setIfInBounds_toArray, List.set_cons_zero, List.set_cons_succ]
            refine wpAnyH_take (i := 5) (oi := ⟨some 28, .move (.tmp 27), 4, "race.go:14", #[⟨4, .data⟩, ⟨4, .chain⟩], none⟩) (v := ?va5) rfl (by kernel_rfl) (by kernel_rfl) (by kernel_rfl) (fun _ _ _ h => h) (Or.inl ⟨by rfl, ?ya5⟩) (by assumption) ?ra5
            case ya5 => (intro w hSw; (try dsimp only at hSw); go_simp; try with_reducible rfl)
            refine wpAnyH_take (i := 6) (oi := ⟨some 29, .move (.tmp 0), 22, "race.go:14", #[⟨5, .guard⟩], some (5, true)⟩) (v := undef) rfl (by kernel_rfl) (by kernel_rfl) (by kernel_rfl) (fun _ _ _ h => h) (Or.inr ⟨by rfl, rfl⟩) (by assumption) ?_
            try simp only [Act.put, List.setIfInBounds_toArray, List.set_cons_zero, List.set_cons_succ]
            refine wpAnyH_take (i := 7) (oi := ⟨some 30, .move (.tmp 7), 3, "race.go:14", #[⟨5, .guard⟩], some (5, true)⟩) (v := undef) rfl (by kernel_rfl) (by kernel_rfl) (by kernel_rfl) (fun _ _ _ h => h) (Or.inr ⟨by rfl, rfl⟩) (by assumption) ?_
            refine wpAnyH_take (i := 8) (oi := ⟨some 31, .indexAddr 22 (.tmp 29) (.tmp 30), 0, "race.go:14", #[⟨6, .data⟩, ⟨7, .data⟩, ⟨5, .guard⟩], some (5, true)⟩) (v := undef) rfl (by kernel_rfl) (by kernel_rfl) (by kernel_rfl) (fun _ _ _ h => h) (Or.inr ⟨by rfl, rfl⟩) (by assumption) ?_
            refine wpAnyH_take (i := 9) (oi := ⟨some 32, .load 41 (.tmp 31), 41, "race.go:14", #[⟨8, .data⟩, ⟨5, .guard⟩], some (5, true)⟩) (v := undef) rfl (by kernel_rfl) (by kernel_rfl) (by kernel_rfl) (fun _ _ _ h => h) (Or.inr ⟨by rfl, rfl⟩) (by assumption) ?_
            try simp only [Act.put, List.setIfInBounds_toArray, List.set_cons_zero, List.set_cons_succ]
            refine wpAnyH_take (i := 10) (oi := ⟨some 33, .call { callee := .value (.func 28), args := #[.tmp 32], argTypes := #[41] }, 4, "race.go:14", #[⟨9, .data⟩, ⟨5, .chain⟩, ⟨5, .guard⟩], some (5, true)⟩) (v := undef) rfl (by kernel_rfl) (by kernel_rfl) (by kernel_rfl) (fun _ _ _ h => h) (Or.inr ⟨by rfl, rfl⟩) (by assumption) ?_
            refine wpAnyH_take (i := 11) (oi := ⟨some 34, .pick (.tmp 28) (.tmp 33) (.const (.bool false)), 4, "race.go:14", #[⟨5, .data⟩, ⟨10, .data⟩], none⟩) (v := ?va11) rfl (by kernel_rfl) (by kernel_rfl) (by kernel_rfl) (fun _ _ _ h => h) (Or.inl ⟨by rfl, ?ya11⟩) (by assumption) ?ra11
            case ya11 => (intro w hSw; (try dsimp only at hSw); go_simp; try with_reducible rfl)
            refine wpAnyH_take (i := 12) (oi := ⟨some 35, .move (.tmp 34), 4, "race.go:14", #[⟨11, .data⟩, ⟨10, .chain⟩], none⟩) (v := ?va12) rfl (by kernel_rfl) (by kernel_rfl) (by kernel_rfl) (fun _ _ _ h => h) (Or.inl ⟨by rfl, ?ya12⟩) (by assumption) ?ra12
            case ya12 => (intro w hSw; (try dsimp only at hSw); go_simp; try with_reducible rfl)
            try simp only [Act.put, List.setIfInBounds_toArray, List.set_cons_zero, List.set_cons_succ]
            refine wpAnyH_take (i := 13) (oi := ⟨some 36, .move (.tmp 0), 22, "race.go:14", #[⟨12, .guard⟩], some (12, true)⟩) (v := undef) rfl (by kernel_rfl) (by kernel_rfl) (by kernel_rfl) (fun _ _ _ h => h) (Or.inr ⟨by rfl, rfl⟩) (by assumption) ?_
            refine wpAnyH_take (i := 14) (oi := ⟨some 37, .move (.tmp 8), 3, "race.go:14", #[⟨12, .guard⟩], some (12, true)⟩) (v := undef) rfl (by kernel_rfl) (by kernel_rfl) (by kernel_rfl) (fun _ _ _ h => h) (Or.inr ⟨by rfl, rfl⟩) (by assumption) ?_
            refine wpAnyH_take (i := 15) (oi := ⟨some 38, .indexAddr 22 (.tmp 36) (.tmp 37), 0, "race.go:14", #[⟨13, .data⟩, ⟨14, .data⟩, ⟨12, .guard⟩], some (12, true)⟩) (v := undef) rfl (by kernel_rfl) (by kernel_rfl) (by kernel_rfl) (fun _ _ _ h => h) (Or.inr ⟨by rfl, rfl⟩) (by assumption) ?_
            try simp only [Act.put, List.setIfInBounds_toArray, List.set_cons_zero, List.set_cons_succ]
            refine wpAnyH_take (i := 16) (oi := ⟨some 39, .fieldAddr 41 (.tmp 38) 2, 0, "race.go:14", #[⟨15, .data⟩, ⟨12, .guard⟩], some (12, true)⟩) (v := undef) rfl (by kernel_rfl) (by kernel_rfl) (by kernel_rfl) (fun _ _ _ h => h) (Or.inr ⟨by rfl, rfl⟩) (by assumption) ?_
            refine wpAnyH_take (i := 17) (oi := ⟨some 40, .load 3 (.tmp 39), 3, "race.go:14", #[⟨16, .data⟩, ⟨12, .guard⟩], some (12, true)⟩) (v := undef) rfl (by kernel_rfl) (by kernel_rfl) (by kernel_rfl) (fun _ _ _ h => h) (Or.inr ⟨by rfl, rfl⟩) (by assumption) ?_
            refine wpAnyH_take (i := 18) (oi := ⟨some 41, .move (.tmp 0), 22, "race.go:14", #[⟨12, .guard⟩], some (12, true)⟩) (v := undef) rfl (by kernel_rfl) (by kernel_rfl) (by kernel_rfl) (fun _ _ _ h => h) (Or.inr ⟨by rfl, rfl⟩) (by assumption) ?_
            try simp only [Act.put, List.setIfInBounds_toArray, List.set_cons_zero, List.set_cons_succ]
            refine wpAnyH_take (i := 19) (oi := ⟨some 42, .move (.tmp 7), 3, "race.go:14", #[⟨12, .guard⟩], some (12, true)⟩) (v := undef) rfl (by kernel_rfl) (by kernel_rfl) (by kernel_rfl) (fun _ _ _ h => h) (Or.inr ⟨by rfl, rfl⟩) (by assumption) ?_
            refine wpAnyH_take (i := 20) (oi := ⟨some 43, .indexAddr 22 (.tmp 41) (.tmp 42), 0, "race.go:14", #[⟨18, .data⟩, ⟨19, .data⟩, ⟨12, .guard⟩], some (12, true)⟩) (v := undef) rfl (by kernel_rfl) (by kernel_rfl) (by kernel_rfl) (fun _ _ _ h => h) (Or.inr ⟨by rfl, rfl⟩) (by assumption) ?_
            refine wpAnyH_take (i := 21) (oi := ⟨some 44, .fieldAddr 41 (.tmp 43) 2, 0, "race.go:14", #[⟨20, .data⟩, ⟨12, .guard⟩], some (12, true)⟩) (v := undef) rfl (by kernel_rfl) (by kernel_rfl) (by kernel_rfl) (fun _ _ _ h => h) (Or.inr ⟨by rfl, rfl⟩) (by assumption) ?_
            try simp only [Act.put, List.setIfInBounds_toArray, List.set_cons_zero, List.set_cons_succ]
            refine wpAnyH_take (i := 22) (oi := ⟨some 45, .load 3 (.tmp 44), 3, "race.go:14", #[⟨21, .data⟩, ⟨12, .guard⟩], some (12, true)⟩) (v := undef) rfl (by kernel_rfl) (by kernel_rfl) (by kernel_rfl) (fun _ _ _ h => h) (Or.inr ⟨by rfl, rfl⟩) (by assumption) ?_
            refine wpAnyH_take (i := 23) (oi := ⟨some 46, .binOp .eql 3 (.tmp 40) (.tmp 45) 3, 4, "race.go:14", #[⟨17, .data⟩, ⟨22, .data⟩, ⟨12, .guard⟩], some (12, true)⟩) (v := undef) rfl (by kernel_rfl) (by kernel_rfl) (by kernel_rfl) (fun _ _ _ h => h) (Or.inr ⟨by rfl, rfl⟩) (by assumption) ?_
            refine wpAnyH_take (i := 24) (oi := ⟨some 47, .pick (.tmp 35) (.tmp 46) (.const (.bool false)), 4, "race.go:14", #[⟨12, .data⟩, ⟨23, .data⟩], none⟩) (v := ?va24) rfl (by kernel_rfl) (by kernel_rfl) (by kernel_rfl) (fun _ _ _ h => h) (Or.inl ⟨by rfl, ?ya24⟩) (by assumption) ?ra24
            case ya24 => (intro w hSw; (try dsimp only at hSw); go_simp; try with_reducible rfl)
            try simp only [Act.put, List.setIfInBounds_toArray, List.set_cons_zero, List.set_cons_succ]
            refine wpAnyH_take (i := 25) (oi := ⟨some 48, .move (.tmp 47), 4, "race.go:14", #[⟨24, .data⟩, ⟨12, .chain⟩], none⟩) (v := ?va25) rfl (by kernel_rfl) (by kernel_rfl) (by kernel_rfl) (fun _ _ _ h => h) (Or.inl ⟨by rfl, ?ya25⟩) (by assumption) ?ra25
            case ya25 => (intro w hSw; (try dsimp only at hSw); go_simp; try with_reducible rfl)
            refine wpAnyH_take (i := 26) (oi := ⟨some 49, .move (.tmp 0), 22, "race.go:14", #[⟨25, .guard⟩], some (25, true)⟩) (v := undef) rfl (by kernel_rfl) (by kernel_rfl) (by kernel_rfl) (fun _ _ _ h => h) (Or.inr ⟨by rfl, rfl⟩) (by assumption) ?_
            refine wpAnyH_take (i := 27) (oi := ⟨some 50, .move (.tmp 8), 3, "race.go:14", #[⟨25, .guard⟩], some (25, true)⟩) (v := undef) rfl (by kernel_rfl) (by kernel_rfl) (by kernel_rfl) (fun _ _ _ h => h) (Or.inr ⟨by rfl, rfl⟩) (by assumption) ?_
            try simp only [Act.put, List.setIfInBounds_toArray, List.set_cons_zero, List.set_cons_succ]
            refine wpAnyH_take (i := 28) (oi := ⟨some 51, .indexAddr 22 (.tmp 49) (.tmp 50), 0, "race.go:14", #[⟨26, .data⟩, ⟨27, .data⟩, ⟨25, .guard⟩], some (25, true)⟩) (v := undef) rfl (by kernel_rfl) (by kernel_rfl) (by kernel_rfl) (fun _ _ _ h => h) (Or.inr ⟨by rfl, rfl⟩) (by assumption) ?_
            refine wpAnyH_take (i := 29) (oi := ⟨some 52, .fieldAddr 41 (.tmp 51) 0, 0, "race.go:14", #[⟨28, .data⟩, ⟨25, .guard⟩], some (25, true)⟩) (v := undef) rfl (by kernel_rfl) (by kernel_rfl) (by kernel_rfl) (fun _ _ _ h => h) (Or.inr ⟨by rfl, rfl⟩) (by assumption) ?_
            refine wpAnyH_take (i := 30) (oi := ⟨some 53, .load 3 (.tmp 52), 3, "race.go:14", #[⟨29, .data⟩, ⟨25, .guard⟩], some (25, true)⟩) (v := undef) rfl (by kernel_rfl) (by kernel_rfl) (by kernel_rfl) (fun _ _ _ h => h) (Or.inr ⟨by rfl, rfl⟩) (by assumption) ?_
            try simp only [Act.put, List.setIfInBounds_toArray, List.set_cons_zero, List.set_cons_succ]
            refine wpAnyH_take (i := 31) (oi := ⟨some 54, .move (.tmp 0), 22, "race.go:14", #[⟨25, .guard⟩], some (25, true)⟩) (v := undef) rfl (by kernel_rfl) (by kernel_rfl) (by kernel_rfl) (fun _ _ _ h => h) (Or.inr ⟨by rfl, rfl⟩) (by assumption) ?_
            refine wpAnyH_take (i := 32) (oi := ⟨some 55, .move (.tmp 7), 3, "race.go:14", #[⟨25, .guard⟩], some (25, true)⟩) (v := undef) rfl (by kernel_rfl) (by kernel_rfl) (by kernel_rfl) (fun _ _ _ h => h) (Or.inr ⟨by rfl, rfl⟩) (by assumption) ?_
            refine wpAnyH_take (i := 33) (oi := ⟨some 56, .indexAddr 22 (.tmp 54) (.tmp 55), 0, "race.go:14", #[⟨31, .data⟩, ⟨32, .data⟩, ⟨25, .guard⟩], some (25, true)⟩) (v := undef) rfl (by kernel_rfl) (by kernel_rfl) (by kernel_rfl) (fun _ _ _ h => h) (Or.inr ⟨by rfl, rfl⟩) (by assumption) ?_
            try simp only [Act.put, List.setIfInBounds_toArray, List.set_cons_zero, List.set_cons_succ]
            refine wpAnyH_take (i := 34) (oi := ⟨some 57, .fieldAddr 41 (.tmp 56) 0, 0, "race.go:14", #[⟨33, .data⟩, ⟨25, .guard⟩], some (25, true)⟩) (v := undef) rfl (by kernel_rfl) (by kernel_rfl) (by kernel_rfl) (fun _ _ _ h => h) (Or.inr ⟨by rfl, rfl⟩) (by assumption) ?_
            refine wpAnyH_take (i := 35) (oi := ⟨some 58, .load 3 (.tmp 57), 3, "race.go:14", #[⟨34, .data⟩, ⟨25, .guard⟩], some (25, true)⟩) (v := undef) rfl (by kernel_rfl) (by kernel_rfl) (by kernel_rfl) (fun _ _ _ h => h) (Or.inr ⟨by rfl, rfl⟩) (by assumption) ?_
            refine wpAnyH_take (i := 36) (oi := ⟨some 59, .binOp .neq 3 (.tmp 53) (.tmp 58) 3, 4, "race.go:14", #[⟨30, .data⟩, ⟨35, .data⟩, ⟨25, .guard⟩], some (25, true)⟩) (v := undef) rfl (by kernel_rfl) (by kernel_rfl) (by kernel_rfl) (fun _ _ _ h => h) (Or.inr ⟨by rfl, rfl⟩) (by assumption) ?_
            try simp only [Act.put, List.setIfInBounds_toArray, List.set_cons_zero, List.set_cons_succ]
            refine wpAnyH_take (i := 37) (oi := ⟨some 60, .pick (.tmp 48) (.tmp 59) (.const (.bool false)), 4, "race.go:14", #[⟨25, .data⟩, ⟨36, .data⟩], none⟩) (v := ?va37) rfl (by kernel_rfl) (by kernel_rfl) (by kernel_rfl) (fun _ _ _ h => h) (Or.inl ⟨by rfl, ?ya37⟩) (by assumption) ?ra37
            case ya37 => (intro w hSw; (try dsimp only at hSw); go_simp; try with_reducible rfl)
            refine wpAnyH_take (i := 38) (oi := ⟨some 61, .move (.tmp 60), 4, "race.go:14", #[⟨37, .data⟩, ⟨25, .chain⟩], none⟩) (v := ?va38) rfl (by kernel_rfl) (by kernel_rfl) (by kernel_rfl) (fun _ _ _ h => h) (Or.inl ⟨by rfl, ?ya38⟩) (by assumption) ?ra38
            case ya38 => (intro w hSw; (try dsimp only at hSw); go_simp; try with_reducible rfl)
            refine wpAnyH_take (i := 39) (oi := ⟨some 62, .move (.tmp 0), 22, "race.go:14", #[⟨38, .guard⟩], some (38, true)⟩) (v := undef) rfl (by kernel_rfl) (by kernel_rfl) (by kernel_rfl) (fun _ _ _ h => h) (Or.inr ⟨by rfl, rfl⟩) (by assumption) ?_
            try simp only [Act.put, List.setIfInBounds_toArray, List.set_cons_zero, List.set_cons_succ]
            refine wpAnyH_take (i := 40) (oi := ⟨some 63, .move (.tmp 8), 3, "race.go:14", #[⟨38, .guard⟩], some (38, true)⟩) (v := undef) rfl (by kernel_rfl) (by kernel_rfl) (by kernel_rfl) (fun _ _ _ h => h) (Or.inr ⟨by rfl, rfl⟩) (by assumption) ?_
            refine wpAnyH_take (i := 41) (oi := ⟨some 64, .indexAddr 22 (.tmp 62) (.tmp 63), 0, "race.go:14", #[⟨39, .data⟩, ⟨40, .data⟩, ⟨38, .guard⟩], some (38, true)⟩) (v := undef) rfl (by kernel_rfl) (by kernel_rfl) (by kernel_rfl) (fun _ _ _ h => h) (Or.inr ⟨by rfl, rfl⟩) (by assumption) ?_
            refine wpAnyH_take (i := 42) (oi := ⟨some 65, .fieldAddr 41 (.tmp 64) 1, 0, "race.go:14", #[⟨41, .data⟩, ⟨38, .guard⟩], some (38, true)⟩) (v := undef) rfl (by kernel_rfl) (by kernel_rfl) (by kernel_rfl) (fun _ _ _ h => h) (Or.inr ⟨by rfl, rfl⟩) (by assumption) ?_
            try simp only [Act.put, List.setIfInBounds_toArray, List.set_cons_zero, List.set_cons_succ]
            refine wpAnyH_take (i := 43) (oi := ⟨some 66, .load 3 (.tmp 65), 3, "race.go:14", #[⟨42, .data⟩, ⟨38, .guard⟩], some (38, true)⟩) (v := undef) rfl (by kernel_rfl) (by kernel_rfl) (by kernel_rfl) (fun _ _ _ h => h) (Or.inr ⟨by rfl, rfl⟩) (by assumption) ?_
            refine wpAnyH_take (i := 44) (oi := ⟨some 67, .binOp .eql 3 (.tmp 66) (.const (.int .i64 13)) 3, 4, "race.go:14", #[⟨43, .data⟩, ⟨38, .guard⟩], some (38, true)⟩) (v := undef) rfl (by kernel_rfl) (by kernel_rfl) (by kernel_rfl) (fun _ _ _ h => h) (Or.inr ⟨by rfl, rfl⟩) (by assumption) ?_
            refine wpAnyH_take (i := 45) (oi := ⟨some 68, .move (.tmp 67), 4, "race.go:14", #[⟨44, .data⟩, ⟨38, .chain⟩, ⟨38, .guard⟩], some (38, true)⟩) (v := undef) rfl (by kernel_rfl) (by kernel_rfl) (by kernel_rfl) (fun _ _ _ h => h) (Or.inr ⟨by rfl, rfl⟩) (by assumption) ?_
            try simp only [Act.put, List.setIfInBounds_toArray, List.set_cons_zero, List.set_cons_succ]
            refine wpAnyH_take (i := 46) (oi := ⟨some 69, .move (.tmp 0), 22, "race.go:14", #[⟨45, .guard⟩], some (45, false)⟩) (v := undef) rfl (by kernel_rfl) (by kernel_rfl) (by kernel_rfl) (fun _ _ _ h => h) (Or.inr ⟨by rfl, rfl⟩) (by assumption) ?_
            refine wpAnyH_take (i := 47) (oi := ⟨some 70, .move (.tmp 7), 3, "race.go:14", #[⟨45, .guard⟩], some (45, false)⟩) (v := undef) rfl (by kernel_rfl) (by kernel_rfl) (by kernel_rfl) (fun _ _ _ h => h) (Or.inr ⟨by rfl, rfl⟩) (by assumption) ?_
            refine wpAnyH_take (i := 48) (oi := ⟨some 71, .indexAddr 22 (.tmp 69) (.tmp 70), 0, "race.go:14", #[⟨46, .data⟩, ⟨47, .data⟩, ⟨45, .guard⟩], some (45, false)⟩) (v := undef) rfl (by kernel_rfl) (by kernel_rfl) (by kernel_rfl) (fun _ _ _ h => h) (Or.inr ⟨by rfl, rfl⟩) (by assumption) ?_
            try simp only [Act.put, List.setIfInBounds_toArray, List.set_cons_zero, List.set_cons_succ]
            refine wpAnyH_take (i := 49) (oi := ⟨some 72, .fieldAddr 41 (.tmp 71) 1, 0, "race.go:14", #[⟨48, .data⟩, ⟨45, .guard⟩], some (45, false)⟩) (v := undef) rfl (by kernel_rfl) (by kernel_rfl) (by kernel_rfl) (fun _ _ _ h => h) (Or.inr ⟨by rfl, rfl⟩) (by assumption) ?_
            refine wpAnyH_take (i := 50) (oi := ⟨some 73, .load 3 (.tmp 72), 3, "race.go:14", #[⟨49, .data⟩, ⟨45, .guard⟩], some (45, false)⟩) (v := undef) rfl (by kernel_rfl) (by kernel_rfl) (by kernel_rfl) (fun _ _ _ h => h) (Or.inr ⟨by rfl, rfl⟩) (by assumption) ?_
            refine wpAnyH_take (i := 51) (oi := ⟨some 74, .binOp .eql 3 (.tmp 73) (.const (.int .i64 13)) 3, 4, "race.go:14", #[⟨50, .data⟩, ⟨45, .guard⟩], some (45, false)⟩) (v := undef) rfl (by kernel_rfl) (by kernel_rfl) (by kernel_rfl) (fun _ _ _ h => h) (Or.inr ⟨by rfl, rfl⟩) (by assumption) ?_
            try simp only [Act.put, List.setIfInBounds_toArray, List.set_cons_zero, List.set_cons_succ]
            refine wpAnyH_take (i := 52) (oi := ⟨some 75, .pick (.tmp 68) (.const (.bool true)) (.tmp 74), 4, "race.go:14", #[⟨45, .data⟩, ⟨51, .data⟩, ⟨38, .guard⟩], some (38, true)⟩) (v := undef) rfl (by kernel_rfl) (by kernel_rfl) (by kernel_rfl) (fun _ _ _ h => h) (Or.inr ⟨by rfl, rfl⟩) (by assumption) ?_
            refine wpAnyH_take (i := 53) (oi := ⟨some 76, .pick (.tmp 61) (.tmp 75) (.const (.bool false)), 4, "race.go:14", #[⟨38, .data⟩, ⟨52, .data⟩], none⟩) (v := ?va53) rfl (by kernel_rfl) (by kernel_rfl) (by kernel_rfl) (fun _ _ _ h => h) (Or.inl ⟨by rfl, ?ya53⟩) (by assumption) ?ra53
            case ya53 => (intro w hSw; (try dsimp only at hSw); go_simp; try with_reducible rfl)
            refine wpAnyH_take (i := 54) (oi := ⟨some 77, .move (.tmp 76), 4, "race.go:14", #[⟨53, .data⟩, ⟨45, .chain⟩], none⟩) (v := ?va54) rfl (by kernel_rfl) (by kernel_rfl) (by kernel_rfl) (fun _ _ _ h => h) (Or.inl ⟨by rfl, ?ya54⟩) (by assumption) ?ra54
            case ya54 => (intro w hSw; (try dsimp only at hSw); go_simp; try with_reducible rfl)
            try simp only [Act.put, List.setIfInBounds_toArray, List.set_cons_zero, List.set_cons_succ]
            refine wpAnyH_take (i := 55) (oi := ⟨some 78, .move (.tmp 5), 38, "race.go:14", #[⟨54, .guard⟩], some (54, true)⟩) (v := undef) rfl (by kernel_rfl) (by kernel_rfl) (by kernel_rfl) (fun _ _ _ h => h) (Or.inr ⟨by rfl, rfl⟩) (by assumption) ?_
            refine wpAnyH_take (i := 56) (oi := ⟨some 79, .move (.tmp 7), 3, "race.go:14", #[⟨54, .guard⟩], some (54, true)⟩) (v := undef) rfl (by kernel_rfl) (by kernel_rfl) (by kernel_rfl) (fun _ _ _ h => h) (Or.inr ⟨by rfl, rfl⟩) (by assumption) ?_
            refine wpAnyH_take (i := 57) (oi := ⟨some 80, .indexAddr 38 (.tmp 78) (.tmp 79), 0, "race.go:14", #[⟨55, .data⟩, ⟨56, .data⟩, ⟨54, .guard⟩], some (54, true)⟩) (v := undef) rfl (by kernel_rfl) (by kernel_rfl) (by kernel_rfl) (fun _ _ _ h => h) (Or.inr ⟨by rfl, rfl⟩) (by assumption) ?_
            try simp only [Act.put, List.setIfInBounds_toArray, List.set_cons_zero, List.set_cons_succ]
            refine wpAnyH_take (i := 58) (oi := ⟨some 81, .load 42 (.tmp 80), 42, "race.go:14", #[⟨57, .data⟩, ⟨54, .guard⟩], some (54, true)⟩) (v := undef) rfl (by kernel_rfl) (by kernel_rfl) (by kernel_rfl) (fun _ _ _ h => h) (Or.inr ⟨by rfl, rfl⟩) (by assumption) ?_
            refine wpAnyH_take (i := 59) (oi := ⟨some 82, .move (.tmp 8), 3, "race.go:14", #[⟨54, .guard⟩], some (54, true)⟩) (v := undef) rfl (by kernel_rfl) (by kernel_rfl) (by kernel_rfl) (fun _ _ _ h => h) (Or.inr ⟨by rfl, rfl⟩) (by assumption) ?_
            refine wpAnyH_take (i := 60) (oi := ⟨some 83, .indexAddr 42 (.tmp 81) (.tmp 82), 0, "race.go:14", #[⟨58, .data⟩, ⟨59, .data⟩, ⟨54, .guard⟩], some (54, true)⟩) (v := undef) rfl (by kernel_rfl) (by kernel_rfl) (by kernel_rfl) (fun _ _ _ h => h) (Or.inr ⟨by rfl, rfl⟩) (by assumption) ?_
            try simp only [Act.put, List.setIfInBounds_toArray, List.set_cons_zero, List.set_cons_succ]
            refine wpAnyH_take (i := 61) (oi := ⟨some 84, .load 4 (.tmp 83), 4, "race.go:14", #[⟨60, .data⟩, ⟨54, .guard⟩], some (54, true)⟩) (v := undef) rfl (by kernel_rfl) (by kernel_rfl) (by kernel_rfl) (fun _ _ _ h => h) (Or.inr ⟨by rfl, rfl⟩) (by assumption) ?_
            refine wpAnyH_take (i := 62) (oi := ⟨some 85, .unOp .not 4 (.tmp 84), 4, "race.go:14", #[⟨61, .data⟩, ⟨54, .guard⟩], some (54, true)⟩) (v := undef) rfl (by kernel_rfl) (by kernel_rfl) (by kernel_rfl) (fun _ _ _ h => h) (Or.inr ⟨by rfl, rfl⟩) (by assumption) ?_
            refine wpAnyH_take (i := 63) (oi := ⟨some 86, .pick (.tmp 77) (.tmp 85) (.const (.bool false)), 4, "race.go:14", #[⟨54, .data⟩, ⟨62, .data⟩], none⟩) (v := ?va63) rfl (by kernel_rfl) (by kernel_rfl) (by kernel_rfl) (fun _ _ _ h => h) (Or.inl ⟨by rfl, ?ya63⟩) (by assumption) ?ra63
            case ya63 => (intro w hSw; (try dsimp only at hSw); go_simp; try with_reducible rfl)
            try simp only [Act.put, List.setIfInBounds_toArray, List.set_cons_zero, List.set_cons_succ]
            refine wpAnyH_done (by kernel_rfl) ?_ _
            refine NoPanic.normal ?_
            go_wp2_with fail
            go_roundw
            case rel => exact ⟨i + 1, a, r, c, by omega, by go_num, rfl, by omega, hide (by rw [unhide HO2]; exact unhide HRL), hide (by rw [unhide HO2]; exact (unhide HOi).below (unhide HX1)), hide (Below.next (unhide HBi) (unhide HX1) (Nat.le_of_eq (unhide HZ).symm))⟩
            case measure => simp [intOf]; omega
          · cases Ak
            · skip
              have HNO : Hid (rcB hs l k i = false) := by show _ = _; rw [unhide HRC]; rw [unhide HEAI, unhide HEAK]; rfl
              have HO2 : Hid (outI hs l k (i + 1) = outI hs l k i) := outI_no (unhide HNO)
              go_upto_region 9 with fail
              refine wp_region_noPanic ?_
              refine wp_region_held_drew (S := (fun W' => W'.cell? ⟨tb, tof + i * 4, none⟩ = some (.int .i64 ti) ∧ W'.cell? ⟨tb, tof + i * 4 + 1, none⟩ = some (.int .i64 oi) ∧ W'.cell? ⟨tb, tof + i * 4 + 2, none⟩ = some (.int .i64 bi) ∧ W'.cell? ⟨tb, tof + i * 4 + 3, none⟩ = some (.int .i64 vi) ∧ W'.cell? ⟨tb, tof + k * 4, none⟩ = some (.int .i64 tk) ∧ W'.cell? ⟨tb, tof + k * 4 + 1, none⟩ = some (.int .i64 ok) ∧ W'.cell? ⟨tb, tof + k * 4 + 2, none⟩ = some (.int .i64 bk) ∧ W'.cell? ⟨tb, tof + k * 4 + 3, none⟩ = some (.int .i64 vk) ∧ W'.cell? ⟨R, k, none⟩ = some (.slice (some ⟨bf k, 0, none⟩) n0 n0) ∧ W'.cell? ⟨bf k, i, none⟩ = some (.bool rM))) (by kernel_rfl) (unhide HS0) (fun hHeld => ?_)
              refine wpAnyH_take (i := 0) (oi := ⟨some 23, .move (.tmp 0), 22, "race.go:14", #[], none⟩) (v := ?vb0) rfl (by kernel_rfl) (by kernel_rfl) (by kernel_rfl) (fun _ _ _ h => h) (Or.inl ⟨by rfl, ?yb0⟩) (by assumption) ?rb0
              case yb0 => (intro w hSw; (try dsimp only at hSw); go_simp; try with_reducible rfl)
              refine wpAnyH_take (i := 1) (oi := ⟨some 24, .move (.tmp 8), 3, "race.go:14", #[], none⟩) (v := ?vb1) rfl (by kernel_rfl) (by kernel_rfl) (by kernel_rfl) (fun _ _ _ h => h) (Or.inl ⟨by rfl, ?yb1⟩) (by assumption) ?rb1
              case yb1 => (intro w hSw; (try dsimp only at hSw); go_simp; try with_reducible rfl)
              refine wpAnyH_take (i := 2) (oi := ⟨some 25, .indexAddr 22 (.tmp 23) (.tmp 24), 0, "race.go:14", #[⟨0, .data⟩, ⟨1, .data⟩], none⟩) (v := ?vb2) rfl (by kernel_rfl) (by kernel_rfl) (by kernel_rfl) (fun _ _ _ h => h) (Or.inl ⟨by rfl, ?yb2⟩) (by assumption) ?rb2
              case yb2 => (intro w hSw; (try dsimp only at hSw); go_simp; try with_reducible rfl)
              try simp only [Act.put, List.setIfInBounds_toArray, List.set_cons_zero, List.set_cons_succ]
              refine wpAnyH_take (i := 3) (oi := ⟨some 26, .load 41 (.tmp 25), 41, "race.go:14", #[⟨2, .data⟩], none⟩) (v := ?vb3) rfl (by kernel_rfl) (by kernel_rfl) (by kernel_rfl) (fun _ _ _ h => h) (Or.inl ⟨by rfl, ?yb3⟩) (by assumption) ?rb3
              case yb3 => (intro w hSw; (try dsimp only at hSw); go_simp; try with_reducible rfl)
              try simp only [Act.put, List.setIfInBounds_toArray, List.set_cons_zero, List.set_cons_succ]
              refine wpAnyH_ready (rs := [4]) (by kernel_rfl) (by simp) ?_
              refine AllReadyH.cons (o := ⟨some 27, .call { callee := .value (.func 28), args := #[.tmp 26], argTypes := #[41] }, 4, "race.go:14", #[⟨3, .data⟩], none⟩) rfl (fun K hK => ?_) AllReadyH.nil
              go_simp
              (go_at_call 28; (with_reducible refine Calls.mono (unhide HAI _) ?_); rintro e w1 ⟨rfl, hb1⟩; have HX1 := hide (Below.next (Below.refl wr.heap.size wr).drew hb1 (Nat.le_refl _)); have HS1 := hide (unhide HSS _ (unhide HX1)); clear hb1)
              refine hK.out _ _ (unhide HS1) (fun hHeld => ?_)
              clear hK K
              try simp only [Act.put, List.setIfInBounds_toArray, List.set_cons_zero, List.set_cons_succ]
              refine wpAnyH_take (i := 5) (oi := ⟨some 28, .move (.tmp 27), 4, "race.go:14", #[⟨4, .data⟩, ⟨4, .chain⟩], none⟩) (v := ?vb5) rfl (by kernel_rfl) (by kernel_rfl) (by kernel_rfl) (fun _ _ _ h => h) (Or.inl ⟨by rfl, ?yb5⟩) (by assumption) ?rb5
              case yb5 => (intro w hSw; (try dsimp only at hSw); go_simp; try with_reducible rfl)
              refine wpAnyH_take (i := 6) (oi := ⟨some 29, .move (.tmp 0), 22, "race.go:14", #[⟨5, .guard⟩], some (5, true)⟩) (v := ?vb6) rfl (by kernel_rfl) (by kernel_rfl) (by kernel_rfl) (fun _ _ _ h => h) (Or.inl ⟨by rfl, ?yb6⟩) (by assumption) ?rb6
              case yb6 => (intro w hSw; (try dsimp only at hSw); go_simp; try with_reducible rfl)
              try simp only [Act.put, List.setIfInBounds_toArray, List.set_cons_zero, List.set_cons_succ]
              refine wpAnyH_take (i := 7) (oi := ⟨some 30, .move (.tmp 7), 3, "race.go:14", #[⟨5, .guard⟩], some (5, true)⟩) (v := ?vb7) rfl (by kernel_rfl) (by kernel_rfl) (by kernel_rfl) (fun _ _ _ h => h) (Or.inl ⟨by rfl, ?yb7⟩) (by assumption) ?rb7
              case yb7 => (intro w hSw; (try dsimp only at hSw); go_simp; try with_reducible rfl)
              refine wpAnyH_take (i := 8) (oi := ⟨some 31, .indexAddr 22 (.tmp 29) (.tmp 30), 0, "race.go:14", #[⟨6, .data⟩, ⟨7, .data⟩, ⟨5, .guard⟩], some (5, true)⟩) (v := ?vb8) rfl (by kernel_rfl) (by kernel_rfl) (by kernel_rfl) (fun _ _ _ h => h) (Or.inl ⟨by rfl, ?yb8⟩) (by assumption) ?rb8
              case yb8 => (intro w hSw; (try dsimp only at hSw); go_simp; try with_reducible rfl)
              refine wpAnyH_take (i := 9) (oi := ⟨some 32, .load 41 (.tmp 31), 41, "race.go:14", #[⟨8, .data⟩, ⟨5, .guard⟩], some (5, true)⟩) (v := ?vb9) rfl (by kernel_rfl) (by kernel_rfl) (by kernel_rfl) (fun _ _ _ h => h) (Or.inl ⟨by rfl, ?yb9⟩) (by assumption) ?rb9
              case yb9 => (intro w hSw; (try dsimp only at hSw); go_simp; try with_reducible rfl)
              try simp only [Act.put, List.setIfInBounds_toArray, List.set_cons_zero, List.set_cons_succ]
              refine wpAnyH_ready (rs := [10]) (by kernel_rfl) (by simp) ?_
              refine AllReadyH.cons (o := ⟨some 33, .call { callee := .value (.func 28), args := #[.tmp 32], argTypes := #[41] }, 4, "race.go:14", #[⟨9, .data⟩, ⟨5, .chain⟩, ⟨5, .guard⟩], some (5, true)⟩) rfl (fun K hK => ?_) AllReadyH.nil
              go_simp
              (go_at_call 28; (with_reducible refine Calls.mono (unhide HAK _) ?_); rintro e w2 ⟨rfl, hb2⟩; have HX2 := hide (Below.next (unhide HX1) hb2 (Nat.le_refl _)); have HS2 := hide (unhide HSS _ (unhide HX2)); clear hb2)
              refine hK.out _ _ (unhide HS2) (fun hHeld => ?_)
              clear hK K
              try simp only [Act.put, List.setIfInBounds_toArray, List.set_cons_zero, List.set_cons_succ]
              refine wpAnyH_take (i := 11) (oi := ⟨some 34, .pick (.tmp 28) (.tmp 33) (.const (.bool false)), 4, "race.go:14", #[⟨5, .data⟩, ⟨10, .data⟩], none⟩) (v := ?vb11) rfl (by kernel_rfl) (by kernel_rfl) (by kernel_rfl) (fun _ _ _ h => h) (Or.inl ⟨by rfl, ?yb11⟩) (by assumption) ?rb11
              case yb11 => (intro w hSw; (try dsimp only at hSw); go_simp; try with_reducible rfl)
              refine wpAnyH_take (i := 12) (oi := ⟨some 35, .move (.tmp 34), 4, "race.go:14", #[⟨11, .data⟩, ⟨10, .chain⟩], none⟩) (v := ?vb12) rfl (by kernel_rfl) (by kernel_rfl) (by kernel_rfl) (fun _ _ _ h => h) (Or.inl ⟨by rfl, ?yb12⟩) (by assumption) ?rb12
              case yb12 => (intro w hSw; (try dsimp only at hSw); go_simp; try with_reducible rfl)
              refine wpAnyH_take (i := 13) (oi := ⟨some 36, .move (.tmp 0), 22, "race.go:14", #[⟨12, .guard⟩], some (12, true)⟩) (v := undef) rfl (by kernel_rfl) (by kernel_rfl) (by kernel_rfl) (fun _ _ _ h => h) (Or.inr ⟨by rfl, rfl⟩) (by assumption) ?_
              try simp only [Act.put, List.setIfInBounds_toArray, List.set_cons_zero, List.set_cons_succ]
              refine wpAnyH_take (i := 14) (oi := ⟨some 37, .move (.tmp 8), 3, "race.go:14", #[⟨12, .guard⟩], some (12, true)⟩) (v := undef) rfl (by kernel_rfl) (by kernel_rfl) (by kernel_rfl) (fun _ _ _ h => h) (Or.inr ⟨by rfl, rfl⟩) (by assumption) ?_
              refine wpAnyH_take (i := 15) (oi := ⟨some 38, .indexAddr 22 (.tmp 36) (.tmp 37), 0, "race.go:14", #[⟨13, .data⟩, ⟨14, .data⟩, ⟨12, .guard⟩], some (12, true)⟩) (v := undef) rfl (by kernel_rfl) (by kernel_rfl) (by kernel_rfl) (fun _ _ _ h => h) (Or.inr ⟨by rfl, rfl⟩) (by assumption) ?_
              refine wpAnyH_take (i := 16) (oi := ⟨some 39, .fieldAddr 41 (.tmp 38) 2, 0, "race.go:14", #[⟨15, .data⟩, ⟨12, .guard⟩], some (12, true)⟩) (v := undef) rfl (by kernel_rfl) (by kernel_rfl) (by kernel_rfl) (fun _ _ _ h => h) (Or.inr ⟨by rfl, rfl⟩) (by assumption) ?_
              try simp only [Act.put, List.setIfInBounds_toArray, List.set_cons_zero, List.set_cons_succ]
              refine wpAnyH_take (i := 17) (oi := ⟨some 40, .load 3 (.tmp 39), 3, "race.go:14", #[⟨16, .data⟩, ⟨12, .guard⟩], some (12, true)⟩) (v := undef) rfl (by kernel_rfl) (by kernel_rfl) (by kernel_rfl) (fun _ _ _ h => h) (Or.inr ⟨by rfl, rfl⟩) (by assumption) ?_
              refine wpAnyH_take (i := 18) (oi := ⟨some 41, .move (.tmp 0), 22, "race.go:14", #[⟨12, .guard⟩], some (12, true)⟩) (v := undef) rfl (by kernel_rfl) (by kernel_rfl) (by kernel_rfl) (fun _ _ _ h => h) (Or.inr ⟨by rfl, rfl⟩) (by assumption) ?_
              refine wpAnyH_take (i := 19) (oi := ⟨some 42, .move (.tmp 7), 3, "race.go:14", #[⟨12, .guard⟩], some (12, true)⟩) (v := undef) rfl (by kernel_rfl) (by kernel_rfl) (by kernel_rfl) (fun _ _ _ h => h) (Or.inr ⟨by rfl, rfl⟩) (by assumption) ?_
              try simp only [Act.put, List.setIfInBounds_toArray, List.set_cons_zero, List.set_cons_succ]
              refine wpAnyH_take (i := 20) (oi := ⟨some 43, .indexAddr 22 (.tmp 41) (.tmp 42), 0, "race.go:14", #[⟨18, .data⟩, ⟨19, .data⟩, ⟨12, .guard⟩], some (12, true)⟩) (v := undef) rfl (by kernel_rfl) (by kernel_rfl) (by kernel_rfl) (fun _ _ _ h => h) (Or.inr ⟨by rfl, rfl⟩) (by assumption) ?_
              refine wpAnyH_take (i := 21) (oi := ⟨some 44, .fieldAddr 41 (.tmp 43) 2, 0, "race.go:14", #[⟨20, .data⟩, ⟨12, .guard⟩], some (12, true)⟩) (v := undef) rfl (by kernel_rfl) (by kernel_rfl) (by kernel_rfl) (fun _ _ _ h => h) (Or.inr ⟨by rfl, rfl⟩) (by assumption) ?_
              refine wpAnyH_take (i := 22) (oi := ⟨some 45, .load 3 (.tmp 44), 3, "race.go:14", #[⟨21, .data⟩, ⟨12, .guard⟩], some (12, true)⟩) (v := undef) rfl (by kernel_rfl) (by kernel_rfl) (by kernel_rfl) (fun _ _ _ h => h) (Or.inr ⟨by rfl, rfl⟩) (by assumption) ?_
              try simp only [Act.put, List.setIfInBounds_toArray, List.set_cons_zero, List.set_cons_succ]
              refine wpAnyH_take (i := 23) (oi := ⟨some 46, .binOp .eql 3 (.tmp 40) (.tmp 45) 3, 4, "race.go:14", #[⟨17, .data⟩, ⟨22, .data⟩, ⟨12, .guard⟩], some (12, true)⟩) (v := undef) rfl (by kernel_rfl) (by kernel_rfl) (by kernel_rfl) (fun _ _ _ h => h) (Or.inr ⟨by rfl, rfl⟩) (by assumption) ?_
              refine wpAnyH_take (i := 24) (oi := ⟨some 47, .pick (.tmp 35) (.tmp 46) (.const (.bool false)), 4, "race.go:14", #[⟨12, .data⟩, ⟨23, .data⟩], none⟩) (v := ?vb24) rfl (by kernel_rfl) (by kernel_rfl) (by kernel_rfl) (fun _ _ _ h => h) (Or.inl ⟨by rfl, ?yb24⟩) (by assumption) ?rb24
              case yb24 => (intro w hSw; (try dsimp only at hSw); go_simp; try with_reducible rfl)
              refine wpAnyH_take (i := 25) (oi := ⟨some 48, .move (.tmp 47), 4, "race.go:14", #[⟨24, .data⟩, ⟨12, .chain⟩], none⟩) (v := ?vb25) rfl (by kernel_rfl) (by kernel_rfl) (by kernel_rfl) (fun _ _ _ h => h) (Or.inl ⟨by rfl, ?yb25⟩) (by assumption) ?rb25
              case yb25 => (intro w hSw; (try dsimp only at hSw); go_simp; try with_reducible rfl)
              try simp only [Act.put, List.setIfInBounds_toArray, List.set_cons_zero, List.set_cons_succ]
              refine wpAnyH_take (i := 26) (oi := ⟨some 49, .move (.tmp 0), 22, "race.go:14", #[⟨25, .guard⟩], some (25, true)⟩) (v := undef) rfl (by kernel_rfl) (by kernel_rfl) (by kernel_rfl) (fun _ _ _ h => h) (Or.inr ⟨by rfl, rfl⟩) (by assumption) ?_
              refine wpAnyH_take (i := 27) (oi := ⟨some 50, .move (.tmp 8), 3, "race.go:14", #[⟨25, .guard⟩], some (25, true)⟩) (v := undef) rfl (by kernel_rfl) (by kernel_rfl) (by kernel_rfl) (fun _ _ _ h => h) (Or.inr ⟨by rfl, rfl⟩) (by assumption) ?_
              refine wpAnyH_take (i := 28) (oi := ⟨some 51, .indexAddr 22 (.tmp 49) (.tmp 50), 0, "race.go:14", #[⟨26, .data⟩, ⟨27, .data⟩, ⟨25, .guard⟩], some (25, true)⟩) (v := undef) rfl (by kernel_rfl) (by kernel_rfl) (by kernel_rfl) (fun _ _ _ h => h) (Or.inr ⟨by rfl, rfl⟩) (by assumption) ?_
              try simp only [Act.put, List.setIfInBounds_toArray, List.set_cons_zero, List.set_cons_succ]
              refine wpAnyH_take (i := 29) (oi := ⟨some 52, .fieldAddr 41 (.tmp 51) 0, 0, "race.go:14", #[⟨28, .data⟩, ⟨25, .guard⟩], some (25, true)⟩) (v := undef) rfl (by kernel_rfl) (by kernel_rfl) (by kernel_rfl) (fun _ _ _ h => h) (Or.inr ⟨by rfl, rfl⟩) (by assumption) ?_
              refine wpAnyH_take (i := 30) (oi := ⟨some 53, .load 3 (.tmp 52), 3, "race.go:14", #[⟨29, .data⟩, ⟨25, .guard⟩], some (25, true)⟩) (v := undef) rfl (by kernel_rfl) (by kernel_rfl) (by kernel_rfl) (fun _ _ _ h => h) (Or.inr ⟨by rfl, rfl⟩) (by assumption) ?_
              refine wpAnyH_take (i := 31) (oi := ⟨some 54, .move (.tmp 0), 22, "race.go:14", #[⟨25, .guard⟩], some (25, true)⟩) (v := undef) rfl (by kernel_rfl) (by kernel_rfl) (by kernel_rfl) (fun _ _ _ h => h) (Or.inr ⟨by rfl, rfl⟩) (by assumption) ?_
              try simp only [Act.put, List.setIfInBounds_toArray, List.set_cons_zero, List.set_cons_succ]
              refine wpAnyH_take (i := 32) (oi := ⟨some 55, .move (.tmp 7), 3, "race.go:14", #[⟨25, .guard⟩], some (25, true)⟩) (v := undef) rfl (by kernel_rfl) (by kernel_rfl) (by kernel_rfl) (fun _ _ _ h => h) (Or.inr ⟨by rfl, rfl⟩) (by assumption) ?_
              refine wpAnyH_take (i := 33) (oi := ⟨some 56, .indexAddr 22 (.tmp 54) (.tmp 55), 0, "race.go:14", #[⟨31, .data⟩, ⟨32, .data⟩, ⟨25, .guard⟩], some (25, true)⟩) (v := undef) rfl (by kernel_rfl) (by kernel_rfl) (by kernel_rfl) (fun _ _ _ h => h) (Or.inr ⟨by rfl, rfl⟩) (by assumption) ?_
              refine wpAnyH_take (i := 34) (oi := ⟨some 57, .fieldAddr 41 (.tmp 56) 0, 0, "race.go:14", #[⟨33, .data⟩, ⟨25, .guard⟩], some (25, true)⟩) (v := undef) rfl (by kernel_rfl) (by kernel_rfl) (by kernel_rfl) (fun _ _ _ h => h) (Or.inr ⟨by rfl, rfl⟩) (by assumption) ?_
              try simp only [Act.put, List.setIfInBounds_toArray, List.set_cons_zero, List.set_cons_succ]
              refine wpAnyH_take (i := 35) (oi := ⟨some 58, .load 3 (.tmp 57), 3, "race.go:14", #[⟨34, .data⟩, ⟨25, .guard⟩], some (25, true)⟩) (v := undef) rfl (by kernel_rfl) (by kernel_rfl) (by kernel_rfl) (fun _ _ _ h => h) (Or.inr ⟨by rfl, rfl⟩) (by assumption) ?_
              refine wpAnyH_take (i := 36) (oi := ⟨some 59, .binOp .neq 3 (.tmp 53) (.tmp 58) 3, 4, "race.go:14", #[⟨30, .data⟩, ⟨35, .data⟩, ⟨25, .guard⟩], some (25, true)⟩) (v := undef) rfl (by kernel_rfl) (by kernel_rfl) (by kernel_rfl) (fun _ _ _ h => h) (Or.inr ⟨by rfl, rfl⟩) (by assumption) ?_
              refine wpAnyH_take (i := 37) (oi := ⟨some 60, .pick (.tmp 48) (.tmp 59) (.const (.bool false)), 4, "race.go:14", #[⟨25, .data⟩, ⟨36, .data⟩], none⟩) (v := ?vb37) rfl (by kernel_rfl) (by kernel_rfl) (by kernel_rfl) (fun _ _ _ h => h) (Or.inl ⟨by rfl, ?yb37⟩) (by assumption) ?rb37
              case yb37 => (intro w hSw; (try dsimp only at hSw); go_simp; try with_reducible rfl)
              try simp only [Act.put, List.setIfInBounds_toArray, List.set_cons_zero, List.set_cons_succ]
              refine wpAnyH_take (i := 38) (oi := ⟨some 61, .move (.tmp 60), 4, "race.go:14", #[⟨37, .data⟩, ⟨25, .chain⟩], none⟩) (v := ?vb38) rfl (by kernel_rfl) (by kernel_rfl) (by kernel_rfl) (fun _ _ _ h => h) (Or.inl ⟨by rfl, ?yb38⟩) (by assumption) ?rb38
              case yb38 => (intro w hSw; (try dsimp only at hSw); go_simp; try with_reducible rfl)
              refine wpAnyH_take (i := 39) (oi := ⟨some 62, .move (.tmp 0), 22, "race.go:14", #[⟨38, .guard⟩], some (38, true)⟩) (v := undef) rfl (by kernel_rfl) (by kernel_rfl) (by kernel_rfl) (fun _ _ _ h => h) (Or.inr ⟨by rfl, rfl⟩) (by assumption) ?_
              refine wpAnyH_take (i := 40) (oi := ⟨some 63, .move (.tmp 8), 3, "race.go:14", #[⟨38, .guard⟩], some (38, true)⟩) (v := undef) rfl (by kernel_rfl) (by kernel_rfl) (by kernel_rfl) (fun _ _ _ h => h) (Or.inr ⟨by rfl, rfl⟩) (by assumption) ?_
              try simp only [Act.put, List.setIfInBounds_toArray, List.set_cons_zero, List.set_cons_succ]
              refine wpAnyH_take (i := 41) (oi := ⟨some 64, .indexAddr 22 (.tmp 62) (.tmp 63), 0, "race.go:14", #[⟨39, .data⟩, ⟨40, .data⟩, ⟨38, .guard⟩], some (38, true)⟩) (v := undef) rfl (by kernel_rfl) (by kernel_rfl) (by kernel_rfl) (fun _ _ _ h => h) (Or.inr ⟨by rfl, rfl⟩) (by assumption) ?_
              refine wpAnyH_take (i := 42) (oi := ⟨some 65, .fieldAddr 41 (.tmp 64) 1, 0, "race.go:14", #[⟨41, .data⟩, ⟨38, .guard⟩], some (38, true)⟩) (v := undef) rfl (by kernel_rfl) (by kernel_rfl) (by kernel_rfl) (fun _ _ _ h => h) (Or.inr ⟨by rfl, rfl⟩) (by assumption) ?_
              refine wpAnyH_take (i := 43) (oi := ⟨some 66, .load 3 (.tmp 65), 3, "race.go:14", #[⟨42, .data⟩, ⟨38, .guard⟩], some (38, true)⟩) (v := undef) rfl (by kernel_rfl) (by kernel_rfl) (by kernel_rfl) (fun _ _ _ h => h) (Or.inr ⟨by rfl, rfl⟩) (by assumption) ?_
              try simp only [Act.put, List.setIfInBounds_toArray, List.set_cons_zero, List.set_cons_succ]
              refine wpAnyH_take (i := 44) (oi := ⟨some 67, .binOp .eql 3 (.tmp 66) (.const (.int .i64 13)) 3, 4, "race.go:14", #[⟨43, .data⟩, ⟨38, .guard⟩], some (38, true)⟩) (v := undef) rfl (by kernel_rfl) (by kernel_rfl) (by kernel_rfl) (fun _ _ _ h => h) (Or.inr ⟨by rfl, rfl⟩) (by assumption) ?_
              refine wpAnyH_take (i := 45) (oi := ⟨some 68, .move (.tmp 67), 4, "race.go:14", #[⟨44, .data⟩, ⟨38, .chain⟩, ⟨38, .guard⟩], some (38, true)⟩) (v := undef) rfl (by kernel_rfl) (by kernel_rfl) (by kernel_rfl) (fun _ _ _ h => h) (Or.inr ⟨by rfl, rfl⟩) (by assumption) ?_
              refine wpAnyH_take (i := 46) (oi := ⟨some 69, .move (.tmp 0), 22, "race.go:14", #[⟨45, .guard⟩], some (45, false)⟩) (v := undef) rfl (by kernel_rfl) (by kernel_rfl) (by kernel_rfl) (fun _ _ _ h => h) (Or.inr ⟨by rfl, rfl⟩) (by assumption) ?_
              try simp only [Act.put, List.setIfInBounds_toArray, List.set_cons_zero, List.set_cons_succ]
              refine wpAnyH_take (i := 47) (oi := ⟨some 70, .move (.tmp 7), 3, "race.go:14", #[⟨45, .guard⟩], some (45, false)⟩) (v := undef) rfl (by kernel_rfl) (by kernel_rfl) (by kernel_rfl) (fun _ _ _ h => h) (Or.inr ⟨by rfl, rfl⟩) (by assumption) ?_
              refine wpAnyH_take (i := 48) (oi := ⟨some 71, .indexAddr 22 (.tmp 69) (.tmp 70), 0, "race.go:14", #[⟨46, .data⟩, ⟨47, .data⟩, ⟨45, .guard⟩], some (45, false)⟩) (v := undef) rfl (by kernel_rfl) (by kernel_rfl) (by kernel_rfl) (fun _ _ _ h => h) (Or.inr ⟨by rfl, rfl⟩) (by assumption) ?_
              refine wpAnyH_take (i := 49) (oi := ⟨some 72, .fieldAddr 41 (.tmp 71) 1, 0, "race.go:14", #[⟨48, .data⟩, ⟨45, .guard⟩], some (45, false)⟩) (v := undef) rfl (by kernel_rfl) (by kernel_rfl) (by kernel_rfl) (fun _ _ _ h => h) (Or.inr ⟨by rfl, rfl⟩) (by assumption) ?_
              try simp only [Act.put, List.setIfInBounds_toArray, List.set_cons_zero, List.set_cons_succ]
              refine wpAnyH_take (i := 50) (oi := ⟨some 73, .load 3 (.tmp 72), 3, "race.go:14", #[⟨49, .data⟩, ⟨45, .guard⟩], some (45, false)⟩) (v := undef) rfl (by kernel_rfl) (by kernel_rfl) (by kernel_rfl) (fun _ _ _ h => h) (Or.inr ⟨by rfl, rfl⟩) (by assumption) ?_
              refine wpAnyH_take (i := 51) (oi := ⟨some 74, .binOp .eql 3 (.tmp 73) (.const (.int .i64 13)) 3, 4, "race.go:14", #[⟨50, .data⟩, ⟨45, .guard⟩], some (45, false)⟩) (v := undef) rfl (by kernel_rfl) (by kernel_rfl) (by kernel_rfl) (fun _ _ _ h => h) (Or.inr ⟨by rfl, rfl⟩) (by assumption) ?_
              refine wpAnyH_take (i := 52) (oi := ⟨some 75, .pick (.tmp 68) (.const (.bool true)) (.tmp 74), 4, "race.go:14", #[⟨45, .data⟩, ⟨51, .data⟩, ⟨38, .guard⟩], some (38, true)⟩) (v := undef) rfl (by kernel_rfl) (by kernel_rfl) (by kernel_rfl) (fun _ _ _ h => h) (Or.inr ⟨by rfl, rfl⟩) (by assumption) ?_
              try simp only [Act.put, List.setIfInBounds_toArray, List.set_cons_zero, List.set_cons_succ]
              refine wpAnyH_take (i := 53) (oi := ⟨some 76, .pick (.tmp 61) (.tmp 75) (.const (.bool false)), 4, "race.go:14", #[⟨38, .data⟩, ⟨52, .data⟩], none⟩) (v := ?vb53) rfl (by kernel_rfl) (by kernel_rfl) (by kernel_rfl) (fun _ _ _ h => h) (Or.inl ⟨by rfl, ?yb53⟩) (by assumption) ?rb53
              case yb53 => (intro w hSw; (try dsimp only at hSw); go_simp; try with_reducible rfl)
              refine wpAnyH_take (i := 54) (oi := ⟨some 77, .move (.tmp 76), 4, "race.go:14", #[⟨53, .data⟩, ⟨45, .chain⟩], none⟩) (v := ?vb54) rfl (by kernel_rfl) (by kernel_rfl) (by kernel_rfl) (fun _ _ _ h => h) (Or.inl ⟨by rfl, ?yb54⟩) (by assumption) ?rb54
              case yb54 => (intro w hSw; (try dsimp only at hSw); go_simp; try with_reducible rfl)
              refine wpAnyH_take (i := 55) (oi := ⟨some 78, .move (.tmp 5), 38, "race.go:14", #[⟨54, .guard⟩], some (54, true)⟩) (v := undef) rfl (by kernel_rfl) (by kernel_rfl) (by kernel_rfl) (fun _ _ _ h => h) (Or.inr ⟨by rfl, rfl⟩) (by assumption) ?_
              try simp only [Act.put, List.setIfInBounds_toArray, List.set_cons_zero, List.set_cons_succ]
              refine wpAnyH_take (i := 56) (oi := ⟨some 79, .move (.tmp 7), 3, "race.go:14", #[⟨54, .guard⟩], some (54, true)⟩) (v := undef) rfl (by kernel_rfl) (by kernel_rfl) (by kernel_rfl) (fun _ _ _ h => h) (Or.inr ⟨by rfl, rfl⟩) (by assumption) ?_
              refine wpAnyH_take (i := 57) (oi := ⟨some 80, .indexAddr 38 (.tmp 78) (.tmp 79), 0, "race.go:14", #[⟨55, .data⟩, ⟨56, .data⟩, ⟨54, .guard⟩], some (54, true)⟩) (v := undef) rfl (by kernel_rfl) (by kernel_rfl) (by kernel_rfl) (fun _ _ _ h => h) (Or.inr ⟨by rfl, rfl⟩) (by assumption) ?_
              refine wpAnyH_take (i := 58) (oi := ⟨some 81, .load 42 (.tmp 80), 42, "race.go:14", #[⟨57, .data⟩, ⟨54, .guard⟩], some (54, true)⟩) (v := undef) rfl (by kernel_rfl) (by kernel_rfl) (by kernel_rfl) (fun _ _ _ h => h) (Or.inr ⟨by rfl, rfl⟩) (by assumption) ?_
              try simp only [Act.put, List.setIfInBounds_toArray, List.set_cons_zero, List.set_cons_succ]
              refine wpAnyH_take (i := 59) (oi := ⟨some 82, .move (.tmp 8), 3, "race.go:14", #[⟨54, .guard⟩], some (54, true)⟩) (v := undef) rfl (by kernel_rfl) (by kernel_rfl) (by kernel_rfl) (fun _ _ _ h => h) (Or.inr ⟨by rfl, rfl⟩) (by assumption) ?_
              refine wpAnyH_take (i := 60) (oi := ⟨some 83, .indexAddr 42 (.tmp 81) (.tmp 82), 0, "race.go:14", #[⟨58, .data⟩, ⟨59, .data⟩, ⟨54, .guard⟩], some (54, true)⟩) (v := undef) rfl (by kernel_rfl) (by kernel_rfl) (by kernel_rfl) (fun _ _ _ h => h) (Or.inr ⟨by rfl, rfl⟩) (by assumption) ?_
              refine wpAnyH_take (i := 61) (oi := ⟨some 84, .load 4 (.tmp 83), 4, "race.go:14", #[⟨60, .data⟩, ⟨54, .guard⟩], some (54, true)⟩) (v := undef) rfl (by kernel_rfl) (by kernel_rfl) (by kernel_rfl) (fun _ _ _ h => h) (Or.inr ⟨by rfl, rfl⟩) (by assumption) ?_
              try simp only [Act.put, List.setIfInBounds_toArray, List.set_cons_zero, List.set_cons_succ]
              refine wpAnyH_take (i := 62) (oi := ⟨some 85, .unOp .not 4 (.tmp 84), 4, "race.go:14", #[⟨61, .data⟩, ⟨54, .guard⟩], some (54, true)⟩) (v := undef) rfl (by kernel_rfl) (by kernel_rfl) (by kernel_rfl) (fun _ _ _ h => h) (Or.inr ⟨by rfl, rfl⟩) (by assumption) ?_
              refine wpAnyH_take (i := 63) (oi := ⟨some 86, .pick (.tmp 77) (.tmp 85) (.const (.bool false)), 4, "race.go:14", #[⟨54, .data⟩, ⟨62, .data⟩], none⟩) (v := ?vb63) rfl (by kernel_rfl) (by kernel_rfl) (by kernel_rfl) (fun _ _ _ h => h) (Or.inl ⟨by rfl, ?yb63⟩) (by assumption) ?rb63
              case yb63 => (intro w hSw; (try dsimp only at hSw); go_simp; try with_reducible rfl)
              try simp only [Act.put, List.setIfInBounds_toArray, List.set_cons_zero, List.set_cons_succ]
              refine wpAnyH_done (by kernel_rfl) ?_ _
              refine NoPanic.normal ?_
              go_wp2_with fail
              go_roundw
              case rel => exact ⟨i + 1, a, r, c, by omega, by go_num, rfl, by omega, hide (by rw [unhide HO2]; exact unhide HRL), hide (by rw [unhide HO2]; exact (unhide HOi).below (unhide HX2)), hide (Below.next (unhide HBi) (unhide HX2) (Nat.le_of_eq (unhide HZ).symm))⟩
              case measure => simp [intOf]; omega
            · by_cases hob : bi = bk
              · subst hob
                have xo : (bi == bi) = true := by simp
                by_cases htk : ti = tk
                · subst htk
                  have xt : (ti != ti) = false := by simp
                  have HNO : Hid (rcB hs l k i = false) := by show _ = _; rw [unhide HRC]; rw [unhide HEAI, unhide HEAK]; simp
                  have HO2 : Hid (outI hs l k (i + 1) = outI hs l k i) := outI_no (unhide HNO)
                  go_upto_region 9 with fail
                  refine wp_region_noPanic ?_
                  refine wp_region_held_drew (S := (fun W' => W'.cell? ⟨tb, tof + i * 4, none⟩ = some (.int .i64 ti) ∧ W'.cell? ⟨tb, tof + i * 4 + 1, none⟩ = some (.int .i64 oi) ∧ W'.cell? ⟨tb, tof + i * 4 + 2, none⟩ = some (.int .i64 bi) ∧ W'.cell? ⟨tb, tof + i * 4 + 3, none⟩ = some (.int .i64 vi) ∧ W'.cell? ⟨tb, tof + k * 4, none⟩ = some (.int .i64 ti) ∧ W'.cell? ⟨tb, tof + k * 4 + 1, none⟩ = some (.int .i64 ok) ∧ W'.cell? ⟨tb, tof + k * 4 + 2, none⟩ = some (.int .i64 bi) ∧ W'.cell? ⟨tb, tof + k * 4 + 3, none⟩ = some (.int .i64 vk) ∧ W'.cell? ⟨R, k, none⟩ = some (.slice (some ⟨bf k, 0, none⟩) n0 n0) ∧ W'.cell? ⟨bf k, i, none⟩ = some (.bool rM))) (by kernel_rfl) (unhide HS0) (fun hHeld => ?_)
                  refine wpAnyH_take (i := 0) (oi := ⟨some 23, .move (.tmp 0), 22, "race.go:14", #[], none⟩) (v := ?vc0) rfl (by kernel_rfl) (by kernel_rfl) (by kernel_rfl) (fun _ _ _ h => h) (Or.inl ⟨by rfl, ?yc0⟩) (by assumption) ?rc0
                  case yc0 => (intro w hSw; (try dsimp only at hSw); go_simp; try with_reducible rfl)
                  refine wpAnyH_take (i := 1) (oi := ⟨some 24, .move (.tmp 8), 3, "race.go:14", #[], none⟩) (v := ?vc1) rfl (by kernel_rfl) (by kernel_rfl) (by kernel_rfl) (fun _ _ _ h => h) (Or.inl ⟨by rfl, ?yc1⟩) (by assumption) ?rc1
                  case yc1 => (intro w hSw; (try dsimp only at hSw); go_simp; try with_reducible rfl)
                  refine wpAnyH_take (i := 2) (oi := ⟨some 25, .indexAddr 22 (.tmp 23) (.tmp 24), 0, "race.go:14", #[⟨0, .data⟩, ⟨1, .data⟩], none⟩) (v := ?vc2) rfl (by kernel_rfl) (by kernel_rfl) (by kernel_rfl) (fun _ _ _ h => h) (Or.inl ⟨by rfl, ?yc2⟩) (by assumption) ?rc2
                  case yc2 => (intro w hSw; (try dsimp only at hSw); go_simp; try with_reducible rfl)
                  try simp only [Act.put, List.setIfInBounds_toArray, List.set_cons_zero, List.set_cons_succ]
                  refine wpAnyH_take (i := 3) (oi := ⟨some 26, .load 41 (.tmp 25), 41, "race.go:14", #[⟨2, .data⟩], none⟩) (v := ?vc3) rfl (by kernel_rfl) (by kernel_rfl) (by kernel_rfl) (fun _ _ _ h => h) (Or.inl ⟨by rfl, ?yc3⟩) (by assumption) ?rc3
                  case yc3 => (intro w hSw; (try dsimp only at hSw); go_simp; try with_reducible rfl)
                  try simp only [Act.put, List.setIfInBounds_toArray, List.set_cons_zero, List.set_cons_succ]
                  refine wpAnyH_ready (rs := [4]) (by kernel_rfl) (by simp) ?_
                  refine AllReadyH.cons (o := ⟨some 27, .call { callee := .value (.func 28), args := #[.tmp 26], argTypes := #[41] }, 4, "race.go:14", #[⟨3, .data⟩], none⟩) rfl (fun K hK => ?_) AllReadyH.nil
                  go_simp
                  (go_at_call 28; (with_reducible refine Calls.mono (unhide HAI _) ?_); rintro e w1 ⟨rfl, hb1⟩; have HX1 := hide (Below.next (Below.refl wr.heap.size wr).drew hb1 (Nat.le_refl _)); have HS1 := hide (unhide HSS _ (unhide HX1)); clear hb1)
                  refine hK.out _ _ (unhide HS1) (fun hHeld => ?_)
                  clear hK K
                  try simp only [Act.put, List.setIfInBounds_toArray, List.set_cons_zero, List.set_cons_succ]
                  refine wpAnyH_take (i := 5) (oi := ⟨some 28, .move (.tmp 27), 4, "race.go:14", #[⟨4, .data⟩, ⟨4, .chain⟩], none⟩) (v := ?vc5) rfl (by kernel_rfl) (by kernel_rfl) (by kernel_rfl) (fun _ _ _ h => h) (Or.inl ⟨by rfl, ?yc5⟩) (by assumption) ?rc5
                  case yc5 => (intro w hSw; (try dsimp only at hSw); go_simp; try with_reducible rfl)
                  refine wpAnyH_take (i := 6) (oi := ⟨some 29, .move (.tmp 0), 22, "race.go:14", #[⟨5, .guard⟩], some (5, true)⟩) (v := ?vc6) rfl (by kernel_rfl) (by kernel_rfl) (by kernel_rfl) (fun _ _ _ h => h) (Or.inl ⟨by rfl, ?yc6⟩) (by assumption) ?rc6
                  case yc6 => (intro w hSw; (try dsimp only at hSw); go_simp; try with_reducible rfl)
                  try simp only [Act.put, List.setIfInBounds_toArray, List.set_cons_zero, List.set_cons_succ]
                  refine wpAnyH_take (i := 7) (oi := ⟨some 30, .move (.tmp 7), 3, "race.go:14", #[⟨5, .guard⟩], some (5, true)⟩) (v := ?vc7) rfl (by kernel_rfl) (by kernel_rfl) (by kernel_rfl) (fun _ _ _ h => h) (Or.inl ⟨by rfl, ?yc7⟩) (by assumption) ?rc7
                  case yc7 => (intro w hSw; (try dsimp only at hSw); go_simp; try with_reducible rfl)
                  refine wpAnyH_take (i := 8) (oi := ⟨some 31, .indexAddr 22 (.tmp 29) (.tmp 30), 0, "race.go:14", #[⟨6, .data⟩, ⟨7, .data⟩, ⟨5, .guard⟩], some (5, true)⟩) (v := ?vc8) rfl (by kernel_rfl) (by kernel_rfl) (by kernel_rfl) (fun _ _ _ h => h) (Or.inl ⟨by rfl, ?yc8⟩) (by assumption) ?rc8
                  case yc8 => (intro w hSw; (try dsimp only at hSw); go_simp; try with_reducible rfl)
                  refine wpAnyH_take (i := 9) (oi := ⟨some 32, .load 41 (.tmp 31), 41, "race.go:14", #[⟨8, .data⟩, ⟨5, .guard⟩], some (5, true)⟩) (v := ?vc9) rfl (by kernel_rfl) (by kernel_rfl) (by kernel_rfl) (fun _ _ _ h => h) (Or.inl ⟨by rfl, ?yc9⟩) (by assumption) ?rc9
                  case yc9 => (intro w hSw; (try dsimp only at hSw); go_simp; try with_reducible rfl)
                  try simp only [Act.put, List.setIfInBounds_toArray, List.set_cons_zero, List.set_cons_succ]
                  refine wpAnyH_ready (rs := [10]) (by kernel_rfl) (by simp) ?_
                  refine AllReadyH.cons (o := ⟨some 33, .call { callee := .value (.func 28), args := #[.tmp 32], argTypes := #[41] }, 4, "race.go:14", #[⟨9, .data⟩, ⟨5, .chain⟩, ⟨5, .guard⟩], some (5, true)⟩) rfl (fun K hK => ?_) AllReadyH.nil
                  go_simp
                  (go_at_call 28; (with_reducible refine Calls.mono (unhide HAK _) ?_); rintro e w2 ⟨rfl, hb2⟩; have HX2 := hide (Below.next (unhide HX1) hb2 (Nat.le_refl _)); have HS2 := hide (unhide HSS _ (unhide HX2)); clear hb2)
                  refine hK.out _ _ (unhide HS2) (fun hHeld => ?_)
                  clear hK K
                  try simp only [Act.put, List.setIfInBounds_toArray, List.set_cons_zero, List.set_cons_succ]
                  refine wpAnyH_take (i := 11) (oi := ⟨some 34, .pick (.tmp 28) (.tmp 33) (.const (.bool false)), 4, "race.go:14", #[⟨5, .data⟩, ⟨10, .data⟩], none⟩) (v := ?vc11) rfl (by kernel_rfl) (by kernel_rfl) (by kernel_rfl) (fun _ _ _ h => h) (Or.inl ⟨by rfl, ?yc11⟩) (by assumption) ?rc11
                  case yc11 => (intro w hSw; (try dsimp only at hSw); go_simp; try with_reducible rfl)
                  refine wpAnyH_take (i := 12) (oi := ⟨some 35, .move (.tmp 34), 4, "race.go:14", #[⟨11, .data⟩, ⟨10, .chain⟩], none⟩) (v := ?vc12) rfl (by kernel_rfl) (by kernel_rfl) (by kernel_rfl) (fun _ _ _ h => h) (Or.inl ⟨by rfl, ?yc12⟩) (by assumption) ?rc12
                  case yc12 => (intro w hSw; (try dsimp only at hSw); go_simp; try with_reducible rfl)
                  refine wpAnyH_take (i := 13) (oi := ⟨some 36, .move (.tmp 0), 22, "race.go:14", #[⟨12, .guard⟩], some (12, true)⟩) (v := ?vc13) rfl (by kernel_rfl) (by kernel_rfl) (by kernel_rfl) (fun _ _ _ h => h) (Or.inl ⟨by rfl, ?yc13⟩) (by assumption) ?rc13
                  case yc13 => (intro w hSw; (try dsimp only at hSw); go_simp; try with_reducible rfl)
                  try simp only [Act.put, List.setIfInBounds_toArray, List.set_cons_zero, List.set_cons_succ]
                  refine wpAnyH_take (i := 14) (oi := ⟨some 37, .move (.tmp 8), 3, "race.go:14", #[⟨12, .guard⟩], some (12, true)⟩) (v := ?vc14) rfl (by kernel_rfl) (by kernel_rfl) (by kernel_rfl) (fun _ _ _ h => h) (Or.inl ⟨by rfl, ?yc14⟩) (by assumption) ?rc14
                  case yc14 => (intro w hSw; (try dsimp only at hSw); go_simp; try with_reducible rfl)
                  refine wpAnyH_take (i := 15) (oi := ⟨some 38, .indexAddr 22 (.tmp 36) (.tmp 37), 0, "race.go:14", #[⟨13, .data⟩, ⟨14, .data⟩, ⟨12, .guard⟩], some (12, true)⟩) (v := ?vc15) rfl (by kernel_rfl) (by kernel_rfl) (by kernel_rfl) (fun _ _ _ h => h) (Or.inl ⟨by rfl, ?yc15⟩) (by assumption) ?rc15
                  case yc15 => (intro w hSw; (try dsimp only at hSw); go_simp; try with_reducible rfl)
                  refine wpAnyH_take (i := 16) (oi := ⟨some 39, .fieldAddr 41 (.tmp 38) 2, 0, "race.go:14", #[⟨15, .data⟩, ⟨12, .guard⟩], some (12, true)⟩) (v := ?vc16) rfl (by kernel_rfl) (by kernel_rfl) (by kernel_rfl) (fun _ _ _ h => h) (Or.inl ⟨by rfl, ?yc16⟩) (by assumption) ?rc16
                  case yc16 => (intro w hSw; (try dsimp only at hSw); go_simp; try with_reducible rfl)
                  try simp only [Act.put, List.setIfInBounds_toArray, List.set_cons_zero, List.set_cons_succ]
                  refine wpAnyH_take (i := 17) (oi := ⟨some 40, .load 3 (.tmp 39), 3, "race.go:14", #[⟨16, .data⟩, ⟨12, .guard⟩], some (12, true)⟩) (v := ?vc17) rfl (by kernel_rfl) (by kernel_rfl) (by kernel_rfl) (fun _ _ _ h => h) (Or.inl ⟨by rfl, ?yc17⟩) (by assumption) ?rc17
                  case yc17 => (intro w hSw; (try dsimp only at hSw); go_simp; try with_reducible rfl)
                  refine wpAnyH_take (i := 18) (oi := ⟨some 41, .move (.tmp 0), 22, "race.go:14", #[⟨12, .guard⟩], some (12, true)⟩) (v := ?vc18) rfl (by kernel_rfl) (by kernel_rfl) (by kernel_rfl) (fun _ _ _ h => h) (Or.inl ⟨by rfl, ?yc18⟩) (by assumption) ?rc18
                  case yc18 => (intro w hSw; (try dsimp only at hSw); go_simp; try with_reducible rfl)
                  refine wpAnyH_take (i := 19) (oi := ⟨some 42, .move (.tmp 7), 3, "race.go:14", #[⟨12, .guard⟩], some (12, true)⟩) (v := ?vc19) rfl (by kernel_rfl) (by kernel_rfl) (by kernel_rfl) (fun _ _ _ h => h) (Or.inl ⟨by rfl, ?yc19⟩) (by assumption) ?rc19
                  case yc19 => (intro w hSw; (try dsimp only at hSw); go_simp; try with_reducible rfl)
                  try simp only [Act.put, List.setIfInBounds_toArray, List.set_cons_zero, List.set_cons_succ]
                  refine wpAnyH_take (i := 20) (oi := ⟨some 43, .indexAddr 22 (.tmp 41) (.tmp 42), 0, "race.go:14", #[⟨18, .data⟩, ⟨19, .data⟩, ⟨12, .guard⟩], some (12, true)⟩) (v := ?vc20) rfl (by kernel_rfl) (by kernel_rfl) (by kernel_rfl) (fun _ _ _ h => h) (Or.inl ⟨by rfl, ?yc20⟩) (by assumption) ?rc20
                  case yc20 => (intro w hSw; (try dsimp only at hSw); go_simp; try with_reducible rfl)
                  refine wpAnyH_take (i := 21) (oi := ⟨some 44, .fieldAddr 41 (.tmp 43) 2, 0, "race.go:14", #[⟨20, .data⟩, ⟨12, .guard⟩], some (12, true)⟩) (v := ?vc21) rfl (by kernel_rfl) (by kernel_rfl) (by kernel_rfl) (fun _ _ _ h => h) (Or.inl ⟨by rfl, ?yc21⟩) (by assumption) ?rc21
                  case yc21 => (intro w hSw; (try dsimp only at hSw); go_simp; try with_reducible rfl)
                  refine wpAnyH_take (i := 22) (oi := ⟨some 45, .load 3 (.tmp 44), 3, "race.go:14", #[⟨21, .data⟩, ⟨12, .guard⟩], some (12, true)⟩) (v := ?vc22) rfl (by kernel_rfl) (by kernel_rfl) (by kernel_rfl) (fun _ _ _ h => h) (Or.inl ⟨by rfl, ?yc22⟩) (by assumption) ?rc22
                  case yc22 => (intro w hSw; (try dsimp only at hSw); go_simp; try with_reducible rfl)
                  try simp only [Act.put, List.setIfInBounds_toArray, List.set_cons_zero, List.set_cons_succ]
                  refine wpAnyH_take (i := 23) (oi := ⟨some 46, .binOp .eql 3 (.tmp 40) (.tmp 45) 3, 4, "race.go:14", #[⟨17, .data⟩, ⟨22, .data⟩, ⟨12, .guard⟩], some (12, true)⟩) (v := ?vc23) rfl (by kernel_rfl) (by kernel_rfl) (by kernel_rfl) (fun _ _ _ h => h) (Or.inl ⟨by rfl, ?yc23⟩) (by assumption) ?rc23
                  case yc23 => (intro w hSw; (try dsimp only at hSw); go_simp; try with_reducible rfl)
                  refine wpAnyH_take (i := 24) (oi := ⟨some 47, .pick (.tmp 35) (.tmp 46) (.const (.bool false)), 4, "race.go:14", #[⟨12, .data⟩, ⟨23, .data⟩], none⟩) (v := ?vc24) rfl (by kernel_rfl) (by kernel_rfl) (by kernel_rfl) (fun _ _ _ h => h) (Or.inl ⟨by rfl, ?yc24⟩) (by assumption) ?rc24
                  case yc24 => (intro w hSw; (try dsimp only at hSw); go_simp; try with_reducible rfl)
                  refine wpAnyH_take (i := 25) (oi := ⟨some 48, .move (.tmp 47), 4, "race.go:14", #[⟨24, .data⟩, ⟨12, .chain⟩], none⟩) (v := ?vc25) rfl (by kernel_rfl) (by kernel_rfl) (by kernel_rfl) (fun _ _ _ h => h) (Or.inl ⟨by rfl, ?yc25⟩) (by assumption) ?rc25
                  case yc25 => (intro w hSw; (try dsimp only at hSw); go_simp; try with_reducible rfl)
                  try simp only [Act.put, List.setIfInBounds_toArray, List.set_cons_zero, List.set_cons_succ]
                  refine wpAnyH_take (i := 26) (oi := ⟨some 49, .move (.tmp 0), 22, "race.go:14", #[⟨25, .guard⟩], some (25, true)⟩) (v := ?vc26) rfl (by kernel_rfl) (by kernel_rfl) (by kernel_rfl) (fun _ _ _ h => h) (Or.inl ⟨by rfl, ?yc26⟩) (by assumption) ?rc26
                  case yc26 => (intro w hSw; (try dsimp only at hSw); go_simp; try with_reducible rfl)
                  refine wpAnyH_take (i := 27) (oi := ⟨some 50, .move (.tmp 8), 3, "race.go:14", #[⟨25, .guard⟩], some (25, true)⟩) (v := ?vc27) rfl (by kernel_rfl) (by kernel_rfl) (by kernel_rfl) (fun _ _ _ h => h) (Or.inl ⟨by rfl, ?yc27⟩) (by assumption) ?rc27
                  case yc27 => (intro w hSw; (try dsimp only at hSw); go_simp; try with_reducible rfl)
                  refine wpAnyH_take (i := 28) (oi := ⟨some 51, .indexAddr 22 (.tmp 49) (.tmp 50), 0, "race.go:14", #[⟨26, .data⟩, ⟨27, .data⟩, ⟨25, .guard⟩], some (25, true)⟩) (v := ?vc28) rfl (by kernel_rfl) (by kernel_rfl) (by kernel_rfl) (fun _ _ _ h => h) (Or.inl ⟨by rfl, ?yc28⟩) (by assumption) ?rc28
                  case yc28 => (intro w hSw; (try dsimp only at hSw); go_simp; try with_reducible rfl)
                  try simp only [Act.put, List.setIfInBounds_toArray, List.set_cons_zero, List.set_cons_succ]
                  refine wpAnyH_take (i := 29) (oi := ⟨some 52, .fieldAddr 41 (.tmp 51) 0, 0, "race.go:14", #[⟨28, .data⟩, ⟨25, .guard⟩], some (25, true)⟩) (v := ?vc29) rfl (by kernel_rfl) (by kernel_rfl) (by kernel_rfl) (fun _ _ _ h => h) (Or.inl ⟨by rfl, ?yc29⟩) (by assumption) ?rc29
                  case yc29 => (intro w hSw; (try dsimp only at hSw); go_simp; try with_reducible rfl)
                  refine wpAnyH_take (i := 30) (oi := ⟨some 53, .load 3 (.tmp 52), 3, "race.go:14", #[⟨29, .data⟩, ⟨25, .guard⟩], some (25, true)⟩) (v := ?vc30) rfl (by kernel_rfl) (by kernel_rfl) (by kernel_rfl) (fun _ _ _ h => h) (Or.inl ⟨by rfl, ?yc30⟩) (by assumption) ?rc30
                  case yc30 => (intro w hSw; (try dsimp only at hSw); go_simp; try with_reducible rfl)
                  refine wpAnyH_take (i := 31) (oi := ⟨some 54, .move (.tmp 0), 22, "race.go:14", #[⟨25, .guard⟩], some (25, true)⟩) (v := ?vc31) rfl (by kernel_rfl) (by kernel_rfl) (by kernel_rfl) (fun _ _ _ h => h) (Or.inl ⟨by rfl, ?yc31⟩) (by assumption) ?rc31
                  case yc31 => (intro w hSw; (try dsimp only at hSw); go_simp; try with_reducible rfl)
                  try simp only [Act.put, List.setIfInBounds_toArray, List.set_cons_zero, List.set_cons_succ]
                  refine wpAnyH_take (i := 32) (oi := ⟨some 55, .move (.tmp 7), 3, "race.go:14", #[⟨25, .guard⟩], some (25, true)⟩) (v := ?vc32) rfl (by kernel_rfl) (by kernel_rfl) (by kernel_rfl) (fun _ _ _ h => h) (Or.inl ⟨by rfl, ?yc32⟩) (by assumption) ?rc32
                  case yc32 => (intro w hSw; (try dsimp only at hSw); go_simp; try with_reducible rfl)
                  refine wpAnyH_take (i := 33) (oi := ⟨some 56, .indexAddr 22 (.tmp 54) (.tmp 55), 0, "race.go:14", #[⟨31, .data⟩, ⟨32, .data⟩, ⟨25, .guard⟩], some (25, true)⟩) (v := ?vc33) rfl (by kernel_rfl) (by kernel_rfl) (by kernel_rfl) (fun _ _ _ h => h) (Or.inl ⟨by rfl, ?yc33⟩) (by assumption) ?rc33
                  case yc33 => (intro w hSw; (try dsimp only at hSw); go_simp; try with_reducible rfl)
                  refine wpAnyH_take (i := 34) (oi := ⟨some 57, .fieldAddr 41 (.tmp 56) 0, 0, "race.go:14", #[⟨33, .data⟩, ⟨25, .guard⟩], some (25, true)⟩) (v := ?vc34) rfl (by kernel_rfl) (by kernel_rfl) (by kernel_rfl) (fun _ _ _ h => h) (Or.inl ⟨by rfl, ?yc34⟩) (by assumption) ?rc34
                  case yc34 => (intro w hSw; (try dsimp only at hSw); go_simp; try with_reducible rfl)
                  try simp only [Act.put, List.setIfInBounds_toArray, List.set_cons_zero, List.set_cons_succ]
                  refine wpAnyH_take (i := 35) (oi := ⟨some 58, .load 3 (.tmp 57), 3, "race.go:14", #[⟨34, .data⟩, ⟨25, .guard⟩], some (25, true)⟩) (v := ?vc35) rfl (by kernel_rfl) (by kernel_rfl) (by kernel_rfl) (fun _ _ _ h => h) (Or.inl ⟨by rfl, ?yc35⟩) (by assumption) ?rc35
                  case yc35 => (intro w hSw; (try dsimp only at hSw); go_simp; try with_reducible rfl)
                  refine wpAnyH_take (i := 36) (oi := ⟨some 59, .binOp .neq 3 (.tmp 53) (.tmp 58) 3, 4, "race.go:14", #[⟨30, .data⟩, ⟨35, .data⟩, ⟨25, .guard⟩], some (25, true)⟩) (v := ?vc36) rfl (by kernel_rfl) (by kernel_rfl) (by kernel_rfl) (fun _ _ _ h => h) (Or.inl ⟨by rfl, ?yc36⟩) (by assumption) ?rc36
                  case yc36 => (intro w hSw; (try dsimp only at hSw); go_simp; try with_reducible rfl)
                  refine wpAnyH_take (i := 37) (oi := ⟨some 60, .pick (.tmp 48) (.tmp 59) (.const (.bool false)), 4, "race.go:14", #[⟨25, .data⟩, ⟨36, .data⟩], none⟩) (v := ?vc37) rfl (by kernel_rfl) (by kernel_rfl) (by kernel_rfl) (fun _ _ _ h => h) (Or.inl ⟨by rfl, ?yc37⟩) (by assumption) ?rc37
                  case yc37 => (intro w hSw; (try dsimp only at hSw); go_simp; try with_reducible rfl)
                  try simp only [Act.put, List.setIfInBounds_toArray, List.set_cons_zero, List.set_cons_succ]
                  refine wpAnyH_take (i := 38) (oi := ⟨some 61, .move (.tmp 60), 4, "race.go:14", #[⟨37, .data⟩, ⟨25, .chain⟩], none⟩) (v := ?vc38) rfl (by kernel_rfl) (by kernel_rfl) (by kernel_rfl) (fun _ _ _ h => h) (Or.inl ⟨by rfl, ?yc38⟩) (by assumption) ?rc38
                  case yc38 => (intro w hSw; (try dsimp only at hSw); go_simp; try with_reducible rfl)
                  refine wpAnyH_take (i := 39) (oi := ⟨some 62, .move (.tmp 0), 22, "race.go:14", #[⟨38, .guard⟩], some (38, true)⟩) (v := undef) rfl (by kernel_rfl) (by kernel_rfl) (by kernel_rfl) (fun _ _ _ h => h) (Or.inr ⟨by rfl, rfl⟩) (by assumption) ?_
                  refine wpAnyH_take (i := 40) (oi := ⟨some 63, .move (.tmp 8), 3, "race.go:14", #[⟨38, .guard⟩], some (38, true)⟩) (v := undef) rfl (by kernel_rfl) (by kernel_rfl) (by kernel_rfl) (fun _ _ _ h => h) (Or.inr ⟨by rfl, rfl⟩) (by assumption) ?_
                  try simp only [Act.put, List.setIfInBounds_toArray, List.set_cons_zero, List.set_cons_succ]
                  refine wpAnyH_take (i := 41) (oi := ⟨some 64, .indexAddr 22 (.tmp 62) (.tmp 63), 0, "race.go:14", #[⟨39, .data⟩, ⟨40, .data⟩, ⟨38, .guard⟩], some (38, true)⟩) (v := undef) rfl (by kernel_rfl) (by kernel_rfl) (by kernel_rfl) (fun _ _ _ h => h) (Or.inr ⟨by rfl, rfl⟩) (by assumption) ?_
                  refine wpAnyH_take (i := 42) (oi := ⟨some 65, .fieldAddr 41 (.tmp 64) 1, 0, "race.go:14", #[⟨41, .data⟩, ⟨38, .guard⟩], some (38, true)⟩) (v := undef) rfl (by kernel_rfl) (by kernel_rfl) (by kernel_rfl) (fun _ _ _ h => h) (Or.inr ⟨by rfl, rfl⟩) (by assumption) ?_
                  refine wpAnyH_take (i := 43) (oi := ⟨some 66, .load 3 (.tmp 65), 3, "race.go:14", #[⟨42, .data⟩, ⟨38, .guard⟩], some (38, true)⟩) (v := undef) rfl (by kernel_rfl) (by kernel_rfl) (by kernel_rfl) (fun _ _ _ h => h) (Or.inr ⟨by rfl, rfl⟩) (by assumption) ?_
                  try simp only [Act.put, List.setIfInBounds_toArray, List.set_cons_zero, List.set_cons_succ]
                  refine wpAnyH_take (i := 44) (oi := ⟨some 67, .binOp .eql 3 (.tmp 66) (.const (.int .i64 13)) 3, 4, "race.go:14", #[⟨43, .data⟩, ⟨38, .guard⟩], some (38, true)⟩) (v := undef) rfl (by kernel_rfl) (by kernel_rfl) (by kernel_rfl) (fun _ _ _ h => h) (Or.inr ⟨by rfl, rfl⟩) (by assumption) ?_
                  refine wpAnyH_take (i := 45) (oi := ⟨some 68, .move (.tmp 67), 4, "race.go:14", #[⟨44, .data⟩, ⟨38, .chain⟩, ⟨38, .guard⟩], some (38, true)⟩) (v := undef) rfl (by kernel_rfl) (by kernel_rfl) (by kernel_rfl) (fun _ _ _ h => h) (Or.inr ⟨by rfl, rfl⟩) (by assumption) ?_
                  refine wpAnyH_take (i := 46) (oi := ⟨some 69, .move (.tmp 0), 22, "race.go:14", #[⟨45, .guard⟩], some (45, false)⟩) (v := undef) rfl (by kernel_rfl) (by kernel_rfl) (by kernel_rfl) (fun _ _ _ h => h) (Or.inr ⟨by rfl, rfl⟩) (by assumption) ?_
                  try simp only [Act.put, List.setIfInBounds_toArray, List.set_cons_zero, List.set_cons_succ]
                  refine wpAnyH_take (i := 47) (oi := ⟨some 70, .move (.tmp 7), 3, "race.go:14", #[⟨45, .guard⟩], some (45, false)⟩) (v := undef) rfl (by kernel_rfl) (by kernel_rfl) (by kernel_rfl) (fun _ _ _ h => h) (Or.inr ⟨by rfl, rfl⟩) (by assumption) ?_
                  refine wpAnyH_take (i := 48) (oi := ⟨some 71, .indexAddr 22 (.tmp 69) (.tmp 70), 0, "race.go:14", #[⟨46, .data⟩, ⟨47, .data⟩, ⟨45, .guard⟩], some (45, false)⟩) (v := undef) rfl (by kernel_rfl) (by kernel_rfl) (by kernel_rfl) (fun _ _ _ h => h) (Or.inr ⟨by rfl, rfl⟩) (by assumption) ?_
                  refine wpAnyH_take (i := 49) (oi := ⟨some 72, .fieldAddr 41 (.tmp 71) 1, 0, "race.go:14", #[⟨48, .data⟩, ⟨45, .guard⟩], some (45, false)⟩) (v := undef) rfl (by kernel_rfl) (by kernel_rfl) (by kernel_rfl) (fun _ _ _ h => h) (Or.inr ⟨by rfl, rfl⟩) (by assumption) ?_
                  try simp only [Act.put, List.setIfInBounds_toArray, List.set_cons_zero, List.set_cons_succ]
                  refine wpAnyH_take (i := 50) (oi := ⟨some 73, .load 3 (.tmp 72), 3, "race.go:14", #[⟨49, .data⟩, ⟨45, .guard⟩], some (45, false)⟩) (v := undef) rfl (by kernel_rfl) (by kernel_rfl) (by kernel_rfl) (fun _ _ _ h => h) (Or.inr ⟨by rfl, rfl⟩) (by assumption) ?_
                  refine wpAnyH_take (i := 51) (oi := ⟨some 74, .binOp .eql 3 (.tmp 73) (.const (.int .i64 13)) 3, 4, "race.go:14", #[⟨50, .data⟩, ⟨45, .guard⟩], some (45, false)⟩) (v := undef) rfl (by kernel_rfl) (by kernel_rfl) (by kernel_rfl) (fun _ _ _ h => h) (Or.inr ⟨by rfl, rfl⟩) (by assumption) ?_
                  refine wpAnyH_take (i := 52) (oi := ⟨some 75, .pick (.tmp 68) (.const (.bool true)) (.tmp 74), 4, "race.go:14", #[⟨45, .data⟩, ⟨51, .data⟩, ⟨38, .guard⟩], some (38, true)⟩) (v := undef) rfl (by kernel_rfl) (by kernel_rfl) (by kernel_rfl) (fun _ _ _ h => h) (Or.inr ⟨by rfl, rfl⟩) (by assumption) ?_
                  try simp only [Act.put, List.setIfInBounds_toArray, List.set_cons_zero, List.set_cons_succ]
                  refine wpAnyH_take (i := 53) (oi := ⟨some 76, .pick (.tmp 61) (.tmp 75) (.const (.bool false)), 4, "race.go:14", #[⟨38, .data⟩, ⟨52, .data⟩], none⟩) (v := ?vc53) rfl (by kernel_rfl) (by kernel_rfl) (by kernel_rfl) (fun _ _ _ h => h) (Or.inl ⟨by rfl, ?yc53⟩) (by assumption) ?rc53
                  case yc53 => (intro w hSw; (try dsimp only at hSw); go_simp; try with_reducible rfl)
                  refine wpAnyH_take (i := 54) (oi := ⟨some 77, .move (.tmp 76), 4, "race.go:14", #[⟨53, .data⟩, ⟨45, .chain⟩], none⟩) (v := ?vc54) rfl (by kernel_rfl) (by kernel_rfl) (by kernel_rfl) (fun _ _ _ h => h) (Or.inl ⟨by rfl, ?yc54⟩) (by assumption) ?rc54
                  case yc54 => (intro w hSw; (try dsimp only at hSw); go_simp; try with_reducible rfl)
                  refine wpAnyH_take (i := 55) (oi := ⟨some 78, .move (.tmp 5), 38, "race.go:14", #[⟨54, .guard⟩], some (54, true)⟩) (v := undef) rfl (by kernel_rfl) (by kernel_rfl) (by kernel_rfl) (fun _ _ _ h => h) (Or.inr ⟨by rfl, rfl⟩) (by assumption) ?_
                  try simp only [Act.put, List.setIfInBounds_toArray, List.set_cons_zero, List.set_cons_succ]
                  refine wpAnyH_take (i := 56) (oi := ⟨some 79, .move (.tmp 7), 3, "race.go:14", #[⟨54, .guard⟩], some (54, true)⟩) (v := undef) rfl (by kernel_rfl) (by kernel_rfl) (by kernel_rfl) (fun _ _ _ h => h) (Or.inr ⟨by rfl, rfl⟩) (by assumption) ?_
                  refine wpAnyH_take (i := 57) (oi := ⟨some 80, .indexAddr 38 (.tmp 78) (.tmp 79), 0, "race.go:14", #[⟨55, .data⟩, ⟨56, .data⟩, ⟨54, .guard⟩], some (54, true)⟩) (v := undef) rfl (by kernel_rfl) (by kernel_rfl) (by kernel_rfl) (fun _ _ _ h => h) (Or.inr ⟨by rfl, rfl⟩) (by assumption) ?_
                  refine wpAnyH_take (i := 58) (oi := ⟨some 81, .load 42 (.tmp 80), 42, "race.go:14", #[⟨57, .data⟩, ⟨54, .guard⟩], some (54, true)⟩) (v := undef) rfl (by kernel_rfl) (by kernel_rfl) (by kernel_rfl) (fun _ _ _ h => h) (Or.inr ⟨by rfl, rfl⟩) (by assumption) ?_
                  try simp only [Act.put, List.setIfInBounds_toArray, List.set_cons_zero, List.set_cons_succ]
                  refine wpAnyH_take (i := 59) (oi := ⟨some 82, .move (.tmp 8), 3, "race.go:14", #[⟨54, .guard⟩], some (54, true)⟩) (v := undef) rfl (by kernel_rfl) (by kernel_rfl) (by kernel_rfl) (fun _ _ _ h => h) (Or.inr ⟨by rfl, rfl⟩) (by assumption) ?_
                  refine wpAnyH_take (i := 60) (oi := ⟨some 83, .indexAddr 42 (.tmp 81) (.tmp 82), 0, "race.go:14", #[⟨58, .data⟩, ⟨59, .data⟩, ⟨54, .guard⟩], some (54, true)⟩) (v := undef) rfl (by kernel_rfl) (by kernel_rfl) (by kernel_rfl) (fun _ _ _ h => h) (Or.inr ⟨by rfl, rfl⟩) (by assumption) ?_
                  refine wpAnyH_take (i := 61) (oi := ⟨some 84, .load 4 (.tmp 83), 4, "race.go:14", #[⟨60, .data⟩, ⟨54, .guard⟩], some (54, true)⟩) (v := undef) rfl (by kernel_rfl) (by kernel_rfl) (by kernel_rfl) (fun _ _ _ h => h) (Or.inr ⟨by rfl, rfl⟩) (by assumption) ?_
                  try simp only [Act.put, List.setIfInBounds_toArray, List.set_cons_zero, List.set_cons_succ]
                  refine wpAnyH_take (i := 62) (oi := ⟨some 85, .unOp .not 4 (.tmp 84), 4, "race.go:14", #[⟨61, .data⟩, ⟨54, .guard⟩], some (54, true)⟩) (v := undef) rfl (by kernel_rfl) (by kernel_rfl) (by kernel_rfl) (fun _ _ _ h => h) (Or.inr ⟨by rfl, rfl⟩) (by assumption) ?_
                  refine wpAnyH_take (i := 63) (oi := ⟨some 86, .pick (.tmp 77) (.tmp 85) (.const (.bool false)), 4, "race.go:14", #[⟨54, .data⟩, ⟨62, .data⟩], none⟩) (v := ?vc63) rfl (by kernel_rfl) (by kernel_rfl) (by kernel_rfl) (fun _ _ _ h => h) (Or.inl ⟨by rfl, ?yc63⟩) (by assumption) ?rc63
                  case yc63 => (intro w hSw; (try dsimp only at hSw); go_simp; try with_reducible rfl)
                  try simp only [Act.put, List.setIfInBounds_toArray, List.set_cons_zero, List.set_cons_succ]
                  refine wpAnyH_done (by kernel_rfl) ?_ _
                  refine NoPanic.normal ?_
                  go_wp2_with fail
                  go_roundw
                  case rel => exact ⟨i + 1, a, r, c, by omega, by go_num, rfl, by omega, hide (by rw [unhide HO2]; exact unhide HRL), hide (by rw [unhide HO2]; exact (unhide HOi).below (unhide HX2)), hide (Below.next (unhide HBi) (unhide HX2) (Nat.le_of_eq (unhide HZ).symm))⟩
                  case measure => simp [intOf]; omega
                · have xt : (ti != tk) = true := by simpa using htk
                  have HTT := hide (show (ti == tk) = false by simpa using htk)
                  clear htk
                  by_cases hoi : oi = 13
                  · have xi : (oi == 13) = true := by simpa using hoi
                    have HXI := hide xi
                    clear hoi
                    cases rM
                    · skip
                      have HYES : Hid (rcB hs l k i = true) := by show _ = _; rw [unhide HRC]; rw [unhide HEAI, unhide HEAK, unhide HTT, unhide HXI]; simp [unhide HBE]
                      have HO2 : Hid (outI hs l k (i + 1) = outI hs l k i ++ [((i : Int), (k : Int))]) := outI_yes (unhide HYES)
                      go_upto_region 9 with fail
                      refine wp_region_noPanic ?_
                      refine wp_region_held_drew (S := (fun W' => W'.cell? ⟨tb, tof + i * 4, none⟩ = some (.int .i64 ti) ∧ W'.cell? ⟨tb, tof + i * 4 + 1, none⟩ = some (.int .i64 oi) ∧ W'.cell? ⟨tb, tof + i * 4 + 2, none⟩ = some (.int .i64 bi) ∧ W'.cell? ⟨tb, tof + i * 4 + 3, none⟩ = some (.int .i64 vi) ∧ W'.cell? ⟨tb, tof + k * 4, none⟩ = some (.int .i64 tk) ∧ W'.cell? ⟨tb, tof + k * 4 + 1, none⟩ = some (.int .i64 ok) ∧ W'.cell? ⟨tb, tof + k * 4 + 2, none⟩ = some (.int .i64 bi) ∧ W'.cell? ⟨tb, tof + k * 4 + 3, none⟩ = some (.int .i64 vk) ∧ W'.cell? ⟨R, k, none⟩ = some (.slice (some ⟨bf k, 0, none⟩) n0 n0) ∧ W'.cell? ⟨bf k, i, none⟩ = some (.bool false))) (by kernel_rfl) (unhide HS0) (fun hHeld => ?_)
                      refine wpAnyH_take (i := 0) (oi := ⟨some 23, .move (.tmp 0), 22, "race.go:14", #[], none⟩) (v := ?vd0) rfl (by kernel_rfl) (by kernel_rfl) (by kernel_rfl) (fun _ _ _ h => h) (Or.inl ⟨by rfl, ?yd0⟩) (by assumption) ?rd0
                      case yd0 => (intro w hSw; (try dsimp only at hSw); go_simp; try with_reducible rfl)
                      refine wpAnyH_take (i := 1) (oi := ⟨some 24, .move (.tmp 8), 3, "race.go:14", #[], none⟩) (v := ?vd1) rfl (by kernel_rfl) (by kernel_rfl) (by kernel_rfl) (fun _ _ _ h => h) (Or.inl ⟨by rfl, ?yd1⟩) (by assumption) ?rd1
                      case yd1 => (intro w hSw; (try dsimp only at hSw); go_simp; try with_reducible rfl)
                      refine wpAnyH_take (i := 2) (oi := ⟨some 25, .indexAddr 22 (.tmp 23) (.tmp 24), 0, "race.go:14", #[⟨0, .data⟩, ⟨1, .data⟩], none⟩) (v := ?vd2) rfl (by kernel_rfl) (by kernel_rfl) (by kernel_rfl) (fun _ _ _ h => h) (Or.inl ⟨by rfl, ?yd2⟩) (by assumption) ?rd2
                      case yd2 => (intro w hSw; (try dsimp only at hSw); go_simp; try with_reducible rfl)
                      try simp only [Act.put, List.setIfInBounds_toArray, List.set_cons_zero, List.set_cons_succ]
                      refine wpAnyH_take (i := 3) (oi := ⟨some 26, .load 41 (.tmp 25), 41, "race.go:14", #[⟨2, .data⟩], none⟩) (v := ?vd3) rfl (by kernel_rfl) (by kernel_rfl) (by kernel_rfl) (fun _ _ _ h => h) (Or.inl ⟨by rfl, ?yd3⟩) (by assumption) ?rd3
                      case yd3 => (intro w hSw; (try dsimp only at hSw); go_simp; try with_reducible rfl)
                      try simp only [Act.put, List.setIfInBounds_toArray, List.set_cons_zero, List.set_cons_succ]
                      refine wpAnyH_ready (rs := [4]) (by kernel_rfl) (by simp) ?_
                      refine AllReadyH.cons (o := ⟨some 27, .call { callee := .value (.func 28), args := #[.tmp 26], argTypes := #[41] }, 4, "race.go:14", #[⟨3, .data⟩], none⟩) rfl (fun K hK => ?_) AllReadyH.nil
                      go_simp
                      (go_at_call 28; (with_reducible refine Calls.mono (unhide HAI _) ?_); rintro e w1 ⟨rfl, hb1⟩; have HX1 := hide (Below.next (Below.refl wr.heap.size wr).drew hb1 (Nat.le_refl _)); have HS1 := hide (unhide HSS _ (unhide HX1)); clear hb1)
                      refine hK.out _ _ (unhide HS1) (fun hHeld => ?_)
                      clear hK K
                      try simp only [Act.put, List.setIfInBounds_toArray, List.set_cons_zero, List.set_cons_succ]
                      refine wpAnyH_take (i := 5) (oi := ⟨some 28, .move (.tmp 27), 4, "race.go:14", #[⟨4, .data⟩, ⟨4, .chain⟩], none⟩) (v := ?vd5) rfl (by kernel_rfl) (by kernel_rfl) (by kernel_rfl) (fun _ _ _ h => h) (Or.inl ⟨by rfl, ?yd5⟩) (by assumption) ?rd5
                      case yd5 => (intro w hSw; (try dsimp only at hSw); go_simp; try with_reducible rfl)
                      refine wpAnyH_take (i := 6) (oi := ⟨some 29, .move (.tmp 0), 22, "race.go:14", #[⟨5, .guard⟩], some (5, true)⟩) (v := ?vd6) rfl (by kernel_rfl) (by kernel_rfl) (by kernel_rfl) (fun _ _ _ h => h) (Or.inl ⟨by rfl, ?yd6⟩) (by assumption) ?rd6
                      case yd6 => (intro w hSw; (try dsimp only at hSw); go_simp; try with_reducible rfl)
                      try simp only [Act.put, List.setIfInBounds_toArray, List.set_cons_zero, List.set_cons_succ]
                      refine wpAnyH_take (i := 7) (oi := ⟨some 30, .move (.tmp 7), 3, "race.go:14", #[⟨5, .guard⟩], some (5, true)⟩) (v := ?vd7) rfl (by kernel_rfl) (by kernel_rfl) (by kernel_rfl) (fun _ _ _ h => h) (Or.inl ⟨by rfl, ?yd7⟩) (by assumption) ?rd7
                      case yd7 => (intro w hSw; (try dsimp only at hSw); go_simp; try with_reducible rfl)
                      refine wpAnyH_take (i := 8) (oi := ⟨some 31, .indexAddr 22 (.tmp 29) (.tmp 30), 0, "race.go:14", #[⟨6, .data⟩, ⟨7, .data⟩, ⟨5, .guard⟩], some (5, true)⟩) (v := ?vd8) rfl (by kernel_rfl) (by kernel_rfl) (by kernel_rfl) (fun _ _ _ h => h) (Or.inl ⟨by rfl, ?yd8⟩) (by assumption) ?rd8
                      case yd8 => (intro w hSw; (try dsimp only at hSw); go_simp; try with_reducible rfl)
                      refine wpAnyH_take (i := 9) (oi := ⟨some 32, .load 41 (.tmp 31), 41, "race.go:14", #[⟨8, .data⟩, ⟨5, .guard⟩], some (5, true)⟩) (v := ?vd9) rfl (by kernel_rfl) (by kernel_rfl) (by kernel_rfl) (fun _ _ _ h => h) (Or.inl ⟨by rfl, ?yd9⟩) (by assumption) ?rd9
                      case yd9 => (intro w hSw; (try dsimp only at hSw); go_simp; try with_reducible rfl)
                      try simp only [Act.put, List.setIfInBounds_toArray, List.set_cons_zero, List.set_cons_succ]
                      refine wpAnyH_ready (rs := [10]) (by kernel_rfl) (by simp) ?_
                      refine AllReadyH.cons (o := ⟨some 33, .call { callee := .value (.func 28), args := #[.tmp 32], argTypes := #[41] }, 4, "race.go:14", #[⟨9, .data⟩, ⟨5, .chain⟩, ⟨5, .guard⟩], some (5, true)⟩) rfl (fun K hK => ?_) AllReadyH.nil
                      go_simp
                      (go_at_call 28; (with_reducible refine Calls.mono (unhide HAK _) ?_); rintro e w2 ⟨rfl, hb2⟩; have HX2 := hide (Below.next (unhide HX1) hb2 (Nat.le_refl _)); have HS2 := hide (unhide HSS _ (unhide HX2)); clear hb2)
                      refine hK.out _ _ (unhide HS2) (fun hHeld => ?_)
                      clear hK K
                      try simp only [Act.put, List.setIfInBounds_toArray, List.set_cons_zero, List.set_cons_succ]
                      refine wpAnyH_take (i := 11) (oi := ⟨some 34, .pick (.tmp 28) (.tmp 33) (.const (.bool false)), 4, "race.go:14", #[⟨5, .data⟩, ⟨10, .data⟩], none⟩) (v := ?vd11) rfl (by kernel_rfl) (by kernel_rfl) (by kernel_rfl) (fun _ _ _ h => h) (Or.inl ⟨by rfl, ?yd11⟩) (by assumption) ?rd11
                      case yd11 => (intro w hSw; (try dsimp only at hSw); go_simp; try with_reducible rfl)
                      refine wpAnyH_take (i := 12) (oi := ⟨some 35, .move (.tmp 34), 4, "race.go:14", #[⟨11, .data⟩, ⟨10, .chain⟩], none⟩) (v := ?vd12) rfl (by kernel_rfl) (by kernel_rfl) (by kernel_rfl) (fun _ _ _ h => h) (Or.inl ⟨by rfl, ?yd12⟩) (by assumption) ?rd12
                      case yd12 => (intro w hSw; (try dsimp only at hSw); go_simp; try with_reducible rfl)
                      refine wpAnyH_take (i := 13) (oi := ⟨some 36, .move (.tmp 0), 22, "race.go:14", #[⟨12, .guard⟩], some (12, true)⟩) (v := ?vd13) rfl (by kernel_rfl) (by kernel_rfl) (by kernel_rfl) (fun _ _ _ h => h) (Or.inl ⟨by rfl, ?yd13⟩) (by assumption) ?rd13
                      case yd13 => (intro w hSw; (try dsimp only at hSw); go_simp; try with_reducible rfl)
                      try simp only [Act.put, List.setIfInBounds_toArray, List.set_cons_zero, List.set_cons_succ]
                      refine wpAnyH_take (i := 14) (oi := ⟨some 37, .move (.tmp 8), 3, "race.go:14", #[⟨12, .guard⟩], some (12, true)⟩) (v := ?vd14) rfl (by kernel_rfl) (by kernel_rfl) (by kernel_rfl) (fun _ _ _ h => h) (Or.inl ⟨by rfl, ?yd14⟩) (by assumption) ?rd14
                      case yd14 => (intro w hSw; (try dsimp only at hSw); go_simp; try with_reducible rfl)
                      refine wpAnyH_take (i := 15) (oi := ⟨some 38, .indexAddr 22 (.tmp 36) (.tmp 37), 0, "race.go:14", #[⟨13, .data⟩, ⟨14, .data⟩, ⟨12, .guard⟩], some (12, true)⟩) (v := ?vd15) rfl (by kernel_rfl) (by kernel_rfl) (by kernel_rfl) (fun _ _ _ h => h) (Or.inl ⟨by rfl, ?yd15⟩) (by assumption) ?rd15
                      case yd15 => (intro w hSw; (try dsimp only at hSw); go_simp; try with_reducible rfl)
                      refine wpAnyH_take (i := 16) (oi := ⟨some 39, .fieldAddr 41 (.tmp 38) 2, 0, "race.go:14", #[⟨15, .data⟩, ⟨12, .guard⟩], some (12, true)⟩) (v := ?vd16) rfl (by kernel_rfl) (by kernel_rfl) (by kernel_rfl) (fun _ _ _ h => h) (Or.inl ⟨by rfl, ?yd16⟩) (by assumption) ?rd16
                      case yd16 => (intro w hSw; (try dsimp only at hSw); go_simp; try with_reducible rfl)
                      try simp only [Act.put, List.setIfInBounds_toArray, List.set_cons_zero, List.set_cons_succ]
                      refine wpAnyH_take (i := 17) (oi := ⟨some 40, .load 3 (.tmp 39), 3, "race.go:14", #[⟨16, .data⟩, ⟨12, .guard⟩], some (12, true)⟩) (v := ?vd17) rfl (by kernel_rfl) (by kernel_rfl) (by kernel_rfl) (fun _ _ _ h => h) (Or.inl ⟨by rfl, ?yd17⟩) (by assumption) ?rd17
                      case yd17 => (intro w hSw; (try dsimp only at hSw); go_simp; try with_reducible rfl)
                      refine wpAnyH_take (i := 18) (oi := ⟨some 41, .move (.tmp 0), 22, "race.go:14", #[⟨12, .guard⟩], some (12, true)⟩) (v := ?vd18) rfl (by kernel_rfl) (by kernel_rfl) (by kernel_rfl) (fun _ _ _ h => h) (Or.inl ⟨by rfl, ?yd18⟩) (by assumption) ?rd18
                      case yd18 => (intro w hSw; (try dsimp only at hSw); go_simp; try with_reducible rfl)
                      refine wpAnyH_take (i := 19) (oi := ⟨some 42, .move (.tmp 7), 3, "race.go:14", #[⟨12, .guard⟩], some (12, true)⟩) (v := ?vd19) rfl (by kernel_rfl) (by kernel_rfl) (by kernel_rfl) (fun _ _ _ h => h) (Or.inl ⟨by rfl, ?yd19⟩) (by assumption) ?rd19
                      case yd19 => (intro w hSw; (try dsimp only at hSw); go_simp; try with_reducible rfl)
                      try simp only [Act.put, List.setIfInBounds_toArray, List.set_cons_zero, List.set_cons_succ]
                      refine wpAnyH_take (i := 20) (oi := ⟨some 43, .indexAddr 22 (.tmp 41) (.tmp 42), 0, "race.go:14", #[⟨18, .data⟩, ⟨19, .data⟩, ⟨12, .guard⟩], some (12, true)⟩) (v := ?vd20) rfl (by kernel_rfl) (by kernel_rfl) (by kernel_rfl) (fun _ _ _ h => h) (Or.inl ⟨by rfl, ?yd20⟩) (by assumption) ?rd20
                      case yd20 => (intro w hSw; (try dsimp only at hSw); go_simp; try with_reducible rfl)
                      refine wpAnyH_take (i := 21) (oi := ⟨some 44, .fieldAddr 41 (.tmp 43) 2, 0, "race.go:14", #[⟨20, .data⟩, ⟨12, .guard⟩], some (12, true)⟩) (v := ?vd21) rfl (by kernel_rfl) (by kernel_rfl) (by kernel_rfl) (fun _ _ _ h => h) (Or.inl ⟨by rfl, ?yd21⟩) (by assumption) ?rd21
                      case yd21 => (intro w hSw; (try dsimp only at hSw); go_simp; try with_reducible rfl)
                      refine wpAnyH_take (i := 22) (oi := ⟨some 45, .load 3 (.tmp 44), 3, "race.go:14", #[⟨21, .data⟩, ⟨12, .guard⟩], some (12, true)⟩) (v := ?vd22) rfl (by kernel_rfl) (by kernel_rfl) (by kernel_rfl) (fun _ _ _ h => h) (Or.inl ⟨by rfl, ?yd22⟩) (by assumption) ?rd22
                      case yd22 => (intro w hSw; (try dsimp only at hSw); go_simp; try with_reducible rfl)
                      try simp only [Act.put, List.setIfInBounds_toArray, List.set_cons_zero, List.set_cons_succ]
                      refine wpAnyH_take (i := 23) (oi := ⟨some 46, .binOp .eql 3 (.tmp 40) (.tmp 45) 3, 4, "race.go:14", #[⟨17, .data⟩, ⟨22, .data⟩, ⟨12, .guard⟩], some (12, true)⟩) (v := ?vd23) rfl (by kernel_rfl) (by kernel_rfl) (by kernel_rfl) (fun _ _ _ h => h) (Or.inl ⟨by rfl, ?yd23⟩) (by assumption) ?rd23
                      case yd23 => (intro w hSw; (try dsimp only at hSw); go_simp; try with_reducible rfl)
                      refine wpAnyH_take (i := 24) (oi := ⟨some 47, .pick (.tmp 35) (.tmp 46) (.const (.bool false)), 4, "race.go:14", #[⟨12, .data⟩, ⟨23, .data⟩], none⟩) (v := ?vd24) rfl (by kernel_rfl) (by kernel_rfl) (by kernel_rfl) (fun _ _ _ h => h) (Or.inl ⟨by rfl, ?yd24⟩) (by assumption) ?rd24
                      case yd24 => (intro w hSw; (try dsimp only at hSw); go_simp; try with_reducible rfl)
                      refine wpAnyH_take (i := 25) (oi := ⟨some 48, .move (.tmp 47), 4, "race.go:14", #[⟨24, .data⟩, ⟨12, .chain⟩], none⟩) (v := ?vd25) rfl (by kernel_rfl) (by kernel_rfl) (by kernel_rfl) (fun _ _ _ h => h) (Or.inl ⟨by rfl, ?yd25⟩) (by assumption) ?rd25
                      case yd25 => (intro w hSw; (try dsimp only at hSw); go_simp; try with_reducible rfl)
                      try simp only [Act.put, List.setIfInBounds_toArray, List.set_cons_zero, List.set_cons_succ]
                      refine wpAnyH_take (i := 26) (oi := ⟨some 49, .move (.tmp 0), 22, "race.go:14", #[⟨25, .guard⟩], some (25, true)⟩) (v := ?vd26) rfl (by kernel_rfl) (by kernel_rfl) (by kernel_rfl) (fun _ _ _ h => h) (Or.inl ⟨by rfl, ?yd26⟩) (by assumption) ?rd26
                      case yd26 => (intro w hSw; (try dsimp only at hSw); go_simp; try with_reducible rfl)
                      refine wpAnyH_take (i := 27) (oi := ⟨some 50, .move (.tmp 8), 3, "race.go:14", #[⟨25, .guard⟩], some (25, true)⟩) (v := ?vd27) rfl (by kernel_rfl) (by kernel_rfl) (by kernel_rfl) (fun _ _ _ h => h) (Or.inl ⟨by rfl, ?yd27⟩) (by assumption) ?rd27
                      case yd27 => (intro w hSw; (try dsimp only at hSw); go_simp; try with_reducible rfl)
                      refine wpAnyH_take (i := 28) (oi := ⟨some 51, .indexAddr 22 (.tmp 49) (.tmp 50), 0, "race.go:14", #[⟨26, .data⟩, ⟨27, .data⟩, ⟨25, .guard⟩], some (25, true)⟩) (v := ?vd28) rfl (by kernel_rfl) (by kernel_rfl) (by kernel_rfl) (fun _ _ _ h => h) (Or.inl ⟨by rfl, ?yd28⟩) (by assumption) ?rd28
                      case yd28 => (intro w hSw; (try dsimp only at hSw); go_simp; try with_reducible rfl)
                      try simp only [Act.put, List.setIfInBounds_toArray, List.set_cons_zero, List.set_cons_succ]
                      refine wpAnyH_take (i := 29) (oi := ⟨some 52, .fieldAddr 41 (.tmp 51) 0, 0, "race.go:14", #[⟨28, .data⟩, ⟨25, .guard⟩], some (25, true)⟩) (v := ?vd29) rfl (by kernel_rfl) (by kernel_rfl) (by kernel_rfl) (fun _ _ _ h => h) (Or.inl ⟨by rfl, ?yd29⟩) (by assumption) ?rd29
                      case yd29 => (intro w hSw; (try dsimp only at hSw); go_simp; try with_reducible rfl)
                      refine wpAnyH_take (i := 30) (oi := ⟨some 53, .load 3 (.tmp 52), 3, "race.go:14", #[⟨29, .data⟩, ⟨25, .guard⟩], some (25, true)⟩) (v := ?vd30) rfl (by kernel_rfl) (by kernel_rfl) (by kernel_rfl) (fun _ _ _ h => h) (Or.inl ⟨by rfl, ?yd30⟩) (by assumption) ?rd30
                      case yd30 => (intro w hSw; (try dsimp only at hSw); go_simp; try with_reducible rfl)
                      refine wpAnyH_take (i := 31) (oi := ⟨some 54, .move (.tmp 0), 22, "race.go:14", #[⟨25, .guard⟩], some (25, true)⟩) (v := ?vd31) rfl (by kernel_rfl) (by kernel_rfl) (by kernel_rfl) (fun _ _ _ h => h) (Or.inl ⟨by rfl, ?yd31⟩) (by assumption) ?rd31
                      case yd31 => (intro w hSw; (try dsimp only at hSw); go_simp; try with_reducible rfl)
                      try simp only [Act.put, List.setIfInBounds_toArray, List.set_cons_zero, List.set_cons_succ]
                      refine wpAnyH_take (i := 32) (oi := ⟨some 55, .move (.tmp 7), 3, "race.go:14", #[⟨25, .guard⟩], some (25, true)⟩) (v := ?vd32) rfl (by kernel_rfl) (by kernel_rfl) (by kernel_rfl) (fun _ _ _ h => h) (Or.inl ⟨by rfl, ?yd32⟩) (by assumption) ?rd32
                      case yd32 => (intro w hSw; (try dsimp only at hSw); go_simp; try with_reducible rfl)
                      refine wpAnyH_take (i := 33) (oi := ⟨some 56, .indexAddr 22 (.tmp 54) (.tmp 55), 0, "race.go:14", #[⟨31, .data⟩, ⟨32, .data⟩, ⟨25, .guard⟩], some (25, true)⟩) (v := ?vd33) rfl (by kernel_rfl) (by kernel_rfl) (by kernel_rfl) (fun _ _ _ h => h) (Or.inl ⟨by rfl, ?yd33⟩) (by assumption) ?rd33
                      case yd33 => (intro w hSw; (try dsimp only at hSw); go_simp; try with_reducible rfl)
                      refine wpAnyH_take (i := 34) (oi := ⟨some 57, .fieldAddr 41 (.tmp 56) 0, 0, "race.go:14", #[⟨33, .data⟩, ⟨25, .guard⟩], some (25, true)⟩) (v := ?vd34) rfl (by kernel_rfl) (by kernel_rfl) (by kernel_rfl) (fun _ _ _ h => h) (Or.inl ⟨by rfl, ?yd34⟩) (by assumption) ?rd34
                      case yd34 => (intro w hSw; (try dsimp only at hSw); go_simp; try with_reducible rfl)
                      try simp only [Act.put, List.setIfInBounds_toArray, List.set_cons_zero, List.set_cons_succ]
                      refine wpAnyH_take (i := 35) (oi := ⟨some 58, .load 3 (.tmp 57), 3, "race.go:14", #[⟨34, .data⟩, ⟨25, .guard⟩], some (25, true)⟩) (v := ?vd35) rfl (by kernel_rfl) (by kernel_rfl) (by kernel_rfl) (fun _ _ _ h => h) (Or.inl ⟨by rfl, ?yd35⟩) (by assumption) ?rd35
                      case yd35 => (intro w hSw; (try dsimp only at hSw); go_simp; try with_reducible rfl)
                      refine wpAnyH_take (i := 36) (oi := ⟨some 59, .binOp .neq 3 (.tmp 53) (.tmp 58) 3, 4, "race.go:14", #[⟨30, .data⟩, ⟨35, .data⟩, ⟨25, .guard⟩], some (25, true)⟩) (v := ?vd36) rfl (by kernel_rfl) (by kernel_rfl) (by kernel_rfl) (fun _ _ _ h => h) (Or.inl ⟨by rfl, ?yd36⟩) (by assumption) ?rd36
                      case yd36 => (intro w hSw; (try dsimp only at hSw); go_simp; try with_reducible rfl)
                      refine wpAnyH_take (i := 37) (oi := ⟨some 60, .pick (.tmp 48) (.tmp 59) (.const (.bool false)), 4, "race.go:14", #[⟨25, .data⟩, ⟨36, .data⟩], none⟩) (v := ?vd37) rfl (by kernel_rfl) (by kernel_rfl) (by kernel_rfl) (fun _ _ _ h => h) (Or.inl ⟨by rfl, ?yd37⟩) (by assumption) ?rd37
                      case yd37 => (intro w hSw; (try dsimp only at hSw); go_simp; try with_reducible rfl)
                      try simp only [Act.put, List.setIfInBounds_toArray, List.set_cons_zero, List.set_cons_succ]
                      refine wpAnyH_take (i := 38) (oi := ⟨some 61, .move (.tmp 60), 4, "race.go:14", #[⟨37, .data⟩, ⟨25, .chain⟩], none⟩) (v := ?vd38) rfl (by kernel_rfl) (by kernel_rfl) (by kernel_rfl) (fun _ _ _ h => h) (Or.inl ⟨by rfl, ?yd38⟩) (by assumption) ?rd38
                      case yd38 => (intro w hSw; (try dsimp only at hSw); go_simp; try with_reducible rfl)
                      refine wpAnyH_take (i := 39) (oi := ⟨some 62, .move (.tmp 0), 22, "race.go:14", #[⟨38, .guard⟩], some (38, true)⟩) (v := ?vd39) rfl (by kernel_rfl) (by kernel_rfl) (by kernel_rfl) (fun _ _ _ h => h) (Or.inl ⟨by rfl, ?yd39⟩) (by assumption) ?rd39
                      case yd39 => (intro w hSw; (try dsimp only at hSw); go_simp; try with_reducible rfl)
                      refine wpAnyH_take (i := 40) (oi := ⟨some 63, .move (.tmp 8), 3, "race.go:14", #[⟨38, .guard⟩], some (38, true)⟩) (v := ?vd40) rfl (by kernel_rfl) (by kernel_rfl) (by kernel_rfl) (fun _ _ _ h => h) (Or.inl ⟨by rfl, ?yd40⟩) (by assumption) ?rd40
                      case yd40 => (intro w hSw; (try dsimp only at hSw); go_simp; try with_reducible rfl)
                      try simp only [Act.put, List.setIfInBounds_toArray, List.set_cons_zero, List.set_cons_succ]
                      refine wpAnyH_take (i := 41) (oi := ⟨some 64, .indexAddr 22 (.tmp 62) (.tmp 63), 0, "race.go:14", #[⟨39, .data⟩, ⟨40, .data⟩, ⟨38, .guard⟩], some (38, true)⟩) (v := ?vd41) rfl (by kernel_rfl) (by kernel_rfl) (by kernel_rfl) (fun _ _ _ h => h) (Or.inl ⟨by rfl, ?yd41⟩) (by assumption) ?rd41
                      case yd41 => (intro w hSw; (try dsimp only at hSw); go_simp; try with_reducible rfl)
                      refine wpAnyH_take (i := 42) (oi := ⟨some 65, .fieldAddr 41 (.tmp 64) 1, 0, "race.go:14", #[⟨41, .data⟩, ⟨38, .guard⟩], some (38, true)⟩) (v := ?vd42) rfl (by kernel_rfl) (by kernel_rfl) (by kernel_rfl) (fun _ _ _ h => h) (Or.inl ⟨by rfl, ?yd42⟩) (by assumption) ?rd42
                      case yd42 => (intro w hSw; (try dsimp only at hSw); go_simp; try with_reducible rfl)
                      refine wpAnyH_take (i := 43) (oi := ⟨some 66, .load 3 (.tmp 65), 3, "race.go:14", #[⟨42, .data⟩, ⟨38, .guard⟩], some (38, true)⟩) (v := ?vd43) rfl (by kernel_rfl) (by kernel_rfl) (by kernel_rfl) (fun _ _ _ h => h) (Or.inl ⟨by rfl, ?yd43⟩) (by assumption) ?rd43
                      case yd43 => (intro w hSw; (try dsimp only at hSw); go_simp; try with_reducible rfl)
                      try simp only [Act.put, List.setIfInBounds_toArray, List.set_cons_zero, List.set_cons_succ]
                      refine wpAnyH_take (i := 44) (oi := ⟨some 67, .binOp .eql 3 (.tmp 66) (.const (.int .i64 13)) 3, 4, "race.go:14", #[⟨43, .data⟩, ⟨38, .guard⟩], some (38, true)⟩) (v := ?vd44) rfl (by kernel_rfl) (by kernel_rfl) (by kernel_rfl) (fun _ _ _ h => h) (Or.inl ⟨by rfl, ?yd44⟩) (by assumption) ?rd44
                      case yd44 => (intro w hSw; (try dsimp only at hSw); go_simp; try with_reducible rfl)
                      refine wpAnyH_take (i := 45) (oi := ⟨some 68, .move (.tmp 67), 4, "race.go:14", #[⟨44, .data⟩, ⟨38, .chain⟩, ⟨38, .guard⟩], some (38, true)⟩) (v := ?vd45) rfl (by kernel_rfl) (by kernel_rfl) (by kernel_rfl) (fun _ _ _ h => h) (Or.inl ⟨by rfl, ?yd45⟩) (by assumption) ?rd45
                      case yd45 => (intro w hSw; (try dsimp only at hSw); go_simp; try with_reducible rfl)
                      refine wpAnyH_take (i := 46) (oi := ⟨some 69, .move (.tmp 0), 22, "race.go:14", #[⟨45, .guard⟩], some (45, false)⟩) (v := undef) rfl (by kernel_rfl) (by kernel_rfl) (by kernel_rfl) (fun _ _ _ h => h) (Or.inr ⟨by rfl, rfl⟩) (by assumption) ?_
                      try simp only [Act.put, List.setIfInBounds_toArray, List.set_cons_zero, List.set_cons_succ]
                      refine wpAnyH_take (i := 47) (oi := ⟨some 70, .move (.tmp 7), 3, "race.go:14", #[⟨45, .guard⟩], some (45, false)⟩) (v := undef) rfl (by kernel_rfl) (by kernel_rfl) (by kernel_rfl) (fun _ _ _ h => h) (Or.inr ⟨by rfl, rfl⟩) (by assumption) ?_
                      refine wpAnyH_take (i := 48) (oi := ⟨some 71, .indexAddr 22 (.tmp 69) (.tmp 70), 0, "race.go:14", #[⟨46, .data⟩, ⟨47, .data⟩, ⟨45, .guard⟩], some (45, false)⟩) (v := undef) rfl (by kernel_rfl) (by kernel_rfl) (by kernel_rfl) (fun _ _ _ h => h) (Or.inr ⟨by rfl, rfl⟩) (by assumption) ?_
                      refine wpAnyH_take (i := 49) (oi := ⟨some 72, .fieldAddr 41 (.tmp 71) 1, 0, "race.go:14", #[⟨48, .data⟩, ⟨45, .guard⟩], some (45, false)⟩) (v := undef) rfl (by kernel_rfl) (by kernel_rfl) (by kernel_rfl) (fun _ _ _ h => h) (Or.inr ⟨by rfl, rfl⟩) (by assumption) ?_
                      try simp only [Act.put, List.setIfInBounds_toArray, List.set_cons_zero, List.set_cons_succ]
                      refine wpAnyH_take (i := 50) (oi := ⟨some 73, .load 3 (.tmp 72), 3, "race.go:14", #[⟨49, .data⟩, ⟨45, .guard⟩], some (45, false)⟩) (v := undef) rfl (by kernel_rfl) (by kernel_rfl) (by kernel_rfl) (fun _ _ _ h => h) (Or.inr ⟨by rfl, rfl⟩) (by assumption) ?_
                      refine wpAnyH_take (i := 51) (oi := ⟨some 74, .binOp .eql 3 (.tmp 73) (.const (.int .i64 13)) 3, 4, "race.go:14", #[⟨50, .data⟩, ⟨45, .guard⟩], some (45, false)⟩) (v := undef) rfl (by kernel_rfl) (by kernel_rfl) (by kernel_rfl) (fun _ _ _ h => h) (Or.inr ⟨by rfl, rfl⟩) (by assumption) ?_
                      refine wpAnyH_take (i := 52) (oi := ⟨some 75, .pick (.tmp 68) (.const (.bool true)) (.tmp 74), 4, "race.go:14", #[⟨45, .data⟩, ⟨51, .data⟩, ⟨38, .guard⟩], some (38, true)⟩) (v := ?vd52) rfl (by kernel_rfl) (by kernel_rfl) (by kernel_rfl) (fun _ _ _ h => h) (Or.inl ⟨by rfl, ?yd52⟩) (by assumption) ?rd52
                      case yd52 => (intro w hSw; (try dsimp only at hSw); go_simp; try with_reducible rfl)
                      try simp only [Act.put, List.setIfInBounds_toArray, List.set_cons_zero, List.set_cons_succ]
                      refine wpAnyH_take (i := 53) (oi := ⟨some 76, .pick (.tmp 61) (.tmp 75) (.const (.bool false)), 4, "race.go:14", #[⟨38, .data⟩, ⟨52, .data⟩], none⟩) (v := ?vd53) rfl (by kernel_rfl) (by kernel_rfl) (by kernel_rfl) (fun _ _ _ h => h) (Or.inl ⟨by rfl, ?yd53⟩) (by assumption) ?rd53
                      case yd53 => (intro w hSw; (try dsimp only at hSw); go_simp; try with_reducible rfl)
                      refine wpAnyH_take (i := 54) (oi := ⟨some 77, .move (.tmp 76), 4, "race.go:14", #[⟨53, .data⟩, ⟨45, .chain⟩], none⟩) (v := ?vd54) rfl (by kernel_rfl) (by kernel_rfl) (by kernel_rfl) (fun _ _ _ h => h) (Or.inl ⟨by rfl, ?yd54⟩) (by assumption) ?rd54
                      case yd54 => (intro w hSw; (try dsimp only at hSw); go_simp; try with_reducible rfl)
                      refine wpAnyH_take (i := 55) (oi := ⟨some 78, .move (.tmp 5), 38, "race.go:14", #[⟨54, .guard⟩], some (54, true)⟩) (v := ?vd55) rfl (by kernel_rfl) (by kernel_rfl) (by kernel_rfl) (fun _ _ _ h => h) (Or.inl ⟨by rfl, ?yd55⟩) (by assumption) ?rd55
                      case yd55 => (intro w hSw; (try dsimp only at hSw); go_simp; try with_reducible rfl)
                      try simp only [Act.put, List.setIfInBounds_toArray, List.set_cons_zero, List.set_cons_succ]
                      refine wpAnyH_take (i := 56) (oi := ⟨some 79, .move (.tmp 7), 3, "race.go:14", #[⟨54, .guard⟩], some (54, true)⟩) (v := ?vd56) rfl (by kernel_rfl) (by kernel_rfl) (by kernel_rfl) (fun _ _ _ h => h) (Or.inl ⟨by rfl, ?yd56⟩) (by assumption) ?rd56
                      case yd56 => (intro w hSw; (try dsimp only at hSw); go_simp; try with_reducible rfl)
                      refine wpAnyH_take (i := 57) (oi := ⟨some 80, .indexAddr 38 (.tmp 78) (.tmp 79), 0, "race.go:14", #[⟨55, .data⟩, ⟨56, .data⟩, ⟨54, .guard⟩], some (54, true)⟩) (v := ?vd57) rfl (by kernel_rfl) (by kernel_rfl) (by kernel_rfl) (fun _ _ _ h => h) (Or.inl ⟨by rfl, ?yd57⟩) (by assumption) ?rd57
                      case yd57 => (intro w hSw; (try dsimp only at hSw); go_simp; try with_reducible rfl)
                      refine wpAnyH_take (i := 58) (oi := ⟨some 81, .load 42 (.tmp 80), 42, "race.go:14", #[⟨57, .data⟩, ⟨54, .guard⟩], some (54, true)⟩) (v := ?vd58) rfl (by kernel_rfl) (by kernel_rfl) (by kernel_rfl) (fun _ _ _ h => h) (Or.inl ⟨by rfl, ?yd58⟩) (by assumption) ?rd58
                      case yd58 => (intro w hSw; (try dsimp only at hSw); go_simp; try with_reducible rfl)
                      try simp only [Act.put, List.setIfInBounds_toArray, List.set_cons_zero, List.set_cons_succ]
                      refine wpAnyH_take (i := 59) (oi := ⟨some 82, .move (.tmp 8), 3, "race.go:14", #[⟨54, .guard⟩], some (54, true)⟩) (v := ?vd59) rfl (by kernel_rfl) (by kernel_rfl) (by kernel_rfl) (fun _ _ _ h => h) (Or.inl ⟨by rfl, ?yd59⟩) (by assumption) ?rd59
                      case yd59 => (intro w hSw; (try dsimp only at hSw); go_simp; try with_reducible rfl)
                      refine wpAnyH_take (i := 60) (oi := ⟨some 83, .indexAddr 42 (.tmp 81) (.tmp 82), 0, "race.go:14", #[⟨58, .data⟩, ⟨59, .data⟩, ⟨54, .guard⟩], some (54, true)⟩) (v := ?vd60) rfl (by kernel_rfl) (by kernel_rfl) (by kernel_rfl) (fun _ _ _ h => h) (Or.inl ⟨by rfl, ?yd60⟩) (by assumption) ?rd60
                      case yd60 => (intro w hSw; (try dsimp only at hSw); go_simp; try with_reducible rfl)
                      refine wpAnyH_take (i := 61) (oi := ⟨some 84, .load 4 (.tmp 83), 4, "race.go:14", #[⟨60, .data⟩, ⟨54, .guard⟩], some (54, true)⟩) (v := ?vd61) rfl (by kernel_rfl) (by kernel_rfl) (by kernel_rfl) (fun _ _ _ h => h) (Or.inl ⟨by rfl, ?yd61⟩) (by assumption) ?rd61
                      case yd61 => (intro w hSw; (try dsimp only at hSw); go_simp; try with_reducible rfl)
                      try simp only [Act.put, List.setIfInBounds_toArray, List.set_cons_zero, List.set_cons_succ]
                      refine wpAnyH_take (i := 62) (oi := ⟨some 85, .unOp .not 4 (.tmp 84), 4, "race.go:14", #[⟨61, .data⟩, ⟨54, .guard⟩], some (54, true)⟩) (v := ?vd62) rfl (by kernel_rfl) (by kernel_rfl) (by kernel_rfl) (fun _ _ _ h => h) (Or.inl ⟨by rfl, ?yd62⟩) (by assumption) ?rd62
                      case yd62 => (intro w hSw; (try dsimp only at hSw); go_simp; try with_reducible rfl)
                      refine wpAnyH_take (i := 63) (oi := ⟨some 86, .pick (.tmp 77) (.tmp 85) (.const (.bool false)), 4, "race.go:14", #[⟨54, .data⟩, ⟨62, .data⟩], none⟩) (v := ?vd63) rfl (by kernel_rfl) (by kernel_rfl) (by kernel_rfl) (fun _ _ _ h => h) (Or.inl ⟨by rfl, ?yd63⟩) (by assumption) ?rd63
                      case yd63 => (intro w hSw; (try dsimp only at hSw); go_simp; try with_reducible rfl)
                      try simp only [Act.put, List.setIfInBounds_toArray, List.set_cons_zero, List.set_cons_succ]
                      refine wpAnyH_done (by kernel_rfl) ?_ _
                      refine NoPanic.normal ?_
                      go_upto_region 10 with fail
                      have HOP := hide (((unhide HOi).below (unhide HX2)).below ((Below.refl w2.heap.size w2).alloc (Nat.le_refl _) (.cells #[.int .i64 (i : Int), .int .i64 (k : Int)] 55)))
                      have HBP := hide ((Below.next (unhide HBi) (unhide HX2) (Nat.le_of_eq (unhide HZ).symm)).alloc (Nat.le_trans (unhide HW1) (unhide HX2).size) (.cells #[.int .i64 (i : Int), .int .i64 (k : Int)] 55))
                      have HIP : Hid (IsL KP (w2.alloc (.cells #[.int .i64 (i : Int), .int .i64 (k : Int)] 55)) (.slice (some ⟨w2.heap.size, 0, none⟩) 1 1) [((i : Int), (k : Int))]) := isl_one kp w2 ((i : Int), (k : Int))
                      go_wp2_with (at_builtin; refine wpList_append kp rfl (.tmp 87) (.tmp 91) rfl Z _ (outI hs l k i) rfl (unhide HOP) _ [((i : Int), (k : Int))] rfl (unhide HIP) (r + 1) (by rw [unhide HRL]; rfl) (by show (r + 1) * 16 ≤ 140737488355328; omega) (Nat.le_trans (unhide HW1) (Nat.le_trans (unhide HX2).size (by simp))) ?_; intro a7 c7 w7 ho7 hg7; have HO7 := hide ho7; have HB7 := hide ((unhide HBP).grown hg7 (Nat.le_trans (unhide HW1) (Nat.le_trans (unhide HX2).size (by simp))) (fun q hq => ((unhide HOP).lt q hq).1)); clear ho7 hg7)
                      go_roundw
                      case rel => exact ⟨i + 1, a7, r + 1, c7, by omega, by go_num, rfl, by omega, hide (by rw [unhide HO2, List.length_append, unhide HRL]; rfl), hide (by rw [unhide HO2]; exact unhide HO7), HB7⟩
                      case measure => simp [intOf]; omega
                    · skip
                      have HNO : Hid (rcB hs l k i = false) := by show _ = _; rw [unhide HRC]; rw [unhide HEAI, unhide HEAK, unhide HTT, unhide HXI]; simp [unhide HBE]
                      have HO2 : Hid (outI hs l k (i + 1) = outI hs l k i) := outI_no (unhide HNO)
                      go_upto_region 9 with fail
                      refine wp_region_noPanic ?_
                      refine wp_region_held_drew (S := (fun W' => W'.cell? ⟨tb, tof + i * 4, none⟩ = some (.int .i64 ti) ∧ W'.cell? ⟨tb, tof + i * 4 + 1, none⟩ = some (.int .i64 oi) ∧ W'.cell? ⟨tb, tof + i * 4 + 2, none⟩ = some (.int .i64 bi) ∧ W'.cell? ⟨tb, tof + i * 4 + 3, none⟩ = some (.int .i64 vi) ∧ W'.cell? ⟨tb, tof + k * 4, none⟩ = some (.int .i64 tk) ∧ W'.cell? ⟨tb, tof + k * 4 + 1, none⟩ = some (.int .i64 ok) ∧ W'.cell? ⟨tb, tof + k * 4 + 2, none⟩ = some (.int .i64 bi) ∧ W'.cell? ⟨tb, tof + k * 4 + 3, none⟩ = some (.int .i64 vk) ∧ W'.cell? ⟨R, k, none⟩ = some (.slice (some ⟨bf k, 0, none⟩) n0 n0) ∧ W'.cell? ⟨bf k, i, none⟩ = some (.bool true))) (by kernel_rfl) (unhide HS0) (fun hHeld => ?_)
                      refine wpAnyH_take (i := 0) (oi := ⟨some 23, .move (.tmp 0), 22, "race.go:14", #[], none⟩) (v := ?ve0) rfl (by kernel_rfl) (by kernel_rfl) (by kernel_rfl) (fun _ _ _ h => h) (Or.inl ⟨by rfl, ?ye0⟩) (by assumption) ?re0
                      case ye0 => (intro w hSw; (try dsimp only at hSw); go_simp; try with_reducible rfl)
                      refine wpAnyH_take (i := 1) (oi := ⟨some 24, .move (.tmp 8), 3, "race.go:14", #[], none⟩) (v := ?ve1) rfl (by kernel_rfl) (by kernel_rfl) (by kernel_rfl) (fun _ _ _ h => h) (Or.inl ⟨by rfl, ?ye1⟩) (by assumption) ?re1
                      case ye1 => (intro w hSw; (try dsimp only at hSw); go_simp; try with_reducible rfl)
                      refine wpAnyH_take (i := 2) (oi := ⟨some 25, .indexAddr 22 (.tmp 23) (.tmp 24), 0, "race.go:14", #[⟨0, .data⟩, ⟨1, .data⟩], none⟩) (v := ?ve2) rfl (by kernel_rfl) (by kernel_rfl) (by kernel_rfl) (fun _ _ _ h => h) (Or.inl ⟨by rfl, ?ye2⟩) (by assumption) ?re2
                      case ye2 => (intro w hSw; (try dsimp only at hSw); go_simp; try with_reducible rfl)
                      try simp only [Act.put, List.setIfInBounds_toArray, List.set_cons_zero, List.set_cons_succ]
                      refine wpAnyH_take (i := 3) (oi := ⟨some 26, .load 41 (.tmp 25), 41, "race.go:14", #[⟨2, .data⟩], none⟩) (v := ?ve3) rfl (by kernel_rfl) (by kernel_rfl) (by kernel_rfl) (fun _ _ _ h => h) (Or.inl ⟨by rfl, ?ye3⟩) (by assumption) ?re3
                      case ye3 => (intro w hSw; (try dsimp only at hSw); go_simp; try with_reducible rfl)
                      try simp only [Act.put, List.setIfInBounds_toArray, List.set_cons_zero, List.set_cons_succ]
                      refine wpAnyH_ready (rs := [4]) (by kernel_rfl) (by simp) ?_
                      refine AllReadyH.cons (o := ⟨some 27, .call { callee := .value (.func 28), args := #[.tmp 26], argTypes := #[41] }, 4, "race.go:14", #[⟨3, .data⟩], none⟩) rfl (fun K hK => ?_) AllReadyH.nil
                      go_simp
                      (go_at_call 28; (with_reducible refine Calls.mono (unhide HAI _) ?_); rintro e w1 ⟨rfl, hb1⟩; have HX1 := hide (Below.next (Below.refl wr.heap.size wr).drew hb1 (Nat.le_refl _)); have HS1 := hide (unhide HSS _ (unhide HX1)); clear hb1)
                      refine hK.out _ _ (unhide HS1) (fun hHeld => ?_)
                      clear hK K
                      try simp only [Act.put, List.setIfInBounds_toArray, List.set_cons_zero, List.set_cons_succ]
                      refine wpAnyH_take (i := 5) (oi := ⟨some 28, .move (.tmp 27), 4, "race.go:14", #[⟨4, .data⟩, ⟨4, .chain⟩], none⟩) (v := ?ve5) rfl (by kernel_rfl) (by kernel_rfl) (by kernel_rfl) (fun _ _ _ h => h) (Or.inl ⟨by rfl, ?ye5⟩) (by assumption) ?re5
                      case ye5 => (intro w hSw; (try dsimp only at hSw); go_simp; try with_reducible rfl)
                      refine wpAnyH_take (i := 6) (oi := ⟨some 29, .move (.tmp 0), 22, "race.go:14", #[⟨5, .guard⟩], some (5, true)⟩) (v := ?ve6) rfl (by kernel_rfl) (by kernel_rfl) (by kernel_rfl) (fun _ _ _ h => h) (Or.inl ⟨by rfl, ?ye6⟩) (by assumption) ?re6
                      case ye6 => (intro w hSw; (try dsimp only at hSw); go_simp; try with_reducible rfl)
                      try simp only [Act.put, List.setIfInBounds_toArray, List.set_cons_zero, List.set_cons_succ]
                      refine wpAnyH_take (i := 7) (oi := ⟨some 30, .move (.tmp 7), 3, "race.go:14", #[⟨5, .guard⟩], some (5, true)⟩) (v := ?ve7) rfl (by kernel_rfl) (by kernel_rfl) (by kernel_rfl) (fun _ _ _ h => h) (Or.inl ⟨by rfl, ?ye7⟩) (by assumption) ?re7
                      case ye7 => (intro w hSw; (try dsimp only at hSw); go_simp; try with_reducible rfl)
                      refine wpAnyH_take (i := 8) (oi := ⟨some 31, .indexAddr 22 (.tmp 29) (.tmp 30), 0, "race.go:14", #[⟨6, .data⟩, ⟨7, .data⟩, ⟨5, .guard⟩], some (5, true)⟩) (v := ?ve8) rfl (by kernel_rfl) (by kernel_rfl) (by kernel_rfl) (fun _ _ _ h => h) (Or.inl ⟨by rfl, ?ye8⟩) (by assumption) ?re8
                      case ye8 => (intro w hSw; (try dsimp only at hSw); go_simp; try with_reducible rfl)
                      refine wpAnyH_take (i := 9) (oi := ⟨some 32, .load 41 (.tmp 31), 41, "race.go:14", #[⟨8, .data⟩, ⟨5, .guard⟩], some (5, true)⟩) (v := ?ve9) rfl (by kernel_rfl) (by kernel_rfl) (by kernel_rfl) (fun _ _ _ h => h) (Or.inl ⟨by rfl, ?ye9⟩) (by assumption) ?re9
                      case ye9 => (intro w hSw; (try dsimp only at hSw); go_simp; try with_reducible rfl)
                      try simp only [Act.put, List.setIfInBounds_toArray, List.set_cons_zero, List.set_cons_succ]
                      refine wpAnyH_ready (rs := [10]) (by kernel_rfl) (by simp) ?_
                      refine AllReadyH.cons (o := ⟨some 33, .call { callee := .value (.func 28), args := #[.tmp 32], argTypes := #[41] }, 4, "race.go:14", #[⟨9, .data⟩, ⟨5, .chain⟩, ⟨5, .guard⟩], some (5, true)⟩) rfl (fun K hK => ?_) AllReadyH.nil
                      go_simp
                      (go_at_call 28; (with_reducible refine Calls.mono (unhide HAK _) ?_); rintro e w2 ⟨rfl, hb2⟩; have HX2 := hide (Below.next (unhide HX1) hb2 (Nat.le_refl _)); have HS2 := hide (unhide HSS _ (unhide HX2)); clear hb2)
                      refine hK.out _ _ (unhide HS2) (fun hHeld => ?_)
                      clear hK K
                      try simp only [Act.put, List.setIfInBounds_toArray, List.set_cons_zero, List.set_cons_succ]
                      refine wpAnyH_take (i := 11) (oi := ⟨some 34, .pick (.tmp 28) (.tmp 33) (.const (.bool false)), 4, "race.go:14", #[⟨5, .data⟩, ⟨10, .data⟩], none⟩) (v := ?ve11) rfl (by kernel_rfl) (by kernel_rfl) (by kernel_rfl) (fun _ _ _ h => h) (Or.inl ⟨by rfl, ?ye11⟩) (by assumption) ?re11
                      case ye11 => (intro w hSw; (try dsimp only at hSw); go_simp; try with_reducible rfl)
                      refine wpAnyH_take (i := 12) (oi := ⟨some 35, .move (.tmp 34), 4, "race.go:14", #[⟨11, .data⟩, ⟨10, .chain⟩], none⟩) (v := ?ve12) rfl (by kernel_rfl) (by kernel_rfl) (by kernel_rfl) (fun _ _ _ h => h) (Or.inl ⟨by rfl, ?ye12⟩) (by assumption) ?re12
                      case ye12 => (intro w hSw; (try dsimp only at hSw); go_simp; try with_reducible rfl)
                      refine wpAnyH_take (i := 13) (oi := ⟨some 36, .move (.tmp 0), 22, "race.go:14", #[⟨12, .guard⟩], some (12, true)⟩) (v := ?ve13) rfl (by kernel_rfl) (by kernel_rfl) (by kernel_rfl) (fun _ _ _ h => h) (Or.inl ⟨by rfl, ?ye13⟩) (by assumption) ?re13
                      case ye13 => (intro w hSw; (try dsimp only at hSw); go_simp; try with_reducible rfl)
                      try simp only [Act.put, List.setIfInBounds_toArray, List.set_cons_zero, List.set_cons_succ]
                      refine wpAnyH_take (i := 14) (oi := ⟨some 37, .move (.tmp 8), 3, "race.go:14", #[⟨12, .guard⟩], some (12, true)⟩) (v := ?ve14) rfl (by kernel_rfl) (by kernel_rfl) (by kernel_rfl) (fun _ _ _ h => h) (Or.inl ⟨by rfl, ?ye14⟩) (by assumption) ?re14
                      case ye14 => (intro w hSw; (try dsimp only at hSw); go_simp; try with_reducible rfl)
                      refine wpAnyH_take (i := 15) (oi := ⟨some 38, .indexAddr 22 (.tmp 36) (.tmp 37), 0, "race.go:14", #[⟨13, .data⟩, ⟨14, .data⟩, ⟨12, .guard⟩], some (12, true)⟩) (v := ?ve15) rfl (by kernel_rfl) (by kernel_rfl) (by kernel_rfl) (fun _ _ _ h => h) (Or.inl ⟨by rfl, ?ye15⟩) (by assumption) ?re15
                      case ye15 => (intro w hSw; (try dsimp only at hSw); go_simp; try with_reducible rfl)
                      refine wpAnyH_take (i := 16) (oi := ⟨some 39, .fieldAddr 41 (.tmp 38) 2, 0, "race.go:14", #[⟨15, .data⟩, ⟨12, .guard⟩], some (12, true)⟩) (v := ?ve16) rfl (by kernel_rfl) (by kernel_rfl) (by kernel_rfl) (fun _ _ _ h => h) (Or.inl ⟨by rfl, ?ye16⟩) (by assumption) ?re16
                      case ye16 => (intro w hSw; (try dsimp only at hSw); go_simp; try with_reducible rfl)
                      try simp only [Act.put, List.setIfInBounds_toArray, List.set_cons_zero, List.set_cons_succ]
                      refine wpAnyH_take (i := 17) (oi := ⟨some 40, .load 3 (.tmp 39), 3, "race.go:14", #[⟨16, .data⟩, ⟨12, .guard⟩], some (12, true)⟩) (v := ?ve17) rfl (by kernel_rfl) (by kernel_rfl) (by kernel_rfl) (fun _ _ _ h => h) (Or.inl ⟨by rfl, ?ye17⟩) (by assumption) ?re17
                      case ye17 => (intro w hSw; (try dsimp only at hSw); go_simp; try with_reducible rfl)
                      refine wpAnyH_take (i := 18) (oi := ⟨some 41, .move (.tmp 0), 22, "race.go:14", #[⟨12, .guard⟩], some (12, true)⟩) (v := ?ve18) rfl (by kernel_rfl) (by kernel_rfl) (by kernel_rfl) (fun _ _ _ h => h) (Or.inl ⟨by rfl, ?ye18⟩) (by assumption) ?re18
                      case ye18 => (intro w hSw; (try dsimp only at hSw); go_simp; try with_reducible rfl)
                      refine wpAnyH_take (i := 19) (oi := ⟨some 42, .move (.tmp 7), 3, "race.go:14", #[⟨12, .guard⟩], some (12, true)⟩) (v := ?ve19) rfl (by kernel_rfl) (by kernel_rfl) (by kernel_rfl) (fun _ _ _ h => h) (Or.inl ⟨by rfl, ?ye19⟩) (by assumption) ?re19
                      case ye19 => (intro w hSw; (try dsimp only at hSw); go_simp; try with_reducible rfl)
                      try simp only [Act.put, List.setIfInBounds_toArray, List.set_cons_zero, List.set_cons_succ]
                      refine wpAnyH_take (i := 20) (oi := ⟨some 43, .indexAddr 22 (.tmp 41) (.tmp 42), 0, "race.go:14", #[⟨18, .data⟩, ⟨19, .data⟩, ⟨12, .guard⟩], some (12, true)⟩) (v := ?ve20) rfl (by kernel_rfl) (by kernel_rfl) (by kernel_rfl) (fun _ _ _ h => h) (Or.inl ⟨by rfl, ?ye20⟩) (by assumption) ?re20
                      case ye20 => (intro w hSw; (try dsimp only at hSw); go_simp; try with_reducible rfl)
                      refine wpAnyH_take (i := 21) (oi := ⟨some 44, .fieldAddr 41 (.tmp 43) 2, 0, "race.go:14", #[⟨20, .data⟩, ⟨12, .guard⟩], some (12, true)⟩) (v := ?ve21) rfl (by kernel_rfl) (by kernel_rfl) (by kernel_rfl) (fun _ _ _ h => h) (Or.inl ⟨by rfl, ?ye21⟩) (by assumption) ?re21
                      case ye21 => (intro w hSw; (try dsimp only at hSw); go_simp; try with_reducible rfl)
                      refine wpAnyH_take (i := 22) (oi := ⟨some 45, .load 3 (.tmp 44), 3, "race.go:14", #[⟨21, .data⟩, ⟨12, .guard⟩], some (12, true)⟩) (v := ?ve22) rfl (by kernel_rfl) (by kernel_rfl) (by kernel_rfl) (fun _ _ _ h => h) (Or.inl ⟨by rfl, ?ye22⟩) (by assumption) ?re22
                      case ye22 => (intro w hSw; (try dsimp only at hSw); go_simp; try with_reducible rfl)
                      try simp only [Act.put, List.setIfInBounds_toArray, List.set_cons_zero, List.set_cons_succ]
                      refine wpAnyH_take (i := 23) (oi := ⟨some 46, .binOp .eql 3 (.tmp 40) (.tmp 45) 3, 4, "race.go:14", #[⟨17, .data⟩, ⟨22, .data⟩, ⟨12, .guard⟩], some (12, true)⟩) (v := ?ve23) rfl (by kernel_rfl) (by kernel_rfl) (by kernel_rfl) (fun _ _ _ h => h) (Or.inl ⟨by rfl, ?ye23⟩) (by assumption) ?re23
                      case ye23 => (intro w hSw; (try dsimp only at hSw); go_simp; try with_reducible rfl)
                      refine wpAnyH_take (i := 24) (oi := ⟨some 47, .pick (.tmp 35) (.tmp 46) (.const (.bool false)), 4, "race.go:14", #[⟨12, .data⟩, ⟨23, .data⟩], none⟩) (v := ?ve24) rfl (by kernel_rfl) (by kernel_rfl) (by kernel_rfl) (fun _ _ _ h => h) (Or.inl ⟨by rfl, ?ye24⟩) (by assumption) ?re24
                      case ye24 => (intro w hSw; (try dsimp only at hSw); go_simp; try with_reducible rfl)
                      refine wpAnyH_take (i := 25) (oi := ⟨some 48, .move (.tmp 47), 4, "race.go:14", #[⟨24, .data⟩, ⟨12, .chain⟩], none⟩) (v := ?ve25) rfl (by kernel_rfl) (by kernel_rfl) (by kernel_rfl) (fun _ _ _ h => h) (Or.inl ⟨by rfl, ?ye25⟩) (by assumption) ?re25
                      case ye25 => (intro w hSw; (try dsimp only at hSw); go_simp; try with_reducible rfl)
                      try simp only [Act.put, List.setIfInBounds_toArray, List.set_cons_zero, List.set_cons_succ]
                      refine wpAnyH_take (i := 26) (oi := ⟨some 49, .move (.tmp 0), 22, "race.go:14", #[⟨25, .guard⟩], some (25, true)⟩) (v := ?ve26) rfl (by kernel_rfl) (by kernel_rfl) (by kernel_rfl) (fun _ _ _ h => h) (Or.inl ⟨by rfl, ?ye26⟩) (by assumption) ?re26
                      case ye26 => (intro w hSw; (try dsimp only at hSw); go_simp; try with_reducible rfl)
                      refine wpAnyH_take (i := 27) (oi := ⟨some 50, .move (.tmp 8), 3, "race.go:14", #[⟨25, .guard⟩], some (25, true)⟩) (v := ?ve27) rfl (by kernel_rfl) (by kernel_rfl) (by kernel_rfl) (fun _ _ _ h => h) (Or.inl ⟨by rfl, ?ye27⟩) (by assumption) ?re27
                      case ye27 => (intro w hSw; (try dsimp only at hSw); go_simp; try with_reducible rfl)
                      refine wpAnyH_take (i := 28) (oi := ⟨some 51, .indexAddr 22 (.tmp 49) (.tmp 50), 0, "race.go:14", #[⟨26, .data⟩, ⟨27, .data⟩, ⟨25, .guard⟩], some (25, true)⟩) (v := ?ve28) rfl (by kernel_rfl) (by kernel_rfl) (by kernel_rfl) (fun _ _ _ h => h) (Or.inl ⟨by rfl, ?ye28⟩) (by assumption) ?re28
                      case ye28 => (intro w hSw; (try dsimp only at hSw); go_simp; try with_reducible rfl)
                      try simp only [Act.put, List.setIfInBounds_toArray, List.set_cons_zero, List.set_cons_succ]
                      refine wpAnyH_take (i := 29) (oi := ⟨some 52, .fieldAddr 41 (.tmp 51) 0, 0, "race.go:14", #[⟨28, .data⟩, ⟨25, .guard⟩], some (25, true)⟩) (v := ?ve29) rfl (by kernel_rfl) (by kernel_rfl) (by kernel_rfl) (fun _ _ _ h => h) (Or.inl ⟨by rfl, ?ye29⟩) (by assumption) ?re29
                      case ye29 => (intro w hSw; (try dsimp only at hSw); go_simp; try with_reducible rfl)
                      refine wpAnyH_take (i := 30) (oi := ⟨some 53, .load 3 (.tmp 52), 3, "race.go:14", #[⟨29, .data⟩, ⟨25, .guard⟩], some (25, true)⟩) (v := ?ve30) rfl (by kernel_rfl) (by kernel_rfl) (by kernel_rfl) (fun _ _ _ h => h) (Or.inl ⟨by rfl, ?ye30⟩) (by assumption) ?re30
                      case ye30 => (intro w hSw; (try dsimp only at hSw); go_simp; try with_reducible rfl)
                      refine wpAnyH_take (i := 31) (oi := ⟨some 54, .move (.tmp 0), 22, "race.go:14", #[⟨25, .guard⟩], some (25, true)⟩) (v := ?ve31) rfl (by kernel_rfl) (by kernel_rfl) (by kernel_rfl) (fun _ _ _ h => h) (Or.inl ⟨by rfl, ?ye31⟩) (by assumption) ?re31
                      case ye31 => (intro w hSw; (try dsimp only at hSw); go_simp; try with_reducible rfl)
                      try simp only [Act.put, List.setIfInBounds_toArray, List.set_cons_zero, List.set_cons_succ]
                      refine wpAnyH_take (i := 32) (oi := ⟨some 55, .move (.tmp 7), 3, "race.go:14", #[⟨25, .guard⟩], some (25, true)⟩) (v := ?ve32) rfl (by kernel_rfl) (by kernel_rfl) (by kernel_rfl) (fun _ _ _ h => h) (Or.inl ⟨by rfl, ?ye32⟩) (by assumption) ?re32
                      case ye32 => (intro w hSw; (try dsimp only at hSw); go_simp; try with_reducible rfl)
                      refine wpAnyH_take (i := 33) (oi := ⟨some 56, .indexAddr 22 (.tmp 54) (.tmp 55), 0, "race.go:14", #[⟨31, .data⟩, ⟨32, .data⟩, ⟨25, .guard⟩], some (25, true)⟩) (v := ?ve33) rfl (by kernel_rfl) (by kernel_rfl) (by kernel_rfl) (fun _ _ _ h => h) (Or.inl ⟨by rfl, ?ye33⟩) (by assumption) ?re33
                      case ye33 => (intro w hSw; (try dsimp only at hSw); go_simp; try with_reducible rfl)
                      refine wpAnyH_take (i := 34) (oi := ⟨some 57, .fieldAddr 41 (.tmp 56) 0, 0, "race.go:14", #[⟨33, .data⟩, ⟨25, .guard⟩], some (25, true)⟩) (v := ?ve34) rfl (by kernel_rfl) (by kernel_rfl) (by kernel_rfl) (fun _ _ _ h => h) (Or.inl ⟨by rfl, ?ye34⟩) (by assumption) ?re34
                      case ye34 => (intro w hSw; (try dsimp only at hSw); go_simp; try with_reducible rfl)
                      try simp only [Act.put, List.setIfInBounds_toArray, List.set_cons_zero, List.set_cons_succ]
                      refine wpAnyH_take (i := 35) (oi := ⟨some 58, .load 3 (.tmp 57), 3, "race.go:14", #[⟨34, .data⟩, ⟨25, .guard⟩], some (25, true)⟩) (v := ?ve35) rfl (by kernel_rfl) (by kernel_rfl) (by kernel_rfl) (fun _ _ _ h => h) (Or.inl ⟨by rfl, ?ye35⟩) (by assumption) ?re35
                      case ye35 => (intro w hSw; (try dsimp only at hSw); go_simp; try with_reducible rfl)
                      refine wpAnyH_take (i := 36) (oi := ⟨some 59, .binOp .neq 3 (.tmp 53) (.tmp 58) 3, 4, "race.go:14", #[⟨30, .data⟩, ⟨35, .data⟩, ⟨25, .guard⟩], some (25, true)⟩) (v := ?ve36) rfl (by kernel_rfl) (by kernel_rfl) (by kernel_rfl) (fun _ _ _ h => h) (Or.inl ⟨by rfl, ?ye36⟩) (by assumption) ?re36
                      case ye36 => (intro w hSw; (try dsimp only at hSw); go_simp; try with_reducible rfl)
                      refine wpAnyH_take (i := 37) (oi := ⟨some 60, .pick (.tmp 48) (.tmp 59) (.const (.bool false)), 4, "race.go:14", #[⟨25, .data⟩, ⟨36, .data⟩], none⟩) (v := ?ve37) rfl (by kernel_rfl) (by kernel_rfl) (by kernel_rfl) (fun _ _ _ h => h) (Or.inl ⟨by rfl, ?ye37⟩) (by assumption) ?re37
                      case ye37 => (intro w hSw; (try dsimp only at hSw); go_simp; try with_reducible rfl)
                      try simp only [Act.put, List.setIfInBounds_toArray, List.set_cons_zero, List.set_cons_succ]
                      refine wpAnyH_take (i := 38) (oi := ⟨some 61, .move (.tmp 60), 4, "race.go:14", #[⟨37, .data⟩, ⟨25, .chain⟩], none⟩) (v := ?ve38) rfl (by kernel_rfl) (by kernel_rfl) (by kernel_rfl) (fun _ _ _ h => h) (Or.inl ⟨by rfl, ?ye38⟩) (by assumption) ?re38
                      case ye38 => (intro w hSw; (try dsimp only at hSw); go_simp; try with_reducible rfl)
                      refine wpAnyH_take (i := 39) (oi := ⟨some 62, .move (.tmp 0), 22, "race.go:14", #[⟨38, .guard⟩], some (38, true)⟩) (v := ?ve39) rfl (by kernel_rfl) (by kernel_rfl) (by kernel_rfl) (fun _ _ _ h => h) (Or.inl ⟨by rfl, ?ye39⟩) (by assumption) ?re39
                      case ye39 => (intro w hSw; (try dsimp only at hSw); go_simp; try with_reducible rfl)
                      refine wpAnyH_take (i := 40) (oi := ⟨some 63, .move (.tmp 8), 3, "race.go:14", #[⟨38, .guard⟩], some (38, true)⟩) (v := ?ve40) rfl (by kernel_rfl) (by kernel_rfl) (by kernel_rfl) (fun _ _ _ h => h) (Or.inl ⟨by rfl, ?ye40⟩) (by assumption) ?re40
                      case ye40 => (intro w hSw; (try dsimp only at hSw); go_simp; try with_reducible rfl)
                      try simp only [Act.put, List.setIfInBounds_toArray, List.set_cons_zero, List.set_cons_succ]
                      refine wpAnyH_take (i := 41) (oi := ⟨some 64, .indexAddr 22 (.tmp 62) (.tmp 63), 0, "race.go:14", #[⟨39, .data⟩, ⟨40, .data⟩, ⟨38, .guard⟩], some (38, true)⟩) (v := ?ve41) rfl (by kernel_rfl) (by kernel_rfl) (by kernel_rfl) (fun _ _ _ h => h) (Or.inl ⟨by rfl, ?ye41⟩) (by assumption) ?re41
                      case ye41 => (intro w hSw; (try dsimp only at hSw); go_simp; try with_reducible rfl)
                      refine wpAnyH_take (i := 42) (oi := ⟨some 65, .fieldAddr 41 (.tmp 64) 1, 0, "race.go:14", #[⟨41, .data⟩, ⟨38, .guard⟩], some (38, true)⟩) (v := ?ve42) rfl (by kernel_rfl) (by kernel_rfl) (by kernel_rfl) (fun _ _ _ h => h) (Or.inl ⟨by rfl, ?ye42⟩) (by assumption) ?re42
                      case ye42 => (intro w hSw; (try dsimp only at hSw); go_simp; try with_reducible rfl)
                      refine wpAnyH_take (i := 43) (oi := ⟨some 66, .load 3 (.tmp 65), 3, "race.go:14", #[⟨42, .data⟩, ⟨38, .guard⟩], some (38, true)⟩) (v := ?ve43) rfl (by kernel_rfl) (by kernel_rfl) (by kernel_rfl) (fun _ _ _ h => h) (Or.inl ⟨by rfl, ?ye43⟩) (by assumption) ?re43
                      case ye43 => (intro w hSw; (try dsimp only at hSw); go_simp; try with_reducible rfl)
                      try simp only [Act.put, List.setIfInBounds_toArray, List.set_cons_zero, List.set_cons_succ]
                      refine wpAnyH_take (i := 44) (oi := ⟨some 67, .binOp .eql 3 (.tmp 66) (.const (.int .i64 13)) 3, 4, "race.go:14", #[⟨43, .data⟩, ⟨38, .guard⟩], some (38, true)⟩) (v := ?ve44) rfl (by kernel_rfl) (by kernel_rfl) (by kernel_rfl) (fun _ _ _ h => h) (Or.inl ⟨by rfl, ?ye44⟩) (by assumption) ?re44
                      case ye44 => (intro w hSw; (try dsimp only at hSw); go_simp; try with_reducible rfl)
                      refine wpAnyH_take (i := 45) (oi := ⟨some 68, .move (.tmp 67), 4, "race.go:14", #[⟨44, .data⟩, ⟨38, .chain⟩, ⟨38, .guard⟩], some (38, true)⟩) (v := ?ve45) rfl (by kernel_rfl) (by kernel_rfl) (by kernel_rfl) (fun _ _ _ h => h) (Or.inl ⟨by rfl, ?ye45⟩) (by assumption) ?re45
                      case ye45 => (intro w hSw; (try dsimp only at hSw); go_simp; try with_reducible rfl)
                      refine wpAnyH_take (i := 46) (oi := ⟨some 69, .move (.tmp 0), 22, "race.go:14", #[⟨45, .guard⟩], some (45, false)⟩) (v := undef) rfl (by kernel_rfl) (by kernel_rfl) (by kernel_rfl) (fun _ _ _ h => h) (Or.inr ⟨by rfl, rfl⟩) (by assumption) ?_
                      try simp only [Act.put, List.setIfInBounds_toArray, List.set_cons_zero, List.set_cons_succ]
                      refine wpAnyH_take (i := 47) (oi := ⟨some 70, .move (.tmp 7), 3, "race.go:14", #[⟨45, .guard⟩], some (45, false)⟩) (v := undef) rfl (by kernel_rfl) (by kernel_rfl) (by kernel_rfl) (fun _ _ _ h => h) (Or.inr ⟨by rfl, rfl⟩) (by assumption) ?_
                      refine wpAnyH_take (i := 48) (oi := ⟨some 71, .indexAddr 22 (.tmp 69) (.tmp 70), 0, "race.go:14", #[⟨46, .data⟩, ⟨47, .data⟩, ⟨45, .guard⟩], some (45, false)⟩) (v := undef) rfl (by kernel_rfl) (by kernel_rfl) (by kernel_rfl) (fun _ _ _ h => h) (Or.inr ⟨by rfl, rfl⟩) (by assumption) ?_
                      refine wpAnyH_take (i := 49) (oi := ⟨some 72, .fieldAddr 41 (.tmp 71) 1, 0, "race.go:14", #[⟨48, .data⟩, ⟨45, .guard⟩], some (45, false)⟩) (v := undef) rfl (by kernel_rfl) (by kernel_rfl) (by kernel_rfl) (fun _ _ _ h => h) (Or.inr ⟨by rfl, rfl⟩) (by assumption) ?_
                      try simp only [Act.put, List.setIfInBounds_toArray, List.set_cons_zero, List.set_cons_succ]
                      refine wpAnyH_take (i := 50) (oi := ⟨some 73, .load 3 (.tmp 72), 3, "race.go:14", #[⟨49, .data⟩, ⟨45, .guard⟩], some (45, false)⟩) (v := undef) rfl (by kernel_rfl) (by kernel_rfl) (by kernel_rfl) (fun _ _ _ h => h) (Or.inr ⟨by rfl, rfl⟩) (by assumption) ?_
                      refine wpAnyH_take (i := 51) (oi := ⟨some 74, .binOp .eql 3 (.tmp 73) (.const (.int .i64 13)) 3, 4, "race.go:14", #[⟨50, .data⟩, ⟨45, .guard⟩], some (45, false)⟩) (v := undef) rfl (by kernel_rfl) (by kernel_rfl) (by kernel_rfl) (fun _ _ _ h => h) (Or.inr ⟨by rfl, rfl⟩) (by assumption) ?_
                      refine wpAnyH_take (i := 52) (oi := ⟨some 75, .pick (.tmp 68) (.const (.bool true)) (.tmp 74), 4, "race.go:14", #[⟨45, .data⟩, ⟨51, .data⟩, ⟨38, .guard⟩], some (38, true)⟩) (v := ?ve52) rfl (by kernel_rfl) (by kernel_rfl) (by kernel_rfl) (fun _ _ _ h => h) (Or.inl ⟨by rfl, ?ye52⟩) (by assumption) ?re52
                      case ye52 => (intro w hSw; (try dsimp only at hSw); go_simp; try with_reducible rfl)
                      try simp only [Act.put, List.setIfInBounds_toArray, List.set_cons_zero, List.set_cons_succ]
                      refine wpAnyH_take (i := 53) (oi := ⟨some 76, .pick (.tmp 61) (.tmp 75) (.const (.bool false)), 4, "race.go:14", #[⟨38, .data⟩, ⟨52, .data⟩], none⟩) (v := ?ve53) rfl (by kernel_rfl) (by kernel_rfl) (by kernel_rfl) (fun _ _ _ h => h) (Or.inl ⟨by rfl, ?ye53⟩) (by assumption) ?re53
                      case ye53 => (intro w hSw; (try dsimp only at hSw); go_simp; try with_reducible rfl)
                      refine wpAnyH_take (i := 54) (oi := ⟨some 77, .move (.tmp 76), 4, "race.go:14", #[⟨53, .data⟩, ⟨45, .chain⟩], none⟩) (v := ?ve54) rfl (by kernel_rfl) (by kernel_rfl) (by kernel_rfl) (fun _ _ _ h => h) (Or.inl ⟨by rfl, ?ye54⟩) (by assumption) ?re54
                      case ye54 => (intro w hSw; (try dsimp only at hSw); go_simp; try with_reducible rfl)
                      refine wpAnyH_take (i := 55) (oi := ⟨some 78, .move (.tmp 5), 38, "race.go:14", #[⟨54, .guard⟩], some (54, true)⟩) (v := ?ve55) rfl (by kernel_rfl) (by kernel_rfl) (by kernel_rfl) (fun _ _ _ h => h) (Or.inl ⟨by rfl, ?ye55⟩) (by assumption) ?re55
                      case ye55 => (intro w hSw; (try dsimp only at hSw); go_simp; try with_reducible rfl)
                      try simp only [Act.put, List.setIfInBounds_toArray, List.set_cons_zero, List.set_cons_succ]
                      refine wpAnyH_take (i := 56) (oi := ⟨some 79, .move (.tmp 7), 3, "race.go:14", #[⟨54, .guard⟩], some (54, true)⟩) (v := ?ve56) rfl (by kernel_rfl) (by kernel_rfl) (by kernel_rfl) (fun _ _ _ h => h) (Or.inl ⟨by rfl, ?ye56⟩) (by assumption) ?re56
                      case ye56 => (intro w hSw; (try dsimp only at hSw); go_simp; try with_reducible rfl)
                      refine wpAnyH_take (i := 57) (oi := ⟨some 80, .indexAddr 38 (.tmp 78) (.tmp 79), 0, "race.go:14", #[⟨55, .data⟩, ⟨56, .data⟩, ⟨54, .guard⟩], some (54, true)⟩) (v := ?ve57) rfl (by kernel_rfl) (by kernel_rfl) (by kernel_rfl) (fun _ _ _ h => h) (Or.inl ⟨by rfl, ?ye57⟩) (by assumption) ?re57
                      case ye57 => (intro w hSw; (try dsimp only at hSw); go_simp; try with_reducible rfl)
                      refine wpAnyH_take (i := 58) (oi := ⟨some 81, .load 42 (.tmp 80), 42, "race.go:14", #[⟨57, .data⟩, ⟨54, .guard⟩], some (54, true)⟩) (v := ?ve58) rfl (by kernel_rfl) (by kernel_rfl) (by kernel_rfl) (fun _ _ _ h => h) (Or.inl ⟨by rfl, ?ye58⟩) (by assumption) ?re58
                      case ye58 => (intro w hSw; (try dsimp only at hSw); go_simp; try with_reducible rfl)
                      try simp only [Act.put, List.setIfInBounds_toArray, List.set_cons_zero, List.set_cons_succ]
                      refine wpAnyH_take (i := 59) (oi := ⟨some 82, .move (.tmp 8), 3, "race.go:14", #[⟨54, .guard⟩], some (54, true)⟩) (v := ?ve59) rfl (by kernel_rfl) (by kernel_rfl) (by kernel_rfl) (fun _ _ _ h => h) (Or.inl ⟨by rfl, ?ye59⟩) (by assumption) ?re59
                      case ye59 => (intro w hSw; (try dsimp only at hSw); go_simp; try with_reducible rfl)
                      refine wpAnyH_take (i := 60) (oi := ⟨some 83, .indexAddr 42 (.tmp 81) (.tmp 82), 0, "race.go:14", #[⟨58, .data⟩, ⟨59, .data⟩, ⟨54, .guard⟩], some (54, true)⟩) (v := ?ve60) rfl (by kernel_rfl) (by kernel_rfl) (by kernel_rfl) (fun _ _ _ h => h) (Or.inl ⟨by rfl, ?ye60⟩) (by assumption) ?re60
                      case ye60 => (intro w hSw; (try dsimp only at hSw); go_simp; try with_reducible rfl)
                      refine wpAnyH_take (i := 61) (oi := ⟨some 84, .load 4 (.tmp 83), 4, "race.go:14", #[⟨60, .data⟩, ⟨54, .guard⟩], some (54, true)⟩) (v := ?ve61) rfl (by kernel_rfl) (by kernel_rfl) (by kernel_rfl) (fun _ _ _ h => h) (Or.inl ⟨by rfl, ?ye61⟩) (by assumption) ?re61
                      case ye61 => (intro w hSw; (try dsimp only at hSw); go_simp; try with_reducible rfl)
                      try simp only [Act.put, List.setIfInBounds_toArray, List.set_cons_zero, List.set_cons_succ]
                      refine wpAnyH_take (i := 62) (oi := ⟨some 85, .unOp .not 4 (.tmp 84), 4, "race.go:14", #[⟨61, .data⟩, ⟨54, .guard⟩], some (54, true)⟩) (v := ?ve62) rfl (by kernel_rfl) (by kernel_rfl) (by kernel_rfl) (fun _ _ _ h => h) (Or.inl ⟨by rfl, ?ye62⟩) (by assumption) ?re62
                      case ye62 => (intro w hSw; (try dsimp only at hSw); go_simp; try with_reducible rfl)
                      refine wpAnyH_take (i := 63) (oi := ⟨some 86, .pick (.tmp 77) (.tmp 85) (.const (.bool false)), 4, "race.go:14", #[⟨54, .data⟩, ⟨62, .data⟩], none⟩) (v := ?ve63) rfl (by kernel_rfl) (by kernel_rfl) (by kernel_rfl) (fun _ _ _ h => h) (Or.inl ⟨by rfl, ?ye63⟩) (by assumption) ?re63
                      case ye63 => (intro w hSw; (try dsimp only at hSw); go_simp; try with_reducible rfl)
                      try simp only [Act.put, List.setIfInBounds_toArray, List.set_cons_zero, List.set_cons_succ]
                      refine wpAnyH_done (by kernel_rfl) ?_ _
                      refine NoPanic.normal ?_
                      go_wp2_with fail
                      go_roundw
                      case rel => exact ⟨i + 1, a, r, c, by omega, by go_num, rfl, by omega, hide (by rw [unhide HO2]; exact unhide HRL), hide (by rw [unhide HO2]; exact (unhide HOi).below (unhide HX2)), hide (Below.next (unhide HBi) (unhide HX2) (Nat.le_of_eq (unhide HZ).symm))⟩
                      case measure => simp [intOf]; omega
                  · have xi : (oi == 13) = false := by simpa using hoi
                    have HXI := hide xi
                    clear hoi
                    by_cases hok : ok = 13
                    · have xk : (ok == 13) = true := by simpa using hok
                      have HXK := hide xk
                      clear hok
                      cases rM
                      · skip
                        have HYES : Hid (rcB hs l k i = true) := by show _ = _; rw [unhide HRC]; rw [unhide HEAI, unhide HEAK, unhide HTT, unhide HXI, unhide HXK]; simp [unhide HBE]
                        have HO2 : Hid (outI hs l k (i + 1) = outI hs l k i ++ [((i : Int), (k : Int))]) := outI_yes (unhide HYES)
                        go_upto_region 9 with fail
                        refine wp_region_noPanic ?_
                        refine wp_region_held_drew (S := (fun W' => W'.cell? ⟨tb, tof + i * 4, none⟩ = some (.int .i64 ti) ∧ W'.cell? ⟨tb, tof + i * 4 + 1, none⟩ = some (.int .i64 oi) ∧ W'.cell? ⟨tb, tof + i * 4 + 2, none⟩ = some (.int .i64 bi) ∧ W'.cell? ⟨tb, tof + i * 4 + 3, none⟩ = some (.int .i64 vi) ∧ W'.cell? ⟨tb, tof + k * 4, none⟩ = some (.int .i64 tk) ∧ W'.cell? ⟨tb, tof + k * 4 + 1, none⟩ = some (.int .i64 ok) ∧ W'.cell? ⟨tb, tof + k * 4 + 2, none⟩ = some (.int .i64 bi) ∧ W'.cell? ⟨tb, tof + k * 4 + 3, none⟩ = some (.int .i64 vk) ∧ W'.cell? ⟨R, k, none⟩ = some (.slice (some ⟨bf k, 0, none⟩) n0 n0) ∧ W'.cell? ⟨bf k, i, none⟩ = some (.bool false))) (by kernel_rfl) (unhide HS0) (fun hHeld => ?_)
                        refine wpAnyH_take (i := 0) (oi := ⟨some 23, .move (.tmp 0), 22, "race.go:14", #[], none⟩) (v := ?vf0) rfl (by kernel_rfl) (by kernel_rfl) (by kernel_rfl) (fun _ _ _ h => h) (Or.inl ⟨by rfl, ?yf0⟩) (by assumption) ?rf0
                        case yf0 => (intro w hSw; (try dsimp only at hSw); go_simp; try with_reducible rfl)
                        refine wpAnyH_take (i := 1) (oi := ⟨some 24, .move (.tmp 8), 3, "race.go:14", #[], none⟩) (v := ?vf1) rfl (by kernel_rfl) (by kernel_rfl) (by kernel_rfl) (fun _ _ _ h => h) (Or.inl ⟨by rfl, ?yf1⟩) (by assumption) ?rf1
                        case yf1 => (intro w hSw; (try dsimp only at hSw); go_simp; try with_reducible rfl)
                        refine wpAnyH_take (i := 2) (oi := ⟨some 25, .indexAddr 22 (.tmp 23) (.tmp 24), 0, "race.go:14", #[⟨0, .data⟩, ⟨1, .data⟩], none⟩) (v := ?vf2) rfl (by kernel_rfl) (by kernel_rfl) (by kernel_rfl) (fun _ _ _ h => h) (Or.inl ⟨by rfl, ?yf2⟩) (by assumption) ?rf2
                        case yf2 => (intro w hSw; (try dsimp only at hSw); go_simp; try with_reducible rfl)
                        try simp only [Act.put, List.setIfInBounds_toArray, List.set_cons_zero, List.set_cons_succ]
                        refine wpAnyH_take (i := 3) (oi := ⟨some 26, .load 41 (.tmp 25), 41, "race.go:14", #[⟨2, .data⟩], none⟩) (v := ?vf3) rfl (by kernel_rfl) (by kernel_rfl) (by kernel_rfl) (fun _ _ _ h => h) (Or.inl ⟨by rfl, ?yf3⟩) (by assumption) ?rf3
                        case yf3 => (intro w hSw; (try dsimp only at hSw); go_simp; try with_reducible rfl)
                        try simp only [Act.put, List.setIfInBounds_toArray, List.set_cons_zero, List.set_cons_succ]
                        refine wpAnyH_ready (rs := [4]) (by kernel_rfl) (by simp) ?_
                        refine AllReadyH.cons (o := ⟨some 27, .call { callee := .value (.func 28), args := #[.tmp 26], argTypes := #[41] }, 4, "race.go:14", #[⟨3, .data⟩], none⟩) rfl (fun K hK => ?_) AllReadyH.nil
                        go_simp
                        (go_at_call 28; (with_reducible refine Calls.mono (unhide HAI _) ?_); rintro e w1 ⟨rfl, hb1⟩; have HX1 := hide (Below.next (Below.refl wr.heap.size wr).drew hb1 (Nat.le_refl _)); have HS1 := hide (unhide HSS _ (unhide HX1)); clear hb1)
                        refine hK.out _ _ (unhide HS1) (fun hHeld => ?_)
                        clear hK K
                        try simp only [Act.put, List.setIfInBounds_toArray, List.set_cons_zero, List.set_cons_succ]
                        refine wpAnyH_take (i := 5) (oi := ⟨some 28, .move (.tmp 27), 4, "race.go:14", #[⟨4, .data⟩, ⟨4, .chain⟩], none⟩) (v := ?vf5) rfl (by kernel_rfl) (by kernel_rfl) (by kernel_rfl) (fun _ _ _ h => h) (Or.inl ⟨by rfl, ?yf5⟩) (by assumption) ?rf5
                        case yf5 => (intro w hSw; (try dsimp only at hSw); go_simp; try with_reducible rfl)
                        refine wpAnyH_take (i := 6) (oi := ⟨some 29, .move (.tmp 0), 22, "race.go:14", #[⟨5, .guard⟩], some (5, true)⟩) (v := ?vf6) rfl (by kernel_rfl) (by kernel_rfl) (by kernel_rfl) (fun _ _ _ h => h) (Or.inl ⟨by rfl, ?yf6⟩) (by assumption) ?rf6
                        case yf6 => (intro w hSw; (try dsimp only at hSw); go_simp; try with_reducible rfl)
                        try simp only [Act.put, List.setIfInBounds_toArray, List.set_cons_zero, List.set_cons_succ]
                        refine wpAnyH_take (i := 7) (oi := ⟨some 30, .move (.tmp 7), 3, "race.go:14", #[⟨5, .guard⟩], some (5, true)⟩) (v := ?vf7) rfl (by kernel_rfl) (by kernel_rfl) (by kernel_rfl) (fun _ _ _ h => h) (Or.inl ⟨by rfl, ?yf7⟩) (by assumption) ?rf7
                        case yf7 => (intro w hSw; (try dsimp only at hSw); go_simp; try with_reducible rfl)
                        refine wpAnyH_take (i := 8) (oi := ⟨some 31, .indexAddr 22 (.tmp 29) (.tmp 30), 0, "race.go:14", #[⟨6, .data⟩, ⟨7, .data⟩, ⟨5, .guard⟩], some (5, true)⟩) (v := ?vf8) rfl (by kernel_rfl) (by kernel_rfl) (by kernel_rfl) (fun _ _ _ h => h) (Or.inl ⟨by rfl, ?yf8⟩) (by assumption) ?rf8
                        case yf8 => (intro w hSw; (try dsimp only at hSw); go_simp; try with_reducible rfl)
                        refine wpAnyH_take (i := 9) (oi := ⟨some 32, .load 41 (.tmp 31), 41, "race.go:14", #[⟨8, .data⟩, ⟨5, .guard⟩], some (5, true)⟩) (v := ?vf9) rfl (by kernel_rfl) (by kernel_rfl) (by kernel_rfl) (fun _ _ _ h => h) (Or.inl ⟨by rfl, ?yf9⟩) (by assumption) ?rf9
                        case yf9 => (intro w hSw; (try dsimp only at hSw); go_simp; try with_reducible rfl)
                        try simp only [Act.put, List.setIfInBounds_toArray, List.set_cons_zero, List.set_cons_succ]
                        refine wpAnyH_ready (rs := [10]) (by kernel_rfl) (by simp) ?_
                        refine AllReadyH.cons (o := ⟨some 33, .call { callee := .value (.func 28), args := #[.tmp 32], argTypes := #[41] }, 4, "race.go:14", #[⟨9, .data⟩, ⟨5, .chain⟩, ⟨5, .guard⟩], some (5, true)⟩) rfl (fun K hK => ?_) AllReadyH.nil
                        go_simp
                        (go_at_call 28; (with_reducible refine Calls.mono (unhide HAK _) ?_); rintro e w2 ⟨rfl, hb2⟩; have HX2 := hide (Below.next (unhide HX1) hb2 (Nat.le_refl _)); have HS2 := hide (unhide HSS _ (unhide HX2)); clear hb2)
                        refine hK.out _ _ (unhide HS2) (fun hHeld => ?_)
                        clear hK K
                        try simp only [Act.put, List.setIfInBounds_toArray, List.set_cons_zero, List.set_cons_succ]
                        refine wpAnyH_take (i := 11) (oi := ⟨some 34, .pick (.tmp 28) (.tmp 33) (.const (.bool false)), 4, "race.go:14", #[⟨5, .data⟩, ⟨10, .data⟩], none⟩) (v := ?vf11) rfl (by kernel_rfl) (by kernel_rfl) (by kernel_rfl) (fun _ _ _ h => h) (Or.inl ⟨by rfl, ?yf11⟩) (by assumption) ?rf11
                        case yf11 => (intro w hSw; (try dsimp only at hSw); go_simp; try with_reducible rfl)
                        refine wpAnyH_take (i := 12) (oi := ⟨some 35, .move (.tmp 34), 4, "race.go:14", #[⟨11, .data⟩, ⟨10, .chain⟩], none⟩) (v := ?vf12) rfl (by kernel_rfl) (by kernel_rfl) (by kernel_rfl) (fun _ _ _ h => h) (Or.inl ⟨by rfl, ?yf12⟩) (by assumption) ?rf12
                        case yf12 => (intro w hSw; (try dsimp only at hSw); go_simp; try with_reducible rfl)
                        refine wpAnyH_take (i := 13) (oi := ⟨some 36, .move (.tmp 0), 22, "race.go:14", #[⟨12, .guard⟩], some (12, true)⟩) (v := ?vf13) rfl (by kernel_rfl) (by kernel_rfl) (by kernel_rfl) (fun _ _ _ h => h) (Or.inl ⟨by rfl, ?yf13⟩) (by assumption) ?rf13
                        case yf13 => (intro w hSw; (try dsimp only at hSw); go_simp; try with_reducible rfl)
                        try simp only [Act.put, List.setIfInBounds_toArray, List.set_cons_zero, List.set_cons_succ]
                        refine wpAnyH_take (i := 14) (oi := ⟨some 37, .move (.tmp 8), 3, "race.go:14", #[⟨12, .guard⟩], some (12, true)⟩) (v := ?vf14) rfl (by kernel_rfl) (by kernel_rfl) (by kernel_rfl) (fun _ _ _ h => h) (Or.inl ⟨by rfl, ?yf14⟩) (by assumption) ?rf14
                        case yf14 => (intro w hSw; (try dsimp only at hSw); go_simp; try with_reducible rfl)
                        refine wpAnyH_take (i := 15) (oi := ⟨some 38, .indexAddr 22 (.tmp 36) (.tmp 37), 0, "race.go:14", #[⟨13, .data⟩, ⟨14, .data⟩, ⟨12, .guard⟩], some (12, true)⟩) (v := ?vf15) rfl (by kernel_rfl) (by kernel_rfl) (by kernel_rfl) (fun _ _ _ h => h) (Or.inl ⟨by rfl, ?yf15⟩) (by assumption) ?rf15
                        case yf15 => (intro w hSw; (try dsimp only at hSw); go_simp; try with_reducible rfl)
                        refine wpAnyH_take (i := 16) (oi := ⟨some 39, .fieldAddr 41 (.tmp 38) 2, 0, "race.go:14", #[⟨15, .data⟩, ⟨12, .guard⟩], some (12, true)⟩) (v := ?vf16) rfl (by kernel_rfl) (by kernel_rfl) (by kernel_rfl) (fun _ _ _ h => h) (Or.inl ⟨by rfl, ?yf16⟩) (by assumption) ?rf16
                        case yf16 => (intro w hSw; (try dsimp only at hSw); go_simp; try with_reducible rfl)
                        try simp only [Act.put, List.setIfInBounds_toArray, List.set_cons_zero, List.set_cons_succ]
                        refine wpAnyH_take (i := 17) (oi := ⟨some 40, .load 3 (.tmp 39), 3, "race.go:14", #[⟨16, .data⟩, ⟨12, .guard⟩], some (12, true)⟩) (v := ?vf17) rfl (by kernel_rfl) (by kernel_rfl) (by kernel_rfl) (fun _ _ _ h => h) (Or.inl ⟨by rfl, ?yf17⟩) (by assumption) ?rf17
                        case yf17 => (intro w hSw; (try dsimp only at hSw); go_simp; try with_reducible rfl)
                        refine wpAnyH_take (i := 18) (oi := ⟨some 41, .move (.tmp 0), 22, "race.go:14", #[⟨12, .guard⟩], some (12, true)⟩) (v := ?vf18) rfl (by kernel_rfl) (by kernel_rfl) (by kernel_rfl) (fun _ _ _ h => h) (Or.inl ⟨by rfl, ?yf18⟩) (by assumption) ?rf18
                        case yf18 => (intro w hSw; (try dsimp only at hSw); go_simp; try with_reducible rfl)
                        refine wpAnyH_take (i := 19) (oi := ⟨some 42, .move (.tmp 7), 3, "race.go:14", #[⟨12, .guard⟩], some (12, true)⟩) (v := ?vf19) rfl (by kernel_rfl) (by kernel_rfl) (by kernel_rfl) (fun _ _ _ h => h) (Or.inl ⟨by rfl, ?yf19⟩) (by assumption) ?rf19
                        case yf19 => (intro w hSw; (try dsimp only at hSw); go_simp; try with_reducible rfl)
                        try simp only [Act.put, List.setIfInBounds_toArray, List.set_cons_zero, List.set_cons_succ]
                        refine wpAnyH_take (i := 20) (oi := ⟨some 43, .indexAddr 22 (.tmp 41) (.tmp 42), 0, "race.go:14", #[⟨18, .data⟩, ⟨19, .data⟩, ⟨12, .guard⟩], some (12, true)⟩) (v := ?vf20) rfl (by kernel_rfl) (by kernel_rfl) (by kernel_rfl) (fun _ _ _ h => h) (Or.inl ⟨by rfl, ?yf20⟩) (by assumption) ?rf20
                        case yf20 => (intro w hSw; (try dsimp only at hSw); go_simp; try with_reducible rfl)
                        refine wpAnyH_take (i := 21) (oi := ⟨some 44, .fieldAddr 41 (.tmp 43) 2, 0, "race.go:14", #[⟨20, .data⟩, ⟨12, .guard⟩], some (12, true)⟩) (v := ?vf21) rfl (by kernel_rfl) (by kernel_rfl) (by kernel_rfl) (fun _ _ _ h => h) (Or.inl ⟨by rfl, ?yf21⟩) (by assumption) ?rf21
                        case yf21 => (intro w hSw; (try dsimp only at hSw); go_simp; try with_reducible rfl)
                        refine wpAnyH_take (i := 22) (oi := ⟨some 45, .load 3 (.tmp 44), 3, "race.go:14", #[⟨21, .data⟩, ⟨12, .guard⟩], some (12, true)⟩) (v := ?vf22) rfl (by kernel_rfl) (by kernel_rfl) (by kernel_rfl) (fun _ _ _ h => h) (Or.inl ⟨by rfl, ?yf22⟩) (by assumption) ?rf22
                        case yf22 => (intro w hSw; (try dsimp only at hSw); go_simp; try with_reducible rfl)
                        try simp only [Act.put, List.setIfInBounds_toArray, List.set_cons_zero, List.set_cons_succ]
                        refine wpAnyH_take (i := 23) (oi := ⟨some 46, .binOp .eql 3 (.tmp 40) (.tmp 45) 3, 4, "race.go:14", #[⟨17, .data⟩, ⟨22, .data⟩, ⟨12, .guard⟩], some (12, true)⟩) (v := ?vf23) rfl (by kernel_rfl) (by kernel_rfl) (by kernel_rfl) (fun _ _ _ h => h) (Or.inl ⟨by rfl, ?yf23⟩) (by assumption) ?rf23
                        case yf23 => (intro w hSw; (try dsimp only at hSw); go_simp; try with_reducible rfl)
                        refine wpAnyH_take (i := 24) (oi := ⟨some 47, .pick (.tmp 35) (.tmp 46) (.const (.bool false)), 4, "race.go:14", #[⟨12, .data⟩, ⟨23, .data⟩], none⟩) (v := ?vf24) rfl (by kernel_rfl) (by kernel_rfl) (by kernel_rfl) (fun _ _ _ h => h) (Or.inl ⟨by rfl, ?yf24⟩) (by assumption) ?rf24
                        case yf24 => (intro w hSw; (try dsimp only at hSw); go_simp; try with_reducible rfl)
                        refine wpAnyH_take (i := 25) (oi := ⟨some 48, .move (.tmp 47), 4, "race.go:14", #[⟨24, .data⟩, ⟨12, .chain⟩], none⟩) (v := ?vf25) rfl (by kernel_rfl) (by kernel_rfl) (by kernel_rfl) (fun _ _ _ h => h) (Or.inl ⟨by rfl, ?yf25⟩) (by assumption) ?rf25
                        case yf25 => (intro w hSw; (try dsimp only at hSw); go_simp; try with_reducible rfl)
                        try simp only [Act.put, List.setIfInBounds_toArray, List.set_cons_zero, List.set_cons_succ]
                        refine wpAnyH_take (i := 26) (oi := ⟨some 49, .move (.tmp 0), 22, "race.go:14", #[⟨25, .guard⟩], some (25, true)⟩) (v := ?vf26) rfl (by kernel_rfl) (by kernel_rfl) (by kernel_rfl) (fun _ _ _ h => h) (Or.inl ⟨by rfl, ?yf26⟩) (by assumption) ?rf26
                        case yf26 => (intro w hSw; (try dsimp only at hSw); go_simp; try with_reducible rfl)
                        refine wpAnyH_take (i := 27) (oi := ⟨some 50, .move (.tmp 8), 3, "race.go:14", #[⟨25, .guard⟩], some (25, true)⟩) (v := ?vf27) rfl (by kernel_rfl) (by kernel_rfl) (by kernel_rfl) (fun _ _ _ h => h) (Or.inl ⟨by rfl, ?yf27⟩) (by assumption) ?rf27
                        case yf27 => (intro w hSw; (try dsimp only at hSw); go_simp; try with_reducible rfl)
                        refine wpAnyH_take (i := 28) (oi := ⟨some 51, .indexAddr 22 (.tmp 49) (.tmp 50), 0, "race.go:14", #[⟨26, .data⟩, ⟨27, .data⟩, ⟨25, .guard⟩], some (25, true)⟩) (v := ?vf28) rfl (by kernel_rfl) (by kernel_rfl) (by kernel_rfl) (fun _ _ _ h => h) (Or.inl ⟨by rfl, ?yf28⟩) (by assumption) ?rf28
                        case yf28 => (intro w hSw; (try dsimp only at hSw); go_simp; try with_reducible rfl)
                        try simp only [Act.put, List.setIfInBounds_toArray, List.set_cons_zero, List.set_cons_succ]
                        refine wpAnyH_take (i := 29) (oi := ⟨some 52, .fieldAddr 41 (.tmp 51) 0, 0, "race.go:14", #[⟨28, .data⟩, ⟨25, .guard⟩], some (25, true)⟩) (v := ?vf29) rfl (by kernel_rfl) (by kernel_rfl) (by kernel_rfl) (fun _ _ _ h => h) (Or.inl ⟨by rfl, ?yf29⟩) (by assumption) ?rf29
                        case yf29 => (intro w hSw; (try dsimp only at hSw); go_simp; try with_reducible rfl)
                        refine wpAnyH_take (i := 30) (oi := ⟨some 53, .load 3 (.tmp 52), 3, "race.go:14", #[⟨29, .data⟩, ⟨25, .guard⟩], some (25, true)⟩) (v := ?vf30) rfl (by kernel_rfl) (by kernel_rfl) (by kernel_rfl) (fun _ _ _ h => h) (Or.inl ⟨by rfl, ?yf30⟩) (by assumption) ?rf30
                        case yf30 => (intro w hSw; (try dsimp only at hSw); go_simp; try with_reducible rfl)
                        refine wpAnyH_take (i := 31) (oi := ⟨some 54, .move (.tmp 0), 22, "race.go:14", #[⟨25, .guard⟩], some (25, true)⟩) (v := ?vf31) rfl (by kernel_rfl) (by kernel_rfl) (by kernel_rfl) (fun _ _ _ h => h) (Or.inl ⟨by rfl, ?yf31⟩) (by assumption) ?rf31
                        case yf31 => (intro w hSw; (try dsimp only at hSw); go_simp; try with_reducible rfl)
                        try simp only [Act.put, List.setIfInBounds_toArray, List.set_cons_zero, List.set_cons_succ]
                        refine wpAnyH_take (i := 32) (oi := ⟨some 55, .move (.tmp 7), 3, "race.go:14", #[⟨25, .guard⟩], some (25, true)⟩) (v := ?vf32) rfl (by kernel_rfl) (by kernel_rfl) (by kernel_rfl) (fun _ _ _ h => h) (Or.inl ⟨by rfl, ?yf32⟩) (by assumption) ?rf32
                        case yf32 => (intro w hSw; (try dsimp only at hSw); go_simp; try with_reducible rfl)
                        refine wpAnyH_take (i := 33) (oi := ⟨some 56, .indexAddr 22 (.tmp 54) (.tmp 55), 0, "race.go:14", #[⟨31, .data⟩, ⟨32, .data⟩, ⟨25, .guard⟩], some (25, true)⟩) (v := ?vf33) rfl (by kernel_rfl) (by kernel_rfl) (by kernel_rfl) (fun _ _ _ h => h) (Or.inl ⟨by rfl, ?yf33⟩) (by assumption) ?rf33
                        case yf33 => (intro w hSw; (try dsimp only at hSw); go_simp; try with_reducible rfl)
                        refine wpAnyH_take (i := 34) (oi := ⟨some 57, .fieldAddr 41 (.tmp 56) 0, 0, "race.go:14", #[⟨33, .data⟩, ⟨25, .guard⟩], some (25, true)⟩) (v := ?vf34) rfl (by kernel_rfl) (by kernel_rfl) (by kernel_rfl) (fun _ _ _ h => h) (Or.inl ⟨by rfl, ?yf34⟩) (by assumption) ?rf34
                        case yf34 => (intro w hSw; (try dsimp only at hSw); go_simp; try with_reducible rfl)
                        try simp only [Act.put, List.setIfInBounds_toArray, List.set_cons_zero, List.set_cons_succ]
                        refine wpAnyH_take (i := 35) (oi := ⟨some 58, .load 3 (.tmp 57), 3, "race.go:14", #[⟨34, .data⟩, ⟨25, .guard⟩], some (25, true)⟩) (v := ?vf35) rfl (by kernel_rfl) (by kernel_rfl) (by kernel_rfl) (fun _ _ _ h => h) (Or.inl ⟨by rfl, ?yf35⟩) (by assumption) ?rf35
                        case yf35 => (intro w hSw; (try dsimp only at hSw); go_simp; try with_reducible rfl)
                        refine wpAnyH_take (i := 36) (oi := ⟨some 59, .binOp .neq 3 (.tmp 53) (.tmp 58) 3, 4, "race.go:14", #[⟨30, .data⟩, ⟨35, .data⟩, ⟨25, .guard⟩], some (25, true)⟩) (v := ?vf36) rfl (by kernel_rfl) (by kernel_rfl) (by kernel_rfl) (fun _ _ _ h => h) (Or.inl ⟨by rfl, ?yf36⟩) (by assumption) ?rf36
                        case yf36 => (intro w hSw; (try dsimp only at hSw); go_simp; try with_reducible rfl)
                        refine wpAnyH_take (i := 37) (oi := ⟨some 60, .pick (.tmp 48) (.tmp 59) (.const (.bool false)), 4, "race.go:14", #[⟨25, .data⟩, ⟨36, .data⟩], none⟩) (v := ?vf37) rfl (by kernel_rfl) (by kernel_rfl) (by kernel_rfl) (fun _ _ _ h => h) (Or.inl ⟨by rfl, ?yf37⟩) (by assumption) ?rf37
                        case yf37 => (intro w hSw; (try dsimp only at hSw); go_simp; try with_reducible rfl)
                        try simp only [Act.put, List.setIfInBounds_toArray, List.set_cons_zero, List.set_cons_succ]
                        refine wpAnyH_take (i := 38) (oi := ⟨some 61, .move (.tmp 60), 4, "race.go:14", #[⟨37, .data⟩, ⟨25, .chain⟩], none⟩) (v := ?vf38) rfl (by kernel_rfl) (by kernel_rfl) (by kernel_rfl) (fun _ _ _ h => h) (Or.inl ⟨by rfl, ?yf38⟩) (by assumption) ?rf38
                        case yf38 => (intro w hSw; (try dsimp only at hSw); go_simp; try with_reducible rfl)
                        refine wpAnyH_take (i := 39) (oi := ⟨some 62, .move (.tmp 0), 22, "race.go:14", #[⟨38, .guard⟩], some (38, true)⟩) (v := ?vf39) rfl (by kernel_rfl) (by kernel_rfl) (by kernel_rfl) (fun _ _ _ h => h) (Or.inl ⟨by rfl, ?yf39⟩) (by assumption) ?rf39
                        case yf39 => (intro w hSw; (try dsimp only at hSw); go_simp; try with_reducible rfl)
                        refine wpAnyH_take (i := 40) (oi := ⟨some 63, .move (.tmp 8), 3, "race.go:14", #[⟨38, .guard⟩], some (38, true)⟩) (v := ?vf40) rfl (by kernel_rfl) (by kernel_rfl) (by kernel_rfl) (fun _ _ _ h => h) (Or.inl ⟨by rfl, ?yf40⟩) (by assumption) ?rf40
                        case yf40 => (intro w hSw; (try dsimp only at hSw); go_simp; try with_reducible rfl)
                        try simp only [Act.put, List.setIfInBounds_toArray, List.set_cons_zero, List.set_cons_succ]
                        refine wpAnyH_take (i := 41) (oi := ⟨some 64, .indexAddr 22 (.tmp 62) (.tmp 63), 0, "race.go:14", #[⟨39, .data⟩, ⟨40, .data⟩, ⟨38, .guard⟩], some (38, true)⟩) (v := ?vf41) rfl (by kernel_rfl) (by kernel_rfl) (by kernel_rfl) (fun _ _ _ h => h) (Or.inl ⟨by rfl, ?yf41⟩) (by assumption) ?rf41
                        case yf41 => (intro w hSw; (try dsimp only at hSw); go_simp; try with_reducible rfl)
                        refine wpAnyH_take (i := 42) (oi := ⟨some 65, .fieldAddr 41 (.tmp 64) 1, 0, "race.go:14", #[⟨41, .data⟩, ⟨38, .guard⟩], some (38, true)⟩) (v := ?vf42) rfl (by kernel_rfl) (by kernel_rfl) (by kernel_rfl) (fun _ _ _ h => h) (Or.inl ⟨by rfl, ?yf42⟩) (by assumption) ?rf42
                        case yf42 => (intro w hSw; (try dsimp only at hSw); go_simp; try with_reducible rfl)
                        refine wpAnyH_take (i := 43) (oi := ⟨some 66, .load 3 (.tmp 65), 3, "race.go:14", #[⟨42, .data⟩, ⟨38, .guard⟩], some (38, true)⟩) (v := ?vf43) rfl (by kernel_rfl) (by kernel_rfl) (by kernel_rfl) (fun _ _ _ h => h) (Or.inl ⟨by rfl, ?yf43⟩) (by assumption) ?rf43
                        case yf43 => (intro w hSw; (try dsimp only at hSw); go_simp; try with_reducible rfl)
                        try simp only [Act.put, List.setIfInBounds_toArray, List.set_cons_zero, List.set_cons_succ]
                        refine wpAnyH_take (i := 44) (oi := ⟨some 67, .binOp .eql 3 (.tmp 66) (.const (.int .i64 13)) 3, 4, "race.go:14", #[⟨43, .data⟩, ⟨38, .guard⟩], some (38, true)⟩) (v := ?vf44) rfl (by kernel_rfl) (by kernel_rfl) (by kernel_rfl) (fun _ _ _ h => h) (Or.inl ⟨by rfl, ?yf44⟩) (by assumption) ?rf44
                        case yf44 => (intro w hSw; (try dsimp only at hSw); go_simp; try with_reducible rfl)
                        refine wpAnyH_take (i := 45) (oi := ⟨some 68, .move (.tmp 67), 4, "race.go:14", #[⟨44, .data⟩, ⟨38, .chain⟩, ⟨38, .guard⟩], some (38, true)⟩) (v := ?vf45) rfl (by kernel_rfl) (by kernel_rfl) (by kernel_rfl) (fun _ _ _ h => h) (Or.inl ⟨by rfl, ?yf45⟩) (by assumption) ?rf45
                        case yf45 => (intro w hSw; (try dsimp only at hSw); go_simp; try with_reducible rfl)
                        refine wpAnyH_take (i := 46) (oi := ⟨some 69, .move (.tmp 0), 22, "race.go:14", #[⟨45, .guard⟩], some (45, false)⟩) (v := ?vf46) rfl (by kernel_rfl) (by kernel_rfl) (by kernel_rfl) (fun _ _ _ h => h) (Or.inl ⟨by rfl, ?yf46⟩) (by assumption) ?rf46
                        case yf46 => (intro w hSw; (try dsimp only at hSw); go_simp; try with_reducible rfl)
                        try simp only [Act.put, List.setIfInBounds_toArray, List.set_cons_zero, List.set_cons_succ]
                        refine wpAnyH_take (i := 47) (oi := ⟨some 70, .move (.tmp 7), 3, "race.go:14", #[⟨45, .guard⟩], some (45, false)⟩) (v := ?vf47) rfl (by kernel_rfl) (by kernel_rfl) (by kernel_rfl) (fun _ _ _ h => h) (Or.inl ⟨by rfl, ?yf47⟩) (by assumption) ?rf47
                        case yf47 => (intro w hSw; (try dsimp only at hSw); go_simp; try with_reducible rfl)
                        refine wpAnyH_take (i := 48) (oi := ⟨some 71, .indexAddr 22 (.tmp 69) (.tmp 70), 0, "race.go:14", #[⟨46, .data⟩, ⟨47, .data⟩, ⟨45, .guard⟩], some (45, false)⟩) (v := ?vf48) rfl (by kernel_rfl) (by kernel_rfl) (by kernel_rfl) (fun _ _ _ h => h) (Or.inl ⟨by rfl, ?yf48⟩) (by assumption) ?rf48
                        case yf48 => (intro w hSw; (try dsimp only at hSw); go_simp; try with_reducible rfl)
                        refine wpAnyH_take (i := 49) (oi := ⟨some 72, .fieldAddr 41 (.tmp 71) 1, 0, "race.go:14", #[⟨48, .data⟩, ⟨45, .guard⟩], some (45, false)⟩) (v := ?vf49) rfl (by kernel_rfl) (by kernel_rfl) (by kernel_rfl) (fun _ _ _ h => h) (Or.inl ⟨by rfl, ?yf49⟩) (by assumption) ?rf49
                        case yf49 => (intro w hSw; (try dsimp only at hSw); go_simp; try with_reducible rfl)
                        try simp only [Act.put, List.setIfInBounds_toArray, List.set_cons_zero, List.set_cons_succ]
                        refine wpAnyH_take (i := 50) (oi := ⟨some 73, .load 3 (.tmp 72), 3, "race.go:14", #[⟨49, .data⟩, ⟨45, .guard⟩], some (45, false)⟩) (v := ?vf50) rfl (by kernel_rfl) (by kernel_rfl) (by kernel_rfl) (fun _ _ _ h => h) (Or.inl ⟨by rfl, ?yf50⟩) (by assumption) ?rf50
                        case yf50 => (intro w hSw; (try dsimp only at hSw); go_simp; try with_reducible rfl)
                        refine wpAnyH_take (i := 51) (oi := ⟨some 74, .binOp .eql 3 (.tmp 73) (.const (.int .i64 13)) 3, 4, "race.go:14", #[⟨50, .data⟩, ⟨45, .guard⟩], some (45, false)⟩) (v := ?vf51) rfl (by kernel_rfl) (by kernel_rfl) (by kernel_rfl) (fun _ _ _ h => h) (Or.inl ⟨by rfl, ?yf51⟩) (by assumption) ?rf51
                        case yf51 => (intro w hSw; (try dsimp only at hSw); go_simp; try with_reducible rfl)
                        refine wpAnyH_take (i := 52) (oi := ⟨some 75, .pick (.tmp 68) (.const (.bool true)) (.tmp 74), 4, "race.go:14", #[⟨45, .data⟩, ⟨51, .data⟩, ⟨38, .guard⟩], some (38, true)⟩) (v := ?vf52) rfl (by kernel_rfl) (by kernel_rfl) (by kernel_rfl) (fun _ _ _ h => h) (Or.inl ⟨by rfl, ?yf52⟩) (by assumption) ?rf52
                        case yf52 => (intro w hSw; (try dsimp only at hSw); go_simp; try with_reducible rfl)
                        try simp only [Act.put, List.setIfInBounds_toArray, List.set_cons_zero, List.set_cons_succ]
                        refine wpAnyH_take (i := 53) (oi := ⟨some 76, .pick (.tmp 61) (.tmp 75) (.const (.bool false)), 4, "race.go:14", #[⟨38, .data⟩, ⟨52, .data⟩], none⟩) (v := ?vf53) rfl (by kernel_rfl) (by kernel_rfl) (by kernel_rfl) (fun _ _ _ h => h) (Or.inl ⟨by rfl, ?yf53⟩) (by assumption) ?rf53
                        case yf53 => (intro w hSw; (try dsimp only at hSw); go_simp; try with_reducible rfl)
                        refine wpAnyH_take (i := 54) (oi := ⟨some 77, .move (.tmp 76), 4, "race.go:14", #[⟨53, .data⟩, ⟨45, .chain⟩], none⟩) (v := ?vf54) rfl (by kernel_rfl) (by kernel_rfl) (by kernel_rfl) (fun _ _ _ h => h) (Or.inl ⟨by rfl, ?yf54⟩) (by assumption) ?rf54
                        case yf54 => (intro w hSw; (try dsimp only at hSw); go_simp; try with_reducible rfl)
                        refine wpAnyH_take (i := 55) (oi := ⟨some 78, .move (.tmp 5), 38, "race.go:14", #[⟨54, .guard⟩], some (54, true)⟩) (v := ?vf55) rfl (by kernel_rfl) (by kernel_rfl) (by kernel_rfl) (fun _ _ _ h => h) (Or.inl ⟨by rfl, ?yf55⟩) (by assumption) ?rf55
                        case yf55 => (intro w hSw; (try dsimp only at hSw); go_simp; try with_reducible rfl)
                        try simp only [Act.put, List.setIfInBounds_toArray, List.set_cons_zero, List.set_cons_succ]
                        refine wpAnyH_take (i := 56) (oi := ⟨some 79, .move (.tmp 7), 3, "race.go:14", #[⟨54, .guard⟩], some (54, true)⟩) (v := ?vf56) rfl (by kernel_rfl) (by kernel_rfl) (by kernel_rfl) (fun _ _ _ h => h) (Or.inl ⟨by rfl, ?yf56⟩) (by assumption) ?rf56
                        case yf56 => (intro w hSw; (try dsimp only at hSw); go_simp; try with_reducible rfl)
                        refine wpAnyH_take (i := 57) (oi := ⟨some 80, .indexAddr 38 (.tmp 78) (.tmp 79), 0, "race.go:14", #[⟨55, .data⟩, ⟨56, .data⟩, ⟨54, .guard⟩], some (54, true)⟩) (v := ?vf57) rfl (by kernel_rfl) (by kernel_rfl) (by kernel_rfl) (fun _ _ _ h => h) (Or.inl ⟨by rfl, ?yf57⟩) (by assumption) ?rf57
                        case yf57 => (intro w hSw; (try dsimp only at hSw); go_simp; try with_reducible rfl)
                        refine wpAnyH_take (i := 58) (oi := ⟨some 81, .load 42 (.tmp 80), 42, "race.go:14", #[⟨57, .data⟩, ⟨54, .guard⟩], some (54, true)⟩) (v := ?vf58) rfl (by kernel_rfl) (by kernel_rfl) (by kernel_rfl) (fun _ _ _ h => h) (Or.inl ⟨by rfl, ?yf58⟩) (by assumption) ?rf58
                        case yf58 => (intro w hSw; (try dsimp only at hSw); go_simp; try with_reducible rfl)
                        try simp only [Act.put, List.setIfInBounds_toArray, List.set_cons_zero, List.set_cons_succ]
                        refine wpAnyH_take (i := 59) (oi := ⟨some 82, .move (.tmp 8), 3, "race.go:14", #[⟨54, .guard⟩], some (54, true)⟩) (v := ?vf59) rfl (by kernel_rfl) (by kernel_rfl) (by kernel_rfl) (fun _ _ _ h => h) (Or.inl ⟨by rfl, ?yf59⟩) (by assumption) ?rf59
                        case yf59 => (intro w hSw; (try dsimp only at hSw); go_simp; try with_reducible rfl)
                        refine wpAnyH_take (i := 60) (oi := ⟨some 83, .indexAddr 42 (.tmp 81) (.tmp 82), 0, "race.go:14", #[⟨58, .data⟩, ⟨59, .data⟩, ⟨54, .guard⟩], some (54, true)⟩) (v := ?vf60) rfl (by kernel_rfl) (by kernel_rfl) (by kernel_rfl) (fun _ _ _ h => h) (Or.inl ⟨by rfl, ?yf60⟩) (by assumption) ?rf60
                        case yf60 => (intro w hSw; (try dsimp only at hSw); go_simp; try with_reducible rfl)
                        refine wpAnyH_take (i := 61) (oi := ⟨some 84, .load 4 (.tmp 83), 4, "race.go:14", #[⟨60, .data⟩, ⟨54, .guard⟩], some (54, true)⟩) (v := ?vf61) rfl (by kernel_rfl) (by kernel_rfl) (by kernel_rfl) (fun _ _ _ h => h) (Or.inl ⟨by rfl, ?yf61⟩) (by assumption) ?rf61
                        case yf61 => (intro w hSw; (try dsimp only at hSw); go_simp; try with_reducible rfl)
                        try simp only [Act.put, List.setIfInBounds_toArray, List.set_cons_zero, List.set_cons_succ]
                        refine wpAnyH_take (i := 62) (oi := ⟨some 85, .unOp .not 4 (.tmp 84), 4, "race.go:14", #[⟨61, .data⟩, ⟨54, .guard⟩], some (54, true)⟩) (v := ?vf62) rfl (by kernel_rfl) (by kernel_rfl) (by kernel_rfl) (fun _ _ _ h => h) (Or.inl ⟨by rfl, ?yf62⟩) (by assumption) ?rf62
                        case yf62 => (intro w hSw; (try dsimp only at hSw); go_simp; try with_reducible rfl)
                        refine wpAnyH_take (i := 63) (oi := ⟨some 86, .pick (.tmp 77) (.tmp 85) (.const (.bool false)), 4, "race.go:14", #[⟨54, .data⟩, ⟨62, .data⟩], none⟩) (v := ?vf63) rfl (by kernel_rfl) (by kernel_rfl) (by kernel_rfl) (fun _ _ _ h => h) (Or.inl ⟨by rfl, ?yf63⟩) (by assumption) ?rf63
                        case yf63 => (intro w hSw; (try dsimp only at hSw); go_simp; try with_reducible rfl)
                        try simp only [Act.put, List.setIfInBounds_toArray, List.set_cons_zero, List.set_cons_succ]
                        refine wpAnyH_done (by kernel_rfl) ?_ _
                        refine NoPanic.normal ?_
                        go_upto_region 10 with fail
                        have HOP := hide (((unhide HOi).below (unhide HX2)).below ((Below.refl w2.heap.size w2).alloc (Nat.le_refl _) (.cells #[.int .i64 (i : Int), .int .i64 (k : Int)] 55)))
                        have HBP := hide ((Below.next (unhide HBi) (unhide HX2) (Nat.le_of_eq (unhide HZ).symm)).alloc (Nat.le_trans (unhide HW1) (unhide HX2).size) (.cells #[.int .i64 (i : Int), .int .i64 (k : Int)] 55))
                        have HIP : Hid (IsL KP (w2.alloc (.cells #[.int .i64 (i : Int), .int .i64 (k : Int)] 55)) (.slice (some ⟨w2.heap.size, 0, none⟩) 1 1) [((i : Int), (k : Int))]) := isl_one kp w2 ((i : Int), (k : Int))
                        go_wp2_with (at_builtin; refine wpList_append kp rfl (.tmp 87) (.tmp 91) rfl Z _ (outI hs l k i) rfl (unhide HOP) _ [((i : Int), (k : Int))] rfl (unhide HIP) (r + 1) (by rw [unhide HRL]; rfl) (by show (r + 1) * 16 ≤ 140737488355328; omega) (Nat.le_trans (unhide HW1) (Nat.le_trans (unhide HX2).size (by simp))) ?_; intro a7 c7 w7 ho7 hg7; have HO7 := hide ho7; have HB7 := hide ((unhide HBP).grown hg7 (Nat.le_trans (unhide HW1) (Nat.le_trans (unhide HX2).size (by simp))) (fun q hq => ((unhide HOP).lt q hq).1)); clear ho7 hg7)
                        go_roundw
                        case rel => exact ⟨i + 1, a7, r + 1, c7, by omega, by go_num, rfl, by omega, hide (by rw [unhide HO2, List.length_append, unhide HRL]; rfl), hide (by rw [unhide HO2]; exact unhide HO7), HB7⟩
                        case measure => simp [intOf]; omega
                      · skip
                        have HNO : Hid (rcB hs l k i = false) := by show _ = _; rw [unhide HRC]; rw [unhide HEAI, unhide HEAK, unhide HTT, unhide HXI, unhide HXK]; simp [unhide HBE]
                        have HO2 : Hid (outI hs l k (i + 1) = outI hs l k i) := outI_no (unhide HNO)
                        go_upto_region 9 with fail
                        refine wp_region_noPanic ?_
                        refine wp_region_held_drew (S := (fun W' => W'.cell? ⟨tb, tof + i * 4, none⟩ = some (.int .i64 ti) ∧ W'.cell? ⟨tb, tof + i * 4 + 1, none⟩ = some (.int .i64 oi) ∧ W'.cell? ⟨tb, tof + i * 4 + 2, none⟩ = some (.int .i64 bi) ∧ W'.cell? ⟨tb, tof + i * 4 + 3, none⟩ = some (.int .i64 vi) ∧ W'.cell? ⟨tb, tof + k * 4, none⟩ = some (.int .i64 tk) ∧ W'.cell? ⟨tb, tof + k * 4 + 1, none⟩ = some (.int .i64 ok) ∧ W'.cell? ⟨tb, tof + k * 4 + 2, none⟩ = some (.int .i64 bi) ∧ W'.cell? ⟨tb, tof + k * 4 + 3, none⟩ = some (.int .i64 vk) ∧ W'.cell? ⟨R, k, none⟩ = some (.slice (some ⟨bf k, 0, none⟩) n0 n0) ∧ W'.cell? ⟨bf k, i, none⟩ = some (.bool true))) (by kernel_rfl) (unhide HS0) (fun hHeld => ?_)
                        refine wpAnyH_take (i := 0) (oi := ⟨some 23, .move (.tmp 0), 22, "race.go:14", #[], none⟩) (v := ?vg0) rfl (by kernel_rfl) (by kernel_rfl) (by kernel_rfl) (fun _ _ _ h => h) (Or.inl ⟨by rfl, ?yg0⟩) (by assumption) ?rg0
                        case yg0 => (intro w hSw; (try dsimp only at hSw); go_simp; try with_reducible rfl)
                        refine wpAnyH_take (i := 1) (oi := ⟨some 24, .move (.tmp 8), 3, "race.go:14", #[], none⟩) (v := ?vg1) rfl (by kernel_rfl) (by kernel_rfl) (by kernel_rfl) (fun _ _ _ h => h) (Or.inl ⟨by rfl, ?yg1⟩) (by assumption) ?rg1
                        case yg1 => (intro w hSw; (try dsimp only at hSw); go_simp; try with_reducible rfl)
                        refine wpAnyH_take (i := 2) (oi := ⟨some 25, .indexAddr 22 (.tmp 23) (.tmp 24), 0, "race.go:14", #[⟨0, .data⟩, ⟨1, .data⟩], none⟩) (v := ?vg2) rfl (by kernel_rfl) (by kernel_rfl) (by kernel_rfl) (fun _ _ _ h => h) (Or.inl ⟨by rfl, ?yg2⟩) (by assumption) ?rg2
                        case yg2 => (intro w hSw; (try dsimp only at hSw); go_simp; try with_reducible rfl)
                        try simp only [Act.put, List.setIfInBounds_toArray, List.set_cons_zero, List.set_cons_succ]
                        refine wpAnyH_take (i := 3) (oi := ⟨some 26, .load 41 (.tmp 25), 41, "race.go:14", #[⟨2, .data⟩], none⟩) (v := ?vg3) rfl (by kernel_rfl) (by kernel_rfl) (by kernel_rfl) (fun _ _ _ h => h) (Or.inl ⟨by rfl, ?yg3⟩) (by assumption) ?rg3
                        case yg3 => (intro w hSw; (try dsimp only at hSw); go_simp; try with_reducible rfl)
                        try simp only [Act.put, List.setIfInBounds_toArray, List.set_cons_zero, List.set_cons_succ]
                        refine wpAnyH_ready (rs := [4]) (by kernel_rfl) (by simp) ?_
                        refine AllReadyH.cons (o := ⟨some 27, .call { callee := .value (.func 28), args := #[.tmp 26], argTypes := #[41] }, 4, "race.go:14", #[⟨3, .data⟩], none⟩) rfl (fun K hK => ?_) AllReadyH.nil
                        go_simp
                        (go_at_call 28; (with_reducible refine Calls.mono (unhide HAI _) ?_); rintro e w1 ⟨rfl, hb1⟩; have HX1 := hide (Below.next (Below.refl wr.heap.size wr).drew hb1 (Nat.le_refl _)); have HS1 := hide (unhide HSS _ (unhide HX1)); clear hb1)
                        refine hK.out _ _ (unhide HS1) (fun hHeld => ?_)
                        clear hK K
                        try simp only [Act.put, List.setIfInBounds_toArray, List.set_cons_zero, List.set_cons_succ]
                        refine wpAnyH_take (i := 5) (oi := ⟨some 28, .move (.tmp 27), 4, "race.go:14", #[⟨4, .data⟩, ⟨4, .chain⟩], none⟩) (v := ?vg5) rfl (by kernel_rfl) (by kernel_rfl) (by kernel_rfl) (fun _ _ _ h => h) (Or.inl ⟨by rfl, ?yg5⟩) (by assumption) ?rg5
                        case yg5 => (intro w hSw; (try dsimp only at hSw); go_simp; try with_reducible rfl)
                        refine wpAnyH_take (i := 6) (oi := ⟨some 29, .move (.tmp 0), 22, "race.go:14", #[⟨5, .guard⟩], some (5, true)⟩) (v := ?vg6) rfl (by kernel_rfl) (by kernel_rfl) (by kernel_rfl) (fun _ _ _ h => h) (Or.inl ⟨by rfl, ?yg6⟩) (by assumption) ?rg6
                        case yg6 => (intro w hSw; (try dsimp only at hSw); go_simp; try with_reducible rfl)
                        try simp only [Act.put, List.setIfInBounds_toArray, List.set_cons_zero, List.set_cons_succ]
                        refine wpAnyH_take (i := 7) (oi := ⟨some 30, .move (.tmp 7), 3, "race.go:14", #[⟨5, .guard⟩], some (5, true)⟩) (v := ?vg7) rfl (by kernel_rfl) (by kernel_rfl) (by kernel_rfl) (fun _ _ _ h => h) (Or.inl ⟨by rfl, ?yg7⟩) (by assumption) ?rg7
                        case yg7 => (intro w hSw; (try dsimp only at hSw); go_simp; try with_reducible rfl)
                        refine wpAnyH_take (i := 8) (oi := ⟨some 31, .indexAddr 22 (.tmp 29) (.tmp 30), 0, "race.go:14", #[⟨6, .data⟩, ⟨7, .data⟩, ⟨5, .guard⟩], some (5, true)⟩) (v := ?vg8) rfl (by kernel_rfl) (by kernel_rfl) (by kernel_rfl) (fun _ _ _ h => h) (Or.inl ⟨by rfl, ?yg8⟩) (by assumption) ?rg8
                        case yg8 => (intro w hSw; (try dsimp only at hSw); go_simp; try with_reducible rfl)
                        refine wpAnyH_take (i := 9) (oi := ⟨some 32, .load 41 (.tmp 31), 41, "race.go:14", #[⟨8, .data⟩, ⟨5, .guard⟩], some (5, true)⟩) (v := ?vg9) rfl (by kernel_rfl) (by kernel_rfl) (by kernel_rfl) (fun _ _ _ h => h) (Or.inl ⟨by rfl, ?yg9⟩) (by assumption) ?rg9
                        case yg9 => (intro w hSw; (try dsimp only at hSw); go_simp; try with_reducible rfl)
                        try simp only [Act.put, List.setIfInBounds_toArray, List.set_cons_zero, List.set_cons_succ]
                        refine wpAnyH_ready (rs := [10]) (by kernel_rfl) (by simp) ?_
                        refine AllReadyH.cons (o := ⟨some 33, .call { callee := .value (.func 28), args := #[.tmp 32], argTypes := #[41] }, 4, "race.go:14", #[⟨9, .data⟩, ⟨5, .chain⟩, ⟨5, .guard⟩], some (5, true)⟩) rfl (fun K hK => ?_) AllReadyH.nil
                        go_simp
                        (go_at_call 28; (with_reducible refine Calls.mono (unhide HAK _) ?_); rintro e w2 ⟨rfl, hb2⟩; have HX2 := hide (Below.next (unhide HX1) hb2 (Nat.le_refl _)); have HS2 := hide (unhide HSS _ (unhide HX2)); clear hb2)
                        refine hK.out _ _ (unhide HS2) (fun hHeld => ?_)
                        clear hK K
                        try simp only [Act.put, List.setIfInBounds_toArray, List.set_cons_zero, List.set_cons_succ]
                        refine wpAnyH_take (i := 11) (oi := ⟨some 34, .pick (.tmp 28) (.tmp 33) (.const (.bool false)), 4, "race.go:14", #[⟨5, .data⟩, ⟨10, .data⟩], none⟩) (v := ?vg11) rfl (by kernel_rfl) (by kernel_rfl) (by kernel_rfl) (fun _ _ _ h => h) (Or.inl ⟨by rfl, ?yg11⟩) (by assumption) ?rg11
                        case yg11 => (intro w hSw; (try dsimp only at hSw); go_simp; try with_reducible rfl)
                        refine wpAnyH_take (i := 12) (oi := ⟨some 35, .move (.tmp 34), 4, "race.go:14", #[⟨11, .data⟩, ⟨10, .chain⟩], none⟩) (v := ?vg12) rfl (by kernel_rfl) (by kernel_rfl) (by kernel_rfl) (fun _ _ _ h => h) (Or.inl ⟨by rfl, ?yg12⟩) (by assumption) ?rg12
                        case yg12 => (intro w hSw; (try dsimp only at hSw); go_simp; try with_reducible rfl)
                        refine wpAnyH_take (i := 13) (oi := ⟨some 36, .move (.tmp 0), 22, "race.go:14", #[⟨12, .guard⟩], some (12, true)⟩) (v := ?vg13) rfl (by kernel_rfl) (by kernel_rfl) (by kernel_rfl) (fun _ _ _ h => h) (Or.inl ⟨by rfl, ?yg13⟩) (by assumption) ?rg13
                        case yg13 => (intro w hSw; (try dsimp only at hSw); go_simp; try with_reducible rfl)
                        try simp only [Act.put, List.setIfInBounds_toArray, List.set_cons_zero, List.set_cons_succ]
                        refine wpAnyH_take (i := 14) (oi := ⟨some 37, .move (.tmp 8), 3, "race.go:14", #[⟨12, .guard⟩], some (12, true)⟩) (v := ?vg14) rfl (by kernel_rfl) (by kernel_rfl) (by kernel_rfl) (fun _ _ _ h => h) (Or.inl ⟨by rfl, ?yg14⟩) (by assumption) ?rg14
                        case yg14 => (intro w hSw; (try dsimp only at hSw); go_simp; try with_reducible rfl)
                        refine wpAnyH_take (i := 15) (oi := ⟨some 38, .indexAddr 22 (.tmp 36) (.tmp 37), 0, "race.go:14", #[⟨13, .data⟩, ⟨14, .data⟩, ⟨12, .guard⟩], some (12, true)⟩) (v := ?vg15) rfl (by kernel_rfl) (by kernel_rfl) (by kernel_rfl) (fun _ _ _ h => h) (Or.inl ⟨by rfl, ?yg15⟩) (by assumption) ?rg15
                        case yg15 => (intro w hSw; (try dsimp only at hSw); go_simp; try with_reducible rfl)
                        refine wpAnyH_take (i := 16) (oi := ⟨some 39, .fieldAddr 41 (.tmp 38) 2, 0, "race.go:14", #[⟨15, .data⟩, ⟨12, .guard⟩], some (12, true)⟩) (v := ?vg16) rfl (by kernel_rfl) (by kernel_rfl) (by kernel_rfl) (fun _ _ _ h => h) (Or.inl ⟨by rfl, ?yg16⟩) (by assumption) ?rg16
                        case yg16 => (intro w hSw; (try dsimp only at hSw); go_simp; try with_reducible rfl)
                        try simp only [Act.put, List.setIfInBounds_toArray, List.set_cons_zero, List.set_cons_succ]
                        refine wpAnyH_take (i := 17) (oi := ⟨some 40, .load 3 (.tmp 39), 3, "race.go:14", #[⟨16, .data⟩, ⟨12, .guard⟩], some (12, true)⟩) (v := ?vg17) rfl (by kernel_rfl) (by kernel_rfl) (by kernel_rfl) (fun _ _ _ h => h) (Or.inl ⟨by rfl, ?yg17⟩) (by assumption) ?rg17
                        case yg17 => (intro w hSw; (try dsimp only at hSw); go_simp; try with_reducible rfl)
                        refine wpAnyH_take (i := 18) (oi := ⟨some 41, .move (.tmp 0), 22, "race.go:14", #[⟨12, .guard⟩], some (12, true)⟩) (v := ?vg18) rfl (by kernel_rfl) (by kernel_rfl) (by kernel_rfl) (fun _ _ _ h => h) (Or.inl ⟨by rfl, ?yg18⟩) (by assumption) ?rg18
                        case yg18 => (intro w hSw; (try dsimp only at hSw); go_simp; try with_reducible rfl)
                        refine wpAnyH_take (i := 19) (oi := ⟨some 42, .move (.tmp 7), 3, "race.go:14", #[⟨12, .guard⟩], some (12, true)⟩) (v := ?vg19) rfl (by kernel_rfl) (by kernel_rfl) (by kernel_rfl) (fun _ _ _ h => h) (Or.inl ⟨by rfl, ?yg19⟩) (by assumption) ?rg19
                        case yg19 => (intro w hSw; (try dsimp only at hSw); go_simp; try with_reducible rfl)
                        try simp only [Act.put, List.setIfInBounds_toArray, List.set_cons_zero, List.set_cons_succ]
                        refine wpAnyH_take (i := 20) (oi := ⟨some 43, .indexAddr 22 (.tmp 41) (.tmp 42), 0, "race.go:14", #[⟨18, .data⟩, ⟨19, .data⟩, ⟨12, .guard⟩], some (12, true)⟩) (v := ?vg20) rfl (by kernel_rfl) (by kernel_rfl) (by kernel_rfl) (fun _ _ _ h => h) (Or.inl ⟨by rfl, ?yg20⟩) (by assumption) ?rg20
                        case yg20 => (intro w hSw; (try dsimp only at hSw); go_simp; try with_reducible rfl)
                        refine wpAnyH_take (i := 21) (oi := ⟨some 44, .fieldAddr 41 (.tmp 43) 2, 0, "race.go:14", #[⟨20, .data⟩, ⟨12, .guard⟩], some (12, true)⟩) (v := ?vg21) rfl (by kernel_rfl) (by kernel_rfl) (by kernel_rfl) (fun _ _ _ h => h) (Or.inl ⟨by rfl, ?yg21⟩) (by assumption) ?rg21
                        case yg21 => (intro w hSw; (try dsimp only at hSw); go_simp; try with_reducible rfl)
                        refine wpAnyH_take (i := 22) (oi := ⟨some 45, .load 3 (.tmp 44), 3, "race.go:14", #[⟨21, .data⟩, ⟨12, .guard⟩], some (12, true)⟩) (v := ?vg22) rfl (by kernel_rfl) (by kernel_rfl) (by kernel_rfl) (fun _ _ _ h => h) (Or.inl ⟨by rfl, ?yg22⟩) (by assumption) ?rg22
                        case yg22 => (intro w hSw; (try dsimp only at hSw); go_simp; try with_reducible rfl)
                        try simp only [Act.put, List.setIfInBounds_toArray, List.set_cons_zero, List.set_cons_succ]
                        refine wpAnyH_take (i := 23) (oi := ⟨some 46, .binOp .eql 3 (.tmp 40) (.tmp 45) 3, 4, "race.go:14", #[⟨17, .data⟩, ⟨22, .data⟩, ⟨12, .guard⟩], some (12, true)⟩) (v := ?vg23) rfl (by kernel_rfl) (by kernel_rfl) (by kernel_rfl) (fun _ _ _ h => h) (Or.inl ⟨by rfl, ?yg23⟩) (by assumption) ?rg23
                        case yg23 => (intro w hSw; (try dsimp only at hSw); go_simp; try with_reducible rfl)
                        refine wpAnyH_take (i := 24) (oi := ⟨some 47, .pick (.tmp 35) (.tmp 46) (.const (.bool false)), 4, "race.go:14", #[⟨12, .data⟩, ⟨23, .data⟩], none⟩) (v := ?vg24) rfl (by kernel_rfl) (by kernel_rfl) (by kernel_rfl) (fun _ _ _ h => h) (Or.inl ⟨by rfl, ?yg24⟩) (by assumption) ?rg24
                        case yg24 => (intro w hSw; (try dsimp only at hSw); go_simp; try with_reducible rfl)
                        refine wpAnyH_take (i := 25) (oi := ⟨some 48, .move (.tmp 47), 4, "race.go:14", #[⟨24, .data⟩, ⟨12, .chain⟩], none⟩) (v := ?vg25) rfl (by kernel_rfl) (by kernel_rfl) (by kernel_rfl) (fun _ _ _ h => h) (Or.inl ⟨by rfl, ?yg25⟩) (by assumption) ?rg25
                        case yg25 => (intro w hSw; (try dsimp only at hSw); go_simp; try with_reducible rfl)
                        try simp only [Act.put, List.setIfInBounds_toArray, List.set_cons_zero, List.set_cons_succ]
                        refine wpAnyH_take (i := 26) (oi := ⟨some 49, .move (.tmp 0), 22, "race.go:14", #[⟨25, .guard⟩], some (25, true)⟩) (v := ?vg26) rfl (by kernel_rfl) (by kernel_rfl) (by kernel_rfl) (fun _ _ _ h => h) (Or.inl ⟨by rfl, ?yg26⟩) (by assumption) ?rg26
                        case yg26 => (intro w hSw; (try dsimp only at hSw); go_simp; try with_reducible rfl)
                        refine wpAnyH_take (i := 27) (oi := ⟨some 50, .move (.tmp 8), 3, "race.go:14", #[⟨25, .guard⟩], some (25, true)⟩) (v := ?vg27) rfl (by kernel_rfl) (by kernel_rfl) (by kernel_rfl) (fun _ _ _ h => h) (Or.inl ⟨by rfl, ?yg27⟩) (by assumption) ?rg27
                        case yg27 => (intro w hSw; (try dsimp only at hSw); go_simp; try with_reducible rfl)
                        refine wpAnyH_take (i := 28) (oi := ⟨some 51, .indexAddr 22 (.tmp 49) (.tmp 50), 0, "race.go:14", #[⟨26, .data⟩, ⟨27, .data⟩, ⟨25, .guard⟩], some (25, true)⟩) (v := ?vg28) rfl (by kernel_rfl) (by kernel_rfl) (by kernel_rfl) (fun _ _ _ h => h) (Or.inl ⟨by rfl, ?yg28⟩) (by assumption) ?rg28
                        case yg28 => (intro w hSw; (try dsimp only at hSw); go_simp; try with_reducible rfl)
                        try simp only [Act.put, List.setIfInBounds_toArray, List.set_cons_zero, List.set_cons_succ]
                        refine wpAnyH_take (i := 29) (oi := ⟨some 52, .fieldAddr 41 (.tmp 51) 0, 0, "race.go:14", #[⟨28, .data⟩, ⟨25, .guard⟩], some (25, true)⟩) (v := ?vg29) rfl (by kernel_rfl) (by kernel_rfl) (by kernel_rfl) (fun _ _ _ h => h) (Or.inl ⟨by rfl, ?yg29⟩) (by assumption) ?rg29
                        case yg29 => (intro w hSw; (try dsimp only at hSw); go_simp; try with_reducible rfl)
                        refine wpAnyH_take (i := 30) (oi := ⟨some 53, .load 3 (.tmp 52), 3, "race.go:14", #[⟨29, .data⟩, ⟨25, .guard⟩], some (25, true)⟩) (v := ?vg30) rfl (by kernel_rfl) (by kernel_rfl) (by kernel_rfl) (fun _ _ _ h => h) (Or.inl ⟨by rfl, ?yg30⟩) (by assumption) ?rg30
                        case yg30 => (intro w hSw; (try dsimp only at hSw); go_simp; try with_reducible rfl)
                        refine wpAnyH_take (i := 31) (oi := ⟨some 54, .move (.tmp 0), 22, "race.go:14", #[⟨25, .guard⟩], some (25, true)⟩) (v := ?vg31) rfl (by kernel_rfl) (by kernel_rfl) (by kernel_rfl) (fun _ _ _ h => h) (Or.inl ⟨by rfl, ?yg31⟩) (by assumption) ?rg31
                        case yg31 => (intro w hSw; (try dsimp only at hSw); go_simp; try with_reducible rfl)
                        try simp only [Act.put, List.setIfInBounds_toArray, List.set_cons_zero, List.set_cons_succ]
                        refine wpAnyH_take (i := 32) (oi := ⟨some 55, .move (.tmp 7), 3, "race.go:14", #[⟨25, .guard⟩], some (25, true)⟩) (v := ?vg32) rfl (by kernel_rfl) (by kernel_rfl) (by kernel_rfl) (fun _ _ _ h => h) (Or.inl ⟨by rfl, ?yg32⟩) (by assumption) ?rg32
                        case yg32 => (intro w hSw; (try dsimp only at hSw); go_simp; try with_reducible rfl)
                        refine wpAnyH_take (i := 33) (oi := ⟨some 56, .indexAddr 22 (.tmp 54) (.tmp 55), 0, "race.go:14", #[⟨31, .data⟩, ⟨32, .data⟩, ⟨25, .guard⟩], some (25, true)⟩) (v := ?vg33) rfl (by kernel_rfl) (by kernel_rfl) (by kernel_rfl) (fun _ _ _ h => h) (Or.inl ⟨by rfl, ?yg33⟩) (by assumption) ?rg33
                        case yg33 => (intro w hSw; (try dsimp only at hSw); go_simp; try with_reducible rfl)
                        refine wpAnyH_take (i := 34) (oi := ⟨some 57, .fieldAddr 41 (.tmp 56) 0, 0, "race.go:14", #[⟨33, .data⟩, ⟨25, .guard⟩], some (25, true)⟩) (v := ?vg34) rfl (by kernel_rfl) (by kernel_rfl) (by kernel_rfl) (fun _ _ _ h => h) (Or.inl ⟨by rfl, ?yg34⟩) (by assumption) ?rg34
                        case yg34 => (intro w hSw; (try dsimp only at hSw); go_simp; try with_reducible rfl)
                        try simp only [Act.put, List.setIfInBounds_toArray, List.set_cons_zero, List.set_cons_succ]
                        refine wpAnyH_take (i := 35) (oi := ⟨some 58, .load 3 (.tmp 57), 3, "race.go:14", #[⟨34, .data⟩, ⟨25, .guard⟩], some (25, true)⟩) (v := ?vg35) rfl (by kernel_rfl) (by kernel_rfl) (by kernel_rfl) (fun _ _ _ h => h) (Or.inl ⟨by rfl, ?yg35⟩) (by assumption) ?rg35
                        case yg35 => (intro w hSw; (try dsimp only at hSw); go_simp; try with_reducible rfl)
                        refine wpAnyH_take (i := 36) (oi := ⟨some 59, .binOp .neq 3 (.tmp 53) (.tmp 58) 3, 4, "race.go:14", #[⟨30, .data⟩, ⟨35, .data⟩, ⟨25, .guard⟩], some (25, true)⟩) (v := ?vg36) rfl (by kernel_rfl) (by kernel_rfl) (by kernel_rfl) (fun _ _ _ h => h) (Or.inl ⟨by rfl, ?yg36⟩) (by assumption) ?rg36
                        case yg36 => (intro w hSw; (try dsimp only at hSw); go_simp; try with_reducible rfl)
                        refine wpAnyH_take (i := 37) (oi := ⟨some 60, .pick (.tmp 48) (.tmp 59) (.const (.bool false)), 4, "race.go:14", #[⟨25, .data⟩, ⟨36, .data⟩], none⟩) (v := ?vg37) rfl (by kernel_rfl) (by kernel_rfl) (by kernel_rfl) (fun _ _ _ h => h) (Or.inl ⟨by rfl, ?yg37⟩) (by assumption) ?rg37
                        case yg37 => (intro w hSw; (try dsimp only at hSw); go_simp; try with_reducible rfl)
                        try simp only [Act.put, List.setIfInBounds_toArray, List.set_cons_zero, List.set_cons_succ]
                        refine wpAnyH_take (i := 38) (oi := ⟨some 61, .move (.tmp 60), 4, "race.go:14", #[⟨37, .data⟩, ⟨25, .chain⟩], none⟩) (v := ?vg38) rfl (by kernel_rfl) (by kernel_rfl) (by kernel_rfl) (fun _ _ _ h => h) (Or.inl ⟨by rfl, ?yg38⟩) (by assumption) ?rg38
                        case yg38 => (intro w hSw; (try dsimp only at hSw); go_simp; try with_reducible rfl)
                        refine wpAnyH_take (i := 39) (oi := ⟨some 62, .move (.tmp 0), 22, "race.go:14", #[⟨38, .guard⟩], some (38, true)⟩) (v := ?vg39) rfl (by kernel_rfl) (by kernel_rfl) (by kernel_rfl) (fun _ _ _ h => h) (Or.inl ⟨by rfl, ?yg39⟩) (by assumption) ?rg39
                        case yg39 => (intro w hSw; (try dsimp only at hSw); go_simp; try with_reducible rfl)
                        refine wpAnyH_take (i := 40) (oi := ⟨some 63, .move (.tmp 8), 3, "race.go:14", #[⟨38, .guard⟩], some (38, true)⟩) (v := ?vg40) rfl (by kernel_rfl) (by kernel_rfl) (by kernel_rfl) (fun _ _ _ h => h) (Or.inl ⟨by rfl, ?yg40⟩) (by assumption) ?rg40
                        case yg40 => (intro w hSw; (try dsimp only at hSw); go_simp; try with_reducible rfl)
                        try simp only [Act.put, List.setIfInBounds_toArray, List.set_cons_zero, List.set_cons_succ]
                        refine wpAnyH_take (i := 41) (oi := ⟨some 64, .indexAddr 22 (.tmp 62) (.tmp 63), 0, "race.go:14", #[⟨39, .data⟩, ⟨40, .data⟩, ⟨38, .guard⟩], some (38, true)⟩) (v := ?vg41) rfl (by kernel_rfl) (by kernel_rfl) (by kernel_rfl) (fun _ _ _ h => h) (Or.inl ⟨by rfl, ?yg41⟩) (by assumption) ?rg41
                        case yg41 => (intro w hSw; (try dsimp only at hSw); go_simp; try with_reducible rfl)
                        refine wpAnyH_take (i := 42) (oi := ⟨some 65, .fieldAddr 41 (.tmp 64) 1, 0, "race.go:14", #[⟨41, .data⟩, ⟨38, .guard⟩], some (38, true)⟩) (v := ?vg42) rfl (by kernel_rfl) (by kernel_rfl) (by kernel_rfl) (fun _ _ _ h => h) (Or.inl ⟨by rfl, ?yg42⟩) (by assumption) ?rg42
                        case yg42 => (intro w hSw; (try dsimp only at hSw); go_simp; try with_reducible rfl)
                        refine wpAnyH_take (i := 43) (oi := ⟨some 66, .load 3 (.tmp 65), 3, "race.go:14", #[⟨42, .data⟩, ⟨38, .guard⟩], some (38, true)⟩) (v := ?vg43) rfl (by kernel_rfl) (by kernel_rfl) (by kernel_rfl) (fun _ _ _ h => h) (Or.inl ⟨by rfl, ?yg43⟩) (by assumption) ?rg43
                        case yg43 => (intro w hSw; (try dsimp only at hSw); go_simp; try with_reducible rfl)
                        try simp only [Act.put, List.setIfInBounds_toArray, List.set_cons_zero, List.set_cons_succ]
                        refine wpAnyH_take (i := 44) (oi := ⟨some 67, .binOp .eql 3 (.tmp 66) (.const (.int .i64 13)) 3, 4, "race.go:14", #[⟨43, .data⟩, ⟨38, .guard⟩], some (38, true)⟩) (v := ?vg44) rfl (by kernel_rfl) (by kernel_rfl) (by kernel_rfl) (fun _ _ _ h => h) (Or.inl ⟨by rfl, ?yg44⟩) (by assumption) ?rg44
                        case yg44 => (intro w hSw; (try dsimp only at hSw); go_simp; try with_reducible rfl)
                        refine wpAnyH_take (i := 45) (oi := ⟨some 68, .move (.tmp 67), 4, "race.go:14", #[⟨44, .data⟩, ⟨38, .chain⟩, ⟨38, .guard⟩], some (38, true)⟩) (v := ?vg45) rfl (by kernel_rfl) (by kernel_rfl) (by kernel_rfl) (fun _ _ _ h => h) (Or.inl ⟨by rfl, ?yg45⟩) (by assumption) ?rg45
                        case yg45 => (intro w hSw; (try dsimp only at hSw); go_simp; try with_reducible rfl)
                        refine wpAnyH_take (i := 46) (oi := ⟨some 69, .move (.tmp 0), 22, "race.go:14", #[⟨45, .guard⟩], some (45, false)⟩) (v := ?vg46) rfl (by kernel_rfl) (by kernel_rfl) (by kernel_rfl) (fun _ _ _ h => h) (Or.inl ⟨by rfl, ?yg46⟩) (by assumption) ?rg46
                        case yg46 => (intro w hSw; (try dsimp only at hSw); go_simp; try with_reducible rfl)
                        try simp only [Act.put, List.setIfInBounds_toArray, List.set_cons_zero, List.set_cons_succ]
                        refine wpAnyH_take (i := 47) (oi := ⟨some 70, .move (.tmp 7), 3, "race.go:14", #[⟨45, .guard⟩], some (45, false)⟩) (v := ?vg47) rfl (by kernel_rfl) (by kernel_rfl) (by kernel_rfl) (fun _ _ _ h => h) (Or.inl ⟨by rfl, ?yg47⟩) (by assumption) ?rg47
                        case yg47 => (intro w hSw; (try dsimp only at hSw); go_simp; try with_reducible rfl)
                        refine wpAnyH_take (i := 48) (oi := ⟨some 71, .indexAddr 22 (.tmp 69) (.tmp 70), 0, "race.go:14", #[⟨46, .data⟩, ⟨47, .data⟩, ⟨45, .guard⟩], some (45, false)⟩) (v := ?vg48) rfl (by kernel_rfl) (by kernel_rfl) (by kernel_rfl) (fun _ _ _ h => h) (Or.inl ⟨by rfl, ?yg48⟩) (by assumption) ?rg48
                        case yg48 => (intro w hSw; (try dsimp only at hSw); go_simp; try with_reducible rfl)
                        refine wpAnyH_take (i := 49) (oi := ⟨some 72, .fieldAddr 41 (.tmp 71) 1, 0, "race.go:14", #[⟨48, .data⟩, ⟨45, .guard⟩], some (45, false)⟩) (v := ?vg49) rfl (by kernel_rfl) (by kernel_rfl) (by kernel_rfl) (fun _ _ _ h => h) (Or.inl ⟨by rfl, ?yg49⟩) (by assumption) ?rg49
                        case yg49 => (intro w hSw; (try dsimp only at hSw); go_simp; try with_reducible rfl)
                        try simp only [Act.put, List.setIfInBounds_toArray, List.set_cons_zero, List.set_cons_succ]
                        refine wpAnyH_take (i := 50) (oi := ⟨some 73, .load 3 (.tmp 72), 3, "race.go:14", #[⟨49, .data⟩, ⟨45, .guard⟩], some (45, false)⟩) (v := ?vg50) rfl (by kernel_rfl) (by kernel_rfl) (by kernel_rfl) (fun _ _ _ h => h) (Or.inl ⟨by rfl, ?yg50⟩) (by assumption) ?rg50
                        case yg50 => (intro w hSw; (try dsimp only at hSw); go_simp; try with_reducible rfl)
                        refine wpAnyH_take (i := 51) (oi := ⟨some 74, .binOp .eql 3 (.tmp 73) (.const (.int .i64 13)) 3, 4, "race.go:14", #[⟨50, .data⟩, ⟨45, .guard⟩], some (45, false)⟩) (v := ?vg51) rfl (by kernel_rfl) (by kernel_rfl) (by kernel_rfl) (fun _ _ _ h => h) (Or.inl ⟨by rfl, ?yg51⟩) (by assumption) ?rg51
                        case yg51 => (intro w hSw; (try dsimp only at hSw); go_simp; try with_reducible rfl)
                        refine wpAnyH_take (i := 52) (oi := ⟨some 75, .pick (.tmp 68) (.const (.bool true)) (.tmp 74), 4, "race.go:14", #[⟨45, .data⟩, ⟨51, .data⟩, ⟨38, .guard⟩], some (38, true)⟩) (v := ?vg52) rfl (by kernel_rfl) (by kernel_rfl) (by kernel_rfl) (fun _ _ _ h => h) (Or.inl ⟨by rfl, ?yg52⟩) (by assumption) ?rg52
                        case yg52 => (intro w hSw; (try dsimp only at hSw); go_simp; try with_reducible rfl)
                        try simp only [Act.put, List.setIfInBounds_toArray, List.set_cons_zero, List.set_cons_succ]
                        refine wpAnyH_take (i := 53) (oi := ⟨some 76, .pick (.tmp 61) (.tmp 75) (.const (.bool false)), 4, "race.go:14", #[⟨38, .data⟩, ⟨52, .data⟩], none⟩) (v := ?vg53) rfl (by kernel_rfl) (by kernel_rfl) (by kernel_rfl) (fun _ _ _ h => h) (Or.inl ⟨by rfl, ?yg53⟩) (by assumption) ?rg53
                        case yg53 => (intro w hSw; (try dsimp only at hSw); go_simp; try with_reducible rfl)
                        refine wpAnyH_take (i := 54) (oi := ⟨some 77, .move (.tmp 76), 4, "race.go:14", #[⟨53, .data⟩, ⟨45, .chain⟩], none⟩) (v := ?vg54) rfl (by kernel_rfl) (by kernel_rfl) (by kernel_rfl) (fun _ _ _ h => h) (Or.inl ⟨by rfl, ?yg54⟩) (by assumption) ?rg54
                        case yg54 => (intro w hSw; (try dsimp only at hSw); go_simp; try with_reducible rfl)
                        refine wpAnyH_take (i := 55) (oi := ⟨some 78, .move (.tmp 5), 38, "race.go:14", #[⟨54, .guard⟩], some (54, true)⟩) (v := ?vg55) rfl (by kernel_rfl) (by kernel_rfl) (by kernel_rfl) (fun _ _ _ h => h) (Or.inl ⟨by rfl, ?yg55⟩) (by assumption) ?rg55
                        case yg55 => (intro w hSw; (try dsimp only at hSw); go_simp; try with_reducible rfl)
                        try simp only [Act.put, List.setIfInBounds_toArray, List.set_cons_zero, List.set_cons_succ]
                        refine wpAnyH_take (i := 56) (oi := ⟨some 79, .move (.tmp 7), 3, "race.go:14", #[⟨54, .guard⟩], some (54, true)⟩) (v := ?vg56) rfl (by kernel_rfl) (by kernel_rfl) (by kernel_rfl) (fun _ _ _ h => h) (Or.inl ⟨by rfl, ?yg56⟩) (by assumption) ?rg56
                        case yg56 => (intro w hSw; (try dsimp only at hSw); go_simp; try with_reducible rfl)
                        refine wpAnyH_take (i := 57) (oi := ⟨some 80, .indexAddr 38 (.tmp 78) (.tmp 79), 0, "race.go:14", #[⟨55, .data⟩, ⟨56, .data⟩, ⟨54, .guard⟩], some (54, true)⟩) (v := ?vg57) rfl (by kernel_rfl) (by kernel_rfl) (by kernel_rfl) (fun _ _ _ h => h) (Or.inl ⟨by rfl, ?yg57⟩) (by assumption) ?rg57
                        case yg57 => (intro w hSw; (try dsimp only at hSw); go_simp; try with_reducible rfl)
                        refine wpAnyH_take (i := 58) (oi := ⟨some 81, .load 42 (.tmp 80), 42, "race.go:14", #[⟨57, .data⟩, ⟨54, .guard⟩], some (54, true)⟩) (v := ?vg58) rfl (by kernel_rfl) (by kernel_rfl) (by kernel_rfl) (fun _ _ _ h => h) (Or.inl ⟨by rfl, ?yg58⟩) (by assumption) ?rg58
                        case yg58 => (intro w hSw; (try dsimp only at hSw); go_simp; try with_reducible rfl)
                        try simp only [Act.put, List.setIfInBounds_toArray, List.set_cons_zero, List.set_cons_succ]
                        refine wpAnyH_take (i := 59) (oi := ⟨some 82, .move (.tmp 8), 3, "race.go:14", #[⟨54, .guard⟩], some (54, true)⟩) (v := ?vg59) rfl (by kernel_rfl) (by kernel_rfl) (by kernel_rfl) (fun _ _ _ h => h) (Or.inl ⟨by rfl, ?yg59⟩) (by assumption) ?rg59
                        case yg59 => (intro w hSw; (try dsimp only at hSw); go_simp; try with_reducible rfl)
                        refine wpAnyH_take (i := 60) (oi := ⟨some 83, .indexAddr 42 (.tmp 81) (.tmp 82), 0, "race.go:14", #[⟨58, .data⟩, ⟨59, .data⟩, ⟨54, .guard⟩], some (54, true)⟩) (v := ?vg60) rfl (by kernel_rfl) (by kernel_rfl) (by kernel_rfl) (fun _ _ _ h => h) (Or.inl ⟨by rfl, ?yg60⟩) (by assumption) ?rg60
                        case yg60 => (intro w hSw; (try dsimp only at hSw); go_simp; try with_reducible rfl)
                        refine wpAnyH_take (i := 61) (oi := ⟨some 84, .load 4 (.tmp 83), 4, "race.go:14", #[⟨60, .data⟩, ⟨54, .guard⟩], some (54, true)⟩) (v := ?vg61) rfl (by kernel_rfl) (by kernel_rfl) (by kernel_rfl) (fun _ _ _ h => h) (Or.inl ⟨by rfl, ?yg61⟩) (by assumption) ?rg61
                        case yg61 => (intro w hSw; (try dsimp only at hSw); go_simp; try with_reducible rfl)
                        try simp only [Act.put, List.setIfInBounds_toArray, List.set_cons_zero, List.set_cons_succ]
                        refine wpAnyH_take (i := 62) (oi := ⟨some 85, .unOp .not 4 (.tmp 84), 4, "race.go:14", #[⟨61, .data⟩, ⟨54, .guard⟩], some (54, true)⟩) (v := ?vg62) rfl (by kernel_rfl) (by kernel_rfl) (by kernel_rfl) (fun _ _ _ h => h) (Or.inl ⟨by rfl, ?yg62⟩) (by assumption) ?rg62
                        case yg62 => (intro w hSw; (try dsimp only at hSw); go_simp; try with_reducible rfl)
                        refine wpAnyH_take (i := 63) (oi := ⟨some 86, .pick (.tmp 77) (.tmp 85) (.const (.bool false)), 4, "race.go:14", #[⟨54, .data⟩, ⟨62, .data⟩], none⟩) (v := ?vg63) rfl (by kernel_rfl) (by kernel_rfl) (by kernel_rfl) (fun _ _ _ h => h) (Or.inl ⟨by rfl, ?yg63⟩) (by assumption) ?rg63
                        case yg63 => (intro w hSw; (try dsimp only at hSw); go_simp; try with_reducible rfl)
                        try simp only [Act.put, List.setIfInBounds_toArray, List.set_cons_zero, List.set_cons_succ]
                        refine wpAnyH_done (by kernel_rfl) ?_ _
                        refine NoPanic.normal ?_
                        go_wp2_with fail
                        go_roundw
                        case rel => exact ⟨i + 1, a, r, c, by omega, by go_num, rfl, by omega, hide (by rw [unhide HO2]; exact unhide HRL), hide (by rw [unhide HO2]; exact (unhide HOi).below (unhide HX2)), hide (Below.next (unhide HBi) (unhide HX2) (Nat.le_of_eq (unhide HZ).symm))⟩
                        case measure => simp [intOf]; omega
                    · have xk : (ok == 13) = false := by simpa using hok
                      have HXK := hide xk
                      clear hok
                      have HNO : Hid (rcB hs l k i = false) := by show _ = _; rw [unhide HRC]; rw [unhide HEAI, unhide HEAK, unhide HTT, unhide HXI, unhide HXK]; simp
                      have HO2 : Hid (outI hs l k (i + 1) = outI hs l k i) := outI_no (unhide HNO)
                      go_upto_region 9 with fail
                      refine wp_region_noPanic ?_
                      refine wp_region_held_drew (S := (fun W' => W'.cell? ⟨tb, tof + i * 4, none⟩ = some (.int .i64 ti) ∧ W'.cell? ⟨tb, tof + i * 4 + 1, none⟩ = some (.int .i64 oi) ∧ W'.cell? ⟨tb, tof + i * 4 + 2, none⟩ = some (.int .i64 bi) ∧ W'.cell? ⟨tb, tof + i * 4 + 3, none⟩ = some (.int .i64 vi) ∧ W'.cell? ⟨tb, tof + k * 4, none⟩ = some (.int .i64 tk) ∧ W'.cell? ⟨tb, tof + k * 4 + 1, none⟩ = some (.int .i64 ok) ∧ W'.cell? ⟨tb, tof + k * 4 + 2, none⟩ = some (.int .i64 bi) ∧ W'.cell? ⟨tb, tof + k * 4 + 3, none⟩ = some (.int .i64 vk) ∧ W'.cell? ⟨R, k, none⟩ = some (.slice (some ⟨bf k, 0, none⟩) n0 n0) ∧ W'.cell? ⟨bf k, i, none⟩ = some (.bool rM))) (by kernel_rfl) (unhide HS0) (fun hHeld => ?_)
                      refine wpAnyH_take (i := 0) (oi := ⟨some 23, .move (.tmp 0), 22, "race.go:14", #[], none⟩) (v := ?vh0) rfl (by kernel_rfl) (by kernel_rfl) (by kernel_rfl) (fun _ _ _ h => h) (Or.inl ⟨by rfl, ?yh0⟩) (by assumption) ?rh0
                      case yh0 => (intro w hSw; (try dsimp only at hSw); go_simp; try with_reducible rfl)
                      refine wpAnyH_take (i := 1) (oi := ⟨some 24, .move (.tmp 8), 3, "race.go:14", #[], none⟩) (v := ?vh1) rfl (by kernel_rfl) (by kernel_rfl) (by kernel_rfl) (fun _ _ _ h => h) (Or.inl ⟨by rfl, ?yh1⟩) (by assumption) ?rh1
                      case yh1 => (intro w hSw; (try dsimp only at hSw); go_simp; try with_reducible rfl)
                      refine wpAnyH_take (i := 2) (oi := ⟨some 25, .indexAddr 22 (.tmp 23) (.tmp 24), 0, "race.go:14", #[⟨0, .data⟩, ⟨1, .data⟩], none⟩) (v := ?vh2) rfl (by kernel_rfl) (by kernel_rfl) (by kernel_rfl) (fun _ _ _ h => h) (Or.inl ⟨by rfl, ?yh2⟩) (by assumption) ?rh2
                      case yh2 => (intro w hSw; (try dsimp only at hSw); go_simp; try with_reducible rfl)
                      try simp only [Act.put, List.setIfInBounds_toArray, List.set_cons_zero, List.set_cons_succ]
                      refine wpAnyH_take (i := 3) (oi := ⟨some 26, .load 41 (.tmp 25), 41, "race.go:14", #[⟨2, .data⟩], none⟩) (v := ?vh3) rfl (by kernel_rfl) (by kernel_rfl) (by kernel_rfl) (fun _ _ _ h => h) (Or.inl ⟨by rfl, ?yh3⟩) (by assumption) ?rh3
                      case yh3 => (intro w hSw; (try dsimp only at hSw); go_simp; try with_reducible rfl)
                      try simp only [Act.put, List.setIfInBounds_toArray, List.set_cons_zero, List.set_cons_succ]
                      refine wpAnyH_ready (rs := [4]) (by kernel_rfl) (by simp) ?_
                      refine AllReadyH.cons (o := ⟨some 27, .call { callee := .value (.func 28), args := #[.tmp 26], argTypes := #[41] }, 4, "race.go:14", #[⟨3, .data⟩], none⟩) rfl (fun K hK => ?_) AllReadyH.nil
                      go_simp
                      (go_at_call 28; (with_reducible refine Calls.mono (unhide HAI _) ?_); rintro e w1 ⟨rfl, hb1⟩; have HX1 := hide (Below.next (Below.refl wr.heap.size wr).drew hb1 (Nat.le_refl _)); have HS1 := hide (unhide HSS _ (unhide HX1)); clear hb1)
                      refine hK.out _ _ (unhide HS1) (fun hHeld => ?_)
                      clear hK K
                      try simp only [Act.put, List.setIfInBounds_toArray, List.set_cons_zero, List.set_cons_succ]
                      refine wpAnyH_take (i := 5) (oi := ⟨some 28, .move (.tmp 27), 4, "race.go:14", #[⟨4, .data⟩, ⟨4, .chain⟩], none⟩) (v := ?vh5) rfl (by kernel_rfl) (by kernel_rfl) (by kernel_rfl) (fun _ _ _ h => h) (Or.inl ⟨by rfl, ?yh5⟩) (by assumption) ?rh5
                      case yh5 => (intro w hSw; (try dsimp only at hSw); go_simp; try with_reducible rfl)
                      refine wpAnyH_take (i := 6) (oi := ⟨some 29, .move (.tmp 0), 22, "race.go:14", #[⟨5, .guard⟩], some (5, true)⟩) (v := ?vh6) rfl (by kernel_rfl) (by kernel_rfl) (by kernel_rfl) (fun _ _ _ h => h) (Or.inl ⟨by rfl, ?yh6⟩) (by assumption) ?rh6
                      case yh6 => (intro w hSw; (try dsimp only at hSw); go_simp; try with_reducible rfl)
                      try simp only [Act.put, List.setIfInBounds_toArray, List.set_cons_zero, List.set_cons_succ]
                      refine wpAnyH_take (i := 7) (oi := ⟨some 30, .move (.tmp 7), 3, "race.go:14", #[⟨5, .guard⟩], some (5, true)⟩) (v := ?vh7) rfl (by kernel_rfl) (by kernel_rfl) (by kernel_rfl) (fun _ _ _ h => h) (Or.inl ⟨by rfl, ?yh7⟩) (by assumption) ?rh7
                      case yh7 => (intro w hSw; (try dsimp only at hSw); go_simp; try with_reducible rfl)
                      refine wpAnyH_take (i := 8) (oi := ⟨some 31, .indexAddr 22 (.tmp 29) (.tmp 30), 0, "race.go:14", #[⟨6, .data⟩, ⟨7, .data⟩, ⟨5, .guard⟩], some (5, true)⟩) (v := ?vh8) rfl (by kernel_rfl) (by kernel_rfl) (by kernel_rfl) (fun _ _ _ h => h) (Or.inl ⟨by rfl, ?yh8⟩) (by assumption) ?rh8
                      case yh8 => (intro w hSw; (try dsimp only at hSw); go_simp; try with_reducible rfl)
                      refine wpAnyH_take (i := 9) (oi := ⟨some 32, .load 41 (.tmp 31), 41, "race.go:14", #[⟨8, .data⟩, ⟨5, .guard⟩], some (5, true)⟩) (v := ?vh9) rfl (by kernel_rfl) (by kernel_rfl) (by kernel_rfl) (fun _ _ _ h => h) (Or.inl ⟨by rfl, ?yh9⟩) (by assumption) ?rh9
                      case yh9 => (intro w hSw; (try dsimp only at hSw); go_simp; try with_reducible rfl)
                      try simp only [Act.put, List.setIfInBounds_toArray, List.set_cons_zero, List.set_cons_succ]
                      refine wpAnyH_ready (rs := [10]) (by kernel_rfl) (by simp) ?_
                      refine AllReadyH.cons (o := ⟨some 33, .call { callee := .value (.func 28), args := #[.tmp 32], argTypes := #[41] }, 4, "race.go:14", #[⟨9, .data⟩, ⟨5, .chain⟩, ⟨5, .guard⟩], some (5, true)⟩) rfl (fun K hK => ?_) AllReadyH.nil
                      go_simp
                      (go_at_call 28; (with_reducible refine Calls.mono (unhide HAK _) ?_); rintro e w2 ⟨rfl, hb2⟩; have HX2 := hide (Below.next (unhide HX1) hb2 (Nat.le_refl _)); have HS2 := hide (unhide HSS _ (unhide HX2)); clear hb2)
                      refine hK.out _ _ (unhide HS2) (fun hHeld => ?_)
                      clear hK K
                      try simp only [Act.put, List.setIfInBounds_toArray, List.set_cons_zero, List.set_cons_succ]
                      refine wpAnyH_take (i := 11) (oi := ⟨some 34, .pick (.tmp 28) (.tmp 33) (.const (.bool false)), 4, "race.go:14", #[⟨5, .data⟩, ⟨10, .data⟩], none⟩) (v := ?vh11) rfl (by kernel_rfl) (by kernel_rfl) (by kernel_rfl) (fun _ _ _ h => h) (Or.inl ⟨by rfl, ?yh11⟩) (by assumption) ?rh11
                      case yh11 => (intro w hSw; (try dsimp only at hSw); go_simp; try with_reducible rfl)
                      refine wpAnyH_take (i := 12) (oi := ⟨some 35, .move (.tmp 34), 4, "race.go:14", #[⟨11, .data⟩, ⟨10, .chain⟩], none⟩) (v := ?vh12) rfl (by kernel_rfl) (by kernel_rfl) (by kernel_rfl) (fun _ _ _ h => h) (Or.inl ⟨by rfl, ?yh12⟩) (by assumption) ?rh12
                      case yh12 => (intro w hSw; (try dsimp only at hSw); go_simp; try with_reducible rfl)
                      refine wpAnyH_take (i := 13) (oi := ⟨some 36, .move (.tmp 0), 22, "race.go:14", #[⟨12, .guard⟩], some (12, true)⟩) (v := ?vh13) rfl (by kernel_rfl) (by kernel_rfl) (by kernel_rfl) (fun _ _ _ h => h) (Or.inl ⟨by rfl, ?yh13⟩) (by assumption) ?rh13
                      case yh13 => (intro w hSw; (try dsimp only at hSw); go_simp; try with_reducible rfl)
                      try simp only [Act.put, List.setIfInBounds_toArray, List.set_cons_zero, List.set_cons_succ]
                      refine wpAnyH_take (i := 14) (oi := ⟨some 37, .move (.tmp 8), 3, "race.go:14", #[⟨12, .guard⟩], some (12, true)⟩) (v := ?vh14) rfl (by kernel_rfl) (by kernel_rfl) (by kernel_rfl) (fun _ _ _ h => h) (Or.inl ⟨by rfl, ?yh14⟩) (by assumption) ?rh14
                      case yh14 => (intro w hSw; (try dsimp only at hSw); go_simp; try with_reducible rfl)
                      refine wpAnyH_take (i := 15) (oi := ⟨some 38, .indexAddr 22 (.tmp 36) (.tmp 37), 0, "race.go:14", #[⟨13, .data⟩, ⟨14, .data⟩, ⟨12, .guard⟩], some (12, true)⟩) (v := ?vh15) rfl (by kernel_rfl) (by kernel_rfl) (by kernel_rfl) (fun _ _ _ h => h) (Or.inl ⟨by rfl, ?yh15⟩) (by assumption) ?rh15
                      case yh15 => (intro w hSw; (try dsimp only at hSw); go_simp; try with_reducible rfl)
                      refine wpAnyH_take (i := 16) (oi := ⟨some 39, .fieldAddr 41 (.tmp 38) 2, 0, "race.go:14", #[⟨15, .data⟩, ⟨12, .guard⟩], some (12, true)⟩) (v := ?vh16) rfl (by kernel_rfl) (by kernel_rfl) (by kernel_rfl) (fun _ _ _ h => h) (Or.inl ⟨by rfl, ?yh16⟩) (by assumption) ?rh16
                      case yh16 => (intro w hSw; (try dsimp only at hSw); go_simp; try with_reducible rfl)
                      try simp only [Act.put, List.setIfInBounds_toArray, List.set_cons_zero, List.set_cons_succ]
                      refine wpAnyH_take (i := 17) (oi := ⟨some 40, .load 3 (.tmp 39), 3, "race.go:14", #[⟨16, .data⟩, ⟨12, .guard⟩], some (12, true)⟩) (v := ?vh17) rfl (by kernel_rfl) (by kernel_rfl) (by kernel_rfl) (fun _ _ _ h => h) (Or.inl ⟨by rfl, ?yh17⟩) (by assumption) ?rh17
                      case yh17 => (intro w hSw; (try dsimp only at hSw); go_simp; try with_reducible rfl)
                      refine wpAnyH_take (i := 18) (oi := ⟨some 41, .move (.tmp 0), 22, "race.go:14", #[⟨12, .guard⟩], some (12, true)⟩) (v := ?vh18) rfl (by kernel_rfl) (by kernel_rfl) (by kernel_rfl) (fun _ _ _ h => h) (Or.inl ⟨by rfl, ?yh18⟩) (by assumption) ?rh18
                      case yh18 => (intro w hSw; (try dsimp only at hSw); go_simp; try with_reducible rfl)
                      refine wpAnyH_take (i := 19) (oi := ⟨some 42, .move (.tmp 7), 3, "race.go:14", #[⟨12, .guard⟩], some (12, true)⟩) (v := ?vh19) rfl (by kernel_rfl) (by kernel_rfl) (by kernel_rfl) (fun _ _ _ h => h) (Or.inl ⟨by rfl, ?yh19⟩) (by assumption) ?rh19
                      case yh19 => (intro w hSw; (try dsimp only at hSw); go_simp; try with_reducible rfl)
                      try simp only [Act.put, List.setIfInBounds_toArray, List.set_cons_zero, List.set_cons_succ]
                      refine wpAnyH_take (i := 20) (oi := ⟨some 43, .indexAddr 22 (.tmp 41) (.tmp 42), 0, "race.go:14", #[⟨18, .data⟩, ⟨19, .data⟩, ⟨12, .guard⟩], some (12, true)⟩) (v := ?vh20) rfl (by kernel_rfl) (by kernel_rfl) (by kernel_rfl) (fun _ _ _ h => h) (Or.inl ⟨by rfl, ?yh20⟩) (by assumption) ?rh20
                      case yh20 => (intro w hSw; (try dsimp only at hSw); go_simp; try with_reducible rfl)
                      refine wpAnyH_take (i := 21) (oi := ⟨some 44, .fieldAddr 41 (.tmp 43) 2, 0, "race.go:14", #[⟨20, .data⟩, ⟨12, .guard⟩], some (12, true)⟩) (v := ?vh21) rfl (by kernel_rfl) (by kernel_rfl) (by kernel_rfl) (fun _ _ _ h => h) (Or.inl ⟨by rfl, ?yh21⟩) (by assumption) ?rh21
                      case yh21 => (intro w hSw; (try dsimp only at hSw); go_simp; try with_reducible rfl)
                      refine wpAnyH_take (i := 22) (oi := ⟨some 45, .load 3 (.tmp 44), 3, "race.go:14", #[⟨21, .data⟩, ⟨12, .guard⟩], some (12, true)⟩) (v := ?vh22) rfl (by kernel_rfl) (by kernel_rfl) (by kernel_rfl) (fun _ _ _ h => h) (Or.inl ⟨by rfl, ?yh22⟩) (by assumption) ?rh22
                      case yh22 => (intro w hSw; (try dsimp only at hSw); go_simp; try with_reducible rfl)
                      try simp only [Act.put, List.setIfInBounds_toArray, List.set_cons_zero, List.set_cons_succ]
                      refine wpAnyH_take (i := 23) (oi := ⟨some 46, .binOp .eql 3 (.tmp 40) (.tmp 45) 3, 4, "race.go:14", #[⟨17, .data⟩, ⟨22, .data⟩, ⟨12, .guard⟩], some (12, true)⟩) (v := ?vh23) rfl (by kernel_rfl) (by kernel_rfl) (by kernel_rfl) (fun _ _ _ h => h) (Or.inl ⟨by rfl, ?yh23⟩) (by assumption) ?rh23
                      case yh23 => (intro w hSw; (try dsimp only at hSw); go_simp; try with_reducible rfl)
                      refine wpAnyH_take (i := 24) (oi := ⟨some 47, .pick (.tmp 35) (.tmp 46) (.const (.bool false)), 4, "race.go:14", #[⟨12, .data⟩, ⟨23, .data⟩], none⟩) (v := ?vh24) rfl (by kernel_rfl) (by kernel_rfl) (by kernel_rfl) (fun _ _ _ h => h) (Or.inl ⟨by rfl, ?yh24⟩) (by assumption) ?rh24
                      case yh24 => (intro w hSw; (try dsimp only at hSw); go_simp; try with_reducible rfl)
                      refine wpAnyH_take (i := 25) (oi := ⟨some 48, .move (.tmp 47), 4, "race.go:14", #[⟨24, .data⟩, ⟨12, .chain⟩], none⟩) (v := ?vh25) rfl (by kernel_rfl) (by kernel_rfl) (by kernel_rfl) (fun _ _ _ h => h) (Or.inl ⟨by rfl, ?yh25⟩) (by assumption) ?rh25
                      case yh25 => (intro w hSw; (try dsimp only at hSw); go_simp; try with_reducible rfl)
                      try simp only [Act.put, List.setIfInBounds_toArray, List.set_cons_zero, List.set_cons_succ]
                      refine wpAnyH_take (i := 26) (oi := ⟨some 49, .move (.tmp 0), 22, "race.go:14", #[⟨25, .guard⟩], some (25, true)⟩) (v := ?vh26) rfl (by kernel_rfl) (by kernel_rfl) (by kernel_rfl) (fun _ _ _ h => h) (Or.inl ⟨by rfl, ?yh26⟩) (by assumption) ?rh26
                      case yh26 => (intro w hSw; (try dsimp only at hSw); go_simp; try with_reducible rfl)
                      refine wpAnyH_take (i := 27) (oi := ⟨some 50, .move (.tmp 8), 3, "race.go:14", #[⟨25, .guard⟩], some (25, true)⟩) (v := ?vh27) rfl (by kernel_rfl) (by kernel_rfl) (by kernel_rfl) (fun _ _ _ h => h) (Or.inl ⟨by rfl, ?yh27⟩) (by assumption) ?rh27
                      case yh27 => (intro w hSw; (try dsimp only at hSw); go_simp; try with_reducible rfl)
                      refine wpAnyH_take (i := 28) (oi := ⟨some 51, .indexAddr 22 (.tmp 49) (.tmp 50), 0, "race.go:14", #[⟨26, .data⟩, ⟨27, .data⟩, ⟨25, .guard⟩], some (25, true)⟩) (v := ?vh28) rfl (by kernel_rfl) (by kernel_rfl) (by kernel_rfl) (fun _ _ _ h => h) (Or.inl ⟨by rfl, ?yh28⟩) (by assumption) ?rh28
                      case yh28 => (intro w hSw; (try dsimp only at hSw); go_simp; try with_reducible rfl)
                      try simp only [Act.put, List.setIfInBounds_toArray, List.set_cons_zero, List.set_cons_succ]
                      refine wpAnyH_take (i := 29) (oi := ⟨some 52, .fieldAddr 41 (.tmp 51) 0, 0, "race.go:14", #[⟨28, .data⟩, ⟨25, .guard⟩], some (25, true)⟩) (v := ?vh29) rfl (by kernel_rfl) (by kernel_rfl) (by kernel_rfl) (fun _ _ _ h => h) (Or.inl ⟨by rfl, ?yh29⟩) (by assumption) ?rh29
                      case yh29 => (intro w hSw; (try dsimp only at hSw); go_simp; try with_reducible rfl)
                      refine wpAnyH_take (i := 30) (oi := ⟨some 53, .load 3 (.tmp 52), 3, "race.go:14", #[⟨29, .data⟩, ⟨25, .guard⟩], some (25, true)⟩) (v := ?vh30) rfl (by kernel_rfl) (by kernel_rfl) (by kernel_rfl) (fun _ _ _ h => h) (Or.inl ⟨by rfl, ?yh30⟩) (by assumption) ?rh30
                      case yh30 => (intro w hSw; (try dsimp only at hSw); go_simp; try with_reducible rfl)
                      refine wpAnyH_take (i := 31) (oi := ⟨some 54, .move (.tmp 0), 22, "race.go:14", #[⟨25, .guard⟩], some (25, true)⟩) (v := ?vh31) rfl (by kernel_rfl) (by kernel_rfl) (by kernel_rfl) (fun _ _ _ h => h) (Or.inl ⟨by rfl, ?yh31⟩) (by assumption) ?rh31
                      case yh31 => (intro w hSw; (try dsimp only at hSw); go_simp; try with_reducible rfl)
                      try simp only [Act.put, List.setIfInBounds_toArray, List.set_cons_zero, List.set_cons_succ]
                      refine wpAnyH_take (i := 32) (oi := ⟨some 55, .move (.tmp 7), 3, "race.go:14", #[⟨25, .guard⟩], some (25, true)⟩) (v := ?vh32) rfl (by kernel_rfl) (by kernel_rfl) (by kernel_rfl) (fun _ _ _ h => h) (Or.inl ⟨by rfl, ?yh32⟩) (by assumption) ?rh32
                      case yh32 => (intro w hSw; (try dsimp only at hSw); go_simp; try with_reducible rfl)
                      refine wpAnyH_take (i := 33) (oi := ⟨some 56, .indexAddr 22 (.tmp 54) (.tmp 55), 0, "race.go:14", #[⟨31, .data⟩, ⟨32, .data⟩, ⟨25, .guard⟩], some (25, true)⟩) (v := ?vh33) rfl (by kernel_rfl) (by kernel_rfl) (by kernel_rfl) (fun _ _ _ h => h) (Or.inl ⟨by rfl, ?yh33⟩) (by assumption) ?rh33
                      case yh33 => (intro w hSw; (try dsimp only at hSw); go_simp; try with_reducible rfl)
                      refine wpAnyH_take (i := 34) (oi := ⟨some 57, .fieldAddr 41 (.tmp 56) 0, 0, "race.go:14", #[⟨33, .data⟩, ⟨25, .guard⟩], some (25, true)⟩) (v := ?vh34) rfl (by kernel_rfl) (by kernel_rfl) (by kernel_rfl) (fun _ _ _ h => h) (Or.inl ⟨by rfl, ?yh34⟩) (by assumption) ?rh34
                      case yh34 => (intro w hSw; (try dsimp only at hSw); go_simp; try with_reducible rfl)
                      try simp only [Act.put, List.setIfInBounds_toArray, List.set_cons_zero, List.set_cons_succ]
                      refine wpAnyH_take (i := 35) (oi := ⟨some 58, .load 3 (.tmp 57), 3, "race.go:14", #[⟨34, .data⟩, ⟨25, .guard⟩], some (25, true)⟩) (v := ?vh35) rfl (by kernel_rfl) (by kernel_rfl) (by kernel_rfl) (fun _ _ _ h => h) (Or.inl ⟨by rfl, ?yh35⟩) (by assumption) ?rh35
                      case yh35 => (intro w hSw; (try dsimp only at hSw); go_simp; try with_reducible rfl)
                      refine wpAnyH_take (i := 36) (oi := ⟨some 59, .binOp .neq 3 (.tmp 53) (.tmp 58) 3, 4, "race.go:14", #[⟨30, .data⟩, ⟨35, .data⟩, ⟨25, .guard⟩], some (25, true)⟩) (v := ?vh36) rfl (by kernel_rfl) (by kernel_rfl) (by kernel_rfl) (fun _ _ _ h => h) (Or.inl ⟨by rfl, ?yh36⟩) (by assumption) ?rh36
                      case yh36 => (intro w hSw; (try dsimp only at hSw); go_simp; try with_reducible rfl)
                      refine wpAnyH_take (i := 37) (oi := ⟨some 60, .pick (.tmp 48) (.tmp 59) (.const (.bool false)), 4, "race.go:14", #[⟨25, .data⟩, ⟨36, .data⟩], none⟩) (v := ?vh37) rfl (by kernel_rfl) (by kernel_rfl) (by kernel_rfl) (fun _ _ _ h => h) (Or.inl ⟨by rfl, ?yh37⟩) (by assumption) ?rh37
                      case yh37 => (intro w hSw; (try dsimp only at hSw); go_simp; try with_reducible rfl)
                      try simp only [Act.put, List.setIfInBounds_toArray, List.set_cons_zero, List.set_cons_succ]
                      refine wpAnyH_take (i := 38) (oi := ⟨some 61, .move (.tmp 60), 4, "race.go:14", #[⟨37, .data⟩, ⟨25, .chain⟩], none⟩) (v := ?vh38) rfl (by kernel_rfl) (by kernel_rfl) (by kernel_rfl) (fun _ _ _ h => h) (Or.inl ⟨by rfl, ?yh38⟩) (by assumption) ?rh38
                      case yh38 => (intro w hSw; (try dsimp only at hSw); go_simp; try with_reducible rfl)
                      refine wpAnyH_take (i := 39) (oi := ⟨some 62, .move (.tmp 0), 22, "race.go:14", #[⟨38, .guard⟩], some (38, true)⟩) (v := ?vh39) rfl (by kernel_rfl) (by kernel_rfl) (by kernel_rfl) (fun _ _ _ h => h) (Or.inl ⟨by rfl, ?yh39⟩) (by assumption) ?rh39
                      case yh39 => (intro w hSw; (try dsimp only at hSw); go_simp; try with_reducible rfl)
                      refine wpAnyH_take (i := 40) (oi := ⟨some 63, .move (.tmp 8), 3, "race.go:14", #[⟨38, .guard⟩], some (38, true)⟩) (v := ?vh40) rfl (by kernel_rfl) (by kernel_rfl) (by kernel_rfl) (fun _ _ _ h => h) (Or.inl ⟨by rfl, ?yh40⟩) (by assumption) ?rh40
                      case yh40 => (intro w hSw; (try dsimp only at hSw); go_simp; try with_reducible rfl)
                      try simp only [Act.put, List.setIfInBounds_toArray, List.set_cons_zero, List.set_cons_succ]
                      refine wpAnyH_take (i := 41) (oi := ⟨some 64, .indexAddr 22 (.tmp 62) (.tmp 63), 0, "race.go:14", #[⟨39, .data⟩, ⟨40, .data⟩, ⟨38, .guard⟩], some (38, true)⟩) (v := ?vh41) rfl (by kernel_rfl) (by kernel_rfl) (by kernel_rfl) (fun _ _ _ h => h) (Or.inl ⟨by rfl, ?yh41⟩) (by assumption) ?rh41
                      case yh41 => (intro w hSw; (try dsimp only at hSw); go_simp; try with_reducible rfl)
                      refine wpAnyH_take (i := 42) (oi := ⟨some 65, .fieldAddr 41 (.tmp 64) 1, 0, "race.go:14", #[⟨41, .data⟩, ⟨38, .guard⟩], some (38, true)⟩) (v := ?vh42) rfl (by kernel_rfl) (by kernel_rfl) (by kernel_rfl) (fun _ _ _ h => h) (Or.inl ⟨by rfl, ?yh42⟩) (by assumption) ?rh42
                      case yh42 => (intro w hSw; (try dsimp only at hSw); go_simp; try with_reducible rfl)
                      refine wpAnyH_take (i := 43) (oi := ⟨some 66, .load 3 (.tmp 65), 3, "race.go:14", #[⟨42, .data⟩, ⟨38, .guard⟩], some (38, true)⟩) (v := ?vh43) rfl (by kernel_rfl) (by kernel_rfl) (by kernel_rfl) (fun _ _ _ h => h) (Or.inl ⟨by rfl, ?yh43⟩) (by assumption) ?rh43
                      case yh43 => (intro w hSw; (try dsimp only at hSw); go_simp; try with_reducible rfl)
                      try simp only [Act.put, List.setIfInBounds_toArray, List.set_cons_zero, List.set_cons_succ]
                      refine wpAnyH_take (i := 44) (oi := ⟨some 67, .binOp .eql 3 (.tmp 66) (.const (.int .i64 13)) 3, 4, "race.go:14", #[⟨43, .data⟩, ⟨38, .guard⟩], some (38, true)⟩) (v := ?vh44) rfl (by kernel_rfl) (by kernel_rfl) (by kernel_rfl) (fun _ _ _ h => h) (Or.inl ⟨by rfl, ?yh44⟩) (by assumption) ?rh44
                      case yh44 => (intro w hSw; (try dsimp only at hSw); go_simp; try with_reducible rfl)
                      refine wpAnyH_take (i := 45) (oi := ⟨some 68, .move (.tmp 67), 4, "race.go:14", #[⟨44, .data⟩, ⟨38, .chain⟩, ⟨38, .guard⟩], some (38, true)⟩) (v := ?vh45) rfl (by kernel_rfl) (by kernel_rfl) (by kernel_rfl) (fun _ _ _ h => h) (Or.inl ⟨by rfl, ?yh45⟩) (by assumption) ?rh45
                      case yh45 => (intro w hSw; (try dsimp only at hSw); go_simp; try with_reducible rfl)
                      refine wpAnyH_take (i := 46) (oi := ⟨some 69, .move (.tmp 0), 22, "race.go:14", #[⟨45, .guard⟩], some (45, false)⟩) (v := ?vh46) rfl (by kernel_rfl) (by kernel_rfl) (by kernel_rfl) (fun _ _ _ h => h) (Or.inl ⟨by rfl, ?yh46⟩) (by assumption) ?rh46
                      case yh46 => (intro w hSw; (try dsimp only at hSw); go_simp; try with_reducible rfl)
                      try simp only [Act.put, List.setIfInBounds_toArray, List.set_cons_zero, List.set_cons_succ]
                      refine wpAnyH_take (i := 47) (oi := ⟨some 70, .move (.tmp 7), 3, "race.go:14", #[⟨45, .guard⟩], some (45, false)⟩) (v := ?vh47) rfl (by kernel_rfl) (by kernel_rfl) (by kernel_rfl) (fun _ _ _ h => h) (Or.inl ⟨by rfl, ?yh47⟩) (by assumption) ?rh47
                      case yh47 => (intro w hSw; (try dsimp only at hSw); go_simp; try with_reducible rfl)
                      refine wpAnyH_take (i := 48) (oi := ⟨some 71, .indexAddr 22 (.tmp 69) (.tmp 70), 0, "race.go:14", #[⟨46, .data⟩, ⟨47, .data⟩, ⟨45, .guard⟩], some (45, false)⟩) (v := ?vh48) rfl (by kernel_rfl) (by kernel_rfl) (by kernel_rfl) (fun _ _ _ h => h) (Or.inl ⟨by rfl, ?yh48⟩) (by assumption) ?rh48
                      case yh48 => (intro w hSw; (try dsimp only at hSw); go_simp; try with_reducible rfl)
                      refine wpAnyH_take (i := 49) (oi := ⟨some 72, .fieldAddr 41 (.tmp 71) 1, 0, "race.go:14", #[⟨48, .data⟩, ⟨45, .guard⟩], some (45, false)⟩) (v := ?vh49) rfl (by kernel_rfl) (by kernel_rfl) (by kernel_rfl) (fun _ _ _ h => h) (Or.inl ⟨by rfl, ?yh49⟩) (by assumption) ?rh49
                      case yh49 => (intro w hSw; (try dsimp only at hSw); go_simp; try with_reducible rfl)
                      try simp only [Act.put, List.setIfInBounds_toArray, List.set_cons_zero, List.set_cons_succ]
                      refine wpAnyH_take (i := 50) (oi := ⟨some 73, .load 3 (.tmp 72), 3, "race.go:14", #[⟨49, .data⟩, ⟨45, .guard⟩], some (45, false)⟩) (v := ?vh50) rfl (by kernel_rfl) (by kernel_rfl) (by kernel_rfl) (fun _ _ _ h => h) (Or.inl ⟨by rfl, ?yh50⟩) (by assumption) ?rh50
                      case yh50 => (intro w hSw; (try dsimp only at hSw); go_simp; try with_reducible rfl)
                      refine wpAnyH_take (i := 51) (oi := ⟨some 74, .binOp .eql 3 (.tmp 73) (.const (.int .i64 13)) 3, 4, "race.go:14", #[⟨50, .data⟩, ⟨45, .guard⟩], some (45, false)⟩) (v := ?vh51) rfl (by kernel_rfl) (by kernel_rfl) (by kernel_rfl) (fun _ _ _ h => h) (Or.inl ⟨by rfl, ?yh51⟩) (by assumption) ?rh51
                      case yh51 => (intro w hSw; (try dsimp only at hSw); go_simp; try with_reducible rfl)
                      refine wpAnyH_take (i := 52) (oi := ⟨some 75, .pick (.tmp 68) (.const (.bool true)) (.tmp 74), 4, "race.go:14", #[⟨45, .data⟩, ⟨51, .data⟩, ⟨38, .guard⟩], some (38, true)⟩) (v := ?vh52) rfl (by kernel_rfl) (by kernel_rfl) (by kernel_rfl) (fun _ _ _ h => h) (Or.inl ⟨by rfl, ?yh52⟩) (by assumption) ?rh52
                      case yh52 => (intro w hSw; (try dsimp only at hSw); go_simp; try with_reducible rfl)
                      try simp only [Act.put, List.setIfInBounds_toArray, List.set_cons_zero, List.set_cons_succ]
                      refine wpAnyH_take (i := 53) (oi := ⟨some 76, .pick (.tmp 61) (.tmp 75) (.const (.bool false)), 4, "race.go:14", #[⟨38, .data⟩, ⟨52, .data⟩], none⟩) (v := ?vh53) rfl (by kernel_rfl) (by kernel_rfl) (by kernel_rfl) (fun _ _ _ h => h) (Or.inl ⟨by rfl, ?yh53⟩) (by assumption) ?rh53
                      case yh53 => (intro w hSw; (try dsimp only at hSw); go_simp; try with_reducible rfl)
                      refine wpAnyH_take (i := 54) (oi := ⟨some 77, .move (.tmp 76), 4, "race.go:14", #[⟨53, .data⟩, ⟨45, .chain⟩], none⟩) (v := ?vh54) rfl (by kernel_rfl) (by kernel_rfl) (by kernel_rfl) (fun _ _ _ h => h) (Or.inl ⟨by rfl, ?yh54⟩) (by assumption) ?rh54
                      case yh54 => (intro w hSw; (try dsimp only at hSw); go_simp; try with_reducible rfl)
                      refine wpAnyH_take (i := 55) (oi := ⟨some 78, .move (.tmp 5), 38, "race.go:14", #[⟨54, .guard⟩], some (54, true)⟩) (v := undef) rfl (by kernel_rfl) (by kernel_rfl) (by kernel_rfl) (fun _ _ _ h => h) (Or.inr ⟨by rfl, rfl⟩) (by assumption) ?_
                      try simp only [Act.put, List.setIfInBounds_toArray, List.set_cons_zero, List.set_cons_succ]
                      refine wpAnyH_take (i := 56) (oi := ⟨some 79, .move (.tmp 7), 3, "race.go:14", #[⟨54, .guard⟩], some (54, true)⟩) (v := undef) rfl (by kernel_rfl) (by kernel_rfl) (by kernel_rfl) (fun _ _ _ h => h) (Or.inr ⟨by rfl, rfl⟩) (by assumption) ?_
                      refine wpAnyH_take (i := 57) (oi := ⟨some 80, .indexAddr 38 (.tmp 78) (.tmp 79), 0, "race.go:14", #[⟨55, .data⟩, ⟨56, .data⟩, ⟨54, .guard⟩], some (54, true)⟩) (v := undef) rfl (by kernel_rfl) (by kernel_rfl) (by kernel_rfl) (fun _ _ _ h => h) (Or.inr ⟨by rfl, rfl⟩) (by assumption) ?_
                      refine wpAnyH_take (i := 58) (oi := ⟨some 81, .load 42 (.tmp 80), 42, "race.go:14", #[⟨57, .data⟩, ⟨54, .guard⟩], some (54, true)⟩) (v := undef) rfl (by kernel_rfl) (by kernel_rfl) (by kernel_rfl) (fun _ _ _ h => h) (Or.inr ⟨by rfl, rfl⟩) (by assumption) ?_
                      try simp only [Act.put, List.setIfInBounds_toArray, List.set_cons_zero, List.set_cons_succ]
                      refine wpAnyH_take (i := 59) (oi := ⟨some 82, .move (.tmp 8), 3, "race.go:14", #[⟨54, .guard⟩], some (54, true)⟩) (v := undef) rfl (by kernel_rfl) (by kernel_rfl) (by kernel_rfl) (fun _ _ _ h => h) (Or.inr ⟨by rfl, rfl⟩) (by assumption) ?_
                      refine wpAnyH_take (i := 60) (oi := ⟨some 83, .indexAddr 42 (.tmp 81) (.tmp 82), 0, "race.go:14", #[⟨58, .data⟩, ⟨59, .data⟩, ⟨54, .guard⟩], some (54, true)⟩) (v := undef) rfl (by kernel_rfl) (by kernel_rfl) (by kernel_rfl) (fun _ _ _ h => h) (Or.inr ⟨by rfl, rfl⟩) (by assumption) ?_
                      refine wpAnyH_take (i := 61) (oi := ⟨some 84, .load 4 (.tmp 83), 4, "race.go:14", #[⟨60, .data⟩, ⟨54, .guard⟩], some (54, true)⟩) (v := undef) rfl (by kernel_rfl) (by kernel_rfl) (by kernel_rfl) (fun _ _ _ h => h) (Or.inr ⟨by rfl, rfl⟩) (by assumption) ?_
                      try simp only [Act.put, List.setIfInBounds_toArray, List.set_cons_zero, List.set_cons_succ]
                      refine wpAnyH_take (i := 62) (oi := ⟨some 85, .unOp .not 4 (.tmp 84), 4, "race.go:14", #[⟨61, .data⟩, ⟨54, .guard⟩], some (54, true)⟩) (v := undef) rfl (by kernel_rfl) (by kernel_rfl) (by kernel_rfl) (fun _ _ _ h => h) (Or.inr ⟨by rfl, rfl⟩) (by assumption) ?_
                      refine wpAnyH_take (i := 63) (oi := ⟨some 86, .pick (.tmp 77) (.tmp 85) (.const (.bool false)), 4, "race.go:14", #[⟨54, .data⟩, ⟨62, .data⟩], none⟩) (v := ?vh63) rfl (by kernel_rfl) (by kernel_rfl) (by kernel_rfl) (fun _ _ _ h => h) (Or.inl ⟨by rfl, ?yh63⟩) (by assumption) ?rh63
                      case yh63 => (intro w hSw; (try dsimp only at hSw); go_simp; try with_reducible rfl)
                      try simp only [Act.put, List.setIfInBounds_toArray, List.set_cons_zero, List.set_cons_succ]
                      refine wpAnyH_done (by kernel_rfl) ?_ _
                      refine NoPanic.normal ?_
                      go_wp2_with fail
                      go_roundw
                      case rel => exact ⟨i + 1, a, r, c, by omega, by go_num, rfl, by omega, hide (by rw [unhide HO2]; exact unhide HRL), hide (by rw [unhide HO2]; exact (unhide HOi).below (unhide HX2)), hide (Below.next (unhide HBi) (unhide HX2) (Nat.le_of_eq (unhide HZ).symm))⟩
                      case measure => simp [intOf]; omega
              · have xo : (bi == bk) = false := by simpa using hob
                have HXO := hide xo
                clear hob
                have HNO : Hid (rcB hs l k i = false) := by show _ = _; rw [unhide HRC]; rw [unhide HEAI, unhide HEAK, unhide HXO]; rfl
                have HO2 : Hid (outI hs l k (i + 1) = outI hs l k i) := outI_no (unhide HNO)
                go_upto_region 9 with fail
                refine wp_region_noPanic ?_
                refine wp_region_held_drew (S := (fun W' => W'.cell? ⟨tb, tof + i * 4, none⟩ = some (.int .i64 ti) ∧ W'.cell? ⟨tb, tof + i * 4 + 1, none⟩ = some (.int .i64 oi) ∧ W'.cell? ⟨tb, tof + i * 4 + 2, none⟩ = some (.int .i64 bi) ∧ W'.cell? ⟨tb, tof + i * 4 + 3, none⟩ = some (.int .i64 vi) ∧ W'.cell? ⟨tb, tof + k * 4, none⟩ = some (.int .i64 tk) ∧ W'.cell? ⟨tb, tof + k * 4 + 1, none⟩ = some (.int .i64 ok) ∧ W'.cell? ⟨tb, tof + k * 4 + 2, none⟩ = some (.int .i64 bk) ∧ W'.cell? ⟨tb, tof + k * 4 + 3, none⟩ = some (.int .i64 vk) ∧ W'.cell? ⟨R, k, none⟩ = some (.slice (some ⟨bf k, 0, none⟩) n0 n0) ∧ W'.cell? ⟨bf k, i, none⟩ = some (.bool rM))) (by kernel_rfl) (unhide HS0) (fun hHeld => ?_)
                refine wpAnyH_take (i := 0) (oi := ⟨some 23, .move (.tmp 0), 22, "race.go:14", #[], none⟩) (v := ?vi0) rfl (by kernel_rfl) (by kernel_rfl) (by kernel_rfl) (fun _ _ _ h => h) (Or.inl ⟨by rfl, ?yi0⟩) (by assumption) ?ri0
                case yi0 => (intro w hSw; (try dsimp only at hSw); go_simp; try with_reducible rfl)
                refine wpAnyH_take (i := 1) (oi := ⟨some 24, .move (.tmp 8), 3, "race.go:14", #[], none⟩) (v := ?vi1) rfl (by kernel_rfl) (by kernel_rfl) (by kernel_rfl) (fun _ _ _ h => h) (Or.inl ⟨by rfl, ?yi1⟩) (by assumption) ?ri1
                case yi1 => (intro w hSw; (try dsimp only at hSw); go_simp; try with_reducible rfl)
                refine wpAnyH_take (i := 2) (oi := ⟨some 25, .indexAddr 22 (.tmp 23) (.tmp 24), 0, "race.go:14", #[⟨0, .data⟩, ⟨1, .data⟩], none⟩) (v := ?vi2) rfl (by kernel_rfl) (by kernel_rfl) (by kernel_rfl) (fun _ _ _ h => h) (Or.inl ⟨by rfl, ?yi2⟩) (by assumption) ?ri2
                case yi2 => (intro w hSw; (try dsimp only at hSw); go_simp; try with_reducible rfl)
                try simp only [Act.put, List.setIfInBounds_toArray, List.set_cons_zero, List.set_cons_succ]
                refine wpAnyH_take (i := 3) (oi := ⟨some 26, .load 41 (.tmp 25), 41, "race.go:14", #[⟨2, .data⟩], none⟩) (v := ?vi3) rfl (by kernel_rfl) (by kernel_rfl) (by kernel_rfl) (fun _ _ _ h => h) (Or.inl ⟨by rfl, ?yi3⟩) (by assumption) ?ri3
                case yi3 => (intro w hSw; (try dsimp only at hSw); go_simp; try with_reducible rfl)
                try simp only [Act.put, List.setIfInBounds_toArray, List.set_cons_zero, List.set_cons_succ]
                refine wpAnyH_ready (rs := [4]) (by kernel_rfl) (by simp) ?_
                refine AllReadyH.cons (o := ⟨some 27, .call { callee := .value (.func 28), args := #[.tmp 26], argTypes := #[41] }, 4, "race.go:14", #[⟨3, .data⟩], none⟩) rfl (fun K hK => ?_) AllReadyH.nil
                go_simp
                (go_at_call 28; (with_reducible refine Calls.mono (unhide HAI _) ?_); rintro e w1 ⟨rfl, hb1⟩; have HX1 := hide (Below.next (Below.refl wr.heap.size wr).drew hb1 (Nat.le_refl _)); have HS1 := hide (unhide HSS _ (unhide HX1)); clear hb1)
                refine hK.out _ _ (unhide HS1) (fun hHeld => ?_)
                clear hK K
                try simp only [Act.put, List.setIfInBounds_toArray, List.set_cons_zero, List.set_cons_succ]
                refine wpAnyH_take (i := 5) (oi := ⟨some 28, .move (.tmp 27), 4, "race.go:14", #[⟨4, .data⟩, ⟨4, .chain⟩], none⟩) (v := ?vi5) rfl (by kernel_rfl) (by kernel_rfl) (by kernel_rfl) (fun _ _ _ h => h) (Or.inl ⟨by rfl, ?yi5⟩) (by assumption) ?ri5
                case yi5 => (intro w hSw; (try dsimp only at hSw); go_simp; try with_reducible rfl)
                refine wpAnyH_take (i := 6) (oi := ⟨some 29, .move (.tmp 0), 22, "race.go:14", #[⟨5, .guard⟩], some (5, true)⟩) (v := ?vi6) rfl (by kernel_rfl) (by kernel_rfl) (by kernel_rfl) (fun _ _ _ h => h) (Or.inl ⟨by rfl, ?yi6⟩) (by assumption) ?ri6
                case yi6 => (intro w hSw; (try dsimp only at hSw); go_simp; try with_reducible rfl)
                try simp only [Act.put, List.setIfInBounds_toArray, List.set_cons_zero, List.set_cons_succ]
                refine wpAnyH_take (i := 7) (oi := ⟨some 30, .move (.tmp 7), 3, "race.go:14", #[⟨5, .guard⟩], some (5, true)⟩) (v := ?vi7) rfl (by kernel_rfl) (by kernel_rfl) (by kernel_rfl) (fun _ _ _ h => h) (Or.inl ⟨by rfl, ?yi7⟩) (by assumption) ?ri7
                case yi7 => (intro w hSw; (try dsimp only at hSw); go_simp; try with_reducible rfl)
                refine wpAnyH_take (i := 8) (oi := ⟨some 31, .indexAddr 22 (.tmp 29) (.tmp 30), 0, "race.go:14", #[⟨6, .data⟩, ⟨7, .data⟩, ⟨5, .guard⟩], some (5, true)⟩) (v := ?vi8) rfl (by kernel_rfl) (by kernel_rfl) (by kernel_rfl) (fun _ _ _ h => h) (Or.inl ⟨by rfl, ?yi8⟩) (by assumption) ?ri8
                case yi8 => (intro w hSw; (try dsimp only at hSw); go_simp; try with_reducible rfl)
                refine wpAnyH_take (i := 9) (oi := ⟨some 32, .load 41 (.tmp 31), 41, "race.go:14", #[⟨8, .data⟩, ⟨5, .guard⟩], some (5, true)⟩) (v := ?vi9) rfl (by kernel_rfl) (by kernel_rfl) (by kernel_rfl) (fun _ _ _ h => h) (Or.inl ⟨by rfl, ?yi9⟩) (by assumption) ?ri9
                case yi9 => (intro w hSw; (try dsimp only at hSw); go_simp; try with_reducible rfl)
                try simp only [Act.put, List.setIfInBounds_toArray, List.set_cons_zero, List.set_cons_succ]
                refine wpAnyH_ready (rs := [10]) (by kernel_rfl) (by simp) ?_
                refine AllReadyH.cons (o := ⟨some 33, .call { callee := .value (.func 28), args := #[.tmp 32], argTypes := #[41] }, 4, "race.go:14", #[⟨9, .data⟩, ⟨5, .chain⟩, ⟨5, .guard⟩], some (5, true)⟩) rfl (fun K hK => ?_) AllReadyH.nil
                go_simp
                (go_at_call 28; (with_reducible refine Calls.mono (unhide HAK _) ?_); rintro e w2 ⟨rfl, hb2⟩; have HX2 := hide (Below.next (unhide HX1) hb2 (Nat.le_refl _)); have HS2 := hide (unhide HSS _ (unhide HX2)); clear hb2)
                refine hK.out _ _ (unhide HS2) (fun hHeld => ?_)
                clear hK K
                try simp only [Act.put, List.setIfInBounds_toArray, List.set_cons_zero, List.set_cons_succ]
                refine wpAnyH_take (i := 11) (oi := ⟨some 34, .pick (.tmp 28) (.tmp 33) (.const (.bool false)), 4, "race.go:14", #[⟨5, .data⟩, ⟨10, .data⟩], none⟩) (v := ?vi11) rfl (by kernel_rfl) (by kernel_rfl) (by kernel_rfl) (fun _ _ _ h => h) (Or.inl ⟨by rfl, ?yi11⟩) (by assumption) ?ri11
                case yi11 => (intro w hSw; (try dsimp only at hSw); go_simp; try with_reducible rfl)
                refine wpAnyH_take (i := 12) (oi := ⟨some 35, .move (.tmp 34), 4, "race.go:14", #[⟨11, .data⟩, ⟨10, .chain⟩], none⟩) (v := ?vi12) rfl (by kernel_rfl) (by kernel_rfl) (by kernel_rfl) (fun _ _ _ h => h) (Or.inl ⟨by rfl, ?yi12⟩) (by assumption) ?ri12
                case yi12 => (intro w hSw; (try dsimp only at hSw); go_simp; try with_reducible rfl)
                refine wpAnyH_take (i := 13) (oi := ⟨some 36, .move (.tmp 0), 22, "race.go:14", #[⟨12, .guard⟩], some (12, true)⟩) (v := ?vi13) rfl (by kernel_rfl) (by kernel_rfl) (by kernel_rfl) (fun _ _ _ h => h) (Or.inl ⟨by rfl, ?yi13⟩) (by assumption) ?ri13
                case yi13 => (intro w hSw; (try dsimp only at hSw); go_simp; try with_reducible rfl)
                try simp only [Act.put, List.setIfInBounds_toArray, List.set_cons_zero, List.set_cons_succ]
                refine wpAnyH_take (i := 14) (oi := ⟨some 37, .move (.tmp 8), 3, "race.go:14", #[⟨12, .guard⟩], some (12, true)⟩) (v := ?vi14) rfl (by kernel_rfl) (by kernel_rfl) (by kernel_rfl) (fun _ _ _ h => h) (Or.inl ⟨by rfl, ?yi14⟩) (by assumption) ?ri14
                case yi14 => (intro w hSw; (try dsimp only at hSw); go_simp; try with_reducible rfl)
                refine wpAnyH_take (i := 15) (oi := ⟨some 38, .indexAddr 22 (.tmp 36) (.tmp 37), 0, "race.go:14", #[⟨13, .data⟩, ⟨14, .data⟩, ⟨12, .guard⟩], some (12, true)⟩) (v := ?vi15) rfl (by kernel_rfl) (by kernel_rfl) (by kernel_rfl) (fun _ _ _ h => h) (Or.inl ⟨by rfl, ?yi15⟩) (by assumption) ?ri15
                case yi15 => (intro w hSw; (try dsimp only at hSw); go_simp; try with_reducible rfl)
                refine wpAnyH_take (i := 16) (oi := ⟨some 39, .fieldAddr 41 (.tmp 38) 2, 0, "race.go:14", #[⟨15, .data⟩, ⟨12, .guard⟩], some (12, true)⟩) (v := ?vi16) rfl (by kernel_rfl) (by kernel_rfl) (by kernel_rfl) (fun _ _ _ h => h) (Or.inl ⟨by rfl, ?yi16⟩) (by assumption) ?ri16
                case yi16 => (intro w hSw; (try dsimp only at hSw); go_simp; try with_reducible rfl)
                try simp only [Act.put, List.setIfInBounds_toArray, List.set_cons_zero, List.set_cons_succ]
                refine wpAnyH_take (i := 17) (oi := ⟨some 40, .load 3 (.tmp 39), 3, "race.go:14", #[⟨16, .data⟩, ⟨12, .guard⟩], some (12, true)⟩) (v := ?vi17) rfl (by kernel_rfl) (by kernel_rfl) (by kernel_rfl) (fun _ _ _ h => h) (Or.inl ⟨by rfl, ?yi17⟩) (by assumption) ?ri17
                case yi17 => (intro w hSw; (try dsimp only at hSw); go_simp; try with_reducible rfl)
                refine wpAnyH_take (i := 18) (oi := ⟨some 41, .move (.tmp 0), 22, "race.go:14", #[⟨12, .guard⟩], some (12, true)⟩) (v := ?vi18) rfl (by kernel_rfl) (by kernel_rfl) (by kernel_rfl) (fun _ _ _ h => h) (Or.inl ⟨by rfl, ?yi18⟩) (by assumption) ?ri18
                case yi18 => (intro w hSw; (try dsimp only at hSw); go_simp; try with_reducible rfl)
                refine wpAnyH_take (i := 19) (oi := ⟨some 42, .move (.tmp 7), 3, "race.go:14", #[⟨12, .guard⟩], some (12, true)⟩) (v := ?vi19) rfl (by kernel_rfl) (by kernel_rfl) (by kernel_rfl) (fun _ _ _ h => h) (Or.inl ⟨by rfl, ?yi19⟩) (by assumption) ?ri19
                case yi19 => (intro w hSw; (try dsimp only at hSw); go_simp; try with_reducible rfl)
                try simp only [Act.put, List.setIfInBounds_toArray, List.set_cons_zero, List.set_cons_succ]
                refine wpAnyH_take (i := 20) (oi := ⟨some 43, .indexAddr 22 (.tmp 41) (.tmp 42), 0, "race.go:14", #[⟨18, .data⟩, ⟨19, .data⟩, ⟨12, .guard⟩], some (12, true)⟩) (v := ?vi20) rfl (by kernel_rfl) (by kernel_rfl) (by kernel_rfl) (fun _ _ _ h => h) (Or.inl ⟨by rfl, ?yi20⟩) (by assumption) ?ri20
                case yi20 => (intro w hSw; (try dsimp only at hSw); go_simp; try with_reducible rfl)
                refine wpAnyH_take (i := 21) (oi := ⟨some 44, .fieldAddr 41 (.tmp 43) 2, 0, "race.go:14", #[⟨20, .data⟩, ⟨12, .guard⟩], some (12, true)⟩) (v := ?vi21) rfl (by kernel_rfl) (by kernel_rfl) (by kernel_rfl) (fun _ _ _ h => h) (Or.inl ⟨by rfl, ?yi21⟩) (by assumption) ?ri21
                case yi21 => (intro w hSw; (try dsimp only at hSw); go_simp; try with_reducible rfl)
                refine wpAnyH_take (i := 22) (oi := ⟨some 45, .load 3 (.tmp 44), 3, "race.go:14", #[⟨21, .data⟩, ⟨12, .guard⟩], some (12, true)⟩) (v := ?vi22) rfl (by kernel_rfl) (by kernel_rfl) (by kernel_rfl) (fun _ _ _ h => h) (Or.inl ⟨by rfl, ?yi22⟩) (by assumption) ?ri22
                case yi22 => (intro w hSw; (try dsimp only at hSw); go_simp; try with_reducible rfl)
                try simp only [Act.put, List.setIfInBounds_toArray, List.set_cons_zero, List.set_cons_succ]
                refine wpAnyH_take (i := 23) (oi := ⟨some 46, .binOp .eql 3 (.tmp 40) (.tmp 45) 3, 4, "race.go:14", #[⟨17, .data⟩, ⟨22, .data⟩, ⟨12, .guard⟩], some (12, true)⟩) (v := ?vi23) rfl (by kernel_rfl) (by kernel_rfl) (by kernel_rfl) (fun _ _ _ h => h) (Or.inl ⟨by rfl, ?yi23⟩) (by assumption) ?ri23
                case yi23 => (intro w hSw; (try dsimp only at hSw); go_simp; try with_reducible rfl)
                refine wpAnyH_take (i := 24) (oi := ⟨some 47, .pick (.tmp 35) (.tmp 46) (.const (.bool false)), 4, "race.go:14", #[⟨12, .data⟩, ⟨23, .data⟩], none⟩) (v := ?vi24) rfl (by kernel_rfl) (by kernel_rfl) (by kernel_rfl) (fun _ _ _ h => h) (Or.inl ⟨by rfl, ?yi24⟩) (by assumption) ?ri24
                case yi24 => (intro w hSw; (try dsimp only at hSw); go_simp; try with_reducible rfl)
                refine wpAnyH_take (i := 25) (oi := ⟨some 48, .move (.tmp 47), 4, "race.go:14", #[⟨24, .data⟩, ⟨12, .chain⟩], none⟩) (v := ?vi25) rfl (by kernel_rfl) (by kernel_rfl) (by kernel_rfl) (fun _ _ _ h => h) (Or.inl ⟨by rfl, ?yi25⟩) (by assumption) ?ri25
                case yi25 => (intro w hSw; (try dsimp only at hSw); go_simp; try with_reducible rfl)
                try simp only [Act.put, List.setIfInBounds_toArray, List.set_cons_zero, List.set_cons_succ]
                refine wpAnyH_take (i := 26) (oi := ⟨some 49, .move (.tmp 0), 22, "race.go:14", #[⟨25, .guard⟩], some (25, true)⟩) (v := undef) rfl (by kernel_rfl) (by kernel_rfl) (by kernel_rfl) (fun _ _ _ h => h) (Or.inr ⟨by rfl, rfl⟩) (by assumption) ?_
                refine wpAnyH_take (i := 27) (oi := ⟨some 50, .move (.tmp 8), 3, "race.go:14", #[⟨25, .guard⟩], some (25, true)⟩) (v := undef) rfl (by kernel_rfl) (by kernel_rfl) (by kernel_rfl) (fun _ _ _ h => h) (Or.inr ⟨by rfl, rfl⟩) (by assumption) ?_
                refine wpAnyH_take (i := 28) (oi := ⟨some 51, .indexAddr 22 (.tmp 49) (.tmp 50), 0, "race.go:14", #[⟨26, .data⟩, ⟨27, .data⟩, ⟨25, .guard⟩], some (25, true)⟩) (v := undef) rfl (by kernel_rfl) (by kernel_rfl) (by kernel_rfl) (fun _ _ _ h => h) (Or.inr ⟨by rfl, rfl⟩) (by assumption) ?_
                try simp only [Act.put, List.setIfInBounds_toArray, List.set_cons_zero, List.set_cons_succ]
                refine wpAnyH_take (i := 29) (oi := ⟨some 52, .fieldAddr 41 (.tmp 51) 0, 0, "race.go:14", #[⟨28, .data⟩, ⟨25, .guard⟩], some (25, true)⟩) (v := undef) rfl (by kernel_rfl) (by kernel_rfl) (by kernel_rfl) (fun _ _ _ h => h) (Or.inr ⟨by rfl, rfl⟩) (by assumption) ?_
                refine wpAnyH_take (i := 30) (oi := ⟨some 53, .load 3 (.tmp 52), 3, "race.go:14", #[⟨29, .data⟩, ⟨25, .guard⟩], some (25, true)⟩) (v := undef) rfl (by kernel_rfl) (by kernel_rfl) (by kernel_rfl) (fun _ _ _ h => h) (Or.inr ⟨by rfl, rfl⟩) (by assumption) ?_
                refine wpAnyH_take (i := 31) (oi := ⟨some 54, .move (.tmp 0), 22, "race.go:14", #[⟨25, .guard⟩], some (25, true)⟩) (v := undef) rfl (by kernel_rfl) (by kernel_rfl) (by kernel_rfl) (fun _ _ _ h => h) (Or.inr ⟨by rfl, rfl⟩) (by assumption) ?_
                try simp only [Act.put, List.setIfInBounds_toArray, List.set_cons_zero, List.set_cons_succ]
                refine wpAnyH_take (i := 32) (oi := ⟨some 55, .move (.tmp 7), 3, "race.go:14", #[⟨25, .guard⟩], some (25, true)⟩) (v := undef) rfl (by kernel_rfl) (by kernel_rfl) (by kernel_rfl) (fun _ _ _ h => h) (Or.inr ⟨by rfl, rfl⟩) (by assumption) ?_
                refine wpAnyH_take (i := 33) (oi := ⟨some 56, .indexAddr 22 (.tmp 54) (.tmp 55), 0, "race.go:14", #[⟨31, .data⟩, ⟨32, .data⟩, ⟨25, .guard⟩], some (25, true)⟩) (v := undef) rfl (by kernel_rfl) (by kernel_rfl) (by kernel_rfl) (fun _ _ _ h => h) (Or.inr ⟨by rfl, rfl⟩) (by assumption) ?_
                refine wpAnyH_take (i := 34) (oi := ⟨some 57, .fieldAddr 41 (.tmp 56) 0, 0, "race.go:14", #[⟨33, .data⟩, ⟨25, .guard⟩], some (25, true)⟩) (v := undef) rfl (by kernel_rfl) (by kernel_rfl) (by kernel_rfl) (fun _ _ _ h => h) (Or.inr ⟨by rfl, rfl⟩) (by assumption) ?_
                try simp only [Act.put, List.setIfInBounds_toArray, List.set_cons_zero, List.set_cons_succ]
                refine wpAnyH_take (i := 35) (oi := ⟨some 58, .load 3 (.tmp 57), 3, "race.go:14", #[⟨34, .data⟩, ⟨25, .guard⟩], some (25, true)⟩) (v := undef) rfl (by kernel_rfl) (by kernel_rfl) (by kernel_rfl) (fun _ _ _ h => h) (Or.inr ⟨by rfl, rfl⟩) (by assumption) ?_
                refine wpAnyH_take (i := 36) (oi := ⟨some 59, .binOp .neq 3 (.tmp 53) (.tmp 58) 3, 4, "race.go:14", #[⟨30, .data⟩, ⟨35, .data⟩, ⟨25, .guard⟩], some (25, true)⟩) (v := undef) rfl (by kernel_rfl) (by kernel_rfl) (by kernel_rfl) (fun _ _ _ h => h) (Or.inr ⟨by rfl, rfl⟩) (by assumption) ?_
                refine wpAnyH_take (i := 37) (oi := ⟨some 60, .pick (.tmp 48) (.tmp 59) (.const (.bool false)), 4, "race.go:14", #[⟨25, .data⟩, ⟨36, .data⟩], none⟩) (v := ?vi37) rfl (by kernel_rfl) (by kernel_rfl) (by kernel_rfl) (fun _ _ _ h => h) (Or.inl ⟨by rfl, ?yi37⟩) (by assumption) ?ri37
                case yi37 => (intro w hSw; (try dsimp only at hSw); go_simp; try with_reducible rfl)
                try simp only [Act.put, List.setIfInBounds_toArray, List.set_cons_zero, List.set_cons_succ]
                refine wpAnyH_take (i := 38) (oi := ⟨some 61, .move (.tmp 60), 4, "race.go:14", #[⟨37, .data⟩, ⟨25, .chain⟩], none⟩) (v := ?vi38) rfl (by kernel_rfl) (by kernel_rfl) (by kernel_rfl) (fun _ _ _ h => h) (Or.inl ⟨by rfl, ?yi38⟩) (by assumption) ?ri38
                case yi38 => (intro w hSw; (try dsimp only at hSw); go_simp; try with_reducible rfl)
                refine wpAnyH_take (i := 39) (oi := ⟨some 62, .move (.tmp 0), 22, "race.go:14", #[⟨38, .guard⟩], some (38, true)⟩) (v := undef) rfl (by kernel_rfl) (by kernel_rfl) (by kernel_rfl) (fun _ _ _ h => h) (Or.inr ⟨by rfl, rfl⟩) (by assumption) ?_
                refine wpAnyH_take (i := 40) (oi := ⟨some 63, .move (.tmp 8), 3, "race.go:14", #[⟨38, .guard⟩], some (38, true)⟩) (v := undef) rfl (by kernel_rfl) (by kernel_rfl) (by kernel_rfl) (fun _ _ _ h => h) (Or.inr ⟨by rfl, rfl⟩) (by assumption) ?_
                try simp only [Act.put, List.setIfInBounds_toArray, List.set_cons_zero, List.set_cons_succ]
                refine wpAnyH_take (i := 41) (oi := ⟨some 64, .indexAddr 22 (.tmp 62) (.tmp 63), 0, "race.go:14", #[⟨39, .data⟩, ⟨40, .data⟩, ⟨38, .guard⟩], some (38, true)⟩) (v := undef) rfl (by kernel_rfl) (by kernel_rfl) (by kernel_rfl) (fun _ _ _ h => h) (Or.inr ⟨by rfl, rfl⟩) (by assumption) ?_
                refine wpAnyH_take (i := 42) (oi := ⟨some 65, .fieldAddr 41 (.tmp 64) 1, 0, "race.go:14", #[⟨41, .data⟩, ⟨38, .guard⟩], some (38, true)⟩) (v := undef) rfl (by kernel_rfl) (by kernel_rfl) (by kernel_rfl) (fun _ _ _ h => h) (Or.inr ⟨by rfl, rfl⟩) (by assumption) ?_
                refine wpAnyH_take (i := 43) (oi := ⟨some 66, .load 3 (.tmp 65), 3, "race.go:14", #[⟨42, .data⟩, ⟨38, .guard⟩], some (38, true)⟩) (v := undef) rfl (by kernel_rfl) (by kernel_rfl) (by kernel_rfl) (fun _ _ _ h => h) (Or.inr ⟨by rfl, rfl⟩) (by assumption) ?_
                try simp only [Act.put, List.setIfInBounds_toArray, List.set_cons_zero, List.set_cons_succ]
                refine wpAnyH_take (i := 44) (oi := ⟨some 67, .binOp .eql 3 (.tmp 66) (.const (.int .i64 13)) 3, 4, "race.go:14", #[⟨43, .data⟩, ⟨38, .guard⟩], some (38, true)⟩) (v := undef) rfl (by kernel_rfl) (by kernel_rfl) (by kernel_rfl) (fun _ _ _ h => h) (Or.inr ⟨by rfl, rfl⟩) (by assumption) ?_
                refine wpAnyH_take (i := 45) (oi := ⟨some 68, .move (.tmp 67), 4, "race.go:14", #[⟨44, .data⟩, ⟨38, .chain⟩, ⟨38, .guard⟩], some (38, true)⟩) (v := undef) rfl (by kernel_rfl) (by kernel_rfl) (by kernel_rfl) (fun _ _ _ h => h) (Or.inr ⟨by rfl, rfl⟩) (by assumption) ?_
                refine wpAnyH_take (i := 46) (oi := ⟨some 69, .move (.tmp 0), 22, "race.go:14", #[⟨45, .guard⟩], some (45, false)⟩) (v := undef) rfl (by kernel_rfl) (by kernel_rfl) (by kernel_rfl) (fun _ _ _ h => h) (Or.inr ⟨by rfl, rfl⟩) (by assumption) ?_
                try simp only [Act.put, List.setIfInBounds_toArray, List.set_cons_zero, List.set_cons_succ]
                refine wpAnyH_take (i := 47) (oi := ⟨some 70, .move (.tmp 7), 3, "race.go:14", #[⟨45, .guard⟩], some (45, false)⟩) (v := undef) rfl (by kernel_rfl) (by kernel_rfl) (by kernel_rfl) (fun _ _ _ h => h) (Or.inr ⟨by rfl, rfl⟩) (by assumption) ?_
                refine wpAnyH_take (i := 48) (oi := ⟨some 71, .indexAddr 22 (.tmp 69) (.tmp 70), 0, "race.go:14", #[⟨46, .data⟩, ⟨47, .data⟩, ⟨45, .guard⟩], some (45, false)⟩) (v := undef) rfl (by kernel_rfl) (by kernel_rfl) (by kernel_rfl) (fun _ _ _ h => h) (Or.inr ⟨by rfl, rfl⟩) (by assumption) ?_
                refine wpAnyH_take (i := 49) (oi := ⟨some 72, .fieldAddr 41 (.tmp 71) 1, 0, "race.go:14", #[⟨48, .data⟩, ⟨45, .guard⟩], some (45, false)⟩) (v := undef) rfl (by kernel_rfl) (by kernel_rfl) (by kernel_rfl) (fun _ _ _ h => h) (Or.inr ⟨by rfl, rfl⟩) (by assumption) ?_
                try simp only [Act.put, List.setIfInBounds_toArray, List.set_cons_zero, List.set_cons_succ]
                refine wpAnyH_take (i := 50) (oi := ⟨some 73, .load 3 (.tmp 72), 3, "race.go:14", #[⟨49, .data⟩, ⟨45, .guard⟩], some (45, false)⟩) (v := undef) rfl (by kernel_rfl) (by kernel_rfl) (by kernel_rfl) (fun _ _ _ h => h) (Or.inr ⟨by rfl, rfl⟩) (by assumption) ?_
                refine wpAnyH_take (i := 51) (oi := ⟨some 74, .binOp .eql 3 (.tmp 73) (.const (.int .i64 13)) 3, 4, "race.go:14", #[⟨50, .data⟩, ⟨45, .guard⟩], some (45, false)⟩) (v := undef) rfl (by kernel_rfl) (by kernel_rfl) (by kernel_rfl) (fun _ _ _ h => h) (Or.inr ⟨by rfl, rfl⟩) (by assumption) ?_
                refine wpAnyH_take (i := 52) (oi := ⟨some 75, .pick (.tmp 68) (.const (.bool true)) (.tmp 74), 4, "race.go:14", #[⟨45, .data⟩, ⟨51, .data⟩, ⟨38, .guard⟩], some (38, true)⟩) (v := undef) rfl (by kernel_rfl) (by kernel_rfl) (by kernel_rfl) (fun _ _ _ h => h) (Or.inr ⟨by rfl, rfl⟩) (by assumption) ?_
                try simp only [Act.put, List.setIfInBounds_toArray, List.set_cons_zero, List.set_cons_succ]
                refine wpAnyH_take (i := 53) (oi := ⟨some 76, .pick (.tmp 61) (.tmp 75) (.const (.bool false)), 4, "race.go:14", #[⟨38, .data⟩, ⟨52, .data⟩], none⟩) (v := ?vi53) rfl (by kernel_rfl) (by kernel_rfl) (by kernel_rfl) (fun _ _ _ h => h) (Or.inl ⟨by rfl, ?yi53⟩) (by assumption) ?ri53
                case yi53 => (intro w hSw; (try dsimp only at hSw); go_simp; try with_reducible rfl)
                refine wpAnyH_take (i := 54) (oi := ⟨some 77, .move (.tmp 76), 4, "race.go:14", #[⟨53, .data⟩, ⟨45, .chain⟩], none⟩) (v := ?vi54) rfl (by kernel_rfl) (by kernel_rfl) (by kernel_rfl) (fun _ _ _ h => h) (Or.inl ⟨by rfl, ?yi54⟩) (by assumption) ?ri54
                case yi54 => (intro w hSw; (try dsimp only at hSw); go_simp; try with_reducible rfl)
                refine wpAnyH_take (i := 55) (oi := ⟨some 78, .move (.tmp 5), 38, "race.go:14", #[⟨54, .guard⟩], some (54, true)⟩) (v := undef) rfl (by kernel_rfl) (by kernel_rfl) (by kernel_rfl) (fun _ _ _ h => h) (Or.inr ⟨by rfl, rfl⟩) (by assumption) ?_
                try simp only [Act.put, List.setIfInBounds_toArray, List.set_cons_zero, List.set_cons_succ]
                refine wpAnyH_take (i := 56) (oi := ⟨some 79, .move (.tmp 7), 3, "race.go:14", #[⟨54, .guard⟩], some (54, true)⟩) (v := undef) rfl (by kernel_rfl) (by kernel_rfl) (by kernel_rfl) (fun _ _ _ h => h) (Or.inr ⟨by rfl, rfl⟩) (by assumption) ?_
                refine wpAnyH_take (i := 57) (oi := ⟨some 80, .indexAddr 38 (.tmp 78) (.tmp 79), 0, "race.go:14", #[⟨55, .data⟩, ⟨56, .data⟩, ⟨54, .guard⟩], some (54, true)⟩) (v := undef) rfl (by kernel_rfl) (by kernel_rfl) (by kernel_rfl) (fun _ _ _ h => h) (Or.inr ⟨by rfl, rfl⟩) (by assumption) ?_
                refine wpAnyH_take (i := 58) (oi := ⟨some 81, .load 42 (.tmp 80), 42, "race.go:14", #[⟨57, .data⟩, ⟨54, .guard⟩], some (54, true)⟩) (v := undef) rfl (by kernel_rfl) (by kernel_rfl) (by kernel_rfl) (fun _ _ _ h => h) (Or.inr ⟨by rfl, rfl⟩) (by assumption) ?_
                try simp only [Act.put, List.setIfInBounds_toArray, List.set_cons_zero, List.set_cons_succ]
                refine wpAnyH_take (i := 59) (oi := ⟨some 82, .move (.tmp 8), 3, "race.go:14", #[⟨54, .guard⟩], some (54, true)⟩) (v := undef) rfl (by kernel_rfl) (by kernel_rfl) (by kernel_rfl) (fun _ _ _ h => h) (Or.inr ⟨by rfl, rfl⟩) (by assumption) ?_
                refine wpAnyH_take (i := 60) (oi := ⟨some 83, .indexAddr 42 (.tmp 81) (.tmp 82), 0, "race.go:14", #[⟨58, .data⟩, ⟨59, .data⟩, ⟨54, .guard⟩], some (54, true)⟩) (v := undef) rfl (by kernel_rfl) (by kernel_rfl) (by kernel_rfl) (fun _ _ _ h => h) (Or.inr ⟨by rfl, rfl⟩) (by assumption) ?_
                refine wpAnyH_take (i := 61) (oi := ⟨some 84, .load 4 (.tmp 83), 4, "race.go:14", #[⟨60, .data⟩, ⟨54, .guard⟩], some (54, true)⟩) (v := undef) rfl (by kernel_rfl) (by kernel_rfl) (by kernel_rfl) (fun _ _ _ h => h) (Or.inr ⟨by rfl, rfl⟩) (by assumption) ?_
                try simp only [Act.put, List.setIfInBounds_toArray, List.set_cons_zero, List.set_cons_succ]
                refine wpAnyH_take (i := 62) (oi := ⟨some 85, .unOp .not 4 (.tmp 84), 4, "race.go:14", #[⟨61, .data⟩, ⟨54, .guard⟩], some (54, true)⟩) (v := undef) rfl (by kernel_rfl) (by kernel_rfl) (by kernel_rfl) (fun _ _ _ h => h) (Or.inr ⟨by rfl, rfl⟩) (by assumption) ?_
                refine wpAnyH_take (i := 63) (oi := ⟨some 86, .pick (.tmp 77) (.tmp 85) (.const (.bool false)), 4, "race.go:14", #[⟨54, .data⟩, ⟨62, .data⟩], none⟩) (v := ?vi63) rfl (by kernel_rfl) (by kernel_rfl) (by kernel_rfl) (fun _ _ _ h => h) (Or.inl ⟨by rfl, ?yi63⟩) (by assumption) ?ri63
                case yi63 => (intro w hSw; (try dsimp only at hSw); go_simp; try with_reducible rfl)
                try simp only [Act.put, List.setIfInBounds_toArray, List.set_cons_zero, List.set_cons_succ]
                refine wpAnyH_done (by kernel_rfl) ?_ _
                refine NoPanic.normal ?_
                go_wp2_with fail
                go_roundw
                case rel => exact ⟨i + 1, a, r, c, by omega, by go_num, rfl, by omega, hide (by rw [unhide HO2]; exact unhide HRL), hide (by rw [unhide HO2]; exact (unhide HOi).below (unhide HX2)), hide (Below.next (unhide HBi) (unhide HX2) (Nat.le_of_eq (unhide HZ).symm))⟩
                case measure => simp [intOf]; omega
        · obtain rfl : i = k := by omega
          have j1 : ¬ (i : Int) < (i : Int) := by omega
          have HE := hide (outI_end hs l i)
          go_wp2_with fail
          go_roundw
          case rel => exact ⟨i + 1, a, r, c, by omega, by go_num, rfl, by omega, hide (by rw [← unhide HE]; exact unhide HRL), hide (by rw [← unhide HE]; exact unhide HOi), HBi⟩
          case measure => simp [intOf]; omega
    · obtain rfl : k = n0 := by omega
      have i1 : ¬ (k : Int) < (k : Int) := by omega
      have hbe : Below w.heap.size w wr := (unhide HX0).trans ((unhide HBk).mono (by rw [← unhide HZ]; exact (unhide HX0).size))
      have HBE := hide hbe
      clear hbe
      go_wp2_with fail
      go_ret
      have hrl := unhide HRL
      rw [hrl]
      exact ⟨a, c, rfl, (unhide HOk).isl, by omega, unhide HBE⟩
end Go.Proofs.Ytbnmeeabpjmcoaa
