/-
  taskmilllaw.RingRefills where nothing is wrong and the global queue is empty; the whole of it.
-/
import Derived.Test.YtcdnennfimbgoaaVd
namespace Go.Proofs.Ytcdnennfimbgoaa
open Go.RowKit

theorem ints_zero_any (W : World) (ad : Addr) (c : Nat) : IsInts W (.slice (some ad) 0 c) [] := ⟨rfl, Or.inr ⟨_, _, rfl, fun j u hj => by simp at hj⟩⟩
theorem ints_nil (W : World) : IsInts W (.slice none 0 0) [] := ⟨rfl, Or.inl ⟨rfl, rfl⟩⟩

set_option maxRecDepth 100000 in
set_option maxHeartbeats 2000000 in
theorem refills_ok_nil (w : World) (nx : Int) (a : Option Addr) (c : Nat) (zs : List Int) (p : Int) (h : IsInts w (.slice a zs.length c) zs) (hv : Fits (.slice a zs.length c)) (hn : zs.length ≤ 2000) (hf : refillF nx zs [] p = (0, 0)) :
    Calls Try.prog 5 #[.agg #[.int .i64 nx, .slice a zs.length c], .slice none 0 0, .int .i64 p] w fun e w' => e = .returned (.bool true) ∧ Below w.heap.size w w' := by
  have hnot : ∀ (x : Bool) (w : World), (Op.unary .not (.bool x)).run Try.prog w = .ok (.bool (!x)) w := fun _ _ => rfl
  obtain ⟨hf0, hr, hgl, hp1, hp2⟩ := refillF_ok (nx := nx) (zs := zs) (gs := []) (p := p) (by rw [hf])
  have hz := ringF_len hr
  have ek : refillK zs [] p = 0 := by have := (refillK_le (zs := zs) (gs := []) hp1 hz).1; simpa using this
  have h1 : ¬ (2000 : Int) < (zs.length : Int) := by omega
  have HOR : Hid (∀ W, Below (w.heap.size + 1) (w.alloc (.cells #[.int .i64 nx, .slice a zs.length c] 24)) W → Calls Try.prog 10 #[.agg #[.int .i64 nx, .slice a zs.length c]] W fun e w' => ∃ a' c', e = .returned (.agg #[.int .i64 nx, .slice a' zs.length c']) ∧ Own W.heap.size w' (.slice a' zs.length c') zs ∧ Below W.heap.size W w') := fun W hW => ownRing_any W nx _ zs (Rd.below h (below1 hW)) (by omega)
  have HOW : Hid (∀ W, Below w.heap.size w W → Calls Try.prog 23 #[.slice none 0 0] W fun e w' => ∃ a' c', e = .returned (.slice a' 0 c') ∧ Own W.heap.size w' (.slice a' 0 c') [] ∧ Below W.heap.size W w') := fun W hW => own_list W _ [] (ints_nil W) (by simp)
  have HOL : Hid (∀ W, Below w.heap.size w W → Calls Try.prog 23 #[.slice a zs.length c] W fun e w' => ∃ a' c', e = .returned (.slice a' zs.length c') ∧ Own W.heap.size w' (.slice a' zs.length c') zs ∧ Below W.heap.size W w') := fun W hW => own_list W _ zs (IsInts.below h hW) (by omega)
  have HRE : Hid (∀ W v' vg', IsInts W v' zs → Own w.heap.size W vg' [] → Calls Try.prog 22 #[.agg #[.int .i64 nx, v'], vg', .int .i64 p] W fun e w' => ∃ a1 c1 a2 c2, e = .returned (.tuple #[.agg #[.int .i64 nx, .slice a1 zs.length c1], .slice a2 0 c2, .agg #[.int .i64 0, .int .i64 0]]) ∧ Own W.heap.size w' (.slice a1 zs.length c1) zs ∧ Own W.heap.size w' (.slice a2 0 c2) [] ∧ Below W.heap.size W w') := fun W v' vg' hW hW' => by
    have := refill_any W nx v' zs p hW vg' [] hW'.list.1 hW'.list.2 hW'.form (by rw [hf])
    rw [ek, Nat.add_zero, List.take_zero, List.append_nil] at this
    exact this
  have HRF : Hid (∀ W, Below w.heap.size w W → Calls Try.prog 13 #[.agg #[.int .i64 nx, .slice a zs.length c]] W fun e w' => e = .returned (.agg #[.int .i64 0, .int .i64 0]) ∧ Below W.heap.size W w') := fun W hW => by
    have := rfault_any W nx _ zs (Rd.below h hW) hv (by unfold maxLen; omega)
    rw [hr] at this
    exact this
  clear h hv hf hf0 hr hgl ek
  have pneb : (p == 0) = false := by simp; omega
  have g1 : ¬ p < 1 := by omega
  have g2 : ¬ 64 < p := by omega
  have g3 : ¬ 256 - (zs.length : Int) < 0 := by omega
  go_enter Try.func5, Try.ntmps5
  go_upto_region 7 with (first
    | (go_at_call 9; refine (begun_any _).mono ?_; rintro e w1 ⟨rfl, hb1⟩; have hx1 := hb1.mono (show w.heap.size + 1 ≤ _ by simp); obtain ⟨x0, x1, s1⟩ := arg1 hx1; have HX1 := hide hx1; clear hb1 hx1)
    | (go_at_call 10; refine (unhide HOR _ (unhide HX1)).mono ?_; rintro e w2 ⟨a2, c2, rfl, ho2, hb2⟩; have HO2 := hide ho2; have HX2 := hide (next1 (unhide HX1) hb2); clear ho2 hb2 x0 x1 s1)
    | (go_at_call 23; refine (unhide HOW _ (below1 (unhide HX2))).mono ?_; rintro e w3 ⟨a3, c3, rfl, ho3, hb3⟩; have HO3 := hide ho3; have HI2 := hide (IsInts.below (unhide HO2).list.1 hb3); have HX3 := hide (next1 (unhide HX2) hb3); clear ho3 hb3)
    | (go_at_call 22; refine (unhide HRE _ _ _ (unhide HI2) ((unhide HO3).base (below1 (unhide HX2)).size)).mono ?_; rintro e w4 ⟨a4, c4, a5, c5, rfl, hq1, hq2, hb4⟩; have HQ1 := hide hq1; have HQ2 := hide hq2; clear hq1 hq2; have hx4 := next1 (unhide HX3) hb4; obtain ⟨x0, x1, s1⟩ := arg1 hx4; have HX4 := hide hx4; clear hb4 hx4)
    | (go_at_call 13; refine (unhide HRF _ ((below1 (unhide HX4)).trans ((below_new2 w4 _ _).mono (below1 (unhide HX4)).size))).mono ?_; rintro e w5 ⟨rfl, hb5⟩; have HB5 := hide hb5; clear hb5 x0 x1 s1))
  have HP1 := hide (IsInts.below (unhide HQ1).list.1 (puts_below4 (o12 := .cells #[.int .i64 0, .int .i64 0] 28) (unhide HB5)))
  have HP2 := hide (IsInts.below (unhide HQ2).list.1 (puts_below4 (o12 := .cells #[.int .i64 0, .int .i64 0] 28) (unhide HB5)))
  have VW6 := hide (ref_vars (x := 0) (y := 0) (unhide HX4) (unhide HB5))
  obtain ⟨W6, eW6⟩ : ∃ W, w5.alloc (.cells #[.int .i64 0, .int .i64 0] 28) = W := ⟨_, rfl⟩
  rw [eW6] at VW6 HP1 HP2 ⊢
  clear eW6
  obtain ⟨s7, e7⟩ : ∃ s, w4.heap.size = s := ⟨_, rfl⟩
  rw [e7] at VW6 ⊢
  clear e7 HB5 HX1 HX2 HX3 HX4 HO2 HO3 HI2 HOR HOW HRE HRF HQ1 HQ2
  obtain ⟨⟨q30, q31⟩, ⟨q70, q71⟩, ⟨q90, q91⟩, ⟨q100, q101⟩, z0, z1⟩ := (unhide VW6).cells
  go_wp2_with fail
  clear q30 q31 q70 q71 q90 q91 q100 q101 z0 z1
  go_loopw [11] (fun i wr11 => i = .int .i64 0 ∧ wr11 = W6) (fun i _ => 0)
  case atStart => exact ⟨rfl, rfl⟩
  case round =>
    obtain ⟨rfl, rfl⟩ := hrel
    obtain ⟨⟨q30, q31⟩, ⟨q70, q71⟩, ⟨q90, q91⟩, ⟨q100, q101⟩, z0, z1⟩ := (unhide VW6).cells
    go_wp2_with fail
    clear q30 q31 q70 q71 q90 q91 q100 q101 z0 z1
    go_loopw [12] (fun i wr12 => i = .int .i64 0 ∧ wr12 = wr) (fun i _ => 0)
    case atStart => exact ⟨rfl, rfl⟩
    case round =>
      obtain ⟨rfl, rfl⟩ := hrel
      obtain ⟨⟨q30, q31⟩, ⟨q70, q71⟩, ⟨q90, q91⟩, ⟨q100, q101⟩, z0, z1⟩ := (unhide VW6).cells
      go_upto_region 32 with fail
      clear q30 q31 q70 q71 q90 q91 q100 q101 z0 z1
      have HST : Hid (∀ W, Below wr.heap.size wr W → W.cell? ⟨w.heap.size, 0, none⟩ = some (.int .i64 nx) ∧ W.cell? ⟨w.heap.size, 1, none⟩ = some (.slice a zs.length c) ∧ W.cell? ⟨s7, 0, none⟩ = some (.int .i64 nx) ∧ W.cell? ⟨s7, 1, none⟩ = some (.slice a4 zs.length c4) ∧ Below wr.heap.size wr W) := fun W hW =>
        have hc := ((unhide VW6).keep hW).cells
        ⟨hc.1.1, hc.1.2, hc.2.1.1, hc.2.1.2, hW⟩
      have HOM : Hid (∀ W, Below wr.heap.size wr W → Calls Try.prog 23 #[.slice a zs.length c] W fun e w' => ∃ a' c', e = .returned (.slice a' zs.length c') ∧ Own W.heap.size w' (.slice a' zs.length c') zs ∧ Below W.heap.size W w') := fun W hW => unhide HOL W ((unhide VW6).keep hW).all
      have HLM1 : Hid (zs.length ≤ maxLen) := by
        show zs.length ≤ maxLen
        unfold maxLen; omega
      have HLM2 : Hid (([] : List Int).length ≤ maxLen) := Nat.zero_le _
      have HPP : Hid (∀ W, Below wr.heap.size wr W → IsInts W (.slice a4 zs.length c4) zs) := fun W hW => IsInts.below (unhide HP1) hW
      have HPL : Hid (∀ W, Below wr.heap.size wr W → IsInts W (.slice a5 0 c5) []) := fun W hW => IsInts.below (unhide HP2) hW
      have e1 : (nx == nx) = true := by simp
      obtain ⟨q30, q31, q70, q71, _⟩ := unhide HST _ (Below.refl _ _)
      go_region_held3 (fun W => W.cell? ⟨w.heap.size, 0, none⟩ = some (.int .i64 nx) ∧ W.cell? ⟨w.heap.size, 1, none⟩ = some (.slice a zs.length c) ∧ W.cell? ⟨s7, 0, none⟩ = some (.int .i64 nx) ∧ W.cell? ⟨s7, 1, none⟩ = some (.slice a4 zs.length c4) ∧ Below wr.heap.size wr W)
        (first | with_reducible exact unhide HST _ (Below.refl _ _).drew | with_reducible exact unhide HST _ (unhide HB6) | with_reducible exact unhide HST _ (unhide HB7) | with_reducible exact unhide HST _ (unhide HB8) | with_reducible exact unhide HST _ (unhide HB9))
        (first
          | (go_at_call 23; refine (unhide HOM _ (by go_split_ands; assumption)).mono ?_; rintro e w6 ⟨a6, c6, rfl, ho6, hb6⟩; have HO6 : Hid (Own wr.heap.size w6 (.slice a6 zs.length c6) zs) := ho6.base (Below.size (B := wr.heap.size) (by go_split_ands; assumption)); have HB6 : Hid (Below wr.heap.size wr w6) := Below.trans (B := wr.heap.size) (by go_split_ands; assumption) (hb6.mono (Below.size (B := wr.heap.size) (by go_split_ands; assumption))); clear ho6 hb6)
          | (refine step_append_want (by rfl) (.tmp 152) (.tmp 155) rfl wr.heap.size (.slice a6 zs.length c6) zs rfl (unhide HO6) (.slice none 0 0) [] rfl (ints_nil _) zs.length rfl (by omega) (unhide HB6).size ?_; intro a7 c7 w7 ho7 hg7; have HI7 : Hid (IsInts w7 (.slice a7 zs.length c7) zs) := (by have := ho7.list.1; rw [List.append_nil] at this; exact this); have HB7 : Hid (Below wr.heap.size wr w7) := (unhide HB6).grown hg7 (unhide HB6).size (fun i hi => ((unhide HO6).lt i hi).1); clear ho7 hg7)
          | (go_at_call 20; (with_reducible refine Calls.mono (ints_same _ _ _ _ (unhide HPP _ (unhide HB7)) (unhide HI7) (unhide HLM1)) ?_); rintro e w8 ⟨rfl, hb8⟩; have HB8 : Hid (Below wr.heap.size wr w8) := (unhide HB7).trans (hb8.mono (unhide HB7).size); clear hb8)
          | (go_at_call 20; (with_reducible refine Calls.mono (ints_same _ _ _ _ (unhide HPL _ (unhide HB8)) (ints_nil _) (unhide HLM2)) ?_); rintro e w9 ⟨rfl, hb9⟩; have HB9 : Hid (Below wr.heap.size wr w9) := (unhide HB8).trans (hb9.mono (unhide HB8).size); clear hb9))
      go_wp2_with fail
      go_ret
      exact ⟨rfl, ((unhide VW6).keep (unhide HB9)).all⟩

set_option maxRecDepth 100000 in
set_option maxHeartbeats 2000000 in
theorem refills_ok_at (w : World) (nx : Int) (a : Option Addr) (c : Nat) (zs : List Int) (p : Int) (ad : Addr) (cg : Nat) (h : IsInts w (.slice a zs.length c) zs) (hv : Fits (.slice a zs.length c)) (hn : zs.length ≤ 2000) (hf : refillF nx zs [] p = (0, 0)) (hcg : cg ≠ 0) :
    Calls Try.prog 5 #[.agg #[.int .i64 nx, .slice a zs.length c], .slice (some ad) 0 cg, .int .i64 p] w fun e w' => e = .returned (.bool true) ∧ Below w.heap.size w w' := by
  have hnot : ∀ (x : Bool) (w : World), (Op.unary .not (.bool x)).run Try.prog w = .ok (.bool (!x)) w := fun _ _ => rfl
  obtain ⟨hf0, hr, hgl, hp1, hp2⟩ := refillF_ok (nx := nx) (zs := zs) (gs := []) (p := p) (by rw [hf])
  have hz := ringF_len hr
  have ek : refillK zs [] p = 0 := by have := (refillK_le (zs := zs) (gs := []) hp1 hz).1; simpa using this
  have h1 : ¬ (2000 : Int) < (zs.length : Int) := by omega
  have HOR : Hid (∀ W, Below (w.heap.size + 1) (w.alloc (.cells #[.int .i64 nx, .slice a zs.length c] 24)) W → Calls Try.prog 10 #[.agg #[.int .i64 nx, .slice a zs.length c]] W fun e w' => ∃ a' c', e = .returned (.agg #[.int .i64 nx, .slice a' zs.length c']) ∧ Own W.heap.size w' (.slice a' zs.length c') zs ∧ Below W.heap.size W w') := fun W hW => ownRing_any W nx _ zs (Rd.below h (below1 hW)) (by omega)
  have HOW : Hid (∀ W, Below w.heap.size w W → Calls Try.prog 23 #[.slice (some ad) 0 cg] W fun e w' => ∃ a' c', e = .returned (.slice a' 0 c') ∧ Own W.heap.size w' (.slice a' 0 c') [] ∧ Below W.heap.size W w') := fun W hW => own_list W _ [] (ints_zero_any W ad cg) (by simp)
  have HOL : Hid (∀ W, Below w.heap.size w W → Calls Try.prog 23 #[.slice a zs.length c] W fun e w' => ∃ a' c', e = .returned (.slice a' zs.length c') ∧ Own W.heap.size w' (.slice a' zs.length c') zs ∧ Below W.heap.size W w') := fun W hW => own_list W _ zs (IsInts.below h hW) (by omega)
  have HRE : Hid (∀ W v' vg', IsInts W v' zs → Own w.heap.size W vg' [] → Calls Try.prog 22 #[.agg #[.int .i64 nx, v'], vg', .int .i64 p] W fun e w' => ∃ a1 c1 a2 c2, e = .returned (.tuple #[.agg #[.int .i64 nx, .slice a1 zs.length c1], .slice a2 0 c2, .agg #[.int .i64 0, .int .i64 0]]) ∧ Own W.heap.size w' (.slice a1 zs.length c1) zs ∧ Own W.heap.size w' (.slice a2 0 c2) [] ∧ Below W.heap.size W w') := fun W v' vg' hW hW' => by
    have := refill_any W nx v' zs p hW vg' [] hW'.list.1 hW'.list.2 hW'.form (by rw [hf])
    rw [ek, Nat.add_zero, List.take_zero, List.append_nil] at this
    exact this
  have HRF : Hid (∀ W, Below w.heap.size w W → Calls Try.prog 13 #[.agg #[.int .i64 nx, .slice a zs.length c]] W fun e w' => e = .returned (.agg #[.int .i64 0, .int .i64 0]) ∧ Below W.heap.size W w') := fun W hW => by
    have := rfault_any W nx _ zs (Rd.below h hW) hv (by unfold maxLen; omega)
    rw [hr] at this
    exact this
  clear h hv hf hf0 hr hgl ek
  have pneb : (p == 0) = false := by simp; omega
  have g1 : ¬ p < 1 := by omega
  have g2 : ¬ 64 < p := by omega
  have g3 : ¬ 256 - (zs.length : Int) < 0 := by omega
  go_enter Try.func5, Try.ntmps5
  go_upto_region 7 with (first
    | (go_at_call 9; refine (begun_any _).mono ?_; rintro e w1 ⟨rfl, hb1⟩; have hx1 := hb1.mono (show w.heap.size + 1 ≤ _ by simp); obtain ⟨x0, x1, s1⟩ := arg1 hx1; have HX1 := hide hx1; clear hb1 hx1)
    | (go_at_call 10; refine (unhide HOR _ (unhide HX1)).mono ?_; rintro e w2 ⟨a2, c2, rfl, ho2, hb2⟩; have HO2 := hide ho2; have HX2 := hide (next1 (unhide HX1) hb2); clear ho2 hb2 x0 x1 s1)
    | (go_at_call 23; refine (unhide HOW _ (below1 (unhide HX2))).mono ?_; rintro e w3 ⟨a3, c3, rfl, ho3, hb3⟩; have HO3 := hide ho3; have HI2 := hide (IsInts.below (unhide HO2).list.1 hb3); have HX3 := hide (next1 (unhide HX2) hb3); clear ho3 hb3)
    | (go_at_call 22; refine (unhide HRE _ _ _ (unhide HI2) ((unhide HO3).base (below1 (unhide HX2)).size)).mono ?_; rintro e w4 ⟨a4, c4, a5, c5, rfl, hq1, hq2, hb4⟩; have HQ1 := hide hq1; have HQ2 := hide hq2; clear hq1 hq2; have hx4 := next1 (unhide HX3) hb4; obtain ⟨x0, x1, s1⟩ := arg1 hx4; have HX4 := hide hx4; clear hb4 hx4)
    | (go_at_call 13; refine (unhide HRF _ ((below1 (unhide HX4)).trans ((below_new2 w4 _ _).mono (below1 (unhide HX4)).size))).mono ?_; rintro e w5 ⟨rfl, hb5⟩; have HB5 := hide hb5; clear hb5 x0 x1 s1))
  have HP1 := hide (IsInts.below (unhide HQ1).list.1 (puts_below4 (o12 := .cells #[.int .i64 0, .int .i64 0] 28) (unhide HB5)))
  have HP2 := hide (IsInts.below (unhide HQ2).list.1 (puts_below4 (o12 := .cells #[.int .i64 0, .int .i64 0] 28) (unhide HB5)))
  have VW6 := hide (ref_vars (x := 0) (y := 0) (unhide HX4) (unhide HB5))
  obtain ⟨W6, eW6⟩ : ∃ W, w5.alloc (.cells #[.int .i64 0, .int .i64 0] 28) = W := ⟨_, rfl⟩
  rw [eW6] at VW6 HP1 HP2 ⊢
  clear eW6
  obtain ⟨s7, e7⟩ : ∃ s, w4.heap.size = s := ⟨_, rfl⟩
  rw [e7] at VW6 ⊢
  clear e7 HB5 HX1 HX2 HX3 HX4 HO2 HO3 HI2 HOR HOW HRE HRF HQ1 HQ2
  obtain ⟨⟨q30, q31⟩, ⟨q70, q71⟩, ⟨q90, q91⟩, ⟨q100, q101⟩, z0, z1⟩ := (unhide VW6).cells
  go_wp2_with fail
  clear q30 q31 q70 q71 q90 q91 q100 q101 z0 z1
  go_loopw [11] (fun i wr11 => i = .int .i64 0 ∧ wr11 = W6) (fun i _ => 0)
  case atStart => exact ⟨rfl, rfl⟩
  case round =>
    obtain ⟨rfl, rfl⟩ := hrel
    obtain ⟨⟨q30, q31⟩, ⟨q70, q71⟩, ⟨q90, q91⟩, ⟨q100, q101⟩, z0, z1⟩ := (unhide VW6).cells
    go_wp2_with fail
    clear q30 q31 q70 q71 q90 q91 q100 q101 z0 z1
    go_loopw [12] (fun i wr12 => i = .int .i64 0 ∧ wr12 = wr) (fun i _ => 0)
    case atStart => exact ⟨rfl, rfl⟩
    case round =>
      obtain ⟨rfl, rfl⟩ := hrel
      obtain ⟨⟨q30, q31⟩, ⟨q70, q71⟩, ⟨q90, q91⟩, ⟨q100, q101⟩, z0, z1⟩ := (unhide VW6).cells
      go_upto_region 32 with fail
      clear q30 q31 q70 q71 q90 q91 q100 q101 z0 z1
      have HST : Hid (∀ W, Below wr.heap.size wr W → W.cell? ⟨w.heap.size, 0, none⟩ = some (.int .i64 nx) ∧ W.cell? ⟨w.heap.size, 1, none⟩ = some (.slice a zs.length c) ∧ W.cell? ⟨s7, 0, none⟩ = some (.int .i64 nx) ∧ W.cell? ⟨s7, 1, none⟩ = some (.slice a4 zs.length c4) ∧ Below wr.heap.size wr W) := fun W hW =>
        have hc := ((unhide VW6).keep hW).cells
        ⟨hc.1.1, hc.1.2, hc.2.1.1, hc.2.1.2, hW⟩
      have HOM : Hid (∀ W, Below wr.heap.size wr W → Calls Try.prog 23 #[.slice a zs.length c] W fun e w' => ∃ a' c', e = .returned (.slice a' zs.length c') ∧ Own W.heap.size w' (.slice a' zs.length c') zs ∧ Below W.heap.size W w') := fun W hW => unhide HOL W ((unhide VW6).keep hW).all
      have HLM1 : Hid (zs.length ≤ maxLen) := by
        show zs.length ≤ maxLen
        unfold maxLen; omega
      have HLM2 : Hid (([] : List Int).length ≤ maxLen) := Nat.zero_le _
      have HPP : Hid (∀ W, Below wr.heap.size wr W → IsInts W (.slice a4 zs.length c4) zs) := fun W hW => IsInts.below (unhide HP1) hW
      have HPL : Hid (∀ W, Below wr.heap.size wr W → IsInts W (.slice a5 0 c5) []) := fun W hW => IsInts.below (unhide HP2) hW
      have e1 : (nx == nx) = true := by simp
      obtain ⟨q30, q31, q70, q71, _⟩ := unhide HST _ (Below.refl _ _)
      go_region_held3 (fun W => W.cell? ⟨w.heap.size, 0, none⟩ = some (.int .i64 nx) ∧ W.cell? ⟨w.heap.size, 1, none⟩ = some (.slice a zs.length c) ∧ W.cell? ⟨s7, 0, none⟩ = some (.int .i64 nx) ∧ W.cell? ⟨s7, 1, none⟩ = some (.slice a4 zs.length c4) ∧ Below wr.heap.size wr W)
        (first | with_reducible exact unhide HST _ (Below.refl _ _).drew | with_reducible exact unhide HST _ (unhide HB6) | with_reducible exact unhide HST _ (unhide HB7) | with_reducible exact unhide HST _ (unhide HB8) | with_reducible exact unhide HST _ (unhide HB9))
        (first
          | (go_at_call 23; refine (unhide HOM _ (by go_split_ands; assumption)).mono ?_; rintro e w6 ⟨a6, c6, rfl, ho6, hb6⟩; have HO6 : Hid (Own wr.heap.size w6 (.slice a6 zs.length c6) zs) := ho6.base (Below.size (B := wr.heap.size) (by go_split_ands; assumption)); have HB6 : Hid (Below wr.heap.size wr w6) := Below.trans (B := wr.heap.size) (by go_split_ands; assumption) (hb6.mono (Below.size (B := wr.heap.size) (by go_split_ands; assumption))); clear ho6 hb6)
          | (refine step_append_want (by rfl) (.tmp 152) (.tmp 155) rfl wr.heap.size (.slice a6 zs.length c6) zs rfl (unhide HO6) (.slice (some ad) 0 cg) [] rfl (ints_zero_any _ _ _) zs.length rfl (by omega) (unhide HB6).size ?_; intro a7 c7 w7 ho7 hg7; have HI7 : Hid (IsInts w7 (.slice a7 zs.length c7) zs) := (by have := ho7.list.1; rw [List.append_nil] at this; exact this); have HB7 : Hid (Below wr.heap.size wr w7) := (unhide HB6).grown hg7 (unhide HB6).size (fun i hi => ((unhide HO6).lt i hi).1); clear ho7 hg7)
          | (go_at_call 20; (with_reducible refine Calls.mono (ints_same _ _ _ _ (unhide HPP _ (unhide HB7)) (unhide HI7) (unhide HLM1)) ?_); rintro e w8 ⟨rfl, hb8⟩; have HB8 : Hid (Below wr.heap.size wr w8) := (unhide HB7).trans (hb8.mono (unhide HB7).size); clear hb8)
          | (go_at_call 20; (with_reducible refine Calls.mono (ints_same _ _ _ _ (unhide HPL _ (unhide HB8)) (ints_zero_any _ _ _) (unhide HLM2)) ?_); rintro e w9 ⟨rfl, hb9⟩; have HB9 : Hid (Below wr.heap.size wr w9) := (unhide HB8).trans (hb9.mono (unhide HB8).size); clear hb9))
      go_wp2_with fail
      go_ret
      exact ⟨rfl, ((unhide VW6).keep (unhide HB9)).all⟩

set_option maxRecDepth 100000 in
set_option maxHeartbeats 2000000 in
theorem refills_ok_at0 (w : World) (nx : Int) (a : Option Addr) (c : Nat) (zs : List Int) (p : Int) (ad : Addr) (h : IsInts w (.slice a zs.length c) zs) (hv : Fits (.slice a zs.length c)) (hn : zs.length ≤ 2000) (hf : refillF nx zs [] p = (0, 0)) :
    Calls Try.prog 5 #[.agg #[.int .i64 nx, .slice a zs.length c], .slice (some ad) 0 0, .int .i64 p] w fun e w' => e = .returned (.bool true) ∧ Below w.heap.size w w' := by
  have hnot : ∀ (x : Bool) (w : World), (Op.unary .not (.bool x)).run Try.prog w = .ok (.bool (!x)) w := fun _ _ => rfl
  obtain ⟨hf0, hr, hgl, hp1, hp2⟩ := refillF_ok (nx := nx) (zs := zs) (gs := []) (p := p) (by rw [hf])
  have hz := ringF_len hr
  have ek : refillK zs [] p = 0 := by have := (refillK_le (zs := zs) (gs := []) hp1 hz).1; simpa using this
  have h1 : ¬ (2000 : Int) < (zs.length : Int) := by omega
  have HOR : Hid (∀ W, Below (w.heap.size + 1) (w.alloc (.cells #[.int .i64 nx, .slice a zs.length c] 24)) W → Calls Try.prog 10 #[.agg #[.int .i64 nx, .slice a zs.length c]] W fun e w' => ∃ a' c', e = .returned (.agg #[.int .i64 nx, .slice a' zs.length c']) ∧ Own W.heap.size w' (.slice a' zs.length c') zs ∧ Below W.heap.size W w') := fun W hW => ownRing_any W nx _ zs (Rd.below h (below1 hW)) (by omega)
  have HOW : Hid (∀ W, Below w.heap.size w W → Calls Try.prog 23 #[.slice (some ad) 0 0] W fun e w' => ∃ a' c', e = .returned (.slice a' 0 c') ∧ Own W.heap.size w' (.slice a' 0 c') [] ∧ Below W.heap.size W w') := fun W hW => own_list W _ [] (ints_zero_any W ad 0) (by simp)
  have HOL : Hid (∀ W, Below w.heap.size w W → Calls Try.prog 23 #[.slice a zs.length c] W fun e w' => ∃ a' c', e = .returned (.slice a' zs.length c') ∧ Own W.heap.size w' (.slice a' zs.length c') zs ∧ Below W.heap.size W w') := fun W hW => own_list W _ zs (IsInts.below h hW) (by omega)
  have HRE : Hid (∀ W v' vg', IsInts W v' zs → Own w.heap.size W vg' [] → Calls Try.prog 22 #[.agg #[.int .i64 nx, v'], vg', .int .i64 p] W fun e w' => ∃ a1 c1 a2 c2, e = .returned (.tuple #[.agg #[.int .i64 nx, .slice a1 zs.length c1], .slice a2 0 c2, .agg #[.int .i64 0, .int .i64 0]]) ∧ Own W.heap.size w' (.slice a1 zs.length c1) zs ∧ Own W.heap.size w' (.slice a2 0 c2) [] ∧ Below W.heap.size W w') := fun W v' vg' hW hW' => by
    have := refill_any W nx v' zs p hW vg' [] hW'.list.1 hW'.list.2 hW'.form (by rw [hf])
    rw [ek, Nat.add_zero, List.take_zero, List.append_nil] at this
    exact this
  have HRF : Hid (∀ W, Below w.heap.size w W → Calls Try.prog 13 #[.agg #[.int .i64 nx, .slice a zs.length c]] W fun e w' => e = .returned (.agg #[.int .i64 0, .int .i64 0]) ∧ Below W.heap.size W w') := fun W hW => by
    have := rfault_any W nx _ zs (Rd.below h hW) hv (by unfold maxLen; omega)
    rw [hr] at this
    exact this
  clear h hv hf hf0 hr hgl ek
  have pneb : (p == 0) = false := by simp; omega
  have g1 : ¬ p < 1 := by omega
  have g2 : ¬ 64 < p := by omega
  have g3 : ¬ 256 - (zs.length : Int) < 0 := by omega
  go_enter Try.func5, Try.ntmps5
  go_upto_region 7 with (first
    | (go_at_call 9; refine (begun_any _).mono ?_; rintro e w1 ⟨rfl, hb1⟩; have hx1 := hb1.mono (show w.heap.size + 1 ≤ _ by simp); obtain ⟨x0, x1, s1⟩ := arg1 hx1; have HX1 := hide hx1; clear hb1 hx1)
    | (go_at_call 10; refine (unhide HOR _ (unhide HX1)).mono ?_; rintro e w2 ⟨a2, c2, rfl, ho2, hb2⟩; have HO2 := hide ho2; have HX2 := hide (next1 (unhide HX1) hb2); clear ho2 hb2 x0 x1 s1)
    | (go_at_call 23; refine (unhide HOW _ (below1 (unhide HX2))).mono ?_; rintro e w3 ⟨a3, c3, rfl, ho3, hb3⟩; have HO3 := hide ho3; have HI2 := hide (IsInts.below (unhide HO2).list.1 hb3); have HX3 := hide (next1 (unhide HX2) hb3); clear ho3 hb3)
    | (go_at_call 22; refine (unhide HRE _ _ _ (unhide HI2) ((unhide HO3).base (below1 (unhide HX2)).size)).mono ?_; rintro e w4 ⟨a4, c4, a5, c5, rfl, hq1, hq2, hb4⟩; have HQ1 := hide hq1; have HQ2 := hide hq2; clear hq1 hq2; have hx4 := next1 (unhide HX3) hb4; obtain ⟨x0, x1, s1⟩ := arg1 hx4; have HX4 := hide hx4; clear hb4 hx4)
    | (go_at_call 13; refine (unhide HRF _ ((below1 (unhide HX4)).trans ((below_new2 w4 _ _).mono (below1 (unhide HX4)).size))).mono ?_; rintro e w5 ⟨rfl, hb5⟩; have HB5 := hide hb5; clear hb5 x0 x1 s1))
  have HP1 := hide (IsInts.below (unhide HQ1).list.1 (puts_below4 (o12 := .cells #[.int .i64 0, .int .i64 0] 28) (unhide HB5)))
  have HP2 := hide (IsInts.below (unhide HQ2).list.1 (puts_below4 (o12 := .cells #[.int .i64 0, .int .i64 0] 28) (unhide HB5)))
  have VW6 := hide (ref_vars (x := 0) (y := 0) (unhide HX4) (unhide HB5))
  obtain ⟨W6, eW6⟩ : ∃ W, w5.alloc (.cells #[.int .i64 0, .int .i64 0] 28) = W := ⟨_, rfl⟩
  rw [eW6] at VW6 HP1 HP2 ⊢
  clear eW6
  obtain ⟨s7, e7⟩ : ∃ s, w4.heap.size = s := ⟨_, rfl⟩
  rw [e7] at VW6 ⊢
  clear e7 HB5 HX1 HX2 HX3 HX4 HO2 HO3 HI2 HOR HOW HRE HRF HQ1 HQ2
  obtain ⟨⟨q30, q31⟩, ⟨q70, q71⟩, ⟨q90, q91⟩, ⟨q100, q101⟩, z0, z1⟩ := (unhide VW6).cells
  go_wp2_with fail
  clear q30 q31 q70 q71 q90 q91 q100 q101 z0 z1
  go_loopw [11] (fun i wr11 => i = .int .i64 0 ∧ wr11 = W6) (fun i _ => 0)
  case atStart => exact ⟨rfl, rfl⟩
  case round =>
    obtain ⟨rfl, rfl⟩ := hrel
    obtain ⟨⟨q30, q31⟩, ⟨q70, q71⟩, ⟨q90, q91⟩, ⟨q100, q101⟩, z0, z1⟩ := (unhide VW6).cells
    go_wp2_with fail
    clear q30 q31 q70 q71 q90 q91 q100 q101 z0 z1
    go_loopw [12] (fun i wr12 => i = .int .i64 0 ∧ wr12 = wr) (fun i _ => 0)
    case atStart => exact ⟨rfl, rfl⟩
    case round =>
      obtain ⟨rfl, rfl⟩ := hrel
      obtain ⟨⟨q30, q31⟩, ⟨q70, q71⟩, ⟨q90, q91⟩, ⟨q100, q101⟩, z0, z1⟩ := (unhide VW6).cells
      go_upto_region 32 with fail
      clear q30 q31 q70 q71 q90 q91 q100 q101 z0 z1
      have HST : Hid (∀ W, Below wr.heap.size wr W → W.cell? ⟨w.heap.size, 0, none⟩ = some (.int .i64 nx) ∧ W.cell? ⟨w.heap.size, 1, none⟩ = some (.slice a zs.length c) ∧ W.cell? ⟨s7, 0, none⟩ = some (.int .i64 nx) ∧ W.cell? ⟨s7, 1, none⟩ = some (.slice a4 zs.length c4) ∧ Below wr.heap.size wr W) := fun W hW =>
        have hc := ((unhide VW6).keep hW).cells
        ⟨hc.1.1, hc.1.2, hc.2.1.1, hc.2.1.2, hW⟩
      have HOM : Hid (∀ W, Below wr.heap.size wr W → Calls Try.prog 23 #[.slice a zs.length c] W fun e w' => ∃ a' c', e = .returned (.slice a' zs.length c') ∧ Own W.heap.size w' (.slice a' zs.length c') zs ∧ Below W.heap.size W w') := fun W hW => unhide HOL W ((unhide VW6).keep hW).all
      have HLM1 : Hid (zs.length ≤ maxLen) := by
        show zs.length ≤ maxLen
        unfold maxLen; omega
      have HLM2 : Hid (([] : List Int).length ≤ maxLen) := Nat.zero_le _
      have HPP : Hid (∀ W, Below wr.heap.size wr W → IsInts W (.slice a4 zs.length c4) zs) := fun W hW => IsInts.below (unhide HP1) hW
      have HPL : Hid (∀ W, Below wr.heap.size wr W → IsInts W (.slice a5 0 c5) []) := fun W hW => IsInts.below (unhide HP2) hW
      have e1 : (nx == nx) = true := by simp
      obtain ⟨q30, q31, q70, q71, _⟩ := unhide HST _ (Below.refl _ _)
      go_region_held3 (fun W => W.cell? ⟨w.heap.size, 0, none⟩ = some (.int .i64 nx) ∧ W.cell? ⟨w.heap.size, 1, none⟩ = some (.slice a zs.length c) ∧ W.cell? ⟨s7, 0, none⟩ = some (.int .i64 nx) ∧ W.cell? ⟨s7, 1, none⟩ = some (.slice a4 zs.length c4) ∧ Below wr.heap.size wr W)
        (first | with_reducible exact unhide HST _ (Below.refl _ _).drew | with_reducible exact unhide HST _ (unhide HB6) | with_reducible exact unhide HST _ (unhide HB7) | with_reducible exact unhide HST _ (unhide HB8) | with_reducible exact unhide HST _ (unhide HB9))
        (first
          | (go_at_call 23; refine (unhide HOM _ (by go_split_ands; assumption)).mono ?_; rintro e w6 ⟨a6, c6, rfl, ho6, hb6⟩; have HO6 : Hid (Own wr.heap.size w6 (.slice a6 zs.length c6) zs) := ho6.base (Below.size (B := wr.heap.size) (by go_split_ands; assumption)); have HB6 : Hid (Below wr.heap.size wr w6) := Below.trans (B := wr.heap.size) (by go_split_ands; assumption) (hb6.mono (Below.size (B := wr.heap.size) (by go_split_ands; assumption))); clear ho6 hb6)
          | (refine step_append_want (by rfl) (.tmp 152) (.tmp 155) rfl wr.heap.size (.slice a6 zs.length c6) zs rfl (unhide HO6) (.slice (some ad) 0 0) [] rfl (ints_zero_any _ _ _) zs.length rfl (by omega) (unhide HB6).size ?_; intro a7 c7 w7 ho7 hg7; have HI7 : Hid (IsInts w7 (.slice a7 zs.length c7) zs) := (by have := ho7.list.1; rw [List.append_nil] at this; exact this); have HB7 : Hid (Below wr.heap.size wr w7) := (unhide HB6).grown hg7 (unhide HB6).size (fun i hi => ((unhide HO6).lt i hi).1); clear ho7 hg7)
          | (go_at_call 20; (with_reducible refine Calls.mono (ints_same _ _ _ _ (unhide HPP _ (unhide HB7)) (unhide HI7) (unhide HLM1)) ?_); rintro e w8 ⟨rfl, hb8⟩; have HB8 : Hid (Below wr.heap.size wr w8) := (unhide HB7).trans (hb8.mono (unhide HB7).size); clear hb8)
          | (go_at_call 20; (with_reducible refine Calls.mono (ints_same _ _ _ _ (unhide HPL _ (unhide HB8)) (ints_zero_any _ _ _) (unhide HLM2)) ?_); rintro e w9 ⟨rfl, hb9⟩; have HB9 : Hid (Below wr.heap.size wr w9) := (unhide HB8).trans (hb9.mono (unhide HB8).size); clear hb9))
      go_wp2_with fail
      go_ret
      exact ⟨rfl, ((unhide VW6).keep (unhide HB9)).all⟩

end Go.Proofs.Ytcdnennfimbgoaa
