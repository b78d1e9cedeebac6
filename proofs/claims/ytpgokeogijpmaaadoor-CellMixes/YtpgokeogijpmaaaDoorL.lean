/-
  cell.Run where Check finds no fault.
-/
import Derived.Test.YtpgokeogijpmaaaDoorK
namespace Go.Proofs.YtpgokeogijpmaaaDoor
open Go.RowKit

theorem owns_keep {w w' : World} {base e size n : Nat} {v : Value} {xs : List Value} (h : w.ownsRow base e size v n xs) (hk : ∀ k, base ≤ k → k < w.heap.size → w'.heap[k]? = w.heap[k]?) : w'.ownsRow base e size v n xs := by
  refine ⟨h.1, h.2.imp id ?_⟩
  rintro ⟨g, cap, cur, hv, hg, hh, r⟩
  exact ⟨g, cap, cur, hv, hg, (hk g hg (Array.getElem?_eq_some_iff.1 hh).1).trans hh, r⟩

theorem owns_base {w : World} {base base' e size n : Nat} {v : Value} {xs : List Value} (h : w.ownsRow base e size v n xs) (hb : base' ≤ base) : w.ownsRow base' e size v n xs := by
  refine ⟨h.1, h.2.imp id ?_⟩
  rintro ⟨g, cap, cur, hv, hg, r⟩
  exact ⟨g, cap, cur, hv, Nat.le_trans hb hg, r⟩

/-- What is owned from a number on stays so while two cells of a block below it are written. -/
theorem owns_res {w : World} {base B e size n : Nat} {v x y : Value} {xs : List Value} (h : w.ownsRow base e size v n xs) (hb : B < base) : ((w.setCell ⟨B, 0, none⟩ x).setCell ⟨B, 1, none⟩ y).ownsRow base e size v n xs :=
  owns_keep h fun k hk _ => by rw [Below.heap_setCell _ _ _ _ (by simp; omega), Below.heap_setCell _ _ _ _ (by simp; omega)]

/-- A round of the loop, up to the op's being done. -/
theorem do_step {w2 wr w5 : World} {v9 t : Value} {N2 N3 g q j : Nat} {Z : List Int} {T : List Value} {o : Obj} {x : Int} (hnx : Below N2 w2 wr) (hmem : MemAt wr v9 g Z) (htold : wr.ownsRow N3 3 1 t j T) (hg : N2 ≤ g) (hgN : g < N3) (hN : N3 ≤ wr.heap.size)
    (hq : q < Z.length) (hdo : Below (wr.alloc o).heap.size ((wr.alloc o).setCell ⟨g, 0 + q, none⟩ (.int .i64 x)) w5) :
    Below N2 w2 w5 ∧ MemAt w5 v9 g (Z.set q x) ∧ w5.ownsRow N3 3 1 t j T ∧ N3 ≤ w5.heap.size := by
  have hsz : (wr.alloc o).heap.size = wr.heap.size + 1 := by simp
  have h1 : ∀ k, k < wr.heap.size → k ≠ g → w5.heap[k]? = wr.heap[k]? := fun k hk hne => by
    rw [hdo.block k (by omega), Below.heap_setCell _ _ _ _ (by simpa using hne), Below.heap_alloc _ _ _ hk]
  have hs5 : wr.heap.size + 1 ≤ w5.heap.size := by have := hdo.size; simp [World.setCell] at this; omega
  refine ⟨?_, ?_, owns_keep htold fun k hk hlt => h1 k hlt (by omega), by omega⟩
  · refine hnx.trans ⟨?_, ?_, ?_, by omega, fun k hk => h1 k (by omega) (by omega)⟩
    · exact hdo.os
    · exact hdo.tape
    · exact hdo.output
  · have hm1 : MemAt (wr.alloc o) v9 g Z := hmem.keep (Below.heap_alloc _ _ _ (by omega))
    exact (hm1.set hq x).keep (hdo.block g (by omega))

/-- A round of the loop, behind the append of what the op tells. -/
theorem app_step {w2 w5 w6 : World} {v9 t : Value} {N2 N3 g j : Nat} {Z : List Int} {T : List Value} {o : Obj} (hnx : Below N2 w2 w5) (hmem : MemAt w5 v9 g Z) (htold : w5.ownsRow N3 3 1 t j T) (hg : N2 ≤ g) (hgN : g < N3) (hN : N3 ≤ w5.heap.size)
    (hgr : (w5.alloc o).grownBy w6 t.ownBlock) : Below N2 w2 w6 ∧ MemAt w6 v9 g Z ∧ N3 ≤ w6.heap.size := by
  have hsz : (w5.alloc o).heap.size = w5.heap.size + 1 := by simp
  have h1 : ∀ k, k < N3 → w6.heap[k]? = w5.heap[k]? := fun k hk => by
    rw [hgr.block k (by omega) (fun e => by have := (htold.lt k e.symm).1; omega), Below.heap_alloc _ _ _ (by omega)]
  refine ⟨hnx.trans ⟨hgr.os, hgr.tape, hgr.output, by have := hgr.size; omega, fun k hk => h1 k (by omega)⟩, hmem.keep (h1 g hgN), by have := hgr.size; omega⟩

theorem faultFrom_zero {W : Nat → Int} : ∀ (n i : Nat), (faultFrom W n i).1 = 0 → ∀ j, i ≤ j → j < i + n → W j = 0
  | 0, i, _, j, h1, h2 => by omega
  | n + 1, i, h, j, h1, h2 => by
    rw [faultFrom] at h
    by_cases hi : W i = 0
    · rw [if_pos hi] at h
      by_cases e : j = i
      · rw [e]; exact hi
      · exact faultFrom_zero n (i + 1) h j (by omega) (by omega)
    · rw [if_neg hi] at h
      exact absurd h hi

theorem fault_none {m : Nat} {os : List Op4} (h : (fault m os).1 = 0) : m ≤ 32 ∧ os.length ≤ 5000 ∧ ∀ j, j < os.length → wAt m os j = 0 := by
  unfold fault faultOf at h
  by_cases c : 32 < m ∨ 5000 < os.length
  · rw [if_pos c] at h; simp at h
  · rw [if_neg c] at h
    exact ⟨by omega, by omega, fun j hj => faultFrom_zero _ 0 h j (Nat.zero_le _) (by omega)⟩

theorem wrong_none {m k p a b : Int} (h : wrongOf m k p a b = 0) : (1 ≤ k ∧ k ≤ 5) ∧ 0 ≤ p ∧ p < m := by
  unfold wrongOf at h
  split at h
  · split at h
    · simp at h
    · split at h
      · simp at h
      · omega
  · simp at h

theorem fault_pair {m : Nat} {os : List Op4} (h : (fault m os).1 = 0) : fault m os = (0, 0) := by
  have hz := fault_none h
  unfold fault faultOf
  rw [if_neg (by omega)]
  have : ∀ n i, i + n ≤ os.length → faultFrom (wAt m os) n i = (0, 0) := by
    intro n
    induction n with
    | zero => intro i _; rfl
    | succ n ih => intro i hi; rw [faultFrom, if_pos (hz.2.2 i (by omega))]; exact ih (i + 1) (by omega)
  exact this _ 0 (by omega)

/-- cell.do in a round: the contract, with what becomes of the round's relation. -/
theorem do_round {w2 wr : World} {t : Value} {N2 N3 g cap9 Bm j m : Nat} {Z : List Int} {T : List Value} {o4 : Op4} (o : Obj) (hnx : Below N2 w2 wr) (hmem : MemAt wr (.slice (some ⟨g, 0, none⟩) m cap9) g Z) (htold : wr.ownsRow N3 3 1 t j T) (hg : N2 ≤ g) (hgN : g < N3) (hN : N3 ≤ wr.heap.size)
    (hm : Z.length = m) (hB : w2.heap[Bm]? = some (.map ents 5)) (hBm : Bm < N2) (hk : 1 ≤ o4.k ∧ o4.k ≤ 5) (q : Nat) (hq : o4.p = (q : Int)) (hqm : q < m) :
    Calls Tryd.prog 31 #[.map (some Bm), .slice (some ⟨g, 0, none⟩) m cap9, .agg #[.int .i64 o4.k, .int .i64 q, .int .i64 o4.a, .int .i64 o4.b]] (wr.alloc o)
      fun e w5 => e = .returned (.int .i64 (stepTold Z o4)) ∧ Below N2 w2 w5 ∧ MemAt w5 (.slice (some ⟨g, 0, none⟩) m cap9) g (stepMem Z o4) ∧ w5.ownsRow N3 3 1 t j T ∧ N3 ≤ w5.heap.size := by
  have hglt : g < wr.heap.size := by omega
  have hm1 : MemAt (wr.alloc o) (.slice (some ⟨g, 0, none⟩) m cap9) g Z := hmem.keep (Below.heap_alloc _ _ _ hglt)
  obtain ⟨hc, hf⟩ := hm1.cell (q := q) (by omega)
  have hB' : (wr.alloc o).heap[Bm]? = some (.map ents 5) := (Below.heap_alloc _ _ _ (by omega)).trans ((hnx.block Bm hBm).trans hB)
  refine (do_any (wr.alloc o) Bm hB' g 0 m cap9 q (by omega) _ o4.k o4.a o4.b hk hc hf).mono ?_
  rintro e w5 ⟨rfl, hdo⟩
  have hst := do_step hnx hmem htold hg hgN hN (by omega) hdo
  have e1 : o4.p.toNat = q := by rw [hq]; simp
  unfold stepTold stepMem
  rw [e1]
  exact ⟨rfl, hst⟩

/-- What holds of the world behind cell.deeds. -/
theorem second {w w1 w2 : World} {o : Obj} (h1 : Below (w.heap.size + 1) (w.alloc (.cells #[.int .i64 0, .int .i64 0] 27)) w1) (h2 : w2 = (w1.alloc o).alloc (.map ents 5)) (hs : w.heap.size + 1 ≤ w1.heap.size) :
    Below w.heap.size w w2 ∧ w2.heap[w1.heap.size + 1]? = some (.map ents 5) ∧ w2.heap.size = w1.heap.size + 2 ∧
    w2.cell? ⟨w.heap.size, 0, none⟩ = some (.int .i64 0) ∧ w2.cell? ⟨w.heap.size, 1, none⟩ = some (.int .i64 0) ∧ w2.frozen? ⟨w.heap.size, 0, none⟩ = false ∧ w2.frozen? ⟨w.heap.size, 1, none⟩ = false := by
  subst h2
  have hb : Below w1.heap.size w1 ((w1.alloc o).alloc (.map ents 5)) := ((Below.refl _ _).alloc (Nat.le_refl _) o).alloc (by simp) _
  obtain ⟨r0, r1, r2, r3⟩ := res_one h1
  refine ⟨(below_one h1).trans (hb.mono (by omega)), ?_, by simp, ?_, ?_, ?_, ?_⟩
  · have := (MapKept.heap_alloc (w1.alloc o) (.map ents 5)).1
    simpa using this
  · exact (hb.cell (p := ⟨w.heap.size, 0, none⟩) (by simp; omega)).trans r0
  · exact (hb.cell (p := ⟨w.heap.size, 1, none⟩) (by simp; omega)).trans r1
  · exact (hb.frozen (p := ⟨w.heap.size, 0, none⟩) (by simp; omega)).trans r2
  · exact (hb.frozen (p := ⟨w.heap.size, 1, none⟩) (by simp; omega)).trans r3

set_option maxRecDepth 100000 in
set_option maxHeartbeats 1000000 in
theorem run_some (w : World) (v0 : Value) (zs : List Int) (v1 : Value) (os : List Op4) (hmem : IsInts w v0 zs) (hops : IsOps w v1 os) (hf : (fault zs.length os).1 = 0) (hn0 : 0 < os.length) :
    Calls Tryd.prog 12 #[v0, v1] w fun e w' => ∃ m t, e = .returned (.tuple #[m, t, .agg #[.int .i64 0, .int .i64 0]]) ∧ w'.ownsRow w.heap.size 3 1 m zs.length ((ranMem zs os).map (Value.int .i64)) ∧ w'.ownsRow w.heap.size 3 1 t os.length ((ranTold zs os).map (Value.int .i64)) ∧ Below w.heap.size w w' := by
  obtain ⟨hm32, hn5, hall⟩ := fault_none hf
  have hfp := fault_pair hf
  have hm0 : 0 < zs.length := by have := wrong_none (hall 0 hn0); omega
  obtain ⟨a0, c0, hv0⟩ := Rd.form hmem
  obtain ⟨ob, oo, c1, rfl, hob, hK, hP, hA, hB⟩ := hops.at hn0
  have HC : Hid (∀ W, Below w.heap.size w W → Calls Tryd.prog 11 #[v0, .slice (some ⟨ob, oo, none⟩) os.length c1] W fun e w' => e = .returned (.agg #[.int .i64 0, .int .i64 0]) ∧ Below W.heap.size W w') := fun W hW => by
    have := check_any W a0 zs.length c0 _ os (Rd.below hops hW) (by unfold maxLen; omega) (by unfold maxLen; omega)
    rw [hfp] at this
    rw [hv0]
    exact this
  have HR : Hid (∀ W, Below w.heap.size w W → Calls Tryd.prog 30 #[v0] W fun e w' => ∃ v', e = .returned v' ∧ w'.ownsRow W.heap.size 3 1 v' zs.length (zs.map (Value.int .i64)) ∧ Below W.heap.size W w') := fun W hW =>
    fresh_any W v0 zs.length _ (Rd.below hmem hW) (ints_one zs) (by omega)
  obtain ⟨i0, hi, hz0, hz1, hz2⟩ := info_parts Tryd.info3
  have HK := hide hK; have HP := hide hP; have HA := hide hA; have HB := hide hB; have HALL := hide hall
  clear hK hP hA hB hall hmem hops hf hfp hv0
  go_enter Tryd.func12, Tryd.ntmps12
  go_wp2_with (go_at_call 11; refine (unhide HC _ ?_).mono ?_; exact (Below.refl _ _).alloc (Nat.le_refl _) _; rintro e w1 ⟨rfl, hb1⟩; have hX1 := hb1; simp only [World.size_alloc] at hX1; have hs := hX1.size; simp only [World.size_alloc] at hs; have HX1 := hide hX1; clear hb1 hX1)
  refine (deeds_any _).mono ?_
  rintro e w2 ⟨rfl, hw2⟩
  obtain ⟨hBW, hmap, hs2, r0, r1, f0, f1⟩ := second (unhide HX1) hw2 hs
  have HBW := hide hBW; have HMAP := hide hmap; have HR0 := hide r0; have HR1 := hide r1; have HF0 := hide f0; have HF1 := hide f1
  clear hw2 hBW hmap r0 r1 f0 f1 HX1 HC
  go_wp2_with fail
  refine (unhide HR _ (unhide HBW)).mono ?_
  rintro e w3 ⟨v9, rfl, hown9, hb3⟩
  obtain ⟨g, hg, hgl, hmem9⟩ := MemAt.of_owns hown9 hm0
  have hs3 := hb3.size
  obtain ⟨cap9, rfl⟩ : ∃ cap, v9 = .slice (some ⟨g, 0, none⟩) zs.length cap := by obtain ⟨cap, _, h, _⟩ := hmem9; exact ⟨cap, h⟩
  have HM9 := hide hmem9; have HB3 := hide hb3
  clear hown9 hmem9 hb3 HR
  go_wp2_with (at_make; refine wpList_make_own _ rfl _ _ 22 rfl w3.heap.size 3 i0 (.int .i64 0) 1 Tryd.underlying22 hi hz0 hz1 .i64 .i64 _ os.length rfl rfl rfl (by rw [hz2]; omega) (by unfold maxLen; omega) (Nat.le_refl _) ?_; intro w4 hown4 hgr4; have HO4 := hide hown4; have HG4 := hide hgr4; clear hown4 hgr4)
  go_loopw [10, 28] (fun t i wr => ∃ j : Nat, j ≤ os.length ∧ i = .int .i64 j ∧ Below w2.heap.size w2 wr ∧ MemAt wr (.slice (some ⟨g, 0, none⟩) zs.length cap9) g (ranMem zs (os.take j)) ∧ wr.ownsRow w3.heap.size 3 1 t j ((ranTold zs (os.take j)).map (Value.int .i64)) ∧ w3.heap.size ≤ wr.heap.size)
    (fun _ i _ => os.length - (intOf i).toNat)
  case atStart => exact ⟨0, Nat.zero_le _, rfl, (unhide HB3).grown (unhide HG4) hs3 (fun k hk => by cases hk), (unhide HM9).keep ((unhide HG4).block g hgl (by simp)), unhide HO4, (unhide HG4).size⟩
  case round =>
    obtain ⟨j, hj, rfl, hnx, hmem, htold, hsz⟩ := hrel
    by_cases hlt : j < os.length
    · have hBwr : Below w.heap.size w wr := (unhide HBW).trans (hnx.mono (unhide HBW).size)
      obtain ⟨hk5, hp0, hpm⟩ := wrong_none (unhide HALL j hlt)
      obtain ⟨q, hq⟩ := Int.eq_ofNat_of_zero_le hp0
      have hqz : q < zs.length := by omega
      have k0 := (hBwr.cell (p := ⟨ob, oo + j * 4, none⟩) hob).trans (unhide HK j hlt)
      have k1 := (hBwr.cell (p := ⟨ob, oo + j * 4 + 1, none⟩) hob).trans (unhide HP j hlt)
      have k2 := (hBwr.cell (p := ⟨ob, oo + j * 4 + 2, none⟩) hob).trans (unhide HA j hlt)
      have k3 := (hBwr.cell (p := ⟨ob, oo + j * 4 + 3, none⟩) hob).trans (unhide HB j hlt)
      rw [hq] at k1
      have HMEM := hide hmem; have HTOLD := hide htold; have HNX := hide hnx
      have HDO := hide (fun o => do_round (Bm := w1.heap.size + 1) (o4 := opAtD os j) o hnx hmem htold hg hgl hsz (ranMem_length _ _) (unhide HMAP) (by omega) hk5 q hq hqz)
      clear hmem htold hnx hBwr
      go_wp2_with (first
        | (go_at_call 31; refine (unhide HDO _).mono ?_; rintro e w5 ⟨rfl, hnx5, hmem5, htold5, hsz5⟩; have HNX5 := hide hnx5; have HMEM5 := hide hmem5; have HTOLD5 := hide htold5; clear hnx5 hmem5 htold5)
        | (at_builtin; refine wpList_append_own _ rfl _ _ 22 rfl w3.heap.size 3 i0 (.int .i64 0) 1 8 Tryd.underlying22 hi hz0 hz1 hz2 rfl (by decide) _ _ _ rfl ((unhide HTOLD5).alloc _) ⟨w5.heap.size, 0, none⟩ 1 1 [.int .i64 (stepTold (ranMem zs (os.take j)) (opAtD os j))] rfl rfl (cell_one_new _ _ _) (ints_oneCell .i64 [_]) (by unfold maxLen; omega) (by omega) (by simp; omega) ?_; intro t6 w6 hown6 hgr6 _; have HO6 := hide hown6; have HG6 := hide hgr6; clear hown6 hgr6))
      have HA6 := hide (app_step (unhide HNX5) (unhide HMEM5) (unhide HTOLD5) hg hgl hsz5 (unhide HG6))
      go_roundw
      case rel =>
        refine ⟨j + 1, by omega, by go_num, (unhide HA6).1, ?_, ?_, (unhide HA6).2.2⟩
        · rw [ranMem_take hlt]; exact (unhide HA6).2.1
        · rw [ranTold_take hlt, List.map_append]; exact unhide HO6
      case measure => simp [intOf]; omega
    · have hlw : w.heap.size < w2.heap.size := by omega
      have r0 := (hnx.cell (p := ⟨w.heap.size, 0, none⟩) hlw).trans (unhide HR0)
      have r1 := (hnx.cell (p := ⟨w.heap.size, 1, none⟩) hlw).trans (unhide HR1)
      have f0 := (hnx.frozen (p := ⟨w.heap.size, 0, none⟩) hlw).trans (unhide HF0)
      have f1 := (hnx.frozen (p := ⟨w.heap.size, 1, none⟩) hlw).trans (unhide HF1)
      have HMEM := hide hmem; have HTOLD := hide htold; have HNX := hide hnx
      clear hmem htold hnx
      go_wp2
      obtain rfl : j = os.length := by omega
      have hO9 : w.heap.size < w2.heap.size := hlw
      refine bodyPost_ret (v := .tuple #[.slice (some ⟨g, 0, none⟩) zs.length cap9, _, .agg #[.int .i64 0, .int .i64 0]]) (by simp [results, Tryd.results12, go_sem, r0, r1]; rfl) rfl ⟨_, _, rfl, ?_, ?_, ?_⟩
      · have := owns_base (owns_res (x := .int .i64 0) (y := .int .i64 0) ((unhide HMEM).owns hg) hlw) (Nat.le_of_lt hlw)
        rw [List.take_length, ranMem_length] at this
        exact this
      · have := owns_base (owns_res (x := .int .i64 0) (y := .int .i64 0) (unhide HTOLD) (B := w.heap.size) (by omega)) (base' := w.heap.size) (by omega)
        rw [List.take_length] at this
        exact this
      · exact (((unhide HBW).trans ((unhide HNX).mono (Nat.le_of_lt hlw))).setCell (Nat.le_refl _) _).setCell (Nat.le_refl _) _

set_option maxRecDepth 100000 in
set_option maxHeartbeats 1000000 in
theorem run_zero (w : World) (v0 : Value) (zs : List Int) (a1 : Option Addr) (c1 : Nat) (hmem : IsInts w v0 zs) (hm32 : zs.length ≤ 32) :
    Calls Tryd.prog 12 #[v0, .slice a1 0 c1] w fun e w' => ∃ m t, e = .returned (.tuple #[m, t, .agg #[.int .i64 0, .int .i64 0]]) ∧ w'.ownsRow w.heap.size 3 1 m zs.length (zs.map (Value.int .i64)) ∧ w'.ownsRow w.heap.size 3 1 t 0 [] ∧ Below w.heap.size w w' := by
  obtain ⟨a0, c0, hv0⟩ := Rd.form hmem
  have HC : Hid (∀ W, Calls Tryd.prog 11 #[v0, .slice a1 0 c1] W fun e w' => e = .returned (.agg #[.int .i64 0, .int .i64 0]) ∧ Below W.heap.size W w') := fun W => by
    rw [hv0]
    exact check_zero W a0 a1 zs.length c0 c1 hm32
  have HR : Hid (∀ W, Below w.heap.size w W → Calls Tryd.prog 30 #[v0] W fun e w' => ∃ v', e = .returned v' ∧ w'.ownsRow W.heap.size 3 1 v' zs.length (zs.map (Value.int .i64)) ∧ Below W.heap.size W w') := fun W hW =>
    fresh_any W v0 zs.length _ (Rd.below hmem hW) (ints_one zs) (by omega)
  obtain ⟨i0, hi, hz0, hz1, hz2⟩ := info_parts Tryd.info3
  clear hmem hv0
  go_enter Tryd.func12, Tryd.ntmps12
  go_wp2_with (go_at_call 11; refine (unhide HC _).mono ?_; rintro e w1 ⟨rfl, hb1⟩; have hX1 := hb1; simp only [World.size_alloc] at hX1; have hs := hX1.size; simp only [World.size_alloc] at hs; have HX1 := hide hX1; clear hb1 hX1)
  refine (deeds_any _).mono ?_
  rintro e w2 ⟨rfl, hw2⟩
  obtain ⟨hBW, hmap, hs2, r0, r1, f0, f1⟩ := second (unhide HX1) hw2 hs
  have HBW := hide hBW; have HR0 := hide r0; have HR1 := hide r1; have HF0 := hide f0; have HF1 := hide f1
  clear hw2 hBW hmap r0 r1 f0 f1 HX1 HC
  go_wp2_with fail
  refine (unhide HR _ (unhide HBW)).mono ?_
  rintro e w3 ⟨v9, rfl, hown9, hb3⟩
  have hs3 := hb3.size
  have HO9 := hide hown9; have HB3 := hide hb3
  clear hown9 hb3 HR
  go_wp2_with (at_make; refine wpList_make_own _ rfl _ _ 22 rfl w3.heap.size 3 i0 (.int .i64 0) 1 Tryd.underlying22 hi hz0 hz1 .i64 .i64 _ 0 rfl rfl rfl (by omega) (by unfold maxLen; omega) (Nat.le_refl _) ?_; intro w4 hown4 hgr4; have HO4 := hide hown4; have HG4 := hide hgr4; clear hown4 hgr4)
  go_loopw [10, 28] (fun t i wr => t = .slice (some ⟨w3.heap.size, 0, none⟩) 0 0 ∧ i = .int .i64 0 ∧ wr = w4) (fun _ _ _ => 0)
  case atStart => exact ⟨rfl, rfl, rfl⟩
  case round =>
    obtain ⟨rfl, rfl, rfl⟩ := hrel
    have hlw : w.heap.size < w2.heap.size := by omega
    have hnx : Below w2.heap.size w2 wr := (unhide HB3).grown (unhide HG4) hs3 (fun k hk => by cases hk)
    have r0 := (hnx.cell (p := ⟨w.heap.size, 0, none⟩) hlw).trans (unhide HR0)
    have r1 := (hnx.cell (p := ⟨w.heap.size, 1, none⟩) hlw).trans (unhide HR1)
    have f0 := (hnx.frozen (p := ⟨w.heap.size, 0, none⟩) hlw).trans (unhide HF0)
    have f1 := (hnx.frozen (p := ⟨w.heap.size, 1, none⟩) hlw).trans (unhide HF1)
    have HNX := hide hnx
    clear hnx
    go_wp2
    refine bodyPost_ret (v := .tuple #[v9, .slice (some ⟨w3.heap.size, 0, none⟩) 0 0, .agg #[.int .i64 0, .int .i64 0]]) (by simp [results, Tryd.results12, go_sem, r0, r1]) rfl ⟨_, _, rfl, ?_, ?_, ?_⟩
    · have h9 : wr.ownsRow w2.heap.size 3 1 v9 zs.length (zs.map (Value.int .i64)) := owns_keep (unhide HO9) fun k _ hk => (unhide HG4).block k hk (by simp)
      exact owns_base (owns_res (x := .int .i64 0) (y := .int .i64 0) h9 hlw) (Nat.le_of_lt hlw)
    · exact owns_base (owns_res (x := .int .i64 0) (y := .int .i64 0) (unhide HO4) (B := w.heap.size) (by omega)) (base' := w.heap.size) (by omega)
    · exact (((unhide HBW).trans ((unhide HNX).mono (Nat.le_of_lt hlw))).setCell (Nat.le_refl _) _).setCell (Nat.le_refl _) _

/-- cell.Run without a fault. -/
theorem run_ok (w : World) (v0 : Value) (zs : List Int) (v1 : Value) (os : List Op4) (hmem : IsInts w v0 zs) (hops : IsOps w v1 os) (hf : (fault zs.length os).1 = 0) :
    Calls Tryd.prog 12 #[v0, v1] w fun e w' => ∃ m t, e = .returned (.tuple #[m, t, .agg #[.int .i64 0, .int .i64 0]]) ∧ w'.ownsRow w.heap.size 3 1 m zs.length ((ranMem zs os).map (Value.int .i64)) ∧ w'.ownsRow w.heap.size 3 1 t os.length ((ranTold zs os).map (Value.int .i64)) ∧ Below w.heap.size w w' := by
  by_cases h0 : 0 < os.length
  · exact run_some w v0 zs v1 os hmem hops hf h0
  · obtain ⟨a1, c1, rfl⟩ := Rd.form hops
    obtain rfl : os = [] := by cases os with | nil => rfl | cons => simp at h0
    exact run_zero w v0 zs a1 c1 hmem (fault_none hf).1
end Go.Proofs.YtpgokeogijpmaaaDoor
