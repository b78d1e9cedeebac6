/-
  taskmillref.Ran, by its contract.
-/
import Derived.Test.YtpgokeogijpmaaaDoorRa
namespace Go.Proofs.YtpgokeogijpmaaaDoor
open Go.RowKit
attribute [local go_sem ↓] Go.wp_at_zero Go.wp_at_succ

/-- A round of the loop, up to the store into the cell. -/
theorem ran_step {w wr w5 : World} {v9 t : Value} {N2 N3 g q j : Nat} {Z : List Int} {T : List Value} (x : Int) (hnx : Below N2 w wr) (hmem : MemAt wr v9 g Z) (htold : wr.ownsRow N3 3 1 t j T) (hg : N2 ≤ g) (hgN : g < N3) (hN : N3 ≤ wr.heap.size)
    (hq : q < Z.length) (h5 : Below wr.drew.heap.size wr.drew w5) :
    Below N2 w (w5.setCell ⟨g, q, none⟩ (.int .i64 x)) ∧ MemAt (w5.setCell ⟨g, q, none⟩ (.int .i64 x)) v9 g (Z.set q x) ∧ (w5.setCell ⟨g, q, none⟩ (.int .i64 x)).ownsRow N3 3 1 t j T ∧ N3 ≤ (w5.setCell ⟨g, q, none⟩ (.int .i64 x)).heap.size := by
  have hs5 : wr.heap.size ≤ w5.heap.size := h5.size
  have h1 : ∀ k, k < wr.heap.size → w5.heap[k]? = wr.heap[k]? := fun k hk => h5.block k hk
  have hsz : (w5.setCell ⟨g, q, none⟩ (.int .i64 x)).heap.size = w5.heap.size := by simp [World.setCell]
  have hm5 : MemAt w5 v9 g Z := hmem.keep (h1 g (by omega))
  have hb5 : Below N2 w w5 := hnx.drew.trans (h5.mono (by show N2 ≤ wr.heap.size; omega))
  have hset := hm5.set hq x
  rw [Nat.zero_add] at hset
  refine ⟨hb5.setCell hg _, hset, ?_, by omega⟩
  exact owns_keep htold fun k hk hlt => by rw [Below.heap_setCell _ _ _ _ (by simp; omega), h1 k hlt]

theorem cell_one_set (w : World) (a : Addr) (v x : Value) (t : TypeId) : ∀ j u, [x][j]? = some u → ((w.setCell a v).alloc (.cells #[x] t)).cell? ((⟨w.heap.size, 0, none⟩ : Addr).add j) = some u := by
  have h := cell_one_new (w.setCell a v) x t
  have e : (w.setCell a v).heap.size = w.heap.size := by simp [World.setCell]
  rw [e] at h
  exact h

set_option maxRecDepth 100000 in
set_option maxHeartbeats 1000000 in
theorem ran_some (w : World) (v0 : Value) (zs : List Int) (v1 : Value) (os : List Op4) (hmem : IsInts w v0 zs) (hops : IsOps w v1 os) (hf : (fault zs.length os).1 = 0) (hn0 : 0 < os.length) :
    Calls Tryd.prog 17 #[v0, v1] w fun e w' => ∃ m t, e = .returned (.tuple #[m, t]) ∧ w'.ownsRow w.heap.size 3 1 m zs.length ((ranMem zs os).map (Value.int .i64)) ∧ w'.ownsRow w.heap.size 3 1 t os.length ((ranTold zs os).map (Value.int .i64)) ∧ Below w.heap.size w w' := by
  obtain ⟨hm32, hn5, hall⟩ := fault_none hf
  have hm0 : 0 < zs.length := by have := wrong_none (hall 0 hn0); omega
  obtain ⟨ob, oo, c1, rfl, hob, hK, hP, hA, hB⟩ := hops.at hn0
  obtain ⟨i0, hi, hz0, hz1, hz2⟩ := info_parts Tryd.info3
  have HMEM0 := hide hmem
  have HK := hide hK; have HP := hide hP; have HA := hide hA; have HB := hide hB; have HALL := hide hall
  clear hK hP hA hB hall hmem hops hf
  go_enter Tryd.func17, Tryd.ntmps17
  go_wp2_with (at_builtin; refine wpList_append_rd rfl _ _ 22 rfl w.heap.size 3 i0 (.int .i64 0) 1 8 Tryd.underlying22 hi hz0 hz1 hz2 rfl (by decide) _ _ _ rfl (World.ownsRow_nil _ _ _ _) _ _ _ rfl (unhide HMEM0) (ints_one zs) (by unfold maxLen; omega) (by omega) (Nat.le_refl _) ?_; intro v6 w1 hown1 hgr1; have HO1 := hide hown1; have HG1 := hide hgr1; clear hown1 hgr1)
  have hb1 : Below w.heap.size w w1 := (Below.refl _ _).grown (unhide HG1) (Nat.le_refl _) (fun k hk => by cases hk)
  have hown1 := unhide HO1
  obtain ⟨g, hg, hgl, hmem6⟩ := MemAt.of_owns (zs := zs) (by simpa using hown1) hm0
  obtain ⟨cap6, rfl⟩ : ∃ cap, v6 = .slice (some ⟨g, 0, none⟩) zs.length cap := by obtain ⟨cap, _, h, _⟩ := hmem6; exact ⟨cap, h⟩
  have HM6 := hide hmem6; have HB1 := hide hb1
  clear hown1 hmem6 hb1 HO1 HG1
  go_wp2
  go_loopw [7, 8] (fun t i wr => ∃ j : Nat, j ≤ os.length ∧ i = .int .i64 j ∧ Below w.heap.size w wr ∧ MemAt wr (.slice (some ⟨g, 0, none⟩) zs.length cap6) g (ranMem zs (os.take j)) ∧ wr.ownsRow w1.heap.size 3 1 t j ((ranTold zs (os.take j)).map (Value.int .i64)) ∧ w1.heap.size ≤ wr.heap.size)
    (fun _ i _ => os.length - (intOf i).toNat)
  case atStart => exact ⟨0, Nat.zero_le _, rfl, unhide HB1, unhide HM6, World.ownsRow_nil _ _ _ _, Nat.le_refl _⟩
  case round =>
    obtain ⟨j, hj, rfl, hnx, hmem, htold, hsz⟩ := hrel
    by_cases hlt : j < os.length
    · obtain ⟨hk5, hp0, hpm⟩ := wrong_none (unhide HALL j hlt)
      obtain ⟨q, hq⟩ := Int.eq_ofNat_of_zero_le hp0
      have hqz : q < zs.length := by omega
      have k0 := (hnx.cell (p := ⟨ob, oo + j * 4, none⟩) hob).trans (unhide HK j hlt)
      have k1 := (hnx.cell (p := ⟨ob, oo + j * 4 + 1, none⟩) hob).trans (unhide HP j hlt)
      have k2 := (hnx.cell (p := ⟨ob, oo + j * 4 + 2, none⟩) hob).trans (unhide HA j hlt)
      have k3 := (hnx.cell (p := ⟨ob, oo + j * 4 + 3, none⟩) hob).trans (unhide HB j hlt)
      rw [hq] at k1
      have hml := ranMem_length (os.take j) zs
      obtain ⟨mc, mf⟩ := hmem.cell (q := q) (by omega)
      rw [Nat.zero_add] at mc mf
      have hmt := ranMem_take (zs := zs) hlt
      have htt := ranTold_take (zs := zs) hlt
      obtain ⟨Z, hZ⟩ : ∃ x, ranMem zs (os.take j) = x := ⟨_, rfl⟩
      obtain ⟨o4, ho4⟩ : ∃ x, opAtD os j = x := ⟨_, rfl⟩
      rw [hZ] at mc hmem hml hmt htt
      rw [ho4] at k0 k2 k3 hk5 hq hmt htt
      obtain ⟨c, hc⟩ : ∃ x, Z.getD q 0 = x := ⟨_, rfl⟩
      rw [hc] at mc
      have e1 : o4.p.toNat = q := by rw [hq]; simp
      have hmt' : ranMem zs (os.take (j + 1)) = Z.set q (thenOf c o4.k o4.a o4.b) := by rw [hmt]; unfold stepMem; rw [e1, hc]
      have htt' : ranTold zs (os.take (j + 1)) = ranTold zs (os.take j) ++ [toldOf c o4.k o4.a] := by rw [htt]; unfold stepTold; rw [e1, hc]
      have HMT := hide hmt'; have HTT := hide htt'
      have HDN := hide (refDone wr.drew c o4.k q o4.a o4.b hk5)
      have HST := hide (fun w5 (h5 : Below wr.drew.heap.size wr.drew w5) => ran_step (q := q) (thenOf c o4.k o4.a o4.b) hnx hmem htold hg hgl hsz (by omega) h5)
      have hgw : g < wr.heap.size := by omega
      have hobw : ob < wr.heap.size := Nat.lt_of_lt_of_le hob hnx.size
      have HKE : Hid (∀ w5, Below wr.drew.heap.size wr.drew w5 → (w5.cell? ⟨ob, oo + j * 4, none⟩ = some (.int .i64 o4.k) ∧ w5.cell? ⟨ob, oo + j * 4 + 1, none⟩ = some (.int .i64 q) ∧ w5.cell? ⟨ob, oo + j * 4 + 2, none⟩ = some (.int .i64 o4.a) ∧ w5.cell? ⟨ob, oo + j * 4 + 3, none⟩ = some (.int .i64 o4.b) ∧ w5.cell? ⟨g, q, none⟩ = some (.int .i64 c)) ∧ w5.frozen? ⟨g, q, none⟩ = false) := fun w5 h5 =>
        ⟨⟨(h5.cell (p := ⟨ob, oo + j * 4, none⟩) hobw).trans k0, (h5.cell (p := ⟨ob, oo + j * 4 + 1, none⟩) hobw).trans k1, (h5.cell (p := ⟨ob, oo + j * 4 + 2, none⟩) hobw).trans k2, (h5.cell (p := ⟨ob, oo + j * 4 + 3, none⟩) hobw).trans k3, (h5.cell (p := ⟨g, q, none⟩) hgw).trans mc⟩, (h5.frozen (p := ⟨g, q, none⟩) hgw).trans mf⟩
      have j0 : (0 : Int) ≤ (j : Int) := by omega
      have j1 : (j : Int) < (os.length : Int) := by omega
      have q0 : (0 : Int) ≤ (q : Int) := by omega
      have q1 : (q : Int) < (zs.length : Int) := by omega
      clear hmem htold hnx hmt htt hmt' htt' hZ ho4 hc hq hp0 hml e1 mf
      go_wp2
      go_region_held3 (fun w' => w'.cell? ⟨ob, oo + j * 4, none⟩ = some (.int .i64 o4.k) ∧ w'.cell? ⟨ob, oo + j * 4 + 1, none⟩ = some (.int .i64 q) ∧ w'.cell? ⟨ob, oo + j * 4 + 2, none⟩ = some (.int .i64 o4.a) ∧ w'.cell? ⟨ob, oo + j * 4 + 3, none⟩ = some (.int .i64 o4.b) ∧ w'.cell? ⟨g, q, none⟩ = some (.int .i64 c))
        (first | assumption | go_keep)
        (first | (go_at_call 32; refine (unhide HDN).mono ?_; rintro e w5 ⟨rfl, hb5⟩; obtain ⟨hS, hfz⟩ := unhide HKE _ hb5; have HS5 := hide (unhide HST _ hb5); clear hb5))
      obtain ⟨s0, s1, s2, s3, s4⟩ := hS
      clear k0 k1 k2 k3 mc HKE HST HDN
      go_wp2_with (at_builtin; refine wpList_append_own _ rfl _ _ 22 rfl w1.heap.size 3 i0 (.int .i64 0) 1 8 Tryd.underlying22 hi hz0 hz1 hz2 rfl (by decide) _ _ _ rfl ((unhide HS5).2.2.1.alloc _) _ 1 1 [.int .i64 (toldOf c o4.k o4.a)] rfl rfl (cell_one_set _ _ _ _ _) (ints_oneCell .i64 [_]) (by unfold maxLen; omega) (by omega) (by have := (unhide HS5).2.2.2; rw [World.size_alloc]; omega) ?_; intro t6 w6 hown6 hgr6 _; have HO6 := hide hown6; have HG6 := hide hgr6; clear hown6 hgr6)
      have HA6 := hide (app_step (unhide HS5).1 (unhide HS5).2.1 (unhide HS5).2.2.1 hg hgl (unhide HS5).2.2.2 (unhide HG6))
      go_roundw
      case rel =>
        refine ⟨j + 1, by omega, by go_num, (unhide HA6).1, ?_, ?_, (unhide HA6).2.2⟩
        · rw [unhide HMT]; exact (unhide HA6).2.1
        · rw [unhide HTT, List.map_append]; exact unhide HO6
      case measure => simp [intOf]; omega
    · obtain rfl : j = os.length := by omega
      have HMEM := hide hmem; have HTOLD := hide htold; have HNX := hide hnx
      clear hmem htold hnx
      go_wp2
      go_ret2
      refine ⟨_, _, rfl, ?_, ?_, unhide HNX⟩
      · have := (unhide HMEM).owns hg
        rw [List.take_length, ranMem_length] at this
        exact this
      · have := owns_base (unhide HTOLD) (base' := w.heap.size) (unhide HB1).size
        rw [List.take_length] at this
        exact this

set_option maxRecDepth 100000 in
set_option maxHeartbeats 1000000 in
theorem ran_zero (w : World) (v0 : Value) (zs : List Int) (a1 : Option Addr) (c1 : Nat) (hmem : IsInts w v0 zs) (hm : zs.length ≤ 5000) :
    Calls Tryd.prog 17 #[v0, .slice a1 0 c1] w fun e w' => ∃ m t, e = .returned (.tuple #[m, t]) ∧ w'.ownsRow w.heap.size 3 1 m zs.length (zs.map (Value.int .i64)) ∧ w'.ownsRow w.heap.size 3 1 t 0 [] ∧ Below w.heap.size w w' := by
  obtain ⟨i0, hi, hz0, hz1, hz2⟩ := info_parts Tryd.info3
  have HMEM0 := hide hmem
  clear hmem
  go_enter Tryd.func17, Tryd.ntmps17
  go_wp2_with (at_builtin; refine wpList_append_rd rfl _ _ 22 rfl w.heap.size 3 i0 (.int .i64 0) 1 8 Tryd.underlying22 hi hz0 hz1 hz2 rfl (by decide) _ _ _ rfl (World.ownsRow_nil _ _ _ _) _ _ _ rfl (unhide HMEM0) (ints_one zs) (by unfold maxLen; omega) (by omega) (Nat.le_refl _) ?_; intro v6 w1 hown1 hgr1; have HO1 := hide hown1; have HG1 := hide hgr1; clear hown1 hgr1)
  go_loopw [7, 8] (fun t i wr => t = .slice none 0 0 ∧ i = .int .i64 0 ∧ wr = w1) (fun _ _ _ => 0)
  case atStart => exact ⟨rfl, rfl, rfl⟩
  case round =>
    obtain ⟨rfl, rfl, rfl⟩ := hrel
    go_wp2
    go_ret2
    exact ⟨_, _, rfl, by simpa using unhide HO1, World.ownsRow_nil _ _ _ _, (Below.refl _ _).grown (unhide HG1) (Nat.le_refl _) (fun k hk => by cases hk)⟩

/-- taskmillref.Ran, of ops in which nothing is wrong. -/
theorem ran_ok (w : World) (v0 : Value) (zs : List Int) (v1 : Value) (os : List Op4) (hmem : IsInts w v0 zs) (hops : IsOps w v1 os) (hf : (fault zs.length os).1 = 0) :
    Calls Tryd.prog 17 #[v0, v1] w fun e w' => ∃ m t, e = .returned (.tuple #[m, t]) ∧ IsInts w' m (ranMem zs os) ∧ IsInts w' t (ranTold zs os) ∧ Below w.heap.size w w' := by
  by_cases h0 : 0 < os.length
  · refine (ran_some w v0 zs v1 os hmem hops hf h0).mono ?_
    rintro e w' ⟨m, t, rfl, hm, ht, hb⟩
    exact ⟨m, t, rfl, IsInts.of_owns hm (ranMem_length _ _), IsInts.of_owns ht (ranTold_length _ _), hb⟩
  · obtain ⟨a1, c1, rfl⟩ := Rd.form hops
    obtain rfl : os = [] := by cases os with | nil => rfl | cons => simp at h0
    have hm := (fault_none hf).1
    refine (ran_zero w v0 zs a1 c1 hmem (by omega)).mono ?_
    rintro e w' ⟨m, t, rfl, hm, ht, hb⟩
    exact ⟨m, t, rfl, IsInts.of_owns hm rfl, IsInts.of_owns (zs := []) ht rfl, hb⟩
end Go.Proofs.YtpgokeogijpmaaaDoor
