/-
  taskmilllaw.RingNext returns true.
-/
import Derived.Test.YtcdnennfimbgoabO
namespace Go.Proofs.Ytcdnennfimbgoab
open Go.RowKit
attribute [local go_sem ↓] Go.wp_at_zero Go.wp_at_succ

theorem own_one (base : Nat) (w : World) (x : Int) (h : base ≤ w.heap.size) : Own base (w.alloc (.cells #[.int .i64 x] 3)) (.slice (some ⟨w.heap.size, 0, none⟩) 1 1) [x] :=
  ⟨rfl, Or.inr ⟨w.heap.size, 1, #[.int .i64 x], rfl, h, (MapKept.heap_alloc w _).1, Nat.le_refl _, by simp [maxLen], by simp, by simp⟩⟩
theorem own_one2 (base : Nat) (w : World) (o o' : Obj) (x : Int) (h : base ≤ w.heap.size + 2) : Own base (((w.alloc o).alloc o').alloc (.cells #[.int .i64 x] 3)) (.slice (some ⟨w.heap.size + 1 + 1, 0, none⟩) 1 1) [x] := by
  have := own_one base ((w.alloc o).alloc o') x (by simp; omega)
  rw [World.size_alloc, World.size_alloc] at this
  exact this

theorem one_grown {W w' : World} {o : Obj} {n c : Nat} (hg : (W.alloc o).grownBy w' (Value.slice (some ⟨W.heap.size, 0, none⟩) n c).ownBlock) : Below W.heap.size W w' :=
  ((Below.refl _ _).alloc (Nat.le_refl _) o).grown hg (by simp) (fun k hk => by
    have : k = W.heap.size := by simpa [Value.ownBlock] using hk.symm
    omega)

theorem wpList_append_n {w : World} {ops : Array Oper} {rest : List Oper} {o : Oper} {a : Act} {Q : Exit → Act → World → Prop} (hw : Region.wanted o (yielded ops a.tmps) = true) (s x : Operand)
    (ho : o.op = .call { callee := .builtin .append, args := #[s, x], argTypes := #[23, 23] }) (base : Nat) (v : Value) (xs : List Int) (hs : a.eval s = v) (hown : Own base w v xs)
    (xv : Value) (ys : List Int) (hx : a.eval x = xv) (hr : IsInts w xv ys) (n : Nat) (hn : xs.length + ys.length = n) (hbytes : n * 8 ≤ 140737488355328) (hbase : base ≤ w.heap.size)
    (h : ∀ a' c' w', Own base w' (.slice a' n c') (xs ++ ys) → w.grownBy w' v.ownBlock → wpList Try.prog ops Q rest (a.put o.dst (.slice a' n c')) w') : wpList Try.prog ops Q (o :: rest) a w := by
  subst hn
  exact wpList_append_ints hw s x ho base v xs hs hown xv ys hx hr hbytes hbase h

theorem hpl_tail (v : Value) (nx : Int) (zs : List Int) (hx : ¬ nx < 0) (hl : zs.length ≤ 255) (W : World) (h : IsInts W v zs) :
    Calls Try.prog 21 #[v, .int .i64 nx] W fun e w' => ∃ a1 c1 a2 c2, e = .returned (.tuple #[.slice a1 (tailL nx zs).length c1, .slice a2 ([] : List Int).length c2]) ∧ Own W.heap.size w' (.slice a1 (tailL nx zs).length c1) (tailL nx zs) ∧ Own W.heap.size w' (.slice a2 ([] : List Int).length c2) [] ∧ Below W.heap.size W w' := by
  unfold tailL
  split
  · exact hpl_room v zs nx (by omega) (by omega) W h
  · obtain rfl : nx = 0 := by omega
    exact hpl_zero v zs (by omega) W h

set_option maxRecDepth 100000 in
set_option maxHeartbeats 1000000 in
theorem rnext_main (w : World) (nx t : Int) (v : Value) (zs : List Int) (h : IsInts w v zs) (hv : Fits v) (hn : zs.length ≤ 255) (hf : ringF nx zs = (0, 0)) (ht : ¬ t < 1) (hr : (lineL nx zs).contains t = false) (hpf : putF nx zs t = (0, 0)) (L1 : List Int) (hL1 : tailL nx zs = L1) (m : Nat) (hm : L1.length = m) (hg : Good t L1) :
    Calls Try.prog 4 #[.agg #[.int .i64 nx, v], .int .i64 t] w fun e w' => e = .returned (.bool true) ∧ Below w.heap.size w w' := by
  have hnot : ∀ (x : Bool) (w : World), (Op.unary .not (.bool x)).run Try.prog w = .ok (.bool (!x)) w := fun _ _ => rfl
  have hfld := fld
  obtain ⟨a, c, rfl⟩ := Rd.form h
  have hm256 : m ≤ 256 := by rw [← hm]; exact hg.len
  have h1 : ¬ (255 : Int) < (zs.length : Int) := by omega
  have HRF : Hid (∀ W, Below w.heap.size w W → Calls Try.prog 8 #[.agg #[.int .i64 nx, .slice a zs.length c]] W fun e w' => e = .returned (.agg #[.int .i64 0, .int .i64 0]) ∧ Below W.heap.size W w') := fun W hW => by
    have := rfault_any W nx _ zs (Rd.below h hW) hv (by unfold maxLen; omega)
    rw [hf] at this
    exact this
  have HLN : Hid (∀ W, Below w.heap.size w W → Calls Try.prog 10 #[.agg #[.int .i64 nx, .slice a zs.length c]] W fun e w' => ∃ a' c', e = .returned (.slice a' (lineL nx zs).length c') ∧ Own W.heap.size w' (.slice a' (lineL nx zs).length c') (lineL nx zs) ∧ Below W.heap.size W w') := fun W hW => line_any W nx _ zs (Rd.below h hW) (by omega)
  have HHS : Hid (∀ W v', IsInts W v' (lineL nx zs) → Calls Try.prog 9 #[v', .int .i64 t] W fun e w' => e = .returned (.bool false) ∧ Below W.heap.size W w') := fun W v' hW => by
    have hle : (lineL nx zs).length ≤ zs.length + 1 := by unfold lineL; split <;> simp
    have := has_any W v' (lineL nx zs) t hW (by unfold maxLen; omega)
    rw [hr] at this
    exact this
  have HPT : Hid (∀ W, Below w.heap.size w W → Calls Try.prog 11 #[.agg #[.int .i64 nx, .slice a zs.length c], .int .i64 t, .bool true] W fun e w' => ∃ a1 c1 a2 c2, e = .returned (.tuple #[.agg #[.int .i64 t, .slice a1 m c1], .slice a2 0 c2, .agg #[.int .i64 0, .int .i64 0]]) ∧ Own W.heap.size w' (.slice a1 m c1) L1 ∧ Below W.heap.size W w') := fun W hW => by
    refine (put_next W nx _ zs t (Rd.below h hW) (by unfold maxLen; omega) hpf (tailL nx zs) [] (fun W' hW' => hpl_tail _ nx zs (ringF_next hf) hn W' hW')).mono ?_
    rintro e w' ⟨a1, c1, a2, c2, rfl, ho1, _, hb⟩
    rw [hL1, hm] at ho1 ⊢
    exact ⟨a1, c1, a2, c2, rfl, ho1, hb⟩
  have HV := hide h
  have HG := hide hg
  have HT := hide ht
  have hnx := ringF_next hf
  obtain ⟨ln, hln⟩ : ∃ l, lineL nx zs = l := ⟨_, rfl⟩
  rw [hln] at HLN HHS
  clear hln h hv hf hr hpf hg
  go_enter Try.func4, Try.ntmps4
  go_upto_region 8 with (first
    | (go_at_call 5; refine (begun_any _).mono ?_; rintro e w1 ⟨rfl, hb1⟩; have hx1 := hb1.mono (show w.heap.size + 1 ≤ _ by simp); obtain ⟨x0, x1, s1⟩ := arg1 hx1; have HX1 := hide hx1; clear hb1 hx1)
    | (go_at_call 8; refine (unhide HRF _ (below1 (unhide HX1))).mono ?_; rintro e w2 ⟨rfl, hb2⟩; have hx2 := next1 (unhide HX1) hb2; clear x0 x1 s1; obtain ⟨x0, x1, s1⟩ := arg1 hx2; have HX2 := hide hx2; clear hb2 hx2)
    | (go_at_call 10; refine (unhide HLN _ (below1 (unhide HX2))).mono ?_; rintro e w3 ⟨a3, c3, rfl, ho3, hb3⟩; have HX3 := hide (next1 (unhide HX2) hb3); have HO3 := hide ho3; clear ho3 hb3)
    | (go_at_call 9; refine (unhide HHS _ _ (unhide HO3).list.1).mono ?_; rintro e w4 ⟨rfl, hb4⟩; have hx4 := next1 (unhide HX3) hb4; clear x0 x1 s1; obtain ⟨x0, x1, s1⟩ := arg1 hx4; have HX4 := hide hx4; clear hb4 hx4)
    | (go_at_call 11; refine (unhide HPT _ (below1 (unhide HX4))).mono ?_; rintro e w5 ⟨a5, c5, a6, c6, rfl, ho5, hb5⟩; have hx5 := next1 (unhide HX4) hb5; clear x0 x1 s1; obtain ⟨x0, x1, s1⟩ := arg1 hx5; have HX5 := hide hx5; have HO5 := hide ho5; clear hb5 hx5 ho5))
  have HX6 := hide (next1 (unhide HX5) (below_new2 w5 (.cells #[.int .i64 t, .slice a5 m c5] 25) (.cells #[.int .i64 0, .int .i64 0] 27)))
  have HRB : Hid (((w5.alloc (.cells #[.int .i64 t, .slice a5 m c5] 25)).alloc (.cells #[.int .i64 0, .int .i64 0] 27)).heap[w5.heap.size]? = some (.cells #[.int .i64 t, .slice a5 m c5] 25 (0, 0))) := (Below.heap_alloc (w5.alloc _) _ _ (by simp)).trans (MapKept.heap_alloc w5 _).1
  have HRL := hide ((unhide HO5).list.below (below_new2 w5 (.cells #[.int .i64 t, .slice a5 m c5] 25) (.cells #[.int .i64 0, .int .i64 0] 27)))
  have HRS : Hid (w5.heap.size + 1 ≤ ((w5.alloc (.cells #[.int .i64 t, .slice a5 m c5] 25)).alloc (.cells #[.int .i64 0, .int .i64 0] 27)).heap.size) := by simp [Hid]
  have HR0 : Hid (w.heap.size ≤ w5.heap.size) := (below1 (unhide HX5)).size
  obtain ⟨R, eR⟩ : ∃ R, w5.heap.size = R := ⟨_, rfl⟩
  obtain ⟨W6, e6⟩ : ∃ W, (w5.alloc (.cells #[.int .i64 t, .slice a5 m c5] 25)).alloc (.cells #[.int .i64 0, .int .i64 0] 27) = W := ⟨_, rfl⟩
  rw [eR, e6] at HRB HRS
  rw [e6] at HX6 HRL
  rw [eR] at HR0
  rw [eR, e6]
  clear eR e6 x0 x1 s1 HX5 HO5 HX4 HX3 HX2 HX1 HO3
  obtain ⟨x0, x1, s1⟩ := arg1 (unhide HX6)
  by_cases hp : 0 < nx
  · have eL : zs ++ [nx] = L1 := by rw [← hL1]; unfold tailL; rw [if_pos hp]
    have HE1 : Hid ([t].length + zs.length = zs.length + 1) := by simp [Hid, Nat.add_comm]
    have HE2 : Hid (([t] ++ zs).length + [nx].length = m + 1) := by rw [← hm, ← eL]; simp [Hid]
    go_wp2_with (first
      | (at_builtin; refine wpList_append_n rfl (.tmp 51) (.tmp 53) rfl W6.heap.size _ [t] rfl (own_one _ W6 t (Nat.le_refl _)) _ zs rfl (Rd.below (unhide HV) ((below1 (unhide HX6)).alloc (below1 (unhide HX6)).size _)) _ (unhide HE1) (by omega) (by simp) ?_; intro a8 c8 w8 ho8 hg8; have hb8 := one_grown hg8; clear x0 x1 s1; have HX8 := hide (next1 (unhide HX6) hb8); obtain ⟨x0, x1, s1⟩ := arg1 (unhide HX8); have HO8 := hide ho8; have HB8 := hide hb8; clear ho8 hg8 hb8)
      | (at_builtin; refine wpList_append_n rfl (.tmp 58) (.tmp 61) rfl W6.heap.size _ ([t] ++ zs) rfl (Own.below (unhide HO8) ((Below.refl _ _).alloc (Nat.le_refl _) _)) _ [nx] rfl (ints_new w8 nx 3) _ (unhide HE2) (by omega) (Nat.le_trans (unhide HB8).size (by simp)) ?_; intro a10 c10 w10 ho10 hg10; have HO10 := hide ho10; have HB10 := hide ((((unhide HB8).alloc (unhide HB8).size _).grown hg10 (Nat.le_trans (unhide HB8).size (by simp)) (fun k hk => ((unhide HO8).lt k hk).1))); clear ho10 hg10))
    have HOL : Hid (Own (R + 1) w10 (.slice a10 (m + 1) c10) (t :: L1)) := by
      have := (unhide HO10).base (unhide HRS)
      rw [List.append_assoc, eL] at this
      exact this
    have HBL : Hid (Below W6.heap.size W6 w10) := HB10
    clear HO8 HB8 HX8 HO10 HB10
    have HS : Hid (RingAt w10 R (nxAt t 0) (zsAt L1 0)) := ⟨a5, c5, by rw [show (zsAt L1 0).length = m from hm]; exact ((unhide HBL).block R (block2 (unhide HRB)).2.2.2.2).trans (unhide HRB), by rw [show (zsAt L1 0).length = m from hm]; exact (unhide HRL).below (unhide HBL)⟩
    have HW : Hid (Own (R + 1) w10 (.slice a10 (m + 1) c10) (t :: L1)) := HOL
    have HX : Hid (Below w.heap.size w w10) := below1 (next1 (unhide HX6) (unhide HBL))
    clear HOL HBL x0 x1 s1
    go_loopw [9] (fun i wr => ∃ j : Nat, j ≤ m + 1 ∧ i = .int .i64 j ∧ RingAt wr R (nxAt t j) (zsAt L1 j) ∧ Own (R + 1) wr (.slice a10 (m + 1) c10) (t :: L1) ∧ Below w.heap.size w wr) (fun i _ => m + 1 - (intOf i).toNat)
    case atStart => exact ⟨0, Nat.zero_le _, rfl, unhide HS, unhide HW, unhide HX⟩
    case round =>
      clear HS HW HX
      obtain ⟨j, hj, rfl, ⟨a9, c9, hblk, hlist⟩, hown, hb⟩ := hrel
      obtain ⟨r0, r1, f0, f1, hlt0⟩ := block2 hblk
      have HBL := hide hblk; have HB := hide hb; have HO := hide hown
      by_cases hlt : j < m + 1
      · have HTK := hide (take_at wr t L1 j (unhide HG) (by have := unhide HT; omega) (by rw [hm]; exact hlt) _ hlist)
        rw [hm] at HTK
        obtain ⟨g, o, c', e, hgl, hcell⟩ := IsInts.at hown.list.1 (by simp)
        have hy := hcell j (by rw [List.length_cons, hm]; exact hlt)
        rw [List.length_cons, hm] at e
        cases e
        obtain ⟨z, hz⟩ : ∃ z, (t :: L1).getD j 0 = z := ⟨_, rfl⟩
        rw [hz] at hy HTK
        obtain ⟨nj, hnj⟩ : ∃ x, nxAt t j = x := ⟨_, rfl⟩
        obtain ⟨kj, hkj⟩ : ∃ x, (zsAt L1 j).length = x := ⟨_, rfl⟩
        rw [hnj] at r0 HBL HTK
        rw [hkj] at r1 HBL HTK
        have HGL := hide hgl; have HY := hide hy
        have HLE : Hid (m - j = (L1.drop j).length) := by rw [List.length_drop, hm]; exact rfl
        clear hblk hlist hb hown hcell hgl hy hz hnj hkj
        have i0 : (0 : Int) ≤ (j : Int) := by omega
        have i1 : (j : Int) < (m : Int) + 1 := by omega
        have i2 : (z != z) = false := by simp
        go_wp2_with (go_at_call 7; refine (unhide HTK).mono ?_; rintro e w2 ⟨a1, c1, rfl, ho1, hb2⟩; have hbl2 := (hb2.block R hlt0).trans (unhide HBL); clear r0 r1 f0 f1; obtain ⟨r0, r1, f0, f1, hlt2⟩ := block2 hbl2; have hy2 := (hb2.cell (p := ⟨g, o + j, none⟩) (unhide HGL)).trans (unhide HY); have hgl2 : g < w2.heap.size := Nat.lt_of_lt_of_le (unhide HGL) hb2.size; have HBL2 := hide hbl2; have HB2 := hide ((unhide HB).trans (hb2.mono (unhide HB).size)); have HO1 := hide ho1; have HOW := hide ((unhide HO).below hb2); clear ho1 hb2 hbl2)
        go_roundw
        case rel => exact ⟨j + 1, by omega, by go_num, ring_store (unhide HBL2) (unhide HO1) (unhide HLE) hlt0, own_store (unhide HOW) (Nat.lt_succ_self _), below_store (unhide HB2) (unhide HR0)⟩
        case measure => simp [intOf]; omega
      · obtain rfl : j = m + 1 := by omega
        have e1 : nxAt t (m + 1) = 0 := rfl
        have e2 : (zsAt L1 (m + 1)).length = 0 := by unfold zsAt; rw [List.length_drop, hm]; omega
        rw [e1] at r0
        rw [e2] at r1
        clear hblk hlist hb hown HBL HO
        have i1 : ¬ ((m : Int) + 1 < (m : Int) + 1) := by omega
        go_wp2_with (go_at_call 12; refine (noRing_none _ _ _).mono ?_; rintro e w2 ⟨rfl, hb2⟩; have HB2 := hide ((unhide HB).trans (hb2.mono (unhide HB).size)); clear hb2)
        go_ret
        exact ⟨rfl, unhide HB2⟩
  · have eL : zs = L1 := by rw [← hL1]; unfold tailL; rw [if_neg hp]
    have HE1 : Hid ([t].length + zs.length = m + 1) := by rw [← hm, ← eL]; simp [Hid, Nat.add_comm]
    have HEL := hide eL
    clear eL
    go_wp2_with (at_builtin; refine wpList_append_n rfl (.tmp 51) (.tmp 53) rfl W6.heap.size _ [t] rfl (own_one _ W6 t (Nat.le_refl _)) _ zs rfl (Rd.below (unhide HV) ((below1 (unhide HX6)).alloc (below1 (unhide HX6)).size _)) _ (unhide HE1) (by omega) (by simp) ?_; intro a8 c8 w8 ho8 hg8; have hb8 := one_grown hg8; clear x0 x1 s1; have HX8 := hide (next1 (unhide HX6) hb8); obtain ⟨x0, x1, s1⟩ := arg1 (unhide HX8); have HO8 := hide ho8; have HB8 := hide hb8; clear ho8 hg8 hb8)
    have HOL : Hid (Own (R + 1) w8 (.slice a8 (m + 1) c8) (t :: L1)) := by
      have := (unhide HO8).base (unhide HRS)
      rw [unhide HEL] at this
      exact this
    have HBL : Hid (Below W6.heap.size W6 w8) := HB8
    clear HO8 HB8 HX8
    have HS : Hid (RingAt w8 R (nxAt t 0) (zsAt L1 0)) := ⟨a5, c5, by rw [show (zsAt L1 0).length = m from hm]; exact ((unhide HBL).block R (block2 (unhide HRB)).2.2.2.2).trans (unhide HRB), by rw [show (zsAt L1 0).length = m from hm]; exact (unhide HRL).below (unhide HBL)⟩
    have HW : Hid (Own (R + 1) w8 (.slice a8 (m + 1) c8) (t :: L1)) := HOL
    have HX : Hid (Below w.heap.size w w8) := below1 (next1 (unhide HX6) (unhide HBL))
    clear HOL HBL x0 x1 s1
    go_loopw [9] (fun i wr => ∃ j : Nat, j ≤ m + 1 ∧ i = .int .i64 j ∧ RingAt wr R (nxAt t j) (zsAt L1 j) ∧ Own (R + 1) wr (.slice a8 (m + 1) c8) (t :: L1) ∧ Below w.heap.size w wr) (fun i _ => m + 1 - (intOf i).toNat)
    case atStart => exact ⟨0, Nat.zero_le _, rfl, unhide HS, unhide HW, unhide HX⟩
    case round =>
      clear HS HW HX
      obtain ⟨j, hj, rfl, ⟨a9, c9, hblk, hlist⟩, hown, hb⟩ := hrel
      obtain ⟨r0, r1, f0, f1, hlt0⟩ := block2 hblk
      have HBL := hide hblk; have HB := hide hb; have HO := hide hown
      by_cases hlt : j < m + 1
      · have HTK := hide (take_at wr t L1 j (unhide HG) (by have := unhide HT; omega) (by rw [hm]; exact hlt) _ hlist)
        rw [hm] at HTK
        obtain ⟨g, o, c', e, hgl, hcell⟩ := IsInts.at hown.list.1 (by simp)
        have hy := hcell j (by rw [List.length_cons, hm]; exact hlt)
        rw [List.length_cons, hm] at e
        cases e
        obtain ⟨z, hz⟩ : ∃ z, (t :: L1).getD j 0 = z := ⟨_, rfl⟩
        rw [hz] at hy HTK
        obtain ⟨nj, hnj⟩ : ∃ x, nxAt t j = x := ⟨_, rfl⟩
        obtain ⟨kj, hkj⟩ : ∃ x, (zsAt L1 j).length = x := ⟨_, rfl⟩
        rw [hnj] at r0 HBL HTK
        rw [hkj] at r1 HBL HTK
        have HGL := hide hgl; have HY := hide hy
        have HLE : Hid (m - j = (L1.drop j).length) := by rw [List.length_drop, hm]; exact rfl
        clear hblk hlist hb hown hcell hgl hy hz hnj hkj
        have i0 : (0 : Int) ≤ (j : Int) := by omega
        have i1 : (j : Int) < (m : Int) + 1 := by omega
        have i2 : (z != z) = false := by simp
        go_wp2_with (go_at_call 7; refine (unhide HTK).mono ?_; rintro e w2 ⟨a1, c1, rfl, ho1, hb2⟩; have hbl2 := (hb2.block R hlt0).trans (unhide HBL); clear r0 r1 f0 f1; obtain ⟨r0, r1, f0, f1, hlt2⟩ := block2 hbl2; have hy2 := (hb2.cell (p := ⟨g, o + j, none⟩) (unhide HGL)).trans (unhide HY); have hgl2 : g < w2.heap.size := Nat.lt_of_lt_of_le (unhide HGL) hb2.size; have HBL2 := hide hbl2; have HB2 := hide ((unhide HB).trans (hb2.mono (unhide HB).size)); have HO1 := hide ho1; have HOW := hide ((unhide HO).below hb2); clear ho1 hb2 hbl2)
        go_roundw
        case rel => exact ⟨j + 1, by omega, by go_num, ring_store (unhide HBL2) (unhide HO1) (unhide HLE) hlt0, own_store (unhide HOW) (Nat.lt_succ_self _), below_store (unhide HB2) (unhide HR0)⟩
        case measure => simp [intOf]; omega
      · obtain rfl : j = m + 1 := by omega
        have e1 : nxAt t (m + 1) = 0 := rfl
        have e2 : (zsAt L1 (m + 1)).length = 0 := by unfold zsAt; rw [List.length_drop, hm]; omega
        rw [e1] at r0
        rw [e2] at r1
        clear hblk hlist hb hown HBL HO
        have i1 : ¬ ((m : Int) + 1 < (m : Int) + 1) := by omega
        go_wp2_with (go_at_call 12; refine (noRing_none _ _ _).mono ?_; rintro e w2 ⟨rfl, hb2⟩; have HB2 := hide ((unhide HB).trans (hb2.mono (unhide HB).size)); clear hb2)
        go_ret
        exact ⟨rfl, unhide HB2⟩

theorem rnext_walk (w : World) (nx t : Int) (v : Value) (zs : List Int) (h : IsInts w v zs) (hv : Fits v) (hm : zs.length ≤ maxLen) :
    Calls Try.prog 4 #[.agg #[.int .i64 nx, v], .int .i64 t] w fun e w' => e = .returned (.bool true) ∧ Below w.heap.size w w' := by
  by_cases hl : 255 < zs.length
  · obtain ⟨a, c, rfl⟩ := Rd.form h
    exact rnext_long w nx t a _ c hl hm
  · by_cases hno : (ringF nx zs).1 ≠ 0 ∨ t < 1 ∨ (lineL nx zs).contains t = true
    · exact rnext_none w nx t v zs h hv (by omega) _ _ rfl _ rfl hno
    · have hx : (ringF nx zs).1 = 0 := Decidable.byContradiction fun h => hno (Or.inl h)
      have ht : ¬ t < 1 := fun h => hno (Or.inr (Or.inl h))
      have hr : (lineL nx zs).contains t = false := by
        cases e : (lineL nx zs).contains t with
        | false => rfl
        | true => exact absurd (Or.inr (Or.inr e)) hno
      have hf := ringF_zero hx
      have hg := good_iff.1 hf
      have hmem : ¬ t ∈ lineL nx zs := fun h => by rw [List.contains_iff_mem.2 h] at hr; cases hr
      have h3 : ¬ t ∈ zs := fun h => hmem (by unfold lineL; split; exact List.mem_cons_of_mem _ h; exact h)
      have h2 : t ≠ nx := fun e => by
        subst e
        exact hmem (by unfold lineL; rw [if_pos (by omega)]; exact List.mem_cons_self)
      exact rnext_main w nx t v zs h hv (by omega) hf ht hr (put_good hg (by omega) h2 h3) _ rfl _ rfl (tail_good hg (by omega) (by omega) h2 h3)
end Go.Proofs.Ytcdnennfimbgoab
