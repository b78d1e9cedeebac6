/-
  taskmilllaw.CellHalves returns true: no half has a fault.
-/
import Derived.Test.YtpgokeogijpmaaaDoorHb
namespace Go.Proofs.YtpgokeogijpmaaaDoor
open Go.RowKit

theorem grownBy_refl (w : World) (row : Option Nat) : w.grownBy w row := ⟨rfl, rfl, rfl, Nat.le_refl _, fun _ _ _ => rfl⟩

/-- append of whatever slice can be read, nil or not. -/
theorem wpList_append_rd {P : Program} {w : World} {ops : Array Oper} {rest : List Oper} {o : Oper} {a : Act} {Q : Exit → Act → World → Prop} (hgd : o.guard = none) (s x : Operand) (t : TypeId)
    (ho : o.op = .call { callee := .builtin .append, args := #[s, x], argTypes := #[t, t] })
    (base : Nat) (e : TypeId) (i : TypeInfo) (z : Value) (size bytes : Nat) (ht : P.underlying t = some (.slice e)) (hi : P.info? e = some i) (hz : i.zero = some z)
    (hsize : i.size = size) (hby : i.bytes = bytes) (hzs : z.cells.size = size) (hsz : 0 < size)
    (v : Value) (n : Nat) (xs : List Value) (hs : a.eval s = v) (hown : w.ownsRow base e size v n xs)
    (xv : Value) (m : Nat) (news : List Value) (hx : a.eval x = xv) (hr : Rd w size xv m news) (h1 : ∀ u ∈ news, u.oneCell' = true)
    (h63 : n + m ≤ maxLen) (hbytes : (n + m) * bytes ≤ 140737488355328) (hbase : base ≤ w.heap.size)
    (h : ∀ v' w', w'.ownsRow base e size v' (n + m) (xs ++ news) → w.grownBy w' v.ownBlock → wpList P ops Q rest (a.put o.dst v') w') : wpList P ops Q (o :: rest) a w := by
  obtain ⟨hl, ⟨rfl, rfl⟩ | ⟨ad, c, rfl, hc⟩⟩ := hr
  · obtain rfl : news = [] := by simpa using hl
    exact wpList_append_own_none hgd s x t ho base e i size ht hi v n xs hs hown hx (h v w (by simpa using hown) (grownBy_refl w _))
  · exact wpList_append_own w hgd s x t ho base e i z size bytes ht hi hz hsize hby hzs hsz v n xs hs hown ad m c news hx hl hc h1 h63 hbytes hbase (fun v' w' a1 a2 _ => h v' w' a1 a2)

/-- The same behind a guard that says yes. -/
theorem wpList_append_rd_want {P : Program} {w : World} {ops : Array Oper} {rest : List Oper} {o : Oper} {a : Act} {Q : Exit → Act → World → Prop} (hw : Region.wanted o (yielded ops a.tmps) = true) (s x : Operand) (t : TypeId)
    (ho : o.op = .call { callee := .builtin .append, args := #[s, x], argTypes := #[t, t] })
    (base : Nat) (e : TypeId) (i : TypeInfo) (z : Value) (size bytes : Nat) (ht : P.underlying t = some (.slice e)) (hi : P.info? e = some i) (hz : i.zero = some z)
    (hsize : i.size = size) (hby : i.bytes = bytes) (hzs : z.cells.size = size) (hsz : 0 < size)
    (v : Value) (n : Nat) (xs : List Value) (hs : a.eval s = v) (hown : w.ownsRow base e size v n xs)
    (xv : Value) (m : Nat) (news : List Value) (hx : a.eval x = xv) (hr : Rd w size xv m news) (h1 : ∀ u ∈ news, u.oneCell' = true)
    (h63 : n + m ≤ maxLen) (hbytes : (n + m) * bytes ≤ 140737488355328) (hbase : base ≤ w.heap.size)
    (h : ∀ v' w', w'.ownsRow base e size v' (n + m) (xs ++ news) → w.grownBy w' v.ownBlock → wpList P ops Q rest (a.put o.dst v') w') : wpList P ops Q (o :: rest) a w := by
  refine Go.BigFrame.wpList_want hw fun K hK => ?_
  obtain ⟨hl, ⟨rfl, rfl⟩ | ⟨ad, c, rfl, hc⟩⟩ := hr
  · obtain rfl : news = [] := by simpa using hl
    have hrun := run_append_owned_none (P := P) (w := w) base t o.type e i size ht hi v n xs hown
    unfold Oper.wp
    simp [execOp, ho, resolve, invoke, builtin, hs, hx, hrun, Result.andThen]
    exact hK _ _ (h v w (by simpa using hown) (grownBy_refl w _))
  · exact wp_append_own w s x t ho base e i z size bytes ht hi hz hsize hby hzs hsz v n xs hs hown ad m c news hx hl hc h1 h63 hbytes hbase fun v' w' h2 h3 _ => hK _ _ (h v' w' h2 h3)

theorem fault_append {m : Nat} {xs ys : List Op4} (h1 : (fault m xs).1 = 0) (h2 : (fault m ys).1 = 0) (hn : xs.length + ys.length ≤ 5000) : (fault m (xs ++ ys)).1 = 0 := by
  obtain ⟨hm, _, ha⟩ := fault_none h1
  obtain ⟨_, _, hb⟩ := fault_none h2
  have hall : ∀ j, j < (xs ++ ys).length → wAt m (xs ++ ys) j = 0 := by
    intro j hj
    by_cases hlt : j < xs.length
    · have := ha j hlt
      unfold wAt opAtD at this ⊢
      simpa [List.getElem?_append_left hlt] using this
    · have := hb (j - xs.length) (by rw [List.length_append] at hj; omega)
      unfold wAt opAtD at this ⊢
      simpa [List.getElem?_append_right (by omega : xs.length ≤ j)] using this
  unfold fault faultOf
  rw [if_neg (by rw [List.length_append]; omega)]
  have : ∀ n i, i + n ≤ (xs ++ ys).length → faultFrom (wAt m (xs ++ ys)) n i = (0, 0) := by
    intro n
    induction n with
    | zero => intro i _; rfl
    | succ n ih => intro i hi; rw [faultFrom, if_pos (hall i (by omega))]; exact ih (i + 1) (by omega)
  rw [this _ 0 (by omega)]

theorem opsCells_append (xs ys : List Op4) : opsCells xs ++ opsCells ys = opsCells (xs ++ ys) := by simp [opsCells]

theorem below_app {w3 w4 w5 : World} {o : Obj} {e size n : Nat} {v4 : Value} {xs : List Value} (hb4 : Below (w3.alloc o).heap.size (w3.alloc o) w4) (hown4 : w4.ownsRow (w3.alloc o).heap.size e size v4 n xs) (hgr5 : w4.grownBy w5 v4.ownBlock) : Below w3.heap.size w3 w5 := by
  have hs : (w3.alloc o).heap.size = w3.heap.size + 1 := by simp
  have hs4 := hb4.size
  exact (below_step (Below.refl _ w3) hb4 (Nat.le_refl _)).grown hgr5 (by omega) (fun k hk => by have := (hown4.lt k hk).1; omega)

set_option maxRecDepth 100000 in
set_option maxHeartbeats 1000000 in
theorem halves_D (w : World) (v0 v1 v2 : Value) (zs : List Int) (xs ys : List Op4) (h0 : IsInts w v0 zs) (h1 : IsOps w v1 xs) (h2 : IsOps w v2 ys) (hf1 : (fault zs.length xs).1 = 0) (hf2 : (fault zs.length ys).1 = 0) (hn : xs.length + ys.length ≤ 5000) :
    Calls Tryd.prog 6 #[v0, v1, v2] w fun e w' => e = .returned (.bool true) ∧ Below w.heap.size w w' := by
  have hm32 := (fault_none hf1).1
  have hnot : ∀ (x : Bool) (w : World), (Op.unary .not (.bool x)).run Tryd.prog w = .ok (.bool (!x)) w := fun _ _ => rfl
  have HR1 := hide (fun W (hW : Below w.heap.size w W) => run_read W _ zs v1 xs (Rd.below h0 hW) (Rd.below h1 hW) hf1)
  have HR2 := hide (fun W (hW : Below w.heap.size w W) m (hm : IsInts W m (ranMem zs xs)) => run_read W m (ranMem zs xs) v2 ys hm (Rd.below h2 hW) (by rw [ranMem_length]; exact hf2))
  have HR3 := hide (fun W (hW : Below w.heap.size w W) v (hv : IsOps W v (xs ++ ys)) => run_read W _ zs v (xs ++ ys) (Rd.below h0 hW) hv (fault_append hf1 hf2 hn))
  have HOO := hide (fun W (hW : Below w.heap.size w W) => ownOps_any W v1 xs.length _ (Rd.below h1 hW) (opsCells_one xs) (by omega))
  have HV2 := hide (fun W (hW : Below w.heap.size w W) => Rd.below h2 hW)
  obtain ⟨a0, c0, hv0⟩ := Rd.form h0
  obtain ⟨a1, c1, rfl⟩ := Rd.form h1
  obtain ⟨a2, c2, rfl⟩ := Rd.form h2
  obtain ⟨i5, hi5, hy0, hy1, hy2⟩ := info_parts Tryd.info55
  obtain ⟨i0, hi, hz0, hz1, hz2⟩ := info_parts Tryd.info3
  have hn1 : ¬ (5000 : Int) < (xs.length : Int) + (ys.length : Int) := by omega
  clear h0 h1 h2 hf1 hf2 hv0
  go_enter Tryd.func6, Tryd.ntmps6
  go_wp2_with (go_at_call 14; refine (begun_any _).mono ?_; rintro e w1 ⟨rfl, hb1⟩; have HB1 := hide hb1; clear hb1)
  refine (unhide HR1 _ (unhide HB1)).mono ?_
  rintro e w2 ⟨am, cm, at', ct, rfl, hm2, ht2, hb2⟩
  have hB2 := (unhide HB1).trans (hb2.mono (unhide HB1).size)
  have HB2 := hide hB2
  have HM2 := hide hm2; have HT2 := hide ht2
  clear hb2 hm2 ht2 HB1 HR1 hB2
  go_wp2_with fail
  refine (unhide HR2 _ ((unhide HB2).alloc (unhide HB2).size _) _ (Rd.below (unhide HM2) ((Below.refl _ _).alloc (Nat.le_refl _) _))).mono ?_
  rintro e w3 ⟨an, cn, au, cu, rfl, hm3, ht3, hb3⟩
  have HB3 := hide (below_step (unhide HB2) hb3 (unhide HB2).size)
  have HT2' := hide (Rd.below (unhide HT2) (below_step (Below.refl _ _) hb3 (Nat.le_refl _)))
  have HM3 := hide hm3; have HT3 := hide ht3
  clear hb3 HB2 HR2 hm3 ht3 HT2 HM2
  go_wp2_with (first
    | (go_at_call 10; refine (unhide HOO _ ((unhide HB3).alloc (unhide HB3).size _)).mono ?_; rintro e w4 ⟨v4, rfl, hown4, hb4⟩; have HO4 := hide hown4; have HB4 := hide hb4; clear hown4 hb4)
    | (at_builtin; refine wpList_append_rd rfl _ _ 23 rfl _ 55 i5 _ 4 32 Tryd.underlying23 hi5 hy0 hy1 hy2 rfl (by decide) _ _ _ rfl (unhide HO4) _ _ _ rfl (unhide HV2 _ (below_step (unhide HB3) (unhide HB4) (unhide HB3).size)) (opsCells_one ys) (by unfold maxLen; omega) (by omega) (unhide HB4).size ?_; intro v5 w5 hown5 hgr5; have HO5 := hide hown5; have HG5 := hide hgr5; clear hown5 hgr5))
  have b35 := below_app (unhide HB4) (unhide HO4) (unhide HG5)
  have HB5 := hide ((unhide HB3).trans (b35.mono (unhide HB3).size))
  have HN5 := hide (Rd.below (unhide HM3) b35); have HT5 := hide (Rd.below (unhide HT3) b35); have HS5 := hide (Rd.below (unhide HT2') b35)
  have hop5 : IsOps w5 v5 (xs ++ ys) := by
    have := Rd.of_owns (unhide HO5)
    rw [opsCells_append] at this
    unfold IsOps
    rw [List.length_append]
    exact this
  have HOP5 := hide hop5
  clear b35 hop5 HB3 HB4 HO4 HG5 HO5 HM3 HT3 HT2' HOO HV2
  refine (unhide HR3 _ (unhide HB5) _ (unhide HOP5)).mono ?_
  rintro e w6 ⟨ak, ck, au', cu', rfl, hm6, ht6, hb6⟩
  have HB6 := hide ((unhide HB5).trans (hb6.mono (unhide HB5).size))
  have HN6 := hide (Rd.below (unhide HN5) hb6); have HT6 := hide (Rd.below (unhide HT5) hb6); have HS6 := hide (Rd.below (unhide HS5) hb6)
  have HK6 := hide hm6; have HU6 := hide ht6
  clear hb6 hm6 ht6 HR3 HB5 HN5 HT5 HS5 HOP5
  have hlm := ranMem_length (xs ++ ys) zs
  have hlt := ranTold_length (xs ++ ys) zs
  rw [List.length_append] at hlt
  have hn6 : IsInts w6 (.slice an (ranMem zs xs).length cn) (ranMem zs (xs ++ ys)) := by rw [ranMem_append]; exact unhide HN6
  have HI1 := hide (fun o => ints_same (w6.alloc o) _ _ (ranMem zs (xs ++ ys)) (Rd.below hn6 ((Below.refl _ _).alloc (Nat.le_refl _) _)) (Rd.below (unhide HK6) ((Below.refl _ _).alloc (Nat.le_refl _) _)) (by unfold maxLen; omega))
  have HOW := hide (fun W (hW : Below w6.heap.size w6 W) => own_any W _ _ _ (Rd.below (unhide HS6) hW) (ints_one _) (by rw [ranTold_length]; omega))
  have HTW := hide (fun W (hW : Below w6.heap.size w6 W) => Rd.below (unhide HT6) hW)
  have HI2 := hide (fun W (hW : Below w6.heap.size w6 W) v (hv : IsInts W v (ranTold zs (xs ++ ys))) => ints_same W v _ (ranTold zs (xs ++ ys)) hv (Rd.below (unhide HU6) hW) (by unfold maxLen; omega))
  have e1 := ranTold_length xs zs
  have e2 := ranTold_length ys (ranMem zs xs)
  rw [e1] at HOW
  rw [List.length_append] at HI2
  rw [e2] at HTW
  have hap := ranTold_append xs ys zs
  have HAP := hide hap
  clear hap hn6 HN6 HT6 HS6 HK6 HU6 hlm hlt e1 e2
  go_wp2_with fail
  refine (unhide HI1 _).mono ?_
  rintro e w7 ⟨rfl, hb7⟩
  have HB7 := hide (below_step (Below.refl _ w6) hb7 (Nat.le_refl _))
  clear hb7 HI1
  go_wp2_with (first
    | (go_at_call 9; refine (unhide HOW _ (unhide HB7)).mono ?_; rintro e w8 ⟨v8, rfl, hown8, hb8⟩; have HO8 := hide hown8; have HB8 := hide hb8; clear hown8 hb8)
    | (at_builtin; refine wpList_append_rd_want (by rfl) _ _ 22 rfl _ 3 i0 _ 1 8 Tryd.underlying22 hi hz0 hz1 hz2 rfl (by decide) _ _ _ rfl (unhide HO8) _ _ _ rfl (unhide HTW _ ((unhide HB7).trans ((unhide HB8).mono (unhide HB7).size))) (ints_one _) (by unfold maxLen; omega) (by omega) (unhide HB8).size ?_; intro v9 w9 hown9 hgr9; have HO9 := hide hown9; have HG9 := hide hgr9; clear hown9 hgr9))
  have h9 : Below w6.heap.size w6 w9 := by
    have h8 := (unhide HB7).trans ((unhide HB8).mono (unhide HB7).size)
    exact h8.grown (unhide HG9) h8.size (fun k hk => by have := ((unhide HO8).lt k hk).1; have := (unhide HB7).size; omega)
  have hv9 : IsInts w9 v9 (ranTold zs (xs ++ ys)) := by
    rw [unhide HAP]
    refine IsInts.of_owns (base := w7.heap.size) (n := xs.length + ys.length) ?_ (by rw [List.length_append, ranTold_length, ranTold_length])
    rw [List.map_append]
    exact unhide HO9
  have HB9 := hide ((unhide HB6).trans (h9.mono (unhide HB6).size))
  have HI3 := hide (unhide HI2 w9 h9 v9 hv9)
  clear h9 hv9
  refine (unhide HI3).mono ?_
  rintro e w10 ⟨rfl, hb10⟩
  have HB10 := hide ((unhide HB9).trans (hb10.mono (unhide HB9).size))
  clear hb10
  go_wp2
  go_ret
  exact ⟨rfl, unhide HB10⟩

/-- taskmilllaw.CellHalves returns true, whatever lists come in. -/
theorem halves_walk (w : World) (v0 v1 v2 : Value) (zs : List Int) (xs ys : List Op4) (h0 : IsInts w v0 zs) (h1 : IsOps w v1 xs) (h2 : IsOps w v2 ys) (lz : zs.length ≤ maxLen) (lx : xs.length ≤ 4398046511104) (ly : ys.length ≤ 4398046511104) :
    Calls Tryd.prog 6 #[v0, v1, v2] w fun e w' => e = .returned (.bool true) ∧ Below w.heap.size w w' := by
  by_cases hf1 : (fault zs.length xs).1 = 0
  · by_cases hn : xs.length + ys.length ≤ 5000
    · by_cases hf2 : (fault zs.length ys).1 = 0
      · exact halves_D w v0 v1 v2 zs xs ys h0 h1 h2 hf1 hf2 hn
      · obtain ⟨a0, c0, rfl⟩ := Rd.form h0
        exact halves_C w a0 c0 v1 v2 zs xs ys h0 h1 h2 hf1 hn _ _ hf2 rfl
    · obtain ⟨a0, c0, e0⟩ := Rd.form h0
      obtain ⟨a1, c1, e1⟩ := Rd.form h1
      obtain ⟨a2, c2, e2⟩ := Rd.form h2
      rw [e0] at h0 ⊢
      rw [e1] at h1 ⊢
      rw [e2]
      refine halves_B w a0 a1 a2 c0 c1 c2 zs.length xs.length ys.length lx ly (by omega) (fun W hW => (run_read W _ zs _ xs (Rd.below h0 hW) (Rd.below h1 hW) hf1).mono ?_)
      rintro e w' ⟨am, cm, at', ct, rfl, _, _, hb⟩
      exact ⟨_, _, rfl, hb⟩
  · obtain ⟨a0, c0, e0⟩ := Rd.form h0
    obtain ⟨a1, c1, e1⟩ := Rd.form h1
    obtain ⟨a2, c2, e2⟩ := Rd.form h2
    rw [e0]
    rw [e1] at h1 ⊢
    rw [e2]
    exact halves_A w a0 a1 a2 c0 c1 c2 zs.length xs.length ys.length _ _ hf1 (fun W hW => run_fault W a0 zs.length c0 _ xs (Rd.below h1 hW) lz (by unfold maxLen; omega) _ _ hf1 rfl)
end Go.Proofs.YtpgokeogijpmaaaDoor
