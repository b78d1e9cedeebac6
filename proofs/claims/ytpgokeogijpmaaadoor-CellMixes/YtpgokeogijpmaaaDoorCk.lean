/-
  taskmilllaw.CellMixes: behind the look at its picks.
-/
import Derived.Test.YtpgokeogijpmaaaDoorCi
import Derived.Test.YtpgokeogijpmaaaDoorCj
import Derived.Test.YtpgokeogijpmaaaDoorRb
namespace Go.Proofs.YtpgokeogijpmaaaDoor.Mx
open Go.RowKit

set_option maxRecDepth 100000 in
set_option maxHeartbeats 1000000 in
theorem ran_none (w : World) (v0 : Value) (zs : List Int) (a1 : Option Addr) (c1 : Nat) (hmem : IsInts w v0 zs) (hm : zs.length * 8 ≤ 140737488355328) :
    Calls Tryd.prog 17 #[v0, .slice a1 0 c1] w fun e w' => ∃ m t, e = .returned (.tuple #[m, t]) ∧ IsInts w' m zs ∧ IsInts w' t [] ∧ Below w.heap.size w w' := by
  obtain ⟨i0, hi, hz0, hz1, hz2⟩ := info_parts Tryd.info3
  have HMEM0 := hide hmem
  clear hmem
  go_enter Tryd.func17, Tryd.ntmps17
  go_wp2_with (at_builtin; refine wpList_append_rd rfl _ _ 22 rfl w.heap.size 3 i0 (.int .i64 0) 1 8 Tryd.underlying22 hi hz0 hz1 hz2 rfl (by decide) _ _ _ rfl (World.ownsRow_nil _ _ _ _) _ _ _ rfl (unhide HMEM0) (ints_one zs) (by unfold maxLen; omega) (by omega) (Nat.le_refl _) ?_; intro v6 w1 hown1 hgr1; have HO1 := hide hown1; have HG1 := hide hgr1; clear hown1 hgr1)
  go_loopw [7, 8] (fun t i wr => t = .slice none 0 0 ∧ i = .int .i64 0 ∧ wr = w1) (fun _ _ _ => 0)
  case atStart => exact ⟨rfl, rfl, rfl⟩
  case round =>
    obtain ⟨rfl, rfl, rfl⟩ := hrel
    go_wp2
    go_ret2
    have h1 := unhide HO1
    rw [Nat.zero_add, List.nil_append] at h1
    exact ⟨_, _, rfl, Rd.of_owns h1, Rd.of_owns (World.ownsRow_nil _ w.heap.size 3 1), (Below.refl _ _).grown (unhide HG1) (Nat.le_refl _) (fun k hk => by cases hk)⟩

set_option maxRecDepth 100000 in
set_option maxHeartbeats 4000000 in
theorem mixes_fault (w : World) (v0 : Value) (at1 : Option Addr) (n ct : Nat) (ap : Option Addr) (p cp : Nat) (R9 R : Nat) (u v : Int) (hu : u ≠ 0) (Wt : World) (hX : Below w.heap.size w Wt) (h9 : Wt.heap[R9]? = some (.cells #[.int .i64 u, .int .i64 v] 27)) (hR : Wt.heap[R]? = some (.cells #[.int .i64 u, .int .i64 v] 27))
    {s3 s4 s5 s6 s11 s12 s13 s14 s15 s16 s17 s18 s19 s20 s21 s22 s23 s24 s25 s26 s27 s28 s29 s30 s31 s32 s33 s34 s35 s36 s37 s38 s39 s40 s41 s42 s43 s44 s45 s46 s47 s48 s49 s50 s51 s52 s53 s54 s55 s56 s57 s58 s59 s60 s61 s62 s63 s64 s65 s66 s67 s68 s69 s70 s71 s72 s73 s74 s75 s76 s77 s78 s79 s80 s81 s82 s83 s84 s85 s86 s87 s88 s89 s90 s91 s92 s93 s94 s95 s96 s97 s98 s99 s100 s101 s102 s103 s104 s105 s106 s107 s108 s109 s110 s111 s112 s113 s114 s115 s116 s117 s118 s119 s120 s121 s122 s123 s124 s125 s126 s127 s128 s129 s130 s131 s132 s133 : Value} (b r : Code) (hcut : (Tryd.f4.body.bind (loopFor 0)) = some (b, r)) :
    r.wp Tryd.prog (bodyPost Tryd.prog Tryd.f4 fun e w' => e = .returned (.bool true) ∧ Below w.heap.size w w') { tmps := (v0 :: .slice at1 n ct :: .slice ap p cp :: s3 :: s4 :: s5 :: s6 :: .slice none 0 0 :: .slice none 0 0 :: .pointer (some ⟨R9, 0, none⟩) :: .pointer (some ⟨R, 0, none⟩) :: s11 :: s12 :: s13 :: s14 :: s15 :: s16 :: s17 :: s18 :: s19 :: s20 :: s21 :: s22 :: s23 :: s24 :: s25 :: s26 :: s27 :: s28 :: s29 :: s30 :: s31 :: s32 :: s33 :: s34 :: s35 :: s36 :: s37 :: s38 :: s39 :: s40 :: s41 :: s42 :: s43 :: s44 :: s45 :: s46 :: s47 :: s48 :: s49 :: s50 :: s51 :: s52 :: s53 :: s54 :: s55 :: s56 :: s57 :: s58 :: s59 :: s60 :: s61 :: s62 :: s63 :: s64 :: s65 :: s66 :: s67 :: s68 :: s69 :: s70 :: s71 :: s72 :: s73 :: s74 :: s75 :: s76 :: s77 :: s78 :: s79 :: s80 :: s81 :: s82 :: s83 :: s84 :: s85 :: s86 :: s87 :: s88 :: s89 :: s90 :: s91 :: s92 :: s93 :: s94 :: s95 :: s96 :: s97 :: s98 :: s99 :: s100 :: s101 :: s102 :: s103 :: s104 :: s105 :: s106 :: s107 :: s108 :: s109 :: s110 :: s111 :: s112 :: s113 :: s114 :: s115 :: s116 :: s117 :: s118 :: s119 :: s120 :: s121 :: s122 :: s123 :: s124 :: s125 :: s126 :: s127 :: s128 :: s129 :: s130 :: s131 :: s132 :: s133 :: []).toArray, defers := [] } Wt := by
  have hcc : (Tryd.f4.body.bind (loopFor 0)) = some (_, _) := rfl
  rw [hcc] at hcut
  cases hcut
  clear hcc
  have x1 : (u != 0) = true := by simpa using hu
  have x2 : (u == u) = true := by simp
  have x3 : (v == v) = true := by simp
  obtain ⟨r0, r1, rf0, rf1, rl⟩ := block2 hR
  obtain ⟨q0, q1, qf0, qf1, ql⟩ := block2 h9
  have HX := hide hX
  clear hX h9 hR hu
  go_wp2_with fail
  go_ret
  exact ⟨rfl, unhide HX⟩

theorem told_loop (ww w W0 : World) (R Bm : Nat) (v7 v8 v14 : Value) (a12 : Option Addr) (c12 : Nat) (a13 : Option Addr) (c13 : Nat) (a15 : Option Addr) (c15 q G n : Nat) (wh tt : List Int) (hq : q ≤ 5000) (hn : n ≤ 64) (hlw : wh.length = q) (hlt : tt.length = q) (hin : ∀ i, i < q → 0 ≤ wh.getD i 0 ∧ wh.getD i 0 < n) (hW : IsInts W0 (.slice a13 q c13) wh) (hT : IsInts W0 (.slice a15 q c15) tt) (Wt : World) (hM : Mi w Wt W0.heap.size R Bm G n 0 (.slice none 0 0) [] (List.replicate n (none, 0, 0)) (List.replicate n [])) (hB : Below W0.heap.size W0 Wt) (hX : Below ww.heap.size ww W0)
    (h1 : ∀ W, Below W0.heap.size W0 W → Calls Tryd.prog 15 #[v7, v14] W fun e w' => e = .returned (.bool true) ∧ Below W.heap.size W w')
    (h2 : ∀ W, Below W0.heap.size W0 W → IsLists W (.slice (some ⟨G, 0, none⟩) n n) (dist wh tt (List.replicate n [])) → Calls Tryd.prog 23 #[v8, .slice (some ⟨G, 0, none⟩) n n] W fun e w' => e = .returned (.bool true) ∧ Below W.heap.size W w')
    (K : Act → World → Prop) (b r : Code) (hK : ∀ a w', r.wp Tryd.prog (bodyPost Tryd.prog Tryd.f4 fun e w' => e = .returned (.bool true) ∧ Below ww.heap.size ww w') a w' → K a w') (hcut : (Tryd.f4.body.bind (loopFor 2)) = some (b, r)) {s0 s1 s2 s3 s4 s5 s6 s9 s10 s11 s18 s19 s20 s21 s22 s23 s24 s25 s26 s27 s28 s29 s30 s31 s32 s33 s34 s35 s36 s37 s38 s39 s40 s41 s42 s43 s44 s45 s46 s47 s48 s49 s50 s51 s52 s53 s54 s55 s56 s57 s58 s59 s60 s61 s62 s63 s64 s65 s66 s67 s68 s69 s70 s71 s72 s73 s74 s75 s76 s77 s78 s79 s80 s81 s82 s83 s84 s85 s86 s87 s88 s89 s90 s91 s92 s93 s94 s95 s96 s97 s98 s99 s100 s101 s102 s103 s104 s105 s106 s107 s108 s109 s110 s111 s112 s113 s114 s115 s116 s117 s118 s119 s120 s121 s122 s123 s124 s125 s126 s127 s128 s129 s130 s131 s132 s133 : Value} :
    (Code.loop b).wp Tryd.prog (Exit.inBlock 2 (Exit.then K (bodyPost Tryd.prog Tryd.f4 fun e w' => e = .returned (.bool true) ∧ Below ww.heap.size ww w'))) { tmps := (s0 :: s1 :: s2 :: s3 :: s4 :: s5 :: s6 :: v7 :: v8 :: s9 :: s10 :: s11 :: .slice a12 q c12 :: .slice a13 q c13 :: v14 :: .slice a15 q c15 :: .slice (some ⟨G, 0, none⟩) n n :: .int .i64 0 :: s18 :: s19 :: s20 :: s21 :: s22 :: s23 :: s24 :: s25 :: s26 :: s27 :: s28 :: s29 :: s30 :: s31 :: s32 :: s33 :: s34 :: s35 :: s36 :: s37 :: s38 :: s39 :: s40 :: s41 :: s42 :: s43 :: s44 :: s45 :: s46 :: s47 :: s48 :: s49 :: s50 :: s51 :: s52 :: s53 :: s54 :: s55 :: s56 :: s57 :: s58 :: s59 :: s60 :: s61 :: s62 :: s63 :: s64 :: s65 :: s66 :: s67 :: s68 :: s69 :: s70 :: s71 :: s72 :: s73 :: s74 :: s75 :: s76 :: s77 :: s78 :: s79 :: s80 :: s81 :: s82 :: s83 :: s84 :: s85 :: s86 :: s87 :: s88 :: s89 :: s90 :: s91 :: s92 :: s93 :: s94 :: s95 :: s96 :: s97 :: s98 :: s99 :: s100 :: s101 :: s102 :: s103 :: s104 :: s105 :: s106 :: s107 :: s108 :: s109 :: s110 :: s111 :: s112 :: s113 :: s114 :: s115 :: s116 :: s117 :: s118 :: s119 :: s120 :: s121 :: s122 :: s123 :: s124 :: s125 :: s126 :: s127 :: s128 :: s129 :: s130 :: s131 :: s132 :: s133 :: []).toArray, defers := [] } Wt := by
  refine wp_loop_rounds (q + 1) ?_
  refine hd_rounds w W0 R Bm v7 v8 v14 a12 c12 a13 c13 a15 c15 q G n wh tt hq hn hlw hlt hin hW hT (dist wh tt (List.replicate n [])) _ b r hcut ?_ q 0 (by omega) _ _ _ _ _ _ _ _ _ _ _ _ _ _ _ _ _ _ _ _ _ _ _ _ _ _ _ _ _ _ _ _ _ _ _ _ _ _ _ _ _ _ _ _ _ _ _ _ _ _ _ _ _ _ _ _ _ _ _ _ _ _ _ _ _ _ _ _ _ _ _ _ _ _ _ _ _ _ _ _ _ _ _ _ _ _ _ _ _ _ _ _ _ _ _ _ _ _ _ _ _ _ _ _ _ _ _ _ _ _ _ _ _ _ _ _ _ _ _ _ _ _ _ _ _ _ _ _ Wt rfl (fun t ht => by rw [rep_nil]; exact Nat.zero_le _) hM hB
  unfold NxHE
  intros
  rename_i us W' hM' hB'
  refine in_b0 (hK _ _ (mixes_tail ww W' v7 v8 v14 (.slice (some ⟨G, 0, none⟩) n n) (Below.next hX hB' (Nat.le_refl _)) (h1 W' hB') (fun W2 hb2 => h2 W2 (Below.next hB' hb2 (Nat.le_refl _)) ?_) b r hcut))
  exact lists_of (hM'.row.below hb2) hM'.lu hM'.lt (fun i hi => (hM'.each i hi).isl.below hb2)

theorem dist_le : ∀ (ws tt : List Int) (ts : List (List Int)) (j : Nat), ((dist ws tt ts).getD j []).length ≤ (ts.getD j []).length + tt.length
  | w :: ws, t :: tt, ts, j => by
    have ih := dist_le ws tt (ts.set w.toNat (ts.getD w.toNat [] ++ [t])) j
    have h1 : ((ts.set w.toNat (ts.getD w.toNat [] ++ [t])).getD j []).length ≤ (ts.getD j []).length + 1 := by
      simp only [List.getD_eq_getElem?_getD, List.getElem?_set]
      split
      · rename_i e
        subst e
        split
        · simp
        · simp
      · omega
    have e : dist (w :: ws) (t :: tt) ts = dist ws tt (ts.set w.toNat (ts.getD w.toNat [] ++ [t])) := rfl
    rw [e, List.length_cons]
    omega
  | [], tt, ts, j => by
    have e : dist [] tt ts = ts := by cases tt <;> rfl
    rw [e]; omega
  | w :: ws, [], ts, j => by
    have e : dist (w :: ws) [] ts = ts := rfl
    rw [e]; omega

set_option maxRecDepth 100000 in
set_option maxHeartbeats 4000000 in
theorem mixes_ok (w : World) (a0 : Option Addr) (m c0 : Nat) (zs : List Int) (at1 : Option Addr) (n ct : Nat) (ap : Option Addr) (p cp : Nat) (v7 : Value) (G9 R9 R : Nat) (uts : List Sl) (tss : List (List Op4)) (ps : List Int) (hn : n ≤ 64) (hp : p ≤ 5000) (hm8 : m * 8 ≤ 140737488355328) (hmem : IsInts w (.slice a0 m c0) zs) (hmm : zs.length = m) (hT : IsTs w (.slice at1 n ct) uts tss) (hf : ∀ i, i < n → fault m (tss.getD i []) = (0, 0)) (hP : IsL KI w (.slice ap p cp) ps) (hi : ∀ j, j < p → 0 ≤ ps.getD j 0 ∧ ps.getD j 0 < n)
    (ZF : List Int) (tF : List (List Int)) (hA : mixAll tss ps (zs, List.replicate n []) = (ZF, tF)) (wm Wt : World) (hX : Below w.heap.size w Wt) (h9 : Wt.heap[R9]? = some (.cells #[.int .i64 0, .int .i64 0] 27)) (hR : Wt.heap[R]? = some (.cells #[.int .i64 0, .int .i64 0] 27)) (B9 Rm Bm : Nat) (us9 : List Sl) (hM : Mi wm Wt B9 Rm Bm G9 n m v7 ZF us9 tF)
    {s3 s4 s5 s6 s11 s12 s13 s14 s15 s16 s17 s18 s19 s20 s21 s22 s23 s24 s25 s26 s27 s28 s29 s30 s31 s32 s33 s34 s35 s36 s37 s38 s39 s40 s41 s42 s43 s44 s45 s46 s47 s48 s49 s50 s51 s52 s53 s54 s55 s56 s57 s58 s59 s60 s61 s62 s63 s64 s65 s66 s67 s68 s69 s70 s71 s72 s73 s74 s75 s76 s77 s78 s79 s80 s81 s82 s83 s84 s85 s86 s87 s88 s89 s90 s91 s92 s93 s94 s95 s96 s97 s98 s99 s100 s101 s102 s103 s104 s105 s106 s107 s108 s109 s110 s111 s112 s113 s114 s115 s116 s117 s118 s119 s120 s121 s122 s123 s124 s125 s126 s127 s128 s129 s130 s131 s132 s133 : Value} (b r : Code) (hcut : (Tryd.f4.body.bind (loopFor 0)) = some (b, r)) :
    r.wp Tryd.prog (bodyPost Tryd.prog Tryd.f4 fun e w' => e = .returned (.bool true) ∧ Below w.heap.size w w') { tmps := (.slice a0 m c0 :: .slice at1 n ct :: .slice ap p cp :: s3 :: s4 :: s5 :: s6 :: v7 :: .slice (some ⟨G9, 0, none⟩) n n :: .pointer (some ⟨R9, 0, none⟩) :: .pointer (some ⟨R, 0, none⟩) :: s11 :: s12 :: s13 :: s14 :: s15 :: s16 :: s17 :: s18 :: s19 :: s20 :: s21 :: s22 :: s23 :: s24 :: s25 :: s26 :: s27 :: s28 :: s29 :: s30 :: s31 :: s32 :: s33 :: s34 :: s35 :: s36 :: s37 :: s38 :: s39 :: s40 :: s41 :: s42 :: s43 :: s44 :: s45 :: s46 :: s47 :: s48 :: s49 :: s50 :: s51 :: s52 :: s53 :: s54 :: s55 :: s56 :: s57 :: s58 :: s59 :: s60 :: s61 :: s62 :: s63 :: s64 :: s65 :: s66 :: s67 :: s68 :: s69 :: s70 :: s71 :: s72 :: s73 :: s74 :: s75 :: s76 :: s77 :: s78 :: s79 :: s80 :: s81 :: s82 :: s83 :: s84 :: s85 :: s86 :: s87 :: s88 :: s89 :: s90 :: s91 :: s92 :: s93 :: s94 :: s95 :: s96 :: s97 :: s98 :: s99 :: s100 :: s101 :: s102 :: s103 :: s104 :: s105 :: s106 :: s107 :: s108 :: s109 :: s110 :: s111 :: s112 :: s113 :: s114 :: s115 :: s116 :: s117 :: s118 :: s119 :: s120 :: s121 :: s122 :: s123 :: s124 :: s125 :: s126 :: s127 :: s128 :: s129 :: s130 :: s131 :: s132 :: s133 :: []).toArray, defers := [] } Wt := by
  have hcc : (Tryd.f4.body.bind (loopFor 0)) = some (_, _) := rfl
  rw [hcc] at hcut
  cases hcut
  clear hcc
  have hlp := hP.len
  have hps : ∀ x ∈ ps, 0 ≤ x ∧ x < n := fun x hx => by
    obtain ⟨j, hj, e⟩ := List.getElem_of_mem hx
    have := hi j (by omega)
    rw [List.getD_eq_getElem?_getD, List.getElem?_eq_getElem hj] at this
    rw [← e]
    exact this
  have hbo := both_all (tss := tss) ps _ _ (both_zero n zs) hps
  rw [hA] at hbo
  obtain ⟨⟨aF, osF, wF⟩, eO⟩ : ∃ s, ordAll tss ps (List.replicate n 0, [], []) = s := ⟨_, rfl⟩
  have hoo := ord_ops (tss := tss) (P := fun o => (1 ≤ o.k ∧ o.k ≤ 5) ∧ 0 ≤ o.p ∧ o.p < m ∧ wrongOf m o.k o.p o.a o.b = 0) (n := n) (fun t ht j hj => by
    obtain ⟨h1, h2, h3⟩ := fault_none (m := m) (os := tss.getD t []) (by rw [hf t ht])
    have h4 := wrong_none (h3 j hj)
    exact ⟨h4.1, h4.2.1, h4.2.2, h3 j hj⟩) ps (List.replicate n 0, [], []) hps (fun i => by show 0 ≤ (List.replicate n (0 : Int)).getD i 0; rw [List.getD_eq_getElem?_getD, List.getElem?_replicate]; split <;> exact Int.le_refl _) (fun o ho => by cases ho) (fun x hx => by cases hx)
  rw [eO] at hbo hoo
  simp only at hoo
  have e1 : ZF = ranMem zs osF := hbo.mem
  have e2 : tF = dist wF (ranTold zs osF) (List.replicate n []) := hbo.told
  have e3 : wF.length = osF.length := hbo.len
  have hq5 : osF.length ≤ 5000 := by have := hoo.2.2; simp at this; omega
  have hlF : tF.length = n := hM.lt
  have HOD : Hid (∀ W, Below w.heap.size w W → Calls Tryd.prog 22 #[.slice at1 n ct, .slice ap p cp] W fun e w' => ∃ a7 c7 a8 c8 q, e = .returned (.tuple #[.slice a7 q c7, .slice a8 q c8]) ∧ q = osF.length ∧ wF.length = q ∧ IsOps w' (.slice a7 q c7) osF ∧ IsL KI w' (.slice a8 q c8) wF ∧ Below W.heap.size W w') := fun W hW => order_ok W at1 n ct ap p cp uts tss ps hn hp (fun i hi' => by have := (fault_at (hf i hi')).1; omega) hi (hP.below hW) (hT.below hW) aF osF wF eO
  have HRN : Hid (∀ W a7 c7, Below w.heap.size w W → IsOps W (.slice a7 osF.length c7) osF → Calls Tryd.prog 17 #[.slice a0 m c0, .slice a7 osF.length c7] W fun e w' => ∃ a14 c14 a15 c15, e = .returned (.tuple #[.slice a14 m c14, .slice a15 osF.length c15]) ∧ IsInts w' (.slice a14 m c14) ZF ∧ IsInts w' (.slice a15 osF.length c15) (ranTold zs osF) ∧ Below W.heap.size W w') := fun W a7 c7 hW ho => by
    have hmW := Rd.below hmem hW
    have hlm := ranMem_length osF zs
    have hlt := ranTold_length osF zs
    by_cases h0 : osF = []
    · subst h0
      refine (ran_none W (.slice a0 m c0) zs a7 c7 hmW (by omega)).mono ?_
      rintro e w' ⟨v1, v2, rfl, h1, h2, h3⟩
      obtain ⟨a14, c14, rfl⟩ := Rd.form h1
      obtain ⟨a15, c15, rfl⟩ := Rd.form h2
      rw [e1]
      exact ⟨a14, c14, a15, c15, by rw [hmm]; rfl, by rw [← hmm]; exact h1, h2, h3⟩
    · have hm32 : m ≤ 32 := by
        have hne : 0 < n := by
          apply Nat.pos_of_ne_zero
          intro hz
          apply h0
          have hpe : ps = [] := by
            cases ps with
            | nil => rfl
            | cons x r => have := hps x (by simp); omega
          rw [hpe] at eO
          have : ((List.replicate n (0 : Int), ([] : List Op4), ([] : List Int)) : List Int × List Op4 × List Int) = (aF, osF, wF) := eO
          injection this with _ h2
          injection h2 with h2 _
          exact h2.symm
        exact (fault_none (m := m) (os := tss.getD 0 []) (by rw [hf 0 hne])).1
      have hff : (fault zs.length osF).1 = 0 := by
        rw [hmm]
        unfold fault faultOf
        rw [if_neg (by omega)]
        have : ∀ (f i : Nat), i + f ≤ osF.length → (faultFrom (wAt m osF) f i).1 = 0 := by
          intro f
          induction f with
          | zero => intros; rfl
          | succ f ih =>
            intro i hif
            unfold faultFrom
            have hz : wAt m osF i = 0 := by
              have hmem' : opAtD osF i ∈ osF := by
                unfold opAtD
                rw [List.getD_eq_getElem?_getD, List.getElem?_eq_getElem (by omega : i < osF.length)]
                exact List.getElem_mem _
              exact (hoo.1 _ hmem').2.2.2
            rw [if_pos hz]
            exact ih (i + 1) (by omega)
        exact this _ _ (by omega)
      refine (ran_ok W (.slice a0 m c0) zs (.slice a7 osF.length c7) osF hmW ho hff).mono ?_
      rintro e w' ⟨v1, v2, rfl, h1, h2, h3⟩
      obtain ⟨a14, c14, rfl⟩ := Rd.form h1
      obtain ⟨a15, c15, rfl⟩ := Rd.form h2
      rw [hlm] at h1 ⊢
      rw [hlt] at h2 ⊢
      rw [e1]
      exact ⟨a14, c14, a15, c15, by rw [hmm], by rw [← hmm]; exact h1, h2, h3⟩
  have hin : ∀ i, i < osF.length → 0 ≤ wF.getD i 0 ∧ wF.getD i 0 < n := fun i hi' => by
    have hlt' : i < wF.length := by omega
    have hmem' : wF.getD i 0 ∈ wF := by
      rw [List.getD_eq_getElem?_getD, List.getElem?_eq_getElem hlt']
      exact List.getElem_mem hlt'
    exact hoo.2.1 _ hmem'
  obtain ⟨r0, r1, rf0, rf1, rl⟩ := block2 hR
  obtain ⟨q0, q1, qf0, qf1, ql⟩ := block2 h9
  obtain ⟨Q, eQ⟩ : ∃ Q, osF.length = Q := ⟨_, rfl⟩
  have hlt := ranTold_length osF zs
  rw [eQ] at HOD HRN hin hq5 e3 hlt
  obtain ⟨TT, eTT⟩ : ∃ T, ranTold zs osF = T := ⟨_, rfl⟩
  rw [eTT] at HRN e2 hlt
  have HX := hide hX; have HM := hide hM; have HIN := hide hin; have HE2 := hide e2; have HE3 := hide e3; have HLT := hide hlt; have HLF := hide hlF
  clear hX hM hin e1 e2 e3 hoo hbo hA eO hmem hT hf hP hi h9 hR hps hlp eQ eTT hlt hlF hmm
  go_upto_region 21 with (first | (go_at_call 22; (with_reducible refine Calls.mono (unhide HOD _ (unhide HX)) ?_); rintro e w2 ⟨a7, c7, a8, c8, q, rfl, rfl, hl2, ho2, hw2, hb2⟩; have HX2 := hide (Below.next (unhide HX) hb2 (Nat.le_refl _)); have HM2 := hide ((unhide HM).keep hb2); have HO2 := hide ho2; have HW2 := hide hw2; clear hb2 ho2 hw2 hl2) | (go_at_call 17; (with_reducible refine Calls.mono (unhide HRN _ _ _ (unhide HX2) (unhide HO2)) ?_); rintro e w3 ⟨a14, c14, a15, c15, rfl, h14, h15, hb3⟩; have HX3 := hide (Below.next (unhide HX2) hb3 (Nat.le_refl _)); have HM3 := hide ((unhide HM2).keep hb3); have HW3 := hide ((unhide HW2).below hb3); have H14 := hide h14; have H15 := hide h15; clear h14 h15 hb3))
  obtain ⟨W6, hmk, hmo, hmb⟩ := make_rows w3 n (by omega)
  have HMI : Hid (Mi wm W6 w3.heap.size Rm Bm w3.heap.size n 0 (.slice none 0 0) [] (List.replicate n (none, 0, 0)) (List.replicate n [])) :=
    ⟨Below.next (unhide HM3).be hmb (Nat.le_refl _), keep_below (unhide HM3).res hmb, (hmb.block _ (size_of (unhide HM3).map)).trans (unhide HM3).map, own_nil _ _, hmo, rfl, List.length_replicate, List.length_replicate, fun i hi => (by rw [uAt_rep, rep_nil]; exact own_nil _ _), fun i hi k hk => (by rw [uAt_rep] at hk; cases hk), fun i j hi hj hij k hk => (by rw [uAt_rep] at hk; cases hk), size_of (unhide HM3).res, size_of (unhide HM3).map, (unhide HM3).wB, (unhide HM3).be.size⟩
  have HMB := hide hmb
  clear hmo hmb
  have H1 : Hid (∀ W, Below w3.heap.size w3 W → Calls Tryd.prog 15 #[v7, .slice a14 m c14] W fun e w' => e = .returned (.bool true) ∧ Below W.heap.size W w') := fun W hW => ints_same W v7 _ ZF (Rd.below (isl_ints (unhide HM3).mem.isl) hW) (Rd.below (unhide H14) hW) (by rw [(unhide HM3).lz]; unfold maxLen; omega)
  have H2 : Hid (∀ W, Below w3.heap.size w3 W → IsLists W (.slice (some ⟨w3.heap.size, 0, none⟩) n n) (dist wF TT (List.replicate n [])) → Calls Tryd.prog 23 #[.slice (some ⟨G9, 0, none⟩) n n, .slice (some ⟨w3.heap.size, 0, none⟩) n n] W fun e w' => e = .returned (.bool true) ∧ Below W.heap.size W w') := fun W hW hL => by
    have hlF := unhide HLF
    have e2 := unhide HE2
    have hM3 := unhide HM3
    have hlT := unhide HLT
    by_cases h0 : 0 < n
    · refine lists_same W _ _ tF (lists_of (hM3.row.below hW) hM3.lu hM3.lt (fun i hi => (hM3.each i hi).isl.below hW)) (e2 ▸ hL) (by omega) (by unfold maxLen; omega) (fun j _ => ?_)
      have := dist_le wF TT (List.replicate n []) j
      rw [← e2, rep_nil] at this
      simp only [List.length_nil] at this
      unfold maxLen
      omega
    · have hz : n = 0 := by omega
      subst hz
      exact lists_zero W _ _ _ _
  go_wp2_with fail
  exact told_loop w wm w3 Rm Bm v7 _ _ a7 c7 a8 c8 a15 c15 _ w3.heap.size n wF TT hq5 hn (unhide HE3) (unhide HLT) (unhide HIN) (isl_ints (unhide HW3)) (unhide H15) W6 (unhide HMI) (unhide HMB) (unhide HX3) (unhide H1) (unhide H2) _ _ _ (by assumption) (by kernel_rfl)

end Go.Proofs.YtpgokeogijpmaaaDoor.Mx
