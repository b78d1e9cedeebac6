/-
  taskmilllaw.LockAlone: who enters to write.
-/
import Derived.Test.YtdpcbmekplcllaaAf
namespace Go.Proofs.Ytdpcbmekplcllaa
open Go.RowKit

set_option maxRecDepth 100000 in
set_option maxHeartbeats 4000000 in
theorem mv_enter1_false (w : World) (BM BL BK BE G n : Nat) (am : Option Addr) (cm : Nat) (xs : List Int) (hIL : IsL KI w (.slice am n cm) xs) (hn : n ≤ 200) (ho : Ord w BM BL BK BE G) (j : Nat) (hj : j < n) (P : Lk) (ks : List Int) (e : Int) (a : Option Addr) (c : Nat) (Wt : World) (hO : Ou w BM BL BK BE G n am cm j P ks e a c Wt) (hv : xs.getD j 0 = 1) (hf : (enterF P ((j : Int) + 1)).1 = 0) (hgi : (enterR P ((j : Int) + 1) true false).2 = false)
    (hal : Al n (j + 1) (enterR P ((j : Int) + 1) true false).1 (ks.set (j + 1) 4) e)
    {s0 s2 s8 s9 s10 s11 s12 s13 s14 s15 s16 s17 s18 s19 s20 s21 s22 s23 s24 s25 s26 s27 s28 s29 s30 s31 s32 s33 s34 s35 s36 s37 s38 s39 s40 s41 s42 s43 s44 s45 s46 s47 s48 s49 s50 s51 s52 s53 s54 s55 s56 s57 s58 s59 s60 s61 s62 s63 s64 s65 s66 s67 s68 s69 s70 s71 s72 s73 s74 s75 s76 s77 s78 s79 s80 s81 s82 s83 s84 s85 s86 s87 s88 s89 s90 s91 s92 s93 s94 s95 s96 s97 s98 s99 s100 s101 s102 s103 s104 s105 s106 s107 s108 s109 s110 s111 s112 s113 s114 s115 s116 s117 s118 s119 s120 s121 s122 s123 s124 s125 s126 s127 s128 s129 s130 s131 s132 s133 s134 s135 s136 s137 s138 s139 s140 s141 s142 s143 s144 s145 s146 s147 s148 s149 s150 s151 s152 s153 s154 s155 s156 s157 s158 s159 s160 s161 s162 s163 s164 s165 s166 s167 s168 s169 s170 s171 s172 s173 s174 s175 s176 s177 s178 s179 : Value} (N : Act → World → Prop) (Q0 : Exit → Act → World → Prop) (b r : Code) (hcut : (Try.f5.body.bind (loopFor 0)) = some (b, r)) (hN : NxO w BM BL BK BE G n am cm j N) :
    b.wp Try.prog (Exit.then N Q0) { tmps := (s0 :: .pointer (some ⟨BM, 0, none⟩) :: s2 :: .pointer (some ⟨BL, 0, none⟩) :: .pointer (some ⟨BK, 0, none⟩) :: .pointer (some ⟨BE, 0, none⟩) :: .func (Fn.func 23) #[] #[.pointer (some ⟨BM, 0, none⟩), .pointer (some ⟨BK, 0, none⟩), .pointer (some ⟨BE, 0, none⟩)] :: .int .i64 (j : Int) :: s8 :: s9 :: s10 :: s11 :: s12 :: s13 :: s14 :: s15 :: s16 :: s17 :: s18 :: s19 :: s20 :: s21 :: s22 :: s23 :: s24 :: s25 :: s26 :: s27 :: s28 :: s29 :: s30 :: s31 :: s32 :: s33 :: s34 :: s35 :: s36 :: s37 :: s38 :: s39 :: s40 :: s41 :: s42 :: s43 :: s44 :: s45 :: s46 :: s47 :: s48 :: s49 :: s50 :: s51 :: s52 :: s53 :: s54 :: s55 :: s56 :: s57 :: s58 :: s59 :: s60 :: s61 :: s62 :: s63 :: s64 :: s65 :: s66 :: s67 :: s68 :: s69 :: s70 :: s71 :: s72 :: s73 :: s74 :: s75 :: s76 :: s77 :: s78 :: s79 :: s80 :: s81 :: s82 :: s83 :: s84 :: s85 :: s86 :: s87 :: s88 :: s89 :: s90 :: s91 :: s92 :: s93 :: s94 :: s95 :: s96 :: s97 :: s98 :: s99 :: s100 :: s101 :: s102 :: s103 :: s104 :: s105 :: s106 :: s107 :: s108 :: s109 :: s110 :: s111 :: s112 :: s113 :: s114 :: s115 :: s116 :: s117 :: s118 :: s119 :: s120 :: s121 :: s122 :: s123 :: s124 :: s125 :: s126 :: s127 :: s128 :: s129 :: s130 :: s131 :: s132 :: s133 :: s134 :: s135 :: s136 :: s137 :: s138 :: s139 :: s140 :: s141 :: s142 :: s143 :: s144 :: s145 :: s146 :: s147 :: s148 :: s149 :: s150 :: s151 :: s152 :: s153 :: s154 :: s155 :: s156 :: s157 :: s158 :: s159 :: s160 :: s161 :: s162 :: s163 :: s164 :: s165 :: s166 :: s167 :: s168 :: s169 :: s170 :: s171 :: s172 :: s173 :: s174 :: s175 :: s176 :: s177 :: s178 :: s179 :: []).toArray, defers := [] } Wt := by
  have HEN : Hid (∀ W v', IsLock W v' P → Calls Try.prog 11 #[v', .int .i64 ((j : Int) + 1), .bool true, .bool false] W fun e w' => ∃ a2 c2, e = .returned (.tuple #[.agg #[.int .i64 (enterR P ((j : Int) + 1) true false).1.readers, .bool (enterR P ((j : Int) + 1) true false).1.writer, .slice a2 (enterR P ((j : Int) + 1) true false).1.line.length c2], .bool false, .agg #[.int .i64 0, .int .i64 0]]) ∧ New KP W.heap.size w' (.slice a2 (enterR P ((j : Int) + 1) true false).1.line.length c2) (enterR P ((j : Int) + 1) true false).1.line ∧ Below W.heap.size W w') := fun W v' hv => (enter_ok W v' P _ true false hv hf).mono fun e w' ⟨v1, h1, h2, h3⟩ => by
    obtain ⟨a', c', rfl, h4⟩ := h2.form
    rw [hgi] at h1
    exact ⟨a', c', h1, h4, h3⟩
  obtain ⟨Q, eQ⟩ : ∃ Q, (enterR P ((j : Int) + 1) true false).1 = Q := ⟨_, rfl⟩
  rw [eQ] at HEN hal
  have HAL := hide hal
  clear hf hgi hal eQ
  have hcc : (Try.f5.body.bind (loopFor 0)) = some (_, _) := rfl
  rw [hcc] at hcut
  cases hcut
  clear hcc
  obtain ⟨ho1, ho2, ho3, ho4, ho5⟩ := ho
  obtain ⟨b0, o0, rfl, hb0, l0⟩ := hIL.opens ki hIL.len (by omega)
  have cx := (l0.below hO.be hb0).ints (j := j) (by rw [hIL.len]; exact hj)
  rw [hv] at cx
  have hbw : b0 < Wt.heap.size := Nat.lt_of_lt_of_le hb0 hO.be.size
  have i0 : (0 : Int) ≤ (j : Int) := by omega
  have i1 : (j : Int) < (n : Int) := by omega
  have hwr : IntKind.i64.wrap ((j : Int) + 1) = (j : Int) + 1 := wrapi (by omega) (by omega)
  obtain ⟨m0, mf0, ml⟩ := block1 hO.st.m
  have HN := hide hN; have HO := hide hO; have HCX := hide cx; have HBW := hide hbw
  have hsz : BE < Wt.heap.size := size_of hO.st.e
  clear hIL hN hO l0 hb0 hv
  go_upto_region 16 with fail
  clear cx m0 mf0
  refine enter_stmt BM BL BK BE n cm j b0 o0 P a c 1 Q false true rfl hj Wt (unhide HO).lk (unhide HO).st.m (unhide HCX) (unhide HBW) (fun W hW => unhide HEN W _ ⟨_, rfl, (unhide HO).li.1.below (hW.mono (Nat.le_refl _))⟩) _ _ _ (by kernel_rfl) ?_
  intros
  rename_i T8 T9 a2 c2 W1 hB1 h81 h91 h89 k8 k9 hNl
  have HS1 := hide ((unhide HO).st.keep hB1)
  have HL1 := hide (keep_below (unhide HO).lk hB1)
  have HX1 := hide (Below.next (unhide HO).be hB1 (Nat.le_refl _))
  have HK8 := hide k8; have HNL := hide hNl
  have HC1 : Hid (W1.cell? ⟨b0, o0 + j, none⟩ = some (.int .i64 1)) := by
    show _ = _
    rw [World.cell?_of_block (w := Wt) (a := ⟨b0, o0 + j, none⟩) (hB1.block b0 (unhide HBW))]
    exact unhide HCX
  clear hB1 k8 hNl HEN HCX
  obtain ⟨f0, f1, ff0, ff1, fl⟩ := block2 k9
  clear k9
  go_upto_region 19 with fail
  clear f0 f1 ff0 ff1 fl
  have cx := unhide HC1
  obtain ⟨m0, mf0, ml1⟩ := block1 (unhide HS1).m
  obtain ⟨k0, kf0, kl1⟩ := block1 (unhide HS1).k
  obtain ⟨r0, rf0⟩ := own_inti (unhide HS1).r (j := j + 1) (by rw [(unhide HS1).l]; omega)
  have i2 : (0 : Int) ≤ (j : Int) + 1 := by omega
  have i3 : (j : Int) + 1 < ((n + 1 : Nat) : Int) := by omega
  have i4 : (j : Int) + 1 < (n : Int) + 1 := by omega
  have i5 : ((j : Int) + 1).toNat = j + 1 := by omega
  have hGl : G < W1.heap.size := ((unhide HS1).r.lt G rfl).2
  go_wp2_with fail
  go_region
  all_goals
    clear cx m0 mf0 k0 kf0 r0 rf0
    have HS2 := hide ((unhide HS1).setK (j + 1) 4).drew
    have HL2 : Hid ((W1.setCell ⟨G, j + 1, none⟩ (.int .i64 4)).drew.heap[BL]? = some _) := keep_set (unhide HL1) (by omega)
    have HK2 : Hid ((W1.setCell ⟨G, j + 1, none⟩ (.int .i64 4)).drew.heap[T8]? = some _) := keep_set (unhide HK8) (by omega)
    have HN2 := hide (((unhide HNL).set kp (R := G) (i := j + 1) (y := .int .i64 4) (by omega)).below (Below.refl _ _).drew)
    have HX2 := hide (below_set (i := j + 1) (unhide HX1) (show w.heap.size ≤ G by omega) (.int .i64 4)).drew
    obtain ⟨W2, eW2⟩ : ∃ X, (W1.setCell ⟨G, j + 1, none⟩ (.int .i64 4)).drew = X := ⟨_, rfl⟩
    rw [eW2] at HS2 HL2 HK2 HN2 HX2 ⊢
    clear eW2 HS1 HL1 HK8 HNL HX1 hGl ml1 kl1
    have HS4 := HS2; have HL4 := HL2; have HK4 := HK2; have HN4 := HN2; have HX4 := HX2
    clear HS2 HL2 HK2 HN2 HX2
    go_upto_region 22 with fail
    obtain ⟨⟨p0, p1, p2⟩, ⟨pf0, pf1, pf2⟩, pl⟩ := block3 (unhide HL4)
    obtain ⟨⟨q0, q1, q2⟩, ⟨qf0, qf1, qf2⟩, ql⟩ := block3 (unhide HK4)
    go_upto_region 36 with fail
    have HOU : Hid (Ou w BM BL BK BE G n (some ⟨b0, o0, none⟩) cm (j + 1) Q (ks.set (j + 1) 4) e a2 c2 (putL W2 BL (.int .i64 Q.readers) (.bool Q.writer) (.slice a2 Q.line.length c2))) := ⟨unhide HAL, (unhide HS4).putl (by omega) (by omega) (by omega) (by omega) (.int .i64 Q.readers) (.bool Q.writer) (.slice a2 Q.line.length c2), putL_new (unhide HL4), ((unhide HN4).base (show BE + 1 ≤ Wt.heap.size by omega)).keep kp (fun k hk _ => putL_keep (show k ≠ BL by omega)), putL_below (unhide HX4) (by omega)⟩
    clear HAL HS4 HL4 HN4 HX4 HK4
    exact tail_any w BM BL BK BE G n (some ⟨b0, o0, none⟩) cm j Q (ks.set (j + 1) 4) e a2 c2 hn _ (unhide HOU) _ _ _ _ _ _ _ (by assumption) (by assumption) (by kernel_rfl) (unhide HN)

set_option maxRecDepth 100000 in
set_option maxHeartbeats 4000000 in
theorem mv_enter1_true (w : World) (BM BL BK BE G n : Nat) (am : Option Addr) (cm : Nat) (xs : List Int) (hIL : IsL KI w (.slice am n cm) xs) (hn : n ≤ 200) (ho : Ord w BM BL BK BE G) (j : Nat) (hj : j < n) (P : Lk) (ks : List Int) (e : Int) (a : Option Addr) (c : Nat) (Wt : World) (hO : Ou w BM BL BK BE G n am cm j P ks e a c Wt) (hv : xs.getD j 0 = 1) (hf : (enterF P ((j : Int) + 1)).1 = 0) (hgi : (enterR P ((j : Int) + 1) true false).2 = true)
    (hok : okL n (ks.set (j + 1) 4) e [(j : Int) + 1]) (hal : Al n (j + 1) (enterR P ((j : Int) + 1) true false).1 (letK (ks.set (j + 1) 4) [(j : Int) + 1]) ((j : Int) + 1))
    {s0 s2 s8 s9 s10 s11 s12 s13 s14 s15 s16 s17 s18 s19 s20 s21 s22 s23 s24 s25 s26 s27 s28 s29 s30 s31 s32 s33 s34 s35 s36 s37 s38 s39 s40 s41 s42 s43 s44 s45 s46 s47 s48 s49 s50 s51 s52 s53 s54 s55 s56 s57 s58 s59 s60 s61 s62 s63 s64 s65 s66 s67 s68 s69 s70 s71 s72 s73 s74 s75 s76 s77 s78 s79 s80 s81 s82 s83 s84 s85 s86 s87 s88 s89 s90 s91 s92 s93 s94 s95 s96 s97 s98 s99 s100 s101 s102 s103 s104 s105 s106 s107 s108 s109 s110 s111 s112 s113 s114 s115 s116 s117 s118 s119 s120 s121 s122 s123 s124 s125 s126 s127 s128 s129 s130 s131 s132 s133 s134 s135 s136 s137 s138 s139 s140 s141 s142 s143 s144 s145 s146 s147 s148 s149 s150 s151 s152 s153 s154 s155 s156 s157 s158 s159 s160 s161 s162 s163 s164 s165 s166 s167 s168 s169 s170 s171 s172 s173 s174 s175 s176 s177 s178 s179 : Value} (N : Act → World → Prop) (Q0 : Exit → Act → World → Prop) (b r : Code) (hcut : (Try.f5.body.bind (loopFor 0)) = some (b, r)) (hN : NxO w BM BL BK BE G n am cm j N) :
    b.wp Try.prog (Exit.then N Q0) { tmps := (s0 :: .pointer (some ⟨BM, 0, none⟩) :: s2 :: .pointer (some ⟨BL, 0, none⟩) :: .pointer (some ⟨BK, 0, none⟩) :: .pointer (some ⟨BE, 0, none⟩) :: .func (Fn.func 23) #[] #[.pointer (some ⟨BM, 0, none⟩), .pointer (some ⟨BK, 0, none⟩), .pointer (some ⟨BE, 0, none⟩)] :: .int .i64 (j : Int) :: s8 :: s9 :: s10 :: s11 :: s12 :: s13 :: s14 :: s15 :: s16 :: s17 :: s18 :: s19 :: s20 :: s21 :: s22 :: s23 :: s24 :: s25 :: s26 :: s27 :: s28 :: s29 :: s30 :: s31 :: s32 :: s33 :: s34 :: s35 :: s36 :: s37 :: s38 :: s39 :: s40 :: s41 :: s42 :: s43 :: s44 :: s45 :: s46 :: s47 :: s48 :: s49 :: s50 :: s51 :: s52 :: s53 :: s54 :: s55 :: s56 :: s57 :: s58 :: s59 :: s60 :: s61 :: s62 :: s63 :: s64 :: s65 :: s66 :: s67 :: s68 :: s69 :: s70 :: s71 :: s72 :: s73 :: s74 :: s75 :: s76 :: s77 :: s78 :: s79 :: s80 :: s81 :: s82 :: s83 :: s84 :: s85 :: s86 :: s87 :: s88 :: s89 :: s90 :: s91 :: s92 :: s93 :: s94 :: s95 :: s96 :: s97 :: s98 :: s99 :: s100 :: s101 :: s102 :: s103 :: s104 :: s105 :: s106 :: s107 :: s108 :: s109 :: s110 :: s111 :: s112 :: s113 :: s114 :: s115 :: s116 :: s117 :: s118 :: s119 :: s120 :: s121 :: s122 :: s123 :: s124 :: s125 :: s126 :: s127 :: s128 :: s129 :: s130 :: s131 :: s132 :: s133 :: s134 :: s135 :: s136 :: s137 :: s138 :: s139 :: s140 :: s141 :: s142 :: s143 :: s144 :: s145 :: s146 :: s147 :: s148 :: s149 :: s150 :: s151 :: s152 :: s153 :: s154 :: s155 :: s156 :: s157 :: s158 :: s159 :: s160 :: s161 :: s162 :: s163 :: s164 :: s165 :: s166 :: s167 :: s168 :: s169 :: s170 :: s171 :: s172 :: s173 :: s174 :: s175 :: s176 :: s177 :: s178 :: s179 :: []).toArray, defers := [] } Wt := by
  have HEN : Hid (∀ W v', IsLock W v' P → Calls Try.prog 11 #[v', .int .i64 ((j : Int) + 1), .bool true, .bool false] W fun e w' => ∃ a2 c2, e = .returned (.tuple #[.agg #[.int .i64 (enterR P ((j : Int) + 1) true false).1.readers, .bool (enterR P ((j : Int) + 1) true false).1.writer, .slice a2 (enterR P ((j : Int) + 1) true false).1.line.length c2], .bool true, .agg #[.int .i64 0, .int .i64 0]]) ∧ New KP W.heap.size w' (.slice a2 (enterR P ((j : Int) + 1) true false).1.line.length c2) (enterR P ((j : Int) + 1) true false).1.line ∧ Below W.heap.size W w') := fun W v' hv => (enter_ok W v' P _ true false hv hf).mono fun e w' ⟨v1, h1, h2, h3⟩ => by
    obtain ⟨a', c', rfl, h4⟩ := h2.form
    rw [hgi] at h1
    exact ⟨a', c', h1, h4, h3⟩
  obtain ⟨Q, eQ⟩ : ∃ Q, (enterR P ((j : Int) + 1) true false).1 = Q := ⟨_, rfl⟩
  rw [eQ] at HEN hal
  have HAL := hide hal
  clear hf hgi hal eQ
  have HOK := hide hok
  have hent := enters23
  have hnot : ∀ (x : Bool) (w : World), (Op.unary .not (.bool x)).run Try.prog w = .ok (.bool (!x)) w := fun _ _ => rfl
  clear hok
  have hcc : (Try.f5.body.bind (loopFor 0)) = some (_, _) := rfl
  rw [hcc] at hcut
  cases hcut
  clear hcc
  obtain ⟨ho1, ho2, ho3, ho4, ho5⟩ := ho
  obtain ⟨b0, o0, rfl, hb0, l0⟩ := hIL.opens ki hIL.len (by omega)
  have cx := (l0.below hO.be hb0).ints (j := j) (by rw [hIL.len]; exact hj)
  rw [hv] at cx
  have hbw : b0 < Wt.heap.size := Nat.lt_of_lt_of_le hb0 hO.be.size
  have i0 : (0 : Int) ≤ (j : Int) := by omega
  have i1 : (j : Int) < (n : Int) := by omega
  have hwr : IntKind.i64.wrap ((j : Int) + 1) = (j : Int) + 1 := wrapi (by omega) (by omega)
  obtain ⟨m0, mf0, ml⟩ := block1 hO.st.m
  have HN := hide hN; have HO := hide hO; have HCX := hide cx; have HBW := hide hbw
  have hsz : BE < Wt.heap.size := size_of hO.st.e
  clear hIL hN hO l0 hb0 hv
  go_upto_region 16 with fail
  clear cx m0 mf0
  refine enter_stmt BM BL BK BE n cm j b0 o0 P a c 1 Q true true rfl hj Wt (unhide HO).lk (unhide HO).st.m (unhide HCX) (unhide HBW) (fun W hW => unhide HEN W _ ⟨_, rfl, (unhide HO).li.1.below (hW.mono (Nat.le_refl _))⟩) _ _ _ (by kernel_rfl) ?_
  intros
  rename_i T8 T9 a2 c2 W1 hB1 h81 h91 h89 k8 k9 hNl
  have HS1 := hide ((unhide HO).st.keep hB1)
  have HL1 := hide (keep_below (unhide HO).lk hB1)
  have HX1 := hide (Below.next (unhide HO).be hB1 (Nat.le_refl _))
  have HK8 := hide k8; have HNL := hide hNl
  have HC1 : Hid (W1.cell? ⟨b0, o0 + j, none⟩ = some (.int .i64 1)) := by
    show _ = _
    rw [World.cell?_of_block (w := Wt) (a := ⟨b0, o0 + j, none⟩) (hB1.block b0 (unhide HBW))]
    exact unhide HCX
  clear hB1 k8 hNl HEN HCX
  obtain ⟨f0, f1, ff0, ff1, fl⟩ := block2 k9
  clear k9
  go_upto_region 19 with fail
  clear f0 f1 ff0 ff1 fl
  have cx := unhide HC1
  obtain ⟨m0, mf0, ml1⟩ := block1 (unhide HS1).m
  obtain ⟨k0, kf0, kl1⟩ := block1 (unhide HS1).k
  obtain ⟨r0, rf0⟩ := own_inti (unhide HS1).r (j := j + 1) (by rw [(unhide HS1).l]; omega)
  have i2 : (0 : Int) ≤ (j : Int) + 1 := by omega
  have i3 : (j : Int) + 1 < ((n + 1 : Nat) : Int) := by omega
  have i4 : (j : Int) + 1 < (n : Int) + 1 := by omega
  have i5 : ((j : Int) + 1).toNat = j + 1 := by omega
  have hGl : G < W1.heap.size := ((unhide HS1).r.lt G rfl).2
  go_wp2_with fail
  go_region
  all_goals
    clear cx m0 mf0 k0 kf0 r0 rf0
    have HS2 := hide ((unhide HS1).setK (j + 1) 4).drew
    have HL2 : Hid ((W1.setCell ⟨G, j + 1, none⟩ (.int .i64 4)).drew.heap[BL]? = some _) := keep_set (unhide HL1) (by omega)
    have HK2 : Hid ((W1.setCell ⟨G, j + 1, none⟩ (.int .i64 4)).drew.heap[T8]? = some _) := keep_set (unhide HK8) (by omega)
    have HN2 := hide (((unhide HNL).set kp (R := G) (i := j + 1) (y := .int .i64 4) (by omega)).below (Below.refl _ _).drew)
    have HX2 := hide (below_set (i := j + 1) (unhide HX1) (show w.heap.size ≤ G by omega) (.int .i64 4)).drew
    obtain ⟨W2, eW2⟩ : ∃ X, (W1.setCell ⟨G, j + 1, none⟩ (.int .i64 4)).drew = X := ⟨_, rfl⟩
    rw [eW2] at HS2 HL2 HK2 HN2 HX2 ⊢
    clear eW2 HS1 HL1 HK8 HNL HX1 hGl ml1 kl1
    have HLT : Hid (Calls Try.prog 23 #[.slice (some ⟨W2.heap.size, 0, none⟩) 1 1, .pointer (some ⟨BM, 0, none⟩), .pointer (some ⟨BK, 0, none⟩), .pointer (some ⟨BE, 0, none⟩)] (W2.alloc (.cells #[.int .i64 ((j : Int) + 1)] 3)) fun e' w' => e' = .returned (.bool true) ∧ St w' BM BK BE G n (some ⟨b0, o0, none⟩) cm (letK (ks.set (j + 1) 4) [(j : Int) + 1]) ((j : Int) + 1) ∧ Bt G BE (W2.alloc (.cells #[.int .i64 ((j : Int) + 1)] 3)) w') :=
      let_any (W2.alloc _) (some ⟨W2.heap.size, 0, none⟩) 1 BM BK BE G n (some ⟨b0, o0, none⟩) cm [(j : Int) + 1] (ks.set (j + 1) 4) e (show 1 ≤ 1000 by omega) hn (isl_one ki W2 ((j : Int) + 1)) (fun k hk => by have e0 : W2.heap.size = k := Option.some.inj hk; have h1 := ((unhide HS2).r.lt G rfl).2; have h2 := size_of (unhide HS2).e; omega) (unhide HOK) ((unhide HS2).keep ((Below.refl _ _).alloc (Nat.le_refl _) _))
    have HL3 := hide (keep_alloc (unhide HL2) (.cells #[.int .i64 ((j : Int) + 1)] 3))
    have HK3 := hide (keep_alloc (unhide HK2) (.cells #[.int .i64 ((j : Int) + 1)] 3))
    have HN3 := hide ((unhide HN2).below ((Below.refl _ _).alloc (Nat.le_refl _) (.cells #[.int .i64 ((j : Int) + 1)] 3)))
    have HX3 := hide ((unhide HX2).alloc (unhide HX2).size (.cells #[.int .i64 ((j : Int) + 1)] 3))
    go_upto_region 22 with ((with_reducible refine Calls.mono (unhide HLT) ?_); rintro e w3 ⟨rfl, hs3, hb3⟩; have HS4 := hide hs3; have HL4 := hide ((hb3.block BL (by omega) (by omega)).trans (unhide HL3)); have HK4 := hide ((hb3.block T8 (by omega) (by omega)).trans (unhide HK3)); have HN4 := hide ((unhide HN3).bt kp hb3 (by omega) (by omega)); have HX4 := hide ((unhide HX3).trans (hb3.below (show w.heap.size ≤ G by omega) (by omega))); clear hs3 hb3 HLT HL3 HK3 HN3 HX3 HS2 HL2 HK2 HN2 HX2)
    obtain ⟨⟨p0, p1, p2⟩, ⟨pf0, pf1, pf2⟩, pl⟩ := block3 (unhide HL4)
    obtain ⟨⟨q0, q1, q2⟩, ⟨qf0, qf1, qf2⟩, ql⟩ := block3 (unhide HK4)
    go_upto_region 36 with fail
    have HOU : Hid (Ou w BM BL BK BE G n (some ⟨b0, o0, none⟩) cm (j + 1) Q (letK (ks.set (j + 1) 4) [(j : Int) + 1]) ((j : Int) + 1) a2 c2 (putL w3 BL (.int .i64 Q.readers) (.bool Q.writer) (.slice a2 Q.line.length c2))) := ⟨unhide HAL, (unhide HS4).putl (by omega) (by omega) (by omega) (by omega) (.int .i64 Q.readers) (.bool Q.writer) (.slice a2 Q.line.length c2), putL_new (unhide HL4), ((unhide HN4).base (show BE + 1 ≤ Wt.heap.size by omega)).keep kp (fun k hk _ => putL_keep (show k ≠ BL by omega)), putL_below (unhide HX4) (by omega)⟩
    clear HAL HS4 HL4 HN4 HX4 HK4
    exact tail_any w BM BL BK BE G n (some ⟨b0, o0, none⟩) cm j Q (letK (ks.set (j + 1) 4) [(j : Int) + 1]) ((j : Int) + 1) a2 c2 hn _ (unhide HOU) _ _ _ _ _ _ _ (by assumption) (by assumption) (by kernel_rfl) (unhide HN)

end Go.Proofs.Ytdpcbmekplcllaa
