/-
  taskmilllaw.LockAlone: who leaves.
-/
import Derived.Test.YtdpcbmekplcllaaAi
namespace Go.Proofs.Ytdpcbmekplcllaa
open Go.RowKit

/-- What follows a block that ends a statement. -/
def after2 (n : Nat) : Code → Option Code
  | .seq (.seq _ (.block id _)) r => bif Nat.beq id n then some r else after2 n r
  | .seq _ r => after2 n r
  | _ => none

theorem admR_len2 : ∀ (l : List Po) (r : Int) (b : Bool), (admR r b l).2.length ≤ l.length
  | [], r, b => by simp [admR]
  | x :: l, r, b => by
    obtain ⟨t, c, u⟩ := x
    cases hl : lets r b ((t, c, u) :: l) with
    | false => rw [admR_stay hl]; simp
    | true =>
      rw [admR_go hl]
      have := admR_len2 l (if c = true then r else r + 1) (if c = true then true else b)
      simp only [List.length_cons]
      omega
theorem leave_len {n i : Nat} {P : Lk} {ks : List Int} {e : Int} {wt : Bool} (h : Al n i P ks e) : (leaveR P wt).1.2.length ≤ 1000 := by
  have h1 := h.ll
  have h2 := h.le
  have h3 := h.small
  unfold leaveR
  split
  · have := admR_len2 P.line P.readers false
    simp only
    omega
  · split
    · have := admR_len2 P.line (P.readers - 1) P.writer
      simp only
      omega
    · simp

set_option maxRecDepth 100000 in
set_option maxHeartbeats 4000000 in
theorem lv2_none (w : World) (BM BL BK BE G n : Nat) (cm b0 o0 : Nat) (hn : n ≤ 200) (ho : Ord w BM BL BK BE G) (j t : Nat) (hj : j < n) (h2 : t = n + 1) (P : Lk) (ks : List Int) (e : Int) (a : Option Addr) (c : Nat) (Wt : World) (hO : Ou w BM BL BK BE G n (some ⟨b0, o0, none⟩) cm j P ks e a c Wt) (hm : Wt.cell? ⟨b0, o0 + j, none⟩ = some (.int .i64 2)) (hb0 : b0 < Wt.heap.size) (hp : (leaveR P false).2 = true) (hal : Al n (j + 1) P ks e)
    {s0 s2 s8 s9 s10 s11 s13 s14 s15 s16 s17 s18 s19 s20 s21 s22 s23 s24 s25 s26 s27 s28 s29 s30 s31 s32 s33 s34 s35 s36 s37 s38 s39 s40 s41 s42 s43 s44 s45 s46 s47 s48 s49 s50 s51 s52 s53 s54 s55 s56 s57 s58 s59 s60 s61 s62 s63 s64 s65 s66 s67 s68 s69 s70 s71 s72 s73 s74 s75 s76 s77 s78 s79 s80 s81 s82 s83 s84 s85 s86 s87 s88 s89 s90 s91 s92 s93 s94 s95 s96 s97 s98 s99 s100 s101 s102 s103 s104 s105 s106 s107 s108 s109 s110 s111 s112 s113 s114 s115 s116 s117 s118 s119 s120 s121 s122 s123 s124 s125 s126 s127 s128 s129 s130 s131 s132 s133 s134 s135 s136 s137 s138 s139 s140 s141 s142 s143 s144 s145 s146 s147 s148 s149 s150 s151 s152 s153 s154 s155 s156 s157 s158 s159 s160 s161 s162 s163 s164 s165 s166 s167 s168 s169 s170 s171 s172 s173 s174 s175 s176 s177 s178 s179 : Value} (K2 K4 N : Act → World → Prop) (Q0 : Exit → Act → World → Prop) (b r y z : Code) (hK2 : ∀ a w', y.wp Try.prog (Exit.inBlock 1 (Exit.then K4 (Exit.then N Q0))) a w' → K2 a w') (hK4 : ∀ a w', z.wp Try.prog (Exit.then N Q0) a w' → K4 a w') (hcut : ((((((((Try.f5.body.bind (loopFor 0)).bind fun p => blockIn 1 p.1).bind fun q => blk2 2 q.1).bind arms).bind fun q => arms q.2).bind fun q => blockIn 3 q.1).bind fun q => (loopOf q.1).map fun b => (b, q.2)).bind fun p => ((Try.f5.body.bind (loopFor 0)).bind fun p => blockIn 1 p.1).bind fun q => (after2 2 q.1).map fun y => (p.1, p.2, y, q.2)) = some (b, r, y, z)) (hN : NxO w BM BL BK BE G n (some ⟨b0, o0, none⟩) cm j N) :
    r.wp Try.prog (Exit.inBlock 2 (Exit.then K2 (Exit.inBlock 1 (Exit.then K4 (Exit.then N Q0))))) { tmps := (s0 :: .pointer (some ⟨BM, 0, none⟩) :: s2 :: .pointer (some ⟨BL, 0, none⟩) :: .pointer (some ⟨BK, 0, none⟩) :: .pointer (some ⟨BE, 0, none⟩) :: .func (Fn.func 23) #[] #[.pointer (some ⟨BM, 0, none⟩), .pointer (some ⟨BK, 0, none⟩), .pointer (some ⟨BE, 0, none⟩)] :: .int .i64 (j : Int) :: s8 :: s9 :: s10 :: s11 :: .int .i64 (t : Int) :: s13 :: s14 :: s15 :: s16 :: s17 :: s18 :: s19 :: s20 :: s21 :: s22 :: s23 :: s24 :: s25 :: s26 :: s27 :: s28 :: s29 :: s30 :: s31 :: s32 :: s33 :: s34 :: s35 :: s36 :: s37 :: s38 :: s39 :: s40 :: s41 :: s42 :: s43 :: s44 :: s45 :: s46 :: s47 :: s48 :: s49 :: s50 :: s51 :: s52 :: s53 :: s54 :: s55 :: s56 :: s57 :: s58 :: s59 :: s60 :: s61 :: s62 :: s63 :: s64 :: s65 :: s66 :: s67 :: s68 :: s69 :: s70 :: s71 :: s72 :: s73 :: s74 :: s75 :: s76 :: s77 :: s78 :: s79 :: s80 :: s81 :: s82 :: s83 :: s84 :: s85 :: s86 :: s87 :: s88 :: s89 :: s90 :: s91 :: s92 :: s93 :: s94 :: s95 :: s96 :: s97 :: s98 :: s99 :: s100 :: s101 :: s102 :: s103 :: s104 :: s105 :: s106 :: s107 :: s108 :: s109 :: s110 :: s111 :: s112 :: s113 :: s114 :: s115 :: s116 :: s117 :: s118 :: s119 :: s120 :: s121 :: s122 :: s123 :: s124 :: s125 :: s126 :: s127 :: s128 :: s129 :: s130 :: s131 :: s132 :: s133 :: s134 :: s135 :: s136 :: s137 :: s138 :: s139 :: s140 :: s141 :: s142 :: s143 :: s144 :: s145 :: s146 :: s147 :: s148 :: s149 :: s150 :: s151 :: s152 :: s153 :: s154 :: s155 :: s156 :: s157 :: s158 :: s159 :: s160 :: s161 :: s162 :: s163 :: s164 :: s165 :: s166 :: s167 :: s168 :: s169 :: s170 :: s171 :: s172 :: s173 :: s174 :: s175 :: s176 :: s177 :: s178 :: s179 :: []).toArray, defers := [] } Wt := by
  have hcc : ((((((((Try.f5.body.bind (loopFor 0)).bind fun p => blockIn 1 p.1).bind fun q => blk2 2 q.1).bind arms).bind fun q => arms q.2).bind fun q => blockIn 3 q.1).bind fun q => (loopOf q.1).map fun b => (b, q.2)).bind fun p => ((Try.f5.body.bind (loopFor 0)).bind fun p => blockIn 1 p.1).bind fun q => (after2 2 q.1).map fun y => (p.1, p.2, y, q.2)) = some (_, _, _, _) := rfl
  rw [hcc] at hcut
  cases hcut
  clear hcc
  obtain ⟨ho1, ho2, ho3, ho4, ho5⟩ := ho
  have hlen : (leaveR P false).1.2.length ≤ 1000 := leave_len hO.al
  have HLV : Hid (∀ W v', IsLock W v' P → Calls Try.prog 20 #[v', .bool false] W fun e w' => ∃ a2 c2 a3 c3, e = .returned (.tuple #[.agg #[.int .i64 (leaveR P false).1.1.readers, .bool (leaveR P false).1.1.writer, .slice a2 (leaveR P false).1.1.line.length c2], .slice a3 (leaveR P false).1.2.length c3, .bool true, .agg #[.int .i64 0, .int .i64 0]]) ∧ (New KP W.heap.size w' (.slice a2 (leaveR P false).1.1.line.length c2) (leaveR P false).1.1.line ∧ New KI W.heap.size w' (.slice a3 (leaveR P false).1.2.length c3) (leaveR P false).1.2) ∧ Below W.heap.size W w') := fun W v' hv => (leave_ok W v' P false hv hO.al.good.zero).mono fun e w' ⟨v1, v2, h1, h2, h3, h4⟩ => by
    obtain ⟨a', c', rfl, h5⟩ := h2.form
    obtain ⟨a'', c'', rfl⟩ := h3.1.form
    rw [hp] at h1
    exact ⟨a', c', a'', c'', h1, ⟨h5, h3⟩, h4⟩
  obtain ⟨Q, eQ⟩ : ∃ Q, (leaveR P false).1.1 = Q := ⟨_, rfl⟩
  obtain ⟨tl, eT⟩ : ∃ Q, (leaveR P false).1.2 = Q := ⟨_, rfl⟩
  rw [eT] at hlen
  rw [eQ, eT] at HLV
  have HAL := hide hal
  have HO := hide hO; have HN := hide hN; have HM := hide hm; have HBW := hide hb0
  have hsz : BE < Wt.heap.size := size_of hO.st.e
  have hnot : ∀ (x : Bool) (w : World), (Op.unary .not (.bool x)).run Try.prog w = .ok (.bool (!x)) w := fun _ _ => rfl
  clear hal hp eQ eT hO hN hm hb0
  have hwr : IntKind.i64.wrap ((j : Int) + 1) = (j : Int) + 1 := wrapi (by omega) (by omega)
  have HTN := hide h2
  clear h2
  go_upto_region 28 with fail
  refine leave_stmt BM BL BK BE n cm j b0 o0 P a c 2 Q t tl true false rfl hj Wt (unhide HO).lk (unhide HO).st.m (unhide HM) (unhide HBW) (fun W hW => unhide HLV W _ ⟨_, rfl, (unhide HO).li.1.below (hW.mono (Nat.le_refl _))⟩) _ _ _ (by kernel_rfl) ?_
  intros
  rename_i T8 T9 a2 c2 a3 c3 W1 hB1 h81 h91 h89 k8 k9 hNN
  have HS1 := hide ((unhide HO).st.keep hB1)
  have HL1 := hide (keep_below (unhide HO).lk hB1)
  have HX1 := hide (Below.next (unhide HO).be hB1 (Nat.le_refl _))
  have HI1 := hide ((unhide HO).li.below hB1)
  have HK8 := hide k8; have HNL := hide hNN.1; have HNT := hide hNN.2
  clear hB1 k8 hNN HLV
  obtain ⟨f0, f1, ff0, ff1, fl⟩ := block2 k9
  obtain ⟨m0, mf0, ml1⟩ := block1 (unhide HS1).m
  clear k9
  have h2 := unhide HTN
  clear HTN
  subst h2
  have x0 : (n : Int) < ((n + 1 : Nat) : Int) := by omega
  have x1 : (n : Int) < (n : Int) + 1 := by omega
  go_wp2_with fail
  exact unhide HN _ _ _ _ _ _ _ _ _ _ _ _ _ _ _ _ _ _ _ _ _ _ _ _ _ _ _ _ _ _ _ _ _ _ _ _ _ _ _ _ _ _ _ _ _ _ _ _ _ _ _ _ _ _ _ _ _ _ _ _ _ _ _ _ _ _ _ _ _ _ _ _ _ _ _ _ _ _ _ _ _ _ _ _ _ _ _ _ _ _ _ _ _ _ _ _ _ _ _ _ _ _ _ _ _ _ _ _ _ _ _ _ _ _ _ _ _ _ _ _ _ _ _ _ _ _ _ _ _ _ _ _ _ _ _ _ _ _ _ _ _ _ _ _ _ _ _ _ _ _ _ _ _ _ _ _ _ _ _ _ _ _ _ _ _ _ _ _ _ _ _ _ _ _ P ks e a c _ ⟨unhide HAL, unhide HS1, unhide HL1, unhide HI1, unhide HX1⟩

set_option maxRecDepth 100000 in
set_option maxHeartbeats 4000000 in
theorem lv2_found (w : World) (BM BL BK BE G n : Nat) (cm b0 o0 : Nat) (hn : n ≤ 200) (ho : Ord w BM BL BK BE G) (j t : Nat) (hj : j < n) (h1 : 1 ≤ t) (h2 : t ≤ n) (P : Lk) (ks : List Int) (e : Int) (a : Option Addr) (c : Nat) (Wt : World) (hO : Ou w BM BL BK BE G n (some ⟨b0, o0, none⟩) cm j P ks e a c Wt) (hm : Wt.cell? ⟨b0, o0 + j, none⟩ = some (.int .i64 2)) (hb0 : b0 < Wt.heap.size) (hp : (leaveR P false).2 = false) (hok : okL n (ks.set t 0) e (leaveR P false).1.2) (hal : Al n (j + 1) (leaveR P false).1.1 (letK (ks.set t 0) (leaveR P false).1.2) (letE e (leaveR P false).1.2))
    {s0 s2 s8 s9 s10 s11 s13 s14 s15 s16 s17 s18 s19 s20 s21 s22 s23 s24 s25 s26 s27 s28 s29 s30 s31 s32 s33 s34 s35 s36 s37 s38 s39 s40 s41 s42 s43 s44 s45 s46 s47 s48 s49 s50 s51 s52 s53 s54 s55 s56 s57 s58 s59 s60 s61 s62 s63 s64 s65 s66 s67 s68 s69 s70 s71 s72 s73 s74 s75 s76 s77 s78 s79 s80 s81 s82 s83 s84 s85 s86 s87 s88 s89 s90 s91 s92 s93 s94 s95 s96 s97 s98 s99 s100 s101 s102 s103 s104 s105 s106 s107 s108 s109 s110 s111 s112 s113 s114 s115 s116 s117 s118 s119 s120 s121 s122 s123 s124 s125 s126 s127 s128 s129 s130 s131 s132 s133 s134 s135 s136 s137 s138 s139 s140 s141 s142 s143 s144 s145 s146 s147 s148 s149 s150 s151 s152 s153 s154 s155 s156 s157 s158 s159 s160 s161 s162 s163 s164 s165 s166 s167 s168 s169 s170 s171 s172 s173 s174 s175 s176 s177 s178 s179 : Value} (K2 K4 N : Act → World → Prop) (Q0 : Exit → Act → World → Prop) (b r y z : Code) (hK2 : ∀ a w', y.wp Try.prog (Exit.inBlock 1 (Exit.then K4 (Exit.then N Q0))) a w' → K2 a w') (hK4 : ∀ a w', z.wp Try.prog (Exit.then N Q0) a w' → K4 a w') (hcut : ((((((((Try.f5.body.bind (loopFor 0)).bind fun p => blockIn 1 p.1).bind fun q => blk2 2 q.1).bind arms).bind fun q => arms q.2).bind fun q => blockIn 3 q.1).bind fun q => (loopOf q.1).map fun b => (b, q.2)).bind fun p => ((Try.f5.body.bind (loopFor 0)).bind fun p => blockIn 1 p.1).bind fun q => (after2 2 q.1).map fun y => (p.1, p.2, y, q.2)) = some (b, r, y, z)) (hN : NxO w BM BL BK BE G n (some ⟨b0, o0, none⟩) cm j N) :
    r.wp Try.prog (Exit.inBlock 2 (Exit.then K2 (Exit.inBlock 1 (Exit.then K4 (Exit.then N Q0))))) { tmps := (s0 :: .pointer (some ⟨BM, 0, none⟩) :: s2 :: .pointer (some ⟨BL, 0, none⟩) :: .pointer (some ⟨BK, 0, none⟩) :: .pointer (some ⟨BE, 0, none⟩) :: .func (Fn.func 23) #[] #[.pointer (some ⟨BM, 0, none⟩), .pointer (some ⟨BK, 0, none⟩), .pointer (some ⟨BE, 0, none⟩)] :: .int .i64 (j : Int) :: s8 :: s9 :: s10 :: s11 :: .int .i64 (t : Int) :: s13 :: s14 :: s15 :: s16 :: s17 :: s18 :: s19 :: s20 :: s21 :: s22 :: s23 :: s24 :: s25 :: s26 :: s27 :: s28 :: s29 :: s30 :: s31 :: s32 :: s33 :: s34 :: s35 :: s36 :: s37 :: s38 :: s39 :: s40 :: s41 :: s42 :: s43 :: s44 :: s45 :: s46 :: s47 :: s48 :: s49 :: s50 :: s51 :: s52 :: s53 :: s54 :: s55 :: s56 :: s57 :: s58 :: s59 :: s60 :: s61 :: s62 :: s63 :: s64 :: s65 :: s66 :: s67 :: s68 :: s69 :: s70 :: s71 :: s72 :: s73 :: s74 :: s75 :: s76 :: s77 :: s78 :: s79 :: s80 :: s81 :: s82 :: s83 :: s84 :: s85 :: s86 :: s87 :: s88 :: s89 :: s90 :: s91 :: s92 :: s93 :: s94 :: s95 :: s96 :: s97 :: s98 :: s99 :: s100 :: s101 :: s102 :: s103 :: s104 :: s105 :: s106 :: s107 :: s108 :: s109 :: s110 :: s111 :: s112 :: s113 :: s114 :: s115 :: s116 :: s117 :: s118 :: s119 :: s120 :: s121 :: s122 :: s123 :: s124 :: s125 :: s126 :: s127 :: s128 :: s129 :: s130 :: s131 :: s132 :: s133 :: s134 :: s135 :: s136 :: s137 :: s138 :: s139 :: s140 :: s141 :: s142 :: s143 :: s144 :: s145 :: s146 :: s147 :: s148 :: s149 :: s150 :: s151 :: s152 :: s153 :: s154 :: s155 :: s156 :: s157 :: s158 :: s159 :: s160 :: s161 :: s162 :: s163 :: s164 :: s165 :: s166 :: s167 :: s168 :: s169 :: s170 :: s171 :: s172 :: s173 :: s174 :: s175 :: s176 :: s177 :: s178 :: s179 :: []).toArray, defers := [] } Wt := by
  have hcc : ((((((((Try.f5.body.bind (loopFor 0)).bind fun p => blockIn 1 p.1).bind fun q => blk2 2 q.1).bind arms).bind fun q => arms q.2).bind fun q => blockIn 3 q.1).bind fun q => (loopOf q.1).map fun b => (b, q.2)).bind fun p => ((Try.f5.body.bind (loopFor 0)).bind fun p => blockIn 1 p.1).bind fun q => (after2 2 q.1).map fun y => (p.1, p.2, y, q.2)) = some (_, _, _, _) := rfl
  rw [hcc] at hcut
  cases hcut
  clear hcc
  obtain ⟨ho1, ho2, ho3, ho4, ho5⟩ := ho
  have hlen : (leaveR P false).1.2.length ≤ 1000 := leave_len hO.al
  have HLV : Hid (∀ W v', IsLock W v' P → Calls Try.prog 20 #[v', .bool false] W fun e w' => ∃ a2 c2 a3 c3, e = .returned (.tuple #[.agg #[.int .i64 (leaveR P false).1.1.readers, .bool (leaveR P false).1.1.writer, .slice a2 (leaveR P false).1.1.line.length c2], .slice a3 (leaveR P false).1.2.length c3, .bool false, .agg #[.int .i64 0, .int .i64 0]]) ∧ (New KP W.heap.size w' (.slice a2 (leaveR P false).1.1.line.length c2) (leaveR P false).1.1.line ∧ New KI W.heap.size w' (.slice a3 (leaveR P false).1.2.length c3) (leaveR P false).1.2) ∧ Below W.heap.size W w') := fun W v' hv => (leave_ok W v' P false hv hO.al.good.zero).mono fun e w' ⟨v1, v2, h1, h2, h3, h4⟩ => by
    obtain ⟨a', c', rfl, h5⟩ := h2.form
    obtain ⟨a'', c'', rfl⟩ := h3.1.form
    rw [hp] at h1
    exact ⟨a', c', a'', c'', h1, ⟨h5, h3⟩, h4⟩
  obtain ⟨Q, eQ⟩ : ∃ Q, (leaveR P false).1.1 = Q := ⟨_, rfl⟩
  obtain ⟨tl, eT⟩ : ∃ Q, (leaveR P false).1.2 = Q := ⟨_, rfl⟩
  rw [eT] at hlen
  rw [eQ, eT] at HLV
  rw [eT] at hok hal
  rw [eQ] at hal
  have HOK := hide hok
  have hent := enters23
  clear hok
  have HAL := hide hal
  have HO := hide hO; have HN := hide hN; have HM := hide hm; have HBW := hide hb0
  have hsz : BE < Wt.heap.size := size_of hO.st.e
  have hnot : ∀ (x : Bool) (w : World), (Op.unary .not (.bool x)).run Try.prog w = .ok (.bool (!x)) w := fun _ _ => rfl
  clear hal hp eQ eT hO hN hm hb0
  have hwr : IntKind.i64.wrap ((j : Int) + 1) = (j : Int) + 1 := wrapi (by omega) (by omega)
  have HTN := hide h1
  clear HTN
  go_upto_region 28 with fail
  refine leave_stmt BM BL BK BE n cm j b0 o0 P a c 2 Q t tl false false rfl hj Wt (unhide HO).lk (unhide HO).st.m (unhide HM) (unhide HBW) (fun W hW => unhide HLV W _ ⟨_, rfl, (unhide HO).li.1.below (hW.mono (Nat.le_refl _))⟩) _ _ _ (by kernel_rfl) ?_
  intros
  rename_i T8 T9 a2 c2 a3 c3 W1 hB1 h81 h91 h89 k8 k9 hNN
  have HS1 := hide ((unhide HO).st.keep hB1)
  have HL1 := hide (keep_below (unhide HO).lk hB1)
  have HX1 := hide (Below.next (unhide HO).be hB1 (Nat.le_refl _))
  have HI1 := hide ((unhide HO).li.below hB1)
  have HK8 := hide k8; have HNL := hide hNN.1; have HNT := hide hNN.2
  clear hB1 k8 hNN HLV
  obtain ⟨f0, f1, ff0, ff1, fl⟩ := block2 k9
  obtain ⟨m0, mf0, ml1⟩ := block1 (unhide HS1).m
  clear k9
  have x0 : ¬ (n : Int) < (t : Int) := by omega
  go_upto_region 32 with fail
  clear f0 f1 ff0 ff1 fl HI1
  obtain ⟨k0, kf0, kl1⟩ := block1 (unhide HS1).k
  obtain ⟨r0, rf0⟩ := own_inti (unhide HS1).r (j := t) (by rw [(unhide HS1).l]; omega)
  have i2 : (0 : Int) ≤ (t : Int) := by omega
  have i3 : (t : Int) < ((n + 1 : Nat) : Int) := by omega
  have i4 : (t : Int) < (n : Int) + 1 := by omega
  have hGl : G < W1.heap.size := ((unhide HS1).r.lt G rfl).2
  go_upto_region 33 with fail
  clear m0 mf0 k0 kf0 r0 rf0
  have HS2 := hide ((unhide HS1).setK t 0)
  have HL2 : Hid ((W1.setCell ⟨G, t, none⟩ (.int .i64 0)).heap[BL]? = some _) := keep_set (unhide HL1) (by omega)
  have HK2 : Hid ((W1.setCell ⟨G, t, none⟩ (.int .i64 0)).heap[T8]? = some _) := keep_set (unhide HK8) (by omega)
  have HN2 := hide ((unhide HNL).set kp (R := G) (i := t) (y := .int .i64 0) (by omega))
  have HT2 := hide ((unhide HNT).set ki (R := G) (i := t) (y := .int .i64 0) (by omega))
  have HX2 := hide (below_set (i := t) (unhide HX1) (show w.heap.size ≤ G by omega) (.int .i64 0))
  obtain ⟨W2, eW2⟩ : ∃ X, W1.setCell ⟨G, t, none⟩ (.int .i64 0) = X := ⟨_, rfl⟩
  rw [eW2] at HS2 HL2 HK2 HN2 HT2 HX2 ⊢
  clear eW2 HS1 HL1 HK8 HNL HNT HX1 hGl ml1 kl1
  have HLT := hide (let_any W2 a3 c3 BM BK BE G n (some ⟨b0, o0, none⟩) cm tl (ks.set t 0) e hlen hn (unhide HT2).1 (fun k hk => by have := (unhide HT2).2 k hk; omega) (unhide HOK) (unhide HS2))
  go_upto_region 35 with ((with_reducible refine Calls.mono (unhide HLT) ?_); rintro e w3 ⟨rfl, hs3, hb3⟩; have HS4 := hide hs3; have HL4 := hide ((hb3.block BL (by omega) (by omega)).trans (unhide HL2)); have HK4 := hide ((hb3.block T8 (by omega) (by omega)).trans (unhide HK2)); have HN4 := hide ((unhide HN2).bt kp hb3 (by omega) (by omega)); have HX4 := hide ((unhide HX2).trans (hb3.below (show w.heap.size ≤ G by omega) (by omega))); clear hs3 hb3 HLT HS2 HL2 HK2 HN2 HT2 HX2)
  obtain ⟨⟨p0, p1, p2⟩, ⟨pf0, pf1, pf2⟩, pl⟩ := block3 (unhide HL4)
  obtain ⟨⟨q0, q1, q2⟩, ⟨qf0, qf1, qf2⟩, ql⟩ := block3 (unhide HK4)
  go_upto_region 36 with fail
  have HOU : Hid (Ou w BM BL BK BE G n (some ⟨b0, o0, none⟩) cm (j + 1) Q (letK (ks.set t 0) tl) (letE e tl) a2 c2 (putL w3 BL (.int .i64 Q.readers) (.bool Q.writer) (.slice a2 Q.line.length c2))) := ⟨unhide HAL, (unhide HS4).putl (by omega) (by omega) (by omega) (by omega) (.int .i64 Q.readers) (.bool Q.writer) (.slice a2 Q.line.length c2), putL_new (unhide HL4), ((unhide HN4).base (show BE + 1 ≤ Wt.heap.size by omega)).keep kp (fun k hk _ => putL_keep (show k ≠ BL by omega)), putL_below (unhide HX4) (by omega)⟩
  clear HAL HS4 HL4 HN4 HX4 HK4
  exact tail_any w BM BL BK BE G n (some ⟨b0, o0, none⟩) cm j Q _ _ a2 c2 hn _ (unhide HOU) _ _ _ _ _ _ _ (by assumption) (by assumption) (by kernel_rfl) (unhide HN)

end Go.Proofs.Ytdpcbmekplcllaa
