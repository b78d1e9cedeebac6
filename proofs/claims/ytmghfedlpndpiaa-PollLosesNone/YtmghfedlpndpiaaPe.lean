/-
  taskmilllaw.PollLosesNone: one theorem a move.
-/
import Derived.Test.YtmghfedlpndpiaaPd
namespace Go.Proofs.Ytmghfedlpndpiaa
open Go.RowKit

set_option maxRecDepth 100000 in
set_option maxHeartbeats 4000000 in
theorem rd_other (w : World) (xs : List Int) (a0 : Option Addr) (n c0 TD TF TG j : Nat) (now : Int) (r0 r1 : Bool) (t0 t1 u0 u1 f0 f1 g0 g1 : Int) (hIL : IsL KI w (.slice a0 n c0) xs) (hj : j < n) (hn : n ≤ 300) (v : Int) (hv : xs.getD j 0 = v) (m0 : v ≠ 0) (m1 : v ≠ 1) (m2 : v ≠ 2) (m3 : v ≠ 3) (wv : Int) (hmod : (j : Int).tmod 2 = wv) (ho : w.heap.size ≤ TD ∧ TD < TF ∧ TF < TG) (hOk : Ok (j : Int) now r0 r1 t0 t1 u0 u1 f0 f1 g0 g1) (Wt : World) (hX : Below w.heap.size w Wt) (hD : Wt.heap[TD]? = some (.cells #[.bool false, .bool r0, .bool r1, .int .i64 t0, .int .i64 t1, .int .i64 u0, .int .i64 u1] 25)) (hF : Wt.heap[TF]? = some (.cells #[.int .i64 f0, .int .i64 f1] 23)) (hG : Wt.heap[TG]? = some (.cells #[.int .i64 g0, .int .i64 g1] 23))
    {s1 s8 s9 s10 s11 s12 s13 s14 s15 s16 s17 s18 s19 s20 s21 s22 s23 s24 s25 s26 s27 s28 s29 s30 s31 s32 s33 s34 s35 s36 s37 s38 s39 s40 s41 s42 s43 s44 s45 s46 s47 s48 s49 s50 s51 s52 s53 s54 s55 s56 s57 s58 s59 s60 s61 s62 s63 s64 s65 s66 s67 s68 s69 s70 s71 s72 s73 s74 s75 s76 s77 s78 s79 s80 s81 s82 s83 s84 s85 s86 s87 s88 s89 s90 s91 s92 s93 s94 s95 s96 s97 s98 s99 s100 s101 s102 s103 s104 s105 s106 s107 s108 s109 s110 s111 s112 s113 s114 s115 s116 s117 s118 s119 s120 s121 s122 s123 s124 s125 s126 s127 s128 s129 s130 s131 s132 s133 s134 s135 s136 s137 s138 s139 s140 s141 s142 s143 s144 s145 s146 s147 s148 s149 s150 s151 s152 s153 s154 s155 s156 s157 s158 s159 s160 s161 s162 s163 s164 s165 s166 s167 s168 s169 s170 s171 s172 s173 s174 s175 s176 s177 s178 s179 s180 s181 s182 s183 s184 s185 s186 s187 s188 s189 s190 s191 s192 s193 s194 s195 s196 s197 s198 s199 s200 s201 s202 s203 s204 s205 s206 s207 s208 s209 s210 s211 s212 s213 s214 s215 s216 s217 s218 s219 s220 s221 s222 s223 s224 s225 s226 s227 s228 s229 s230 s231 s232 : Value} (N : Act → World → Prop) (Q0 : Exit → Act → World → Prop) (b r : Code) (hcut : (Try.f5.body.bind (loopFor 0)) = some (b, r)) (hN : NxO w a0 n c0 TD TF TG j N) :
    b.wp Try.prog (Exit.then N Q0) { tmps := (.slice a0 n c0 :: s1 :: .bool false :: .pointer (some ⟨TD, 0, none⟩) :: .int .i64 now :: .pointer (some ⟨TF, 0, none⟩) :: .pointer (some ⟨TG, 0, none⟩) :: .int .i64 (j : Int) :: s8 :: s9 :: s10 :: s11 :: s12 :: s13 :: s14 :: s15 :: s16 :: s17 :: s18 :: s19 :: s20 :: s21 :: s22 :: s23 :: s24 :: s25 :: s26 :: s27 :: s28 :: s29 :: s30 :: s31 :: s32 :: s33 :: s34 :: s35 :: s36 :: s37 :: s38 :: s39 :: s40 :: s41 :: s42 :: s43 :: s44 :: s45 :: s46 :: s47 :: s48 :: s49 :: s50 :: s51 :: s52 :: s53 :: s54 :: s55 :: s56 :: s57 :: s58 :: s59 :: s60 :: s61 :: s62 :: s63 :: s64 :: s65 :: s66 :: s67 :: s68 :: s69 :: s70 :: s71 :: s72 :: s73 :: s74 :: s75 :: s76 :: s77 :: s78 :: s79 :: s80 :: s81 :: s82 :: s83 :: s84 :: s85 :: s86 :: s87 :: s88 :: s89 :: s90 :: s91 :: s92 :: s93 :: s94 :: s95 :: s96 :: s97 :: s98 :: s99 :: s100 :: s101 :: s102 :: s103 :: s104 :: s105 :: s106 :: s107 :: s108 :: s109 :: s110 :: s111 :: s112 :: s113 :: s114 :: s115 :: s116 :: s117 :: s118 :: s119 :: s120 :: s121 :: s122 :: s123 :: s124 :: s125 :: s126 :: s127 :: s128 :: s129 :: s130 :: s131 :: s132 :: s133 :: s134 :: s135 :: s136 :: s137 :: s138 :: s139 :: s140 :: s141 :: s142 :: s143 :: s144 :: s145 :: s146 :: s147 :: s148 :: s149 :: s150 :: s151 :: s152 :: s153 :: s154 :: s155 :: s156 :: s157 :: s158 :: s159 :: s160 :: s161 :: s162 :: s163 :: s164 :: s165 :: s166 :: s167 :: s168 :: s169 :: s170 :: s171 :: s172 :: s173 :: s174 :: s175 :: s176 :: s177 :: s178 :: s179 :: s180 :: s181 :: s182 :: s183 :: s184 :: s185 :: s186 :: s187 :: s188 :: s189 :: s190 :: s191 :: s192 :: s193 :: s194 :: s195 :: s196 :: s197 :: s198 :: s199 :: s200 :: s201 :: s202 :: s203 :: s204 :: s205 :: s206 :: s207 :: s208 :: s209 :: s210 :: s211 :: s212 :: s213 :: s214 :: s215 :: s216 :: s217 :: s218 :: s219 :: s220 :: s221 :: s222 :: s223 :: s224 :: s225 :: s226 :: s227 :: s228 :: s229 :: s230 :: s231 :: s232 :: []).toArray, defers := [] } Wt := by
  have hcc : (Try.f5.body.bind (loopFor 0)) = some (_, _) := rfl
  rw [hcc] at hcut
  cases hcut
  clear hcc
  obtain ⟨b0, o0, rfl, hb0, l0⟩ := hIL.opens ki hIL.len (by omega)
  have cm := (l0.below hX hb0).ints (j := j) (by rw [hIL.len]; exact hj)
  rw [hv] at cm
  have hlen := hIL.len
  have HCM := hide cm
  have HBM := hide hb0
  have i0 : (0 : Int) ≤ (j : Int) := by omega
  have i1 : (j : Int) < (n : Int) := by omega
  obtain ⟨ho1, ho2, ho3⟩ := ho
  have hwr : IntKind.i64.wrap ((j : Int) + 1) = (j : Int) + 1 := wrapi (by omega) (by omega)
  have hnn0 := hOk.n0
  have hnn1 := hOk.n1
  have hdesc := hOk.desc
  have HN := hide hN; have HD := hide hD; have HF := hide hF; have HG := hide hG; have HX := hide hX; have HO := hide hOk
  clear hIL hlen hX hD hF hG hN hOk l0 cm hb0 hv
  have xm0 : (v == 0) = false := by simpa using m0
  have xm1 : (v == 1) = false := by simpa using m1
  have xm2 : (v == 2) = false := by simpa using m2
  have xm3 : (v == 3) = false := by simpa using m3
  clear m0 m1 m2 m3
  have HOQ := hide (ok_same (unhide HO) (by omega))
  clear hnn0 hnn1 hdesc
  have cm := unhide HCM
  go_upto_region 14 with fail
  clear cm HCM
  go_upto_region 43 with fail
  exact inner_any w _ n c0 TD TF TG j now r0 r1 t0 t1 u0 u1 f0 f1 g0 g1 (unhide HOQ) _ (unhide HX) (unhide HD) (unhide HF) (unhide HG) _ _ _ _ _ _ _ (by assumption) (by assumption) (by kernel_rfl) (unhide HN)

set_option maxRecDepth 100000 in
set_option maxHeartbeats 4000000 in
theorem rd_tick (w : World) (xs : List Int) (a0 : Option Addr) (n c0 TD TF TG j : Nat) (now : Int) (r0 r1 : Bool) (t0 t1 u0 u1 f0 f1 g0 g1 : Int) (hIL : IsL KI w (.slice a0 n c0) xs) (hj : j < n) (hn : n ≤ 300) (hv : xs.getD j 0 = 2) (wv : Int) (hmod : (j : Int).tmod 2 = wv) (ho : w.heap.size ≤ TD ∧ TD < TF ∧ TF < TG) (hOk : Ok (j : Int) now r0 r1 t0 t1 u0 u1 f0 f1 g0 g1) (Wt : World) (hX : Below w.heap.size w Wt) (hD : Wt.heap[TD]? = some (.cells #[.bool false, .bool r0, .bool r1, .int .i64 t0, .int .i64 t1, .int .i64 u0, .int .i64 u1] 25)) (hF : Wt.heap[TF]? = some (.cells #[.int .i64 f0, .int .i64 f1] 23)) (hG : Wt.heap[TG]? = some (.cells #[.int .i64 g0, .int .i64 g1] 23))
    {s1 s8 s9 s10 s11 s12 s13 s14 s15 s16 s17 s18 s19 s20 s21 s22 s23 s24 s25 s26 s27 s28 s29 s30 s31 s32 s33 s34 s35 s36 s37 s38 s39 s40 s41 s42 s43 s44 s45 s46 s47 s48 s49 s50 s51 s52 s53 s54 s55 s56 s57 s58 s59 s60 s61 s62 s63 s64 s65 s66 s67 s68 s69 s70 s71 s72 s73 s74 s75 s76 s77 s78 s79 s80 s81 s82 s83 s84 s85 s86 s87 s88 s89 s90 s91 s92 s93 s94 s95 s96 s97 s98 s99 s100 s101 s102 s103 s104 s105 s106 s107 s108 s109 s110 s111 s112 s113 s114 s115 s116 s117 s118 s119 s120 s121 s122 s123 s124 s125 s126 s127 s128 s129 s130 s131 s132 s133 s134 s135 s136 s137 s138 s139 s140 s141 s142 s143 s144 s145 s146 s147 s148 s149 s150 s151 s152 s153 s154 s155 s156 s157 s158 s159 s160 s161 s162 s163 s164 s165 s166 s167 s168 s169 s170 s171 s172 s173 s174 s175 s176 s177 s178 s179 s180 s181 s182 s183 s184 s185 s186 s187 s188 s189 s190 s191 s192 s193 s194 s195 s196 s197 s198 s199 s200 s201 s202 s203 s204 s205 s206 s207 s208 s209 s210 s211 s212 s213 s214 s215 s216 s217 s218 s219 s220 s221 s222 s223 s224 s225 s226 s227 s228 s229 s230 s231 s232 : Value} (N : Act → World → Prop) (Q0 : Exit → Act → World → Prop) (b r : Code) (hcut : (Try.f5.body.bind (loopFor 0)) = some (b, r)) (hN : NxO w a0 n c0 TD TF TG j N) :
    b.wp Try.prog (Exit.then N Q0) { tmps := (.slice a0 n c0 :: s1 :: .bool false :: .pointer (some ⟨TD, 0, none⟩) :: .int .i64 now :: .pointer (some ⟨TF, 0, none⟩) :: .pointer (some ⟨TG, 0, none⟩) :: .int .i64 (j : Int) :: s8 :: s9 :: s10 :: s11 :: s12 :: s13 :: s14 :: s15 :: s16 :: s17 :: s18 :: s19 :: s20 :: s21 :: s22 :: s23 :: s24 :: s25 :: s26 :: s27 :: s28 :: s29 :: s30 :: s31 :: s32 :: s33 :: s34 :: s35 :: s36 :: s37 :: s38 :: s39 :: s40 :: s41 :: s42 :: s43 :: s44 :: s45 :: s46 :: s47 :: s48 :: s49 :: s50 :: s51 :: s52 :: s53 :: s54 :: s55 :: s56 :: s57 :: s58 :: s59 :: s60 :: s61 :: s62 :: s63 :: s64 :: s65 :: s66 :: s67 :: s68 :: s69 :: s70 :: s71 :: s72 :: s73 :: s74 :: s75 :: s76 :: s77 :: s78 :: s79 :: s80 :: s81 :: s82 :: s83 :: s84 :: s85 :: s86 :: s87 :: s88 :: s89 :: s90 :: s91 :: s92 :: s93 :: s94 :: s95 :: s96 :: s97 :: s98 :: s99 :: s100 :: s101 :: s102 :: s103 :: s104 :: s105 :: s106 :: s107 :: s108 :: s109 :: s110 :: s111 :: s112 :: s113 :: s114 :: s115 :: s116 :: s117 :: s118 :: s119 :: s120 :: s121 :: s122 :: s123 :: s124 :: s125 :: s126 :: s127 :: s128 :: s129 :: s130 :: s131 :: s132 :: s133 :: s134 :: s135 :: s136 :: s137 :: s138 :: s139 :: s140 :: s141 :: s142 :: s143 :: s144 :: s145 :: s146 :: s147 :: s148 :: s149 :: s150 :: s151 :: s152 :: s153 :: s154 :: s155 :: s156 :: s157 :: s158 :: s159 :: s160 :: s161 :: s162 :: s163 :: s164 :: s165 :: s166 :: s167 :: s168 :: s169 :: s170 :: s171 :: s172 :: s173 :: s174 :: s175 :: s176 :: s177 :: s178 :: s179 :: s180 :: s181 :: s182 :: s183 :: s184 :: s185 :: s186 :: s187 :: s188 :: s189 :: s190 :: s191 :: s192 :: s193 :: s194 :: s195 :: s196 :: s197 :: s198 :: s199 :: s200 :: s201 :: s202 :: s203 :: s204 :: s205 :: s206 :: s207 :: s208 :: s209 :: s210 :: s211 :: s212 :: s213 :: s214 :: s215 :: s216 :: s217 :: s218 :: s219 :: s220 :: s221 :: s222 :: s223 :: s224 :: s225 :: s226 :: s227 :: s228 :: s229 :: s230 :: s231 :: s232 :: []).toArray, defers := [] } Wt := by
  have hcc : (Try.f5.body.bind (loopFor 0)) = some (_, _) := rfl
  rw [hcc] at hcut
  cases hcut
  clear hcc
  obtain ⟨b0, o0, rfl, hb0, l0⟩ := hIL.opens ki hIL.len (by omega)
  have cm := (l0.below hX hb0).ints (j := j) (by rw [hIL.len]; exact hj)
  rw [hv] at cm
  have hlen := hIL.len
  have HCM := hide cm
  have HBM := hide hb0
  have i0 : (0 : Int) ≤ (j : Int) := by omega
  have i1 : (j : Int) < (n : Int) := by omega
  obtain ⟨ho1, ho2, ho3⟩ := ho
  have hwr : IntKind.i64.wrap ((j : Int) + 1) = (j : Int) + 1 := wrapi (by omega) (by omega)
  have hnn0 := hOk.n0
  have hnn1 := hOk.n1
  have hdesc := hOk.desc
  have HN := hide hN; have HD := hide hD; have HF := hide hF; have HG := hide hG; have HX := hide hX; have HO := hide hOk
  clear hIL hlen hX hD hF hG hN hOk l0 cm hb0 hv
  obtain ⟨T0, eT0⟩ : ∃ T, (if gone t0 u0 (now + 1) then 0 else t0) = T := ⟨_, rfl⟩
  obtain ⟨T1, eT1⟩ : ∃ T, (if gone t1 u1 (now + 1) then 0 else t1) = T := ⟨_, rfl⟩
  obtain ⟨LL, eLL⟩ : ∃ L, onlyIf (gone t0 u0 (now + 1)) t0 ++ onlyIf (gone t1 u1 (now + 1)) t1 = L := ⟨_, rfl⟩
  have HTK : Hid (∀ W, Calls Try.prog 15 #[.agg #[.bool false, .bool r0, .bool r1, .int .i64 t0, .int .i64 t1, .int .i64 u0, .int .i64 u1], .int .i64 (now + 1)] W fun e w' => ∃ a k, e = .returned (.tuple #[.agg #[.bool false, .bool r0, .bool r1, .int .i64 T0, .int .i64 T1, .int .i64 u0, .int .i64 u1], .slice a LL.length k, .agg #[.int .i64 0, .int .i64 0]]) ∧ Below W.heap.size W w') := fun W => by
    have := tick_any W false r0 r1 t0 t1 u0 u1 (now + 1) 0 hdesc ⟨by omega, by omega⟩
    rw [eT0, eT1, eLL] at this
    exact this.mono fun e w' ⟨a, k, h1, _, h3⟩ => ⟨a, k, h1, h3⟩
  have HOT := hide (ok_tick (unhide HO) (by omega) eT0 eT1)
  have hwn : IntKind.i64.wrap (now + 1) = now + 1 := wrapi (by omega) (by omega)
  clear eT0 eT1 eLL
  have HOQ := HOT
  clear hnn0 hnn1 hdesc
  have cm := unhide HCM
  go_upto_region 14 with fail
  clear cm HCM
  obtain ⟨⟨p0, p1, p2, p3, p4, p5, p6⟩, ⟨pf0, pf1, pf2, pf3, pf4, pf5, pf6⟩, pl⟩ := block7 (unhide HD)
  go_upto_region 35 with (go_at_call 15; refine (unhide HTK _).mono ?_; rintro e w2 ⟨la, lk, rfl, hb2⟩; have HX_1 := hide (Below.next (unhide HX) hb2 (by first | exact Nat.le_refl _ | (have := unhide HBA; omega))); have Kd_1 := hide (keep_below (unhide HD) hb2); have Kf_1 := hide (keep_below (unhide HF) hb2); have Kg_1 := hide (keep_below (unhide HG) hb2); clear HX HD HF HG; clear hb2 HTK p0 p1 p2 p3 p4 p5 p6 pf0 pf1 pf2 pf3 pf4 pf5 pf6 pl)
  obtain ⟨W2, eW2, hBW2, k0_2, k1_2⟩ := two_new w2 (.cells #[.bool false, .bool r0, .bool r1, .int .i64 T0, .int .i64 T1, .int .i64 u0, .int .i64 u1] 25) (.cells #[.int .i64 0, .int .i64 0] 27)
  rw [eW2]
  clear eW2
  have hld_e : TD < w2.heap.size := size_of (unhide Kd_1)
  have hlf_e : TF < w2.heap.size := size_of (unhide Kf_1)
  have hlg_e : TG < w2.heap.size := size_of (unhide Kg_1)
  (have HX_2 := hide (Below.next (unhide HX_1) hBW2 (by first | exact Nat.le_refl _ | (have := unhide HBA; omega))); have Kd_2 := hide (keep_below (unhide Kd_1) hBW2); have Kf_2 := hide (keep_below (unhide Kf_1) hBW2); have Kg_2 := hide (keep_below (unhide Kg_1) hBW2); clear HX_1 Kd_1 Kf_1 Kg_1)
  obtain ⟨TE, eTE⟩ : ∃ X, w2.heap.size = X := ⟨_, rfl⟩
  rw [eTE] at k0_2 k1_2 hld_e hlf_e hlg_e ⊢
  have Ke_2 := hide k0_2
  have Kq_2 := hide k1_2
  clear eTE hBW2 k0_2 k1_2
  obtain ⟨h0, h1, hf0, hf1, hl⟩ := block2 (unhide Kq_2)
  obtain ⟨⟨p0, p1, p2, p3, p4, p5, p6⟩, ⟨pf0, pf1, pf2, pf3, pf4, pf5, pf6⟩, pl⟩ := block7 (unhide Kd_2)
  obtain ⟨⟨e0, e1, e2, e3, e4, e5, e6⟩, ⟨ef0, ef1, ef2, ef3, ef4, ef5, ef6⟩, el⟩ := block7 (unhide Ke_2)
  go_upto_region 43 with fail
  clear h0 h1 hf0 hf1 hl p0 p1 p2 p3 p4 p5 p6 pf0 pf1 pf2 pf3 pf4 pf5 pf6 pl e0 e1 e2 e3 e4 e5 e6 ef0 ef1 ef2 ef3 ef4 ef5 ef6 el
  have HX_3 := hide (put7_below (y0 := .bool false) (y1 := .bool r0) (y2 := .bool r1) (y3 := .int .i64 T0) (y4 := .int .i64 T1) (y5 := .int .i64 u0) (y6 := .int .i64 u1) (unhide HX_2) (show w.heap.size ≤ TD by first | omega | (have := unhide HBA; omega)))
  have Kd_3 := hide (put7_new (y0 := .bool false) (y1 := .bool r0) (y2 := .bool r1) (y3 := .int .i64 T0) (y4 := .int .i64 T1) (y5 := .int .i64 u0) (y6 := .int .i64 u1) (unhide Kd_2))
  have Kf_3 := hide ((put7_keep (y0 := .bool false) (y1 := .bool r0) (y2 := .bool r1) (y3 := .int .i64 T0) (y4 := .int .i64 T1) (y5 := .int .i64 u0) (y6 := .int .i64 u1) (show TF ≠ TD by omega)).trans (unhide Kf_2))
  have Kg_3 := hide ((put7_keep (y0 := .bool false) (y1 := .bool r0) (y2 := .bool r1) (y3 := .int .i64 T0) (y4 := .int .i64 T1) (y5 := .int .i64 u0) (y6 := .int .i64 u1) (show TG ≠ TD by omega)).trans (unhide Kg_2))
  have Ke_3 := hide ((put7_keep (y0 := .bool false) (y1 := .bool r0) (y2 := .bool r1) (y3 := .int .i64 T0) (y4 := .int .i64 T1) (y5 := .int .i64 u0) (y6 := .int .i64 u1) (show TE ≠ TD by omega)).trans (unhide Ke_2))
  have Kq_3 := hide ((put7_keep (y0 := .bool false) (y1 := .bool r0) (y2 := .bool r1) (y3 := .int .i64 T0) (y4 := .int .i64 T1) (y5 := .int .i64 u0) (y6 := .int .i64 u1) (show TE + 1 ≠ TD by omega)).trans (unhide Kq_2))
  obtain ⟨W4, eW4⟩ : ∃ X, put7 W2 (TD) (.bool false) (.bool r0) (.bool r1) (.int .i64 T0) (.int .i64 T1) (.int .i64 u0) (.int .i64 u1) = X := ⟨_, rfl⟩
  rw [eW4] at HX_3 Kd_3 Kf_3 Kg_3 Ke_3 Kq_3
  have eW42 : (((((((W2).setCell ⟨TD, 0, none⟩ (.bool false)).setCell ⟨TD, 1, none⟩ (.bool r0)).setCell ⟨TD, 2, none⟩ (.bool r1)).setCell ⟨TD, 3, none⟩ (.int .i64 T0)).setCell ⟨TD, 4, none⟩ (.int .i64 T1)).setCell ⟨TD, 5, none⟩ (.int .i64 u0)).setCell ⟨TD, 6, none⟩ (.int .i64 u1) = W4 := eW4
  rw [eW42]
  clear eW4 eW42 HX_2 Kd_2 Kf_2 Kg_2 Ke_2 Kq_2
  exact inner_any w _ n c0 TD TF TG j (now + 1) r0 r1 T0 T1 u0 u1 f0 f1 g0 g1 (unhide HOQ) _ (unhide HX_3) (unhide Kd_3) (unhide Kf_3) (unhide Kg_3) _ _ _ _ _ _ _ (by assumption) (by assumption) (by kernel_rfl) (unhide HN)

end Go.Proofs.Ytmghfedlpndpiaa
