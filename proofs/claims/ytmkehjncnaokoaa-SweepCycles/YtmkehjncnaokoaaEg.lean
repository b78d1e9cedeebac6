/-
  taskmillref.Marking.act: copies, loads.
-/
import Derived.Test.YtmkehjncnaokoaaEe
namespace Go.Proofs.Ytmkehjncnaokoaa
open Go.RowKit

set_option maxRecDepth 100000 in
set_option maxHeartbeats 4000000 in
theorem act_ckn {lo : Nat} {Wt : World} {lab : Nat → Nat} {b : Nat} {oa : Option Addr} {n co : Nat} {ar : Option Addr} {nr cr wb cw : Nat} {vl : Value} {g : Gm} (h : RfL lo Wt lab b oa n co ar nr cr wb cw vl g) (hg : GoodG g) (hnd : NodG g.mm) (AB : Nat) (z : Int) (ta : Nat) (hta : ta < nr)  (hAB : Wt.heap[AB]? = some (.cells #[.int .i64 3, .int .i64 (ta : Int), .int .i64 0, .int .i64 (-1)] 47 (0, 0))) (hla : lab AB = 0) (P0 : Ending → World → Prop) (hP : ∀ w', RfX lo w' b ⟨g.os, g.rs.set ta (-1), g.mm⟩ → Below lo Wt w' → P0 (.returned (.int .i64 0)) w')
    {s1 s3 s5 s6 s7 s10 s11 s12 s13 s14 s15 s16 s17 s18 s19 s20 s21 s22 s23 s24 s25 s26 s27 s28 s29 s30 s31 s32 s33 s34 s35 s36 s37 s38 s39 s40 s41 s42 s43 s44 s45 s46 s47 s48 s49 s50 s51 s52 s53 s54 s55 s56 s57 s58 s59 s60 s61 s62 s63 s64 s65 s66 s67 s68 s69 s70 s71 s72 s73 s74 s75 s76 s77 s78 s79 s80 s81 s82 s83 s84 s85 s86 s87 s88 s89 s90 s91 s92 s93 s94 s95 s96 s97 s98 s99 s100 s101 s102 s103 s104 s105 s106 s107 s108 s109 s110 s111 s112 s113 s114 s115 s116 s117 s118 s119 s120 s121 s122 s123 s124 s125 s126 s127 s128 s129 s130 s131 s132 s133 s134 s135 s136 s137 s138 s139 s140 s141 s142 s143 s144 s145 s146 s147 s148 s149 s150 s151 s152 s153 s154 s155 s156 s157 s158 s159 s160 s161 s162 s163 s164 s165 s166 s167 s168 s169 s170 s171 s172 s173 s174 s175 s176 s177 s178 s179 s180 s181 s182 s183 s184 s185 s186 s187 s188 s189 s190 s191 s192 s193 s194 s195 s196 s197 s198 s199 s200 s201 s202 s203 s204 s205 s206 s207 s208 s209 s210 s211 s212 s213 s214 s215 s216 s217 s218 s219 s220 s221 s222 s223 s224 s225 s226 s227 s228 s229 s230 s231 s232 s233 s234 s235 s236 s237 s238 s239 s240 s241 s242 s243 s244 s245 s246 s247 s248 s249 s250 s251 s252 s253 s254 s255 s256 s257 s258 s259 s260 s261 s262 s263 s264 s265 s266 s267 s268 s269 s270 : Value} (K1 K2 : Act → World → Prop) (x y zc : Code) (hK1 : ∀ a w', y.wp Try.prog (Exit.then K2 (bodyPost Try.prog Try.f35 P0)) a w' → K1 a w') (hK2 : ∀ a w', zc.wp Try.prog (bodyPost Try.prog Try.f35 P0) a w' → K2 a w') (hcut : Try.f35.body.bind (cutIfE 4) = some (x, y, zc)) :
    x.wp Try.prog (Exit.then K1 (Exit.then K2 (bodyPost Try.prog Try.f35 P0))) { tmps := (.pointer (some ⟨b, 0, none⟩) :: s1 :: .int .i64 z :: s3 :: .pointer (some ⟨AB, 0, none⟩) :: s5 :: s6 :: s7 :: .bool true :: .bool true :: s10 :: s11 :: s12 :: s13 :: s14 :: s15 :: s16 :: s17 :: s18 :: s19 :: s20 :: s21 :: s22 :: s23 :: s24 :: s25 :: s26 :: s27 :: s28 :: s29 :: s30 :: s31 :: s32 :: s33 :: s34 :: s35 :: s36 :: s37 :: s38 :: s39 :: s40 :: s41 :: s42 :: s43 :: s44 :: s45 :: s46 :: s47 :: s48 :: s49 :: s50 :: s51 :: s52 :: s53 :: s54 :: s55 :: s56 :: s57 :: s58 :: s59 :: s60 :: s61 :: s62 :: s63 :: s64 :: s65 :: s66 :: s67 :: s68 :: s69 :: s70 :: s71 :: s72 :: s73 :: s74 :: s75 :: s76 :: s77 :: s78 :: s79 :: s80 :: s81 :: s82 :: s83 :: s84 :: s85 :: s86 :: s87 :: s88 :: s89 :: s90 :: s91 :: s92 :: s93 :: s94 :: s95 :: s96 :: s97 :: s98 :: s99 :: s100 :: s101 :: s102 :: s103 :: s104 :: s105 :: s106 :: s107 :: s108 :: s109 :: s110 :: s111 :: s112 :: s113 :: s114 :: s115 :: s116 :: s117 :: s118 :: s119 :: s120 :: s121 :: s122 :: s123 :: s124 :: s125 :: s126 :: s127 :: s128 :: s129 :: s130 :: s131 :: s132 :: s133 :: s134 :: s135 :: s136 :: s137 :: s138 :: s139 :: s140 :: s141 :: s142 :: s143 :: s144 :: s145 :: s146 :: s147 :: s148 :: s149 :: s150 :: s151 :: s152 :: s153 :: s154 :: s155 :: s156 :: s157 :: s158 :: s159 :: s160 :: s161 :: s162 :: s163 :: s164 :: s165 :: s166 :: s167 :: s168 :: s169 :: s170 :: s171 :: s172 :: s173 :: s174 :: s175 :: s176 :: s177 :: s178 :: s179 :: s180 :: s181 :: s182 :: s183 :: s184 :: s185 :: s186 :: s187 :: s188 :: s189 :: s190 :: s191 :: s192 :: s193 :: s194 :: s195 :: s196 :: s197 :: s198 :: s199 :: s200 :: s201 :: s202 :: s203 :: s204 :: s205 :: s206 :: s207 :: s208 :: s209 :: s210 :: s211 :: s212 :: s213 :: s214 :: s215 :: s216 :: s217 :: s218 :: s219 :: s220 :: s221 :: s222 :: s223 :: s224 :: s225 :: s226 :: s227 :: s228 :: s229 :: s230 :: s231 :: s232 :: s233 :: s234 :: s235 :: s236 :: s237 :: s238 :: s239 :: s240 :: s241 :: s242 :: s243 :: s244 :: s245 :: s246 :: s247 :: s248 :: s249 :: s250 :: s251 :: s252 :: s253 :: s254 :: s255 :: s256 :: s257 :: s258 :: s259 :: s260 :: s261 :: s262 :: s263 :: s264 :: s265 :: s266 :: s267 :: s268 :: s269 :: s270 :: []).toArray, defers := [] } Wt := by
  have hcc : Try.f35.body.bind (cutIfE 4) = some (_, _, _) := rfl
  rw [hcc] at hcut
  cases hcut
  clear hcc
  obtain ⟨⟨q0, q1, q2, q3⟩, ⟨qf0, qf1, qf2, qf3⟩, ql⟩ := block4 hAB
  obtain ⟨⟨m0, m1, m2, m3⟩, ⟨mf0, mf1, mf2, mf3⟩, ml⟩ := block4 h.blk
  have HQ := hide hAB; have HP := hide hP; have HR := hide h; have HG := hide hg; have HND := hide hnd
  have HLO : Hid (lo ≤ Wt.heap.size) := Nat.le_trans h.low.1 (Nat.le_of_lt h.blt)
  obtain ⟨gb, go, ear, t1, tf1, hl5, hlow5, hglt⟩ := h.regAt hta
  have k1 : (0 : Int) ≤ (ta : Int) := by omega
  have k2 : (ta : Int) < (nr : Int) := by omega
  have hlb := h.lbs
  have hABl := size_of hAB
  have n1 : b ≠ gb := fun e => by rw [← e] at hl5; omega
  have n2 : AB ≠ gb := fun e => by rw [← e] at hl5; omega
  subst ear
  have HS3 : Hid (∀ (W : World) (u : Value), (W.cell? ⟨b, 1, none⟩ = some (.slice (some ⟨gb, go, none⟩) nr cr) ∧ W.cell? ⟨AB, 1, none⟩ = some (.int .i64 (ta : Int))) → (W.setCell ⟨gb, go + ta, none⟩ u).cell? ⟨b, 1, none⟩ = some (.slice (some ⟨gb, go, none⟩) nr cr) ∧ (W.setCell ⟨gb, go + ta, none⟩ u).cell? ⟨AB, 1, none⟩ = some (.int .i64 (ta : Int))) := fun W u hW => ⟨cell_other hW.1 (Or.inl n1) u, cell_other hW.2 (Or.inl n2) u⟩
  have HSDR : Hid (∀ W : World, (W.cell? ⟨b, 1, none⟩ = some (.slice (some ⟨gb, go, none⟩) nr cr) ∧ W.cell? ⟨AB, 1, none⟩ = some (.int .i64 (ta : Int))) → W.drew.cell? ⟨b, 1, none⟩ = some (.slice (some ⟨gb, go, none⟩) nr cr) ∧ W.drew.cell? ⟨AB, 1, none⟩ = some (.int .i64 (ta : Int))) := fun W hW => hW
  have HW5 := hide hlow5
  have HT1 := hide t1; have HTF := hide tf1; have HGL := hide hglt; have HABL := hide hABl
  clear t1 tf1 hl5 hlow5 hglt hlb hABl n1 n2 
  clear hAB hP h hg hnd
  go_upto_region 28 with fail
  clear q0 q1 q2 q3 qf0 qf1 qf2 qf3 ql m0 m1 m2 m3 mf0 mf1 mf2 mf3 ml
  have HB3 : Hid (Below Wt.heap.size Wt Wt) := Below.refl _ _
  have HRC := hide ((unhide HR).keep (unhide HB3))
  have HBC := HB3
  have HS8 : Hid ((fun W : World => W.cell? ⟨b, 1, none⟩ = some (.slice (some ⟨gb, go, none⟩) nr cr) ∧ W.cell? ⟨AB, 1, none⟩ = some (.int .i64 (ta : Int))) Wt) := ⟨(block4 (unhide HRC).blk).1.2.1, (block4 (keep_below (unhide HQ) (unhide HBC))).1.2.1⟩
  have HS8d : Hid ((fun W : World => W.cell? ⟨b, 1, none⟩ = some (.slice (some ⟨gb, go, none⟩) nr cr) ∧ W.cell? ⟨AB, 1, none⟩ = some (.int .i64 (ta : Int))) Wt.drew) := unhide HS8
  have g1 := cell_of (unhide HT1) ((unhide HBC).block gb (unhide HGL))
  have f1 := froz_of (unhide HTF) ((unhide HBC).block gb (unhide HGL))
  have g2 : Wt.drew.cell? ⟨gb, go + ta, none⟩ = some (.int .i64 (g.rs.getD ta 0)) := g1
  have f2 : Wt.drew.frozen? ⟨gb, go + ta, none⟩ = false := f1
  go_region_held3 (fun W => W.cell? ⟨b, 1, none⟩ = some (.slice (some ⟨gb, go, none⟩) nr cr) ∧ W.cell? ⟨AB, 1, none⟩ = some (.int .i64 (ta : Int)))
    (first | with_reducible exact unhide HS8 | with_reducible exact unhide HS8d | (repeat (first | with_reducible exact unhide HS8 | with_reducible exact unhide HS8d | with_reducible refine unhide HS3 _ _ ?_ | with_reducible refine unhide HSDR _ ?_)))
    (fail)
  all_goals
    obtain ⟨W8, e8⟩ : ∃ X, (Wt.setCell ⟨gb, go + ta, none⟩ (.int .i64 (-1))).drew = X := ⟨_, rfl⟩
    have HR8 : Hid (RfL lo W8 lab b oa n co (some ⟨gb, go, none⟩) nr cr wb cw vl ⟨g.os, g.rs.set ta (-1), g.mm⟩) := by rw [← e8]; exact ((unhide HRC).setReg hta rfl (-1)).1.keep (Below.refl _ _).drew
    have HX8 : Hid (Below lo Wt W8) := by rw [← e8]; exact (((unhide HBC).mono (unhide HLO)).setCell (p := ⟨gb, go + ta, none⟩) (unhide HW5) _).drew
    try rw [e8]
    clear e8
    go_wp2_with fail
    exact unhide HP _ (RfX.of (unhide HR8)) (unhide HX8)

set_option maxRecDepth 100000 in
set_option maxHeartbeats 4000000 in
theorem act_ckj {lo : Nat} {Wt : World} {lab : Nat → Nat} {b : Nat} {oa : Option Addr} {n co : Nat} {ar : Option Addr} {nr cr wb cw : Nat} {vl : Value} {g : Gm} (h : RfL lo Wt lab b oa n co ar nr cr wb cw vl g) (hg : GoodG g) (hnd : NodG g.mm) (AB : Nat) (z : Int) (ta : Nat) (hta : ta < nr) (j : Nat) (hj : j < nr) (v : Int) (hv : g.rs.getD j 0 = v) (hAB : Wt.heap[AB]? = some (.cells #[.int .i64 3, .int .i64 (ta : Int), .int .i64 0, .int .i64 (j : Int)] 47 (0, 0))) (hla : lab AB = 0) (P0 : Ending → World → Prop) (hP : ∀ w', RfX lo w' b ⟨g.os, g.rs.set ta v, g.mm⟩ → Below lo Wt w' → P0 (.returned (.int .i64 0)) w')
    {s1 s3 s5 s6 s7 s10 s11 s12 s13 s14 s15 s16 s17 s18 s19 s20 s21 s22 s23 s24 s25 s26 s27 s28 s29 s30 s31 s32 s33 s34 s35 s36 s37 s38 s39 s40 s41 s42 s43 s44 s45 s46 s47 s48 s49 s50 s51 s52 s53 s54 s55 s56 s57 s58 s59 s60 s61 s62 s63 s64 s65 s66 s67 s68 s69 s70 s71 s72 s73 s74 s75 s76 s77 s78 s79 s80 s81 s82 s83 s84 s85 s86 s87 s88 s89 s90 s91 s92 s93 s94 s95 s96 s97 s98 s99 s100 s101 s102 s103 s104 s105 s106 s107 s108 s109 s110 s111 s112 s113 s114 s115 s116 s117 s118 s119 s120 s121 s122 s123 s124 s125 s126 s127 s128 s129 s130 s131 s132 s133 s134 s135 s136 s137 s138 s139 s140 s141 s142 s143 s144 s145 s146 s147 s148 s149 s150 s151 s152 s153 s154 s155 s156 s157 s158 s159 s160 s161 s162 s163 s164 s165 s166 s167 s168 s169 s170 s171 s172 s173 s174 s175 s176 s177 s178 s179 s180 s181 s182 s183 s184 s185 s186 s187 s188 s189 s190 s191 s192 s193 s194 s195 s196 s197 s198 s199 s200 s201 s202 s203 s204 s205 s206 s207 s208 s209 s210 s211 s212 s213 s214 s215 s216 s217 s218 s219 s220 s221 s222 s223 s224 s225 s226 s227 s228 s229 s230 s231 s232 s233 s234 s235 s236 s237 s238 s239 s240 s241 s242 s243 s244 s245 s246 s247 s248 s249 s250 s251 s252 s253 s254 s255 s256 s257 s258 s259 s260 s261 s262 s263 s264 s265 s266 s267 s268 s269 s270 : Value} (K1 K2 : Act → World → Prop) (x y zc : Code) (hK1 : ∀ a w', y.wp Try.prog (Exit.then K2 (bodyPost Try.prog Try.f35 P0)) a w' → K1 a w') (hK2 : ∀ a w', zc.wp Try.prog (bodyPost Try.prog Try.f35 P0) a w' → K2 a w') (hcut : Try.f35.body.bind (cutIfE 4) = some (x, y, zc)) :
    x.wp Try.prog (Exit.then K1 (Exit.then K2 (bodyPost Try.prog Try.f35 P0))) { tmps := (.pointer (some ⟨b, 0, none⟩) :: s1 :: .int .i64 z :: s3 :: .pointer (some ⟨AB, 0, none⟩) :: s5 :: s6 :: s7 :: .bool true :: .bool true :: s10 :: s11 :: s12 :: s13 :: s14 :: s15 :: s16 :: s17 :: s18 :: s19 :: s20 :: s21 :: s22 :: s23 :: s24 :: s25 :: s26 :: s27 :: s28 :: s29 :: s30 :: s31 :: s32 :: s33 :: s34 :: s35 :: s36 :: s37 :: s38 :: s39 :: s40 :: s41 :: s42 :: s43 :: s44 :: s45 :: s46 :: s47 :: s48 :: s49 :: s50 :: s51 :: s52 :: s53 :: s54 :: s55 :: s56 :: s57 :: s58 :: s59 :: s60 :: s61 :: s62 :: s63 :: s64 :: s65 :: s66 :: s67 :: s68 :: s69 :: s70 :: s71 :: s72 :: s73 :: s74 :: s75 :: s76 :: s77 :: s78 :: s79 :: s80 :: s81 :: s82 :: s83 :: s84 :: s85 :: s86 :: s87 :: s88 :: s89 :: s90 :: s91 :: s92 :: s93 :: s94 :: s95 :: s96 :: s97 :: s98 :: s99 :: s100 :: s101 :: s102 :: s103 :: s104 :: s105 :: s106 :: s107 :: s108 :: s109 :: s110 :: s111 :: s112 :: s113 :: s114 :: s115 :: s116 :: s117 :: s118 :: s119 :: s120 :: s121 :: s122 :: s123 :: s124 :: s125 :: s126 :: s127 :: s128 :: s129 :: s130 :: s131 :: s132 :: s133 :: s134 :: s135 :: s136 :: s137 :: s138 :: s139 :: s140 :: s141 :: s142 :: s143 :: s144 :: s145 :: s146 :: s147 :: s148 :: s149 :: s150 :: s151 :: s152 :: s153 :: s154 :: s155 :: s156 :: s157 :: s158 :: s159 :: s160 :: s161 :: s162 :: s163 :: s164 :: s165 :: s166 :: s167 :: s168 :: s169 :: s170 :: s171 :: s172 :: s173 :: s174 :: s175 :: s176 :: s177 :: s178 :: s179 :: s180 :: s181 :: s182 :: s183 :: s184 :: s185 :: s186 :: s187 :: s188 :: s189 :: s190 :: s191 :: s192 :: s193 :: s194 :: s195 :: s196 :: s197 :: s198 :: s199 :: s200 :: s201 :: s202 :: s203 :: s204 :: s205 :: s206 :: s207 :: s208 :: s209 :: s210 :: s211 :: s212 :: s213 :: s214 :: s215 :: s216 :: s217 :: s218 :: s219 :: s220 :: s221 :: s222 :: s223 :: s224 :: s225 :: s226 :: s227 :: s228 :: s229 :: s230 :: s231 :: s232 :: s233 :: s234 :: s235 :: s236 :: s237 :: s238 :: s239 :: s240 :: s241 :: s242 :: s243 :: s244 :: s245 :: s246 :: s247 :: s248 :: s249 :: s250 :: s251 :: s252 :: s253 :: s254 :: s255 :: s256 :: s257 :: s258 :: s259 :: s260 :: s261 :: s262 :: s263 :: s264 :: s265 :: s266 :: s267 :: s268 :: s269 :: s270 :: []).toArray, defers := [] } Wt := by
  have hcc : Try.f35.body.bind (cutIfE 4) = some (_, _, _) := rfl
  rw [hcc] at hcut
  cases hcut
  clear hcc
  obtain ⟨⟨q0, q1, q2, q3⟩, ⟨qf0, qf1, qf2, qf3⟩, ql⟩ := block4 hAB
  obtain ⟨⟨m0, m1, m2, m3⟩, ⟨mf0, mf1, mf2, mf3⟩, ml⟩ := block4 h.blk
  have HQ := hide hAB; have HP := hide hP; have HR := hide h; have HG := hide hg; have HND := hide hnd
  have HLO : Hid (lo ≤ Wt.heap.size) := Nat.le_trans h.low.1 (Nat.le_of_lt h.blt)
  obtain ⟨gb, go, ear, t1, tf1, hl5, hlow5, hglt⟩ := h.regAt hta
  have k1 : (0 : Int) ≤ (ta : Int) := by omega
  have k2 : (ta : Int) < (nr : Int) := by omega
  have hlb := h.lbs
  have hABl := size_of hAB
  have n1 : b ≠ gb := fun e => by rw [← e] at hl5; omega
  have n2 : AB ≠ gb := fun e => by rw [← e] at hl5; omega
  obtain ⟨gb', go', ear', r2, _, _, _, _⟩ := h.regAt hj
  rw [ear] at ear'
  cases ear'
  rw [hv] at r2
  have j1 : (0 : Int) ≤ (j : Int) := by omega
  have j2 : (j : Int) < (nr : Int) := by omega
  have HR2c := hide r2
  subst ear
  have HS3 : Hid (∀ (W : World) (u : Value), (W.cell? ⟨b, 1, none⟩ = some (.slice (some ⟨gb, go, none⟩) nr cr) ∧ W.cell? ⟨AB, 1, none⟩ = some (.int .i64 (ta : Int))) → (W.setCell ⟨gb, go + ta, none⟩ u).cell? ⟨b, 1, none⟩ = some (.slice (some ⟨gb, go, none⟩) nr cr) ∧ (W.setCell ⟨gb, go + ta, none⟩ u).cell? ⟨AB, 1, none⟩ = some (.int .i64 (ta : Int))) := fun W u hW => ⟨cell_other hW.1 (Or.inl n1) u, cell_other hW.2 (Or.inl n2) u⟩
  have HSDR : Hid (∀ W : World, (W.cell? ⟨b, 1, none⟩ = some (.slice (some ⟨gb, go, none⟩) nr cr) ∧ W.cell? ⟨AB, 1, none⟩ = some (.int .i64 (ta : Int))) → W.drew.cell? ⟨b, 1, none⟩ = some (.slice (some ⟨gb, go, none⟩) nr cr) ∧ W.drew.cell? ⟨AB, 1, none⟩ = some (.int .i64 (ta : Int))) := fun W hW => hW
  have HW5 := hide hlow5
  have HT1 := hide t1; have HTF := hide tf1; have HGL := hide hglt; have HABL := hide hABl
  clear t1 tf1 hl5 hlow5 hglt hlb hABl n1 n2 r2 
  clear hAB hP h hg hnd
  go_upto_region 27 with fail
  have HS2 : Hid ((fun W : World => W.cell? ⟨b, 1, none⟩ = some (.slice (some ⟨gb, go, none⟩) nr cr) ∧ W.cell? ⟨AB, 3, none⟩ = some (.int .i64 (j : Int)) ∧ W.cell? ⟨gb, go + j, none⟩ = some (.int .i64 v)) Wt) := ⟨m1, q3, unhide HR2c⟩
  have HS2d : Hid ((fun W : World => W.cell? ⟨b, 1, none⟩ = some (.slice (some ⟨gb, go, none⟩) nr cr) ∧ W.cell? ⟨AB, 3, none⟩ = some (.int .i64 (j : Int)) ∧ W.cell? ⟨gb, go + j, none⟩ = some (.int .i64 v)) Wt.drew) := unhide HS2
  clear q0 q1 q2 q3 qf0 qf1 qf2 qf3 ql m0 m1 m2 m3 mf0 mf1 mf2 mf3 ml
  go_region_held3 (fun W => W.cell? ⟨b, 1, none⟩ = some (.slice (some ⟨gb, go, none⟩) nr cr) ∧ W.cell? ⟨AB, 3, none⟩ = some (.int .i64 (j : Int)) ∧ W.cell? ⟨gb, go + j, none⟩ = some (.int .i64 v))
    (first | with_reducible exact unhide HS2 | with_reducible exact unhide HS2d)
    (fail)
  obtain ⟨W3, e3⟩ : ∃ X, Wt.drew = X := ⟨_, rfl⟩
  have HB3 : Hid (Below Wt.heap.size Wt W3) := by rw [← e3]; exact (Below.refl _ _).drew
  rw [e3]
  clear e3 HS2 HS2d
  go_upto_region 28 with fail
  have HRC := hide ((unhide HR).keep (unhide HB3))
  have HBC := HB3
  have HS8 : Hid ((fun W : World => W.cell? ⟨b, 1, none⟩ = some (.slice (some ⟨gb, go, none⟩) nr cr) ∧ W.cell? ⟨AB, 1, none⟩ = some (.int .i64 (ta : Int))) W3) := ⟨(block4 (unhide HRC).blk).1.2.1, (block4 (keep_below (unhide HQ) (unhide HBC))).1.2.1⟩
  have HS8d : Hid ((fun W : World => W.cell? ⟨b, 1, none⟩ = some (.slice (some ⟨gb, go, none⟩) nr cr) ∧ W.cell? ⟨AB, 1, none⟩ = some (.int .i64 (ta : Int))) W3.drew) := unhide HS8
  have g1 := cell_of (unhide HT1) ((unhide HBC).block gb (unhide HGL))
  have f1 := froz_of (unhide HTF) ((unhide HBC).block gb (unhide HGL))
  have g2 : W3.drew.cell? ⟨gb, go + ta, none⟩ = some (.int .i64 (g.rs.getD ta 0)) := g1
  have f2 : W3.drew.frozen? ⟨gb, go + ta, none⟩ = false := f1
  go_region_held3 (fun W => W.cell? ⟨b, 1, none⟩ = some (.slice (some ⟨gb, go, none⟩) nr cr) ∧ W.cell? ⟨AB, 1, none⟩ = some (.int .i64 (ta : Int)))
    (first | with_reducible exact unhide HS8 | with_reducible exact unhide HS8d | (repeat (first | with_reducible exact unhide HS8 | with_reducible exact unhide HS8d | with_reducible refine unhide HS3 _ _ ?_ | with_reducible refine unhide HSDR _ ?_)))
    (fail)
  all_goals
    obtain ⟨W8, e8⟩ : ∃ X, (W3.setCell ⟨gb, go + ta, none⟩ (.int .i64 v)).drew = X := ⟨_, rfl⟩
    have HR8 : Hid (RfL lo W8 lab b oa n co (some ⟨gb, go, none⟩) nr cr wb cw vl ⟨g.os, g.rs.set ta v, g.mm⟩) := by rw [← e8]; exact ((unhide HRC).setReg hta rfl v).1.keep (Below.refl _ _).drew
    have HX8 : Hid (Below lo Wt W8) := by rw [← e8]; exact (((unhide HBC).mono (unhide HLO)).setCell (p := ⟨gb, go + ta, none⟩) (unhide HW5) _).drew
    try rw [e8]
    clear e8
    go_wp2_with fail
    exact unhide HP _ (RfX.of (unhide HR8)) (unhide HX8)

set_option maxRecDepth 100000 in
set_option maxHeartbeats 4000000 in
theorem act_lk {lo : Nat} {Wt : World} {lab : Nat → Nat} {b : Nat} {oa : Option Addr} {n co : Nat} {ar : Option Addr} {nr cr wb cw : Nat} {vl : Value} {g : Gm} (h : RfL lo Wt lab b oa n co ar nr cr wb cw vl g) (hg : GoodG g) (hnd : NodG g.mm) (AB : Nat) (z : Int) (C : Bool) (ta : Nat) (hta : ta < nr) (i f s m : Nat) (hi : i < nr) (hq : regG g (i : Int) = (f : Int)) (hf : f < n) (hm : (g.os.getD f []).length = m) (hs : s < m) (v : Int) (hv : (g.os.getD f []).getD s 0 = v) (hAB : Wt.heap[AB]? = some (.cells #[.int .i64 2, .int .i64 (ta : Int), .int .i64 (s : Int), .int .i64 (i : Int)] 47 (0, 0))) (hla : lab AB = 0) (P0 : Ending → World → Prop) (hP : ∀ w', RfX lo w' b ⟨g.os, g.rs.set ta v, g.mm⟩ → Below lo Wt w' → P0 (.returned (.int .i64 0)) w')
    {s1 s3 s5 s6 s7 s10 s11 s12 s13 s14 s15 s16 s17 s18 s19 s20 s21 s22 s23 s24 s25 s26 s27 s28 s29 s30 s31 s32 s33 s34 s35 s36 s37 s38 s39 s40 s41 s42 s43 s44 s45 s46 s47 s48 s49 s50 s51 s52 s53 s54 s55 s56 s57 s58 s59 s60 s61 s62 s63 s64 s65 s66 s67 s68 s69 s70 s71 s72 s73 s74 s75 s76 s77 s78 s79 s80 s81 s82 s83 s84 s85 s86 s87 s88 s89 s90 s91 s92 s93 s94 s95 s96 s97 s98 s99 s100 s101 s102 s103 s104 s105 s106 s107 s108 s109 s110 s111 s112 s113 s114 s115 s116 s117 s118 s119 s120 s121 s122 s123 s124 s125 s126 s127 s128 s129 s130 s131 s132 s133 s134 s135 s136 s137 s138 s139 s140 s141 s142 s143 s144 s145 s146 s147 s148 s149 s150 s151 s152 s153 s154 s155 s156 s157 s158 s159 s160 s161 s162 s163 s164 s165 s166 s167 s168 s169 s170 s171 s172 s173 s174 s175 s176 s177 s178 s179 s180 s181 s182 s183 s184 s185 s186 s187 s188 s189 s190 s191 s192 s193 s194 s195 s196 s197 s198 s199 s200 s201 s202 s203 s204 s205 s206 s207 s208 s209 s210 s211 s212 s213 s214 s215 s216 s217 s218 s219 s220 s221 s222 s223 s224 s225 s226 s227 s228 s229 s230 s231 s232 s233 s234 s235 s236 s237 s238 s239 s240 s241 s242 s243 s244 s245 s246 s247 s248 s249 s250 s251 s252 s253 s254 s255 s256 s257 s258 s259 s260 s261 s262 s263 s264 s265 s266 s267 s268 s269 s270 : Value} (K1 K2 : Act → World → Prop) (x y zc : Code) (hK1 : ∀ a w', y.wp Try.prog (Exit.then K2 (bodyPost Try.prog Try.f35 P0)) a w' → K1 a w') (hK2 : ∀ a w', zc.wp Try.prog (bodyPost Try.prog Try.f35 P0) a w' → K2 a w') (hcut : Try.f35.body.bind (cutIfE 4) = some (x, y, zc)) :
    x.wp Try.prog (Exit.then K1 (Exit.then K2 (bodyPost Try.prog Try.f35 P0))) { tmps := (.pointer (some ⟨b, 0, none⟩) :: s1 :: .int .i64 z :: s3 :: .pointer (some ⟨AB, 0, none⟩) :: s5 :: s6 :: s7 :: .bool true :: .bool C :: s10 :: s11 :: s12 :: s13 :: s14 :: s15 :: s16 :: s17 :: s18 :: s19 :: s20 :: s21 :: s22 :: s23 :: s24 :: s25 :: s26 :: s27 :: s28 :: s29 :: s30 :: s31 :: s32 :: s33 :: s34 :: s35 :: s36 :: s37 :: s38 :: s39 :: s40 :: s41 :: s42 :: s43 :: s44 :: s45 :: s46 :: s47 :: s48 :: s49 :: s50 :: s51 :: s52 :: s53 :: s54 :: s55 :: s56 :: s57 :: s58 :: s59 :: s60 :: s61 :: s62 :: s63 :: s64 :: s65 :: s66 :: s67 :: s68 :: s69 :: s70 :: s71 :: s72 :: s73 :: s74 :: s75 :: s76 :: s77 :: s78 :: s79 :: s80 :: s81 :: s82 :: s83 :: s84 :: s85 :: s86 :: s87 :: s88 :: s89 :: s90 :: s91 :: s92 :: s93 :: s94 :: s95 :: s96 :: s97 :: s98 :: s99 :: s100 :: s101 :: s102 :: s103 :: s104 :: s105 :: s106 :: s107 :: s108 :: s109 :: s110 :: s111 :: s112 :: s113 :: s114 :: s115 :: s116 :: s117 :: s118 :: s119 :: s120 :: s121 :: s122 :: s123 :: s124 :: s125 :: s126 :: s127 :: s128 :: s129 :: s130 :: s131 :: s132 :: s133 :: s134 :: s135 :: s136 :: s137 :: s138 :: s139 :: s140 :: s141 :: s142 :: s143 :: s144 :: s145 :: s146 :: s147 :: s148 :: s149 :: s150 :: s151 :: s152 :: s153 :: s154 :: s155 :: s156 :: s157 :: s158 :: s159 :: s160 :: s161 :: s162 :: s163 :: s164 :: s165 :: s166 :: s167 :: s168 :: s169 :: s170 :: s171 :: s172 :: s173 :: s174 :: s175 :: s176 :: s177 :: s178 :: s179 :: s180 :: s181 :: s182 :: s183 :: s184 :: s185 :: s186 :: s187 :: s188 :: s189 :: s190 :: s191 :: s192 :: s193 :: s194 :: s195 :: s196 :: s197 :: s198 :: s199 :: s200 :: s201 :: s202 :: s203 :: s204 :: s205 :: s206 :: s207 :: s208 :: s209 :: s210 :: s211 :: s212 :: s213 :: s214 :: s215 :: s216 :: s217 :: s218 :: s219 :: s220 :: s221 :: s222 :: s223 :: s224 :: s225 :: s226 :: s227 :: s228 :: s229 :: s230 :: s231 :: s232 :: s233 :: s234 :: s235 :: s236 :: s237 :: s238 :: s239 :: s240 :: s241 :: s242 :: s243 :: s244 :: s245 :: s246 :: s247 :: s248 :: s249 :: s250 :: s251 :: s252 :: s253 :: s254 :: s255 :: s256 :: s257 :: s258 :: s259 :: s260 :: s261 :: s262 :: s263 :: s264 :: s265 :: s266 :: s267 :: s268 :: s269 :: s270 :: []).toArray, defers := [] } Wt := by
  have hcc : Try.f35.body.bind (cutIfE 4) = some (_, _, _) := rfl
  rw [hcc] at hcut
  cases hcut
  clear hcc
  obtain ⟨⟨q0, q1, q2, q3⟩, ⟨qf0, qf1, qf2, qf3⟩, ql⟩ := block4 hAB
  obtain ⟨⟨m0, m1, m2, m3⟩, ⟨mf0, mf1, mf2, mf3⟩, ml⟩ := block4 h.blk
  have HQ := hide hAB; have HP := hide hP; have HR := hide h; have HG := hide hg; have HND := hide hnd
  have HLO : Hid (lo ≤ Wt.heap.size) := Nat.le_trans h.low.1 (Nat.le_of_lt h.blt)
  obtain ⟨gb, go, ear, t1, tf1, hl5, hlow5, hglt⟩ := h.regAt hta
  have k1 : (0 : Int) ≤ (ta : Int) := by omega
  have k2 : (ta : Int) < (nr : Int) := by omega
  have hlb := h.lbs
  have hABl := size_of hAB
  have n1 : b ≠ gb := fun e => by rw [← e] at hl5; omega
  have n2 : AB ≠ gb := fun e => by rw [← e] at hl5; omega
  obtain ⟨bo, rb, ro, c, eoa, hc, hcell, _, hlr, _, hrlt⟩ := h.slotAt hf hm hs
  rw [hv] at hcell
  obtain ⟨gb', go', ear', r1, _, _, _, _⟩ := h.regAt hi
  rw [ear] at ear'
  cases ear'
  rw [← regG_at, hq] at r1
  have hf1 : hasSlB g (i : Int) (s : Int) = true := by
    unfold hasSlB hasRB
    rw [rowG_at hq, hq, hm, h.hr]
    have e1 : decide ((0 : Int) ≤ (i : Int)) = true := decide_eq_true (by omega)
    have e2 : decide ((i : Int) < (nr : Int)) = true := decide_eq_true (by omega)
    have e3 : decide ((f : Int) = -1) = false := decide_eq_false (by omega)
    have e4 : decide ((0 : Int) ≤ (s : Int)) = true := decide_eq_true (by omega)
    have e5 : decide ((s : Int) < (m : Int)) = true := decide_eq_true (by omega)
    rw [e1, e2, e3, e4, e5]
    rfl
  have HF := hide hf1
  have i1 : (0 : Int) ≤ (i : Int) := by omega
  have i2 : (i : Int) < (nr : Int) := by omega
  have i3 : (0 : Int) ≤ (f : Int) := by omega
  have i4 : (f : Int) < (n : Int) := by omega
  have i5 : (0 : Int) ≤ (s : Int) := by omega
  have i6 : (s : Int) < (m : Int) := by omega
  obtain ⟨_, _, hbol, _, hlbo⟩ := h.olo eoa
  have n3 : bo ≠ gb := fun e => by rw [← e] at hl5; omega
  have n4 : rb ≠ gb := fun e => by rw [← e] at hl5; omega
  subst ear
  subst eoa
  have HSS : Hid (∀ W : World, Below Wt.heap.size Wt W → W.cell? ⟨b, 0, none⟩ = some (.slice (some ⟨bo, 0, none⟩) n co) ∧ W.cell? ⟨b, 1, none⟩ = some (.slice (some ⟨gb, go, none⟩) nr cr) ∧ W.cell? ⟨AB, 1, none⟩ = some (.int .i64 (ta : Int)) ∧ W.cell? ⟨AB, 2, none⟩ = some (.int .i64 (s : Int)) ∧ W.cell? ⟨AB, 3, none⟩ = some (.int .i64 (i : Int)) ∧ W.cell? ⟨bo, f, none⟩ = some (.slice (some ⟨rb, ro, none⟩) m c) ∧ W.cell? ⟨rb, ro + s, none⟩ = some (.int .i64 v)) := fun W hW => ⟨(block4 (keep_below h.blk hW)).1.1, (block4 (keep_below h.blk hW)).1.2.1, cell_of q1 (hW.block AB hABl), cell_of q2 (hW.block AB hABl), cell_of q3 (hW.block AB hABl), cell_of hc (hW.block bo hbol), cell_of hcell (hW.block rb hrlt)⟩
  have HS3 : Hid (∀ (W : World) (u : Value), (W.cell? ⟨b, 0, none⟩ = some (.slice (some ⟨bo, 0, none⟩) n co) ∧ W.cell? ⟨b, 1, none⟩ = some (.slice (some ⟨gb, go, none⟩) nr cr) ∧ W.cell? ⟨AB, 1, none⟩ = some (.int .i64 (ta : Int)) ∧ W.cell? ⟨AB, 2, none⟩ = some (.int .i64 (s : Int)) ∧ W.cell? ⟨AB, 3, none⟩ = some (.int .i64 (i : Int)) ∧ W.cell? ⟨bo, f, none⟩ = some (.slice (some ⟨rb, ro, none⟩) m c) ∧ W.cell? ⟨rb, ro + s, none⟩ = some (.int .i64 v)) → (W.setCell ⟨gb, go + ta, none⟩ u).cell? ⟨b, 0, none⟩ = some (.slice (some ⟨bo, 0, none⟩) n co) ∧ (W.setCell ⟨gb, go + ta, none⟩ u).cell? ⟨b, 1, none⟩ = some (.slice (some ⟨gb, go, none⟩) nr cr) ∧ (W.setCell ⟨gb, go + ta, none⟩ u).cell? ⟨AB, 1, none⟩ = some (.int .i64 (ta : Int)) ∧ (W.setCell ⟨gb, go + ta, none⟩ u).cell? ⟨AB, 2, none⟩ = some (.int .i64 (s : Int)) ∧ (W.setCell ⟨gb, go + ta, none⟩ u).cell? ⟨AB, 3, none⟩ = some (.int .i64 (i : Int)) ∧ (W.setCell ⟨gb, go + ta, none⟩ u).cell? ⟨bo, f, none⟩ = some (.slice (some ⟨rb, ro, none⟩) m c) ∧ (W.setCell ⟨gb, go + ta, none⟩ u).cell? ⟨rb, ro + s, none⟩ = some (.int .i64 v)) := fun W u hW => ⟨cell_other hW.1 (Or.inl n1) u, cell_other hW.2.1 (Or.inl n1) u, cell_other hW.2.2.1 (Or.inl n2) u, cell_other hW.2.2.2.1 (Or.inl n2) u, cell_other hW.2.2.2.2.1 (Or.inl n2) u, cell_other hW.2.2.2.2.2.1 (Or.inl n3) u, cell_other hW.2.2.2.2.2.2 (Or.inl n4) u⟩
  have HW5 := hide hlow5
  have HT1 := hide t1; have HTF := hide tf1; have HGL := hide hglt; have HR1 := hide r1
  clear t1 tf1 hl5 hlow5 hglt hlb n1 n2 n3 n4 r1 hc hcell hlr hrlt hbol hlbo hf1 hq hv hm
  clear hAB hP h hg hnd
  have HTH := hide (there_any (unhide HR) (unhide HG) (i : Int) (s : Int))
  go_upto_region 21 with (go_at_call 48; (with_reducible refine Calls.mono (unhide HTH) ?_); rintro e w2 ⟨rfl, hb2⟩; rw [unhide HF]; have HB2 := hide hb2; have HR2 := hide ((unhide HR).keep hb2); clear hb2)
  clear q0 q1 q2 q3 qf0 qf1 qf2 qf3 ql m0 m1 m2 m3 mf0 mf1 mf2 mf3 ml
  have HB2d : Hid (Below Wt.heap.size Wt w2.drew) := (unhide HB2).drew
  have HS0 := hide (unhide HSS w2.drew (unhide HB2d))
  have r1 := cell_of (unhide HR1) ((unhide HB2d).block gb (unhide HGL))
  have g2 := cell_of (unhide HT1) ((unhide HB2d).block gb (unhide HGL))
  have f2 := froz_of (unhide HTF) ((unhide HB2d).block gb (unhide HGL))
  have r1' : w2.cell? ⟨gb, go + i, none⟩ = some (.int .i64 (f : Int)) := r1
  have g2' : w2.cell? ⟨gb, go + ta, none⟩ = some (.int .i64 (g.rs.getD ta 0)) := g2
  have f2' : w2.frozen? ⟨gb, go + ta, none⟩ = false := f2
  refine wp_region_noPanic ?_
  refine wp_region_held_drew (S := (fun W => W.cell? ⟨b, 0, none⟩ = some (.slice (some ⟨bo, 0, none⟩) n co) ∧ W.cell? ⟨b, 1, none⟩ = some (.slice (some ⟨gb, go, none⟩) nr cr) ∧ W.cell? ⟨AB, 1, none⟩ = some (.int .i64 (ta : Int)) ∧ W.cell? ⟨AB, 2, none⟩ = some (.int .i64 (s : Int)) ∧ W.cell? ⟨AB, 3, none⟩ = some (.int .i64 (i : Int)) ∧ W.cell? ⟨bo, f, none⟩ = some (.slice (some ⟨rb, ro, none⟩) m c) ∧ W.cell? ⟨rb, ro + s, none⟩ = some (.int .i64 v))) (by kernel_rfl) (unhide HS0) (fun hHeld => ?_)
  refine wpAnyH_take (i := 0) (oi := { dst := some 122, op := Op.move (Operand.tmp 0), type := 63, pos := "sweep.go:127", after := #[], guard := none }) (v := ?v0) rfl (by kernel_rfl) (by kernel_rfl) (by kernel_rfl) (fun _ _ _ h => h) (Or.inl ⟨by rfl, ?y0⟩) (by assumption) ?r0
  case y0 => (intro w hSw; (try dsimp only at hSw); go_simp; try with_reducible rfl)
  try simp only [Act.put, List.setIfInBounds_toArray, List.set_cons_zero, List.set_cons_succ]
  refine wpAnyH_take (i := 1) (oi := { dst := some 123, op := Op.nilCheck (Operand.tmp 122), type := 0, pos := "sweep.go:127", after := #[{ on := 0, ground := Ground.data }], guard := none }) (v := ?v1) rfl (by kernel_rfl) (by kernel_rfl) (by kernel_rfl) (fun _ _ _ h => h) (Or.inl ⟨by rfl, ?y1⟩) (by assumption) ?r1
  case y1 => (intro w hSw; (try dsimp only at hSw); go_simp; try with_reducible rfl)
  try simp only [Act.put, List.setIfInBounds_toArray, List.set_cons_zero, List.set_cons_succ]
  refine wpAnyH_take (i := 2) (oi := { dst := some 124, op := Op.fieldAddr 65 (Operand.tmp 123) 0, type := 0, pos := "sweep.go:127", after := #[{ on := 1, ground := Ground.data }], guard := none }) (v := ?v2) rfl (by kernel_rfl) (by kernel_rfl) (by kernel_rfl) (fun _ _ _ h => h) (Or.inl ⟨by rfl, ?y2⟩) (by assumption) ?r2
  case y2 => (intro w hSw; (try dsimp only at hSw); go_simp; try with_reducible rfl)
  try simp only [Act.put, List.setIfInBounds_toArray, List.set_cons_zero, List.set_cons_succ]
  refine wpAnyH_take (i := 3) (oi := { dst := some 125, op := Op.fieldAddr 25 (Operand.tmp 124) 1, type := 0, pos := "sweep.go:127", after := #[{ on := 2, ground := Ground.data }], guard := none }) (v := ?v3) rfl (by kernel_rfl) (by kernel_rfl) (by kernel_rfl) (fun _ _ _ h => h) (Or.inl ⟨by rfl, ?y3⟩) (by assumption) ?r3
  case y3 => (intro w hSw; (try dsimp only at hSw); go_simp; try with_reducible rfl)
  try simp only [Act.put, List.setIfInBounds_toArray, List.set_cons_zero, List.set_cons_succ]
  refine wpAnyH_take (i := 4) (oi := { dst := some 126, op := Op.load 23 (Operand.tmp 125), type := 23, pos := "sweep.go:127", after := #[{ on := 3, ground := Ground.data }], guard := none }) (v := ?v4) rfl (by kernel_rfl) (by kernel_rfl) (by kernel_rfl) (fun _ _ _ h => h) (Or.inl ⟨by rfl, ?y4⟩) (by assumption) ?r4
  case y4 => (intro w hSw; (try dsimp only at hSw); go_simp; try with_reducible rfl)
  try simp only [Act.put, List.setIfInBounds_toArray, List.set_cons_zero, List.set_cons_succ]
  refine wpAnyH_take (i := 5) (oi := { dst := some 127, op := Op.fieldAddr 47 (Operand.tmp 4) 1, type := 0, pos := "sweep.go:127", after := #[], guard := none }) (v := ?v5) rfl (by kernel_rfl) (by kernel_rfl) (by kernel_rfl) (fun _ _ _ h => h) (Or.inl ⟨by rfl, ?y5⟩) (by assumption) ?r5
  case y5 => (intro w hSw; (try dsimp only at hSw); go_simp; try with_reducible rfl)
  try simp only [Act.put, List.setIfInBounds_toArray, List.set_cons_zero, List.set_cons_succ]
  refine wpAnyH_take (i := 6) (oi := { dst := some 128, op := Op.load 3 (Operand.tmp 127), type := 3, pos := "sweep.go:127", after := #[{ on := 5, ground := Ground.data }], guard := none }) (v := ?v6) rfl (by kernel_rfl) (by kernel_rfl) (by kernel_rfl) (fun _ _ _ h => h) (Or.inl ⟨by rfl, ?y6⟩) (by assumption) ?r6
  case y6 => (intro w hSw; (try dsimp only at hSw); go_simp; try with_reducible rfl)
  try simp only [Act.put, List.setIfInBounds_toArray, List.set_cons_zero, List.set_cons_succ]
  refine wpAnyH_take (i := 7) (oi := { dst := some 129, op := Op.move (Operand.tmp 0), type := 63, pos := "sweep.go:127", after := #[], guard := none }) (v := ?v7) rfl (by kernel_rfl) (by kernel_rfl) (by kernel_rfl) (fun _ _ _ h => h) (Or.inl ⟨by rfl, ?y7⟩) (by assumption) ?r7
  case y7 => (intro w hSw; (try dsimp only at hSw); go_simp; try with_reducible rfl)
  try simp only [Act.put, List.setIfInBounds_toArray, List.set_cons_zero, List.set_cons_succ]
  refine wpAnyH_take (i := 8) (oi := { dst := some 130, op := Op.nilCheck (Operand.tmp 129), type := 0, pos := "sweep.go:127", after := #[{ on := 7, ground := Ground.data }], guard := none }) (v := ?v8) rfl (by kernel_rfl) (by kernel_rfl) (by kernel_rfl) (fun _ _ _ h => h) (Or.inl ⟨by rfl, ?y8⟩) (by assumption) ?r8
  case y8 => (intro w hSw; (try dsimp only at hSw); go_simp; try with_reducible rfl)
  try simp only [Act.put, List.setIfInBounds_toArray, List.set_cons_zero, List.set_cons_succ]
  refine wpAnyH_take (i := 9) (oi := { dst := some 131, op := Op.fieldAddr 65 (Operand.tmp 130) 0, type := 0, pos := "sweep.go:127", after := #[{ on := 8, ground := Ground.data }], guard := none }) (v := ?v9) rfl (by kernel_rfl) (by kernel_rfl) (by kernel_rfl) (fun _ _ _ h => h) (Or.inl ⟨by rfl, ?y9⟩) (by assumption) ?r9
  case y9 => (intro w hSw; (try dsimp only at hSw); go_simp; try with_reducible rfl)
  try simp only [Act.put, List.setIfInBounds_toArray, List.set_cons_zero, List.set_cons_succ]
  refine wpAnyH_take (i := 10) (oi := { dst := some 132, op := Op.fieldAddr 25 (Operand.tmp 131) 0, type := 0, pos := "sweep.go:127", after := #[{ on := 9, ground := Ground.data }], guard := none }) (v := ?v10) rfl (by kernel_rfl) (by kernel_rfl) (by kernel_rfl) (fun _ _ _ h => h) (Or.inl ⟨by rfl, ?y10⟩) (by assumption) ?r10
  case y10 => (intro w hSw; (try dsimp only at hSw); go_simp; try with_reducible rfl)
  try simp only [Act.put, List.setIfInBounds_toArray, List.set_cons_zero, List.set_cons_succ]
  refine wpAnyH_take (i := 11) (oi := { dst := some 133, op := Op.load 22 (Operand.tmp 132), type := 22, pos := "sweep.go:127", after := #[{ on := 10, ground := Ground.data }], guard := none }) (v := ?v11) rfl (by kernel_rfl) (by kernel_rfl) (by kernel_rfl) (fun _ _ _ h => h) (Or.inl ⟨by rfl, ?y11⟩) (by assumption) ?r11
  case y11 => (intro w hSw; (try dsimp only at hSw); go_simp; try with_reducible rfl)
  try simp only [Act.put, List.setIfInBounds_toArray, List.set_cons_zero, List.set_cons_succ]
  refine wpAnyH_take (i := 12) (oi := { dst := some 134, op := Op.move (Operand.tmp 0), type := 63, pos := "sweep.go:127", after := #[], guard := none }) (v := ?v12) rfl (by kernel_rfl) (by kernel_rfl) (by kernel_rfl) (fun _ _ _ h => h) (Or.inl ⟨by rfl, ?y12⟩) (by assumption) ?r12
  case y12 => (intro w hSw; (try dsimp only at hSw); go_simp; try with_reducible rfl)
  try simp only [Act.put, List.setIfInBounds_toArray, List.set_cons_zero, List.set_cons_succ]
  refine wpAnyH_take (i := 13) (oi := { dst := some 135, op := Op.nilCheck (Operand.tmp 134), type := 0, pos := "sweep.go:127", after := #[{ on := 12, ground := Ground.data }], guard := none }) (v := ?v13) rfl (by kernel_rfl) (by kernel_rfl) (by kernel_rfl) (fun _ _ _ h => h) (Or.inl ⟨by rfl, ?y13⟩) (by assumption) ?r13
  case y13 => (intro w hSw; (try dsimp only at hSw); go_simp; try with_reducible rfl)
  try simp only [Act.put, List.setIfInBounds_toArray, List.set_cons_zero, List.set_cons_succ]
  refine wpAnyH_take (i := 14) (oi := { dst := some 136, op := Op.fieldAddr 65 (Operand.tmp 135) 0, type := 0, pos := "sweep.go:127", after := #[{ on := 13, ground := Ground.data }], guard := none }) (v := ?v14) rfl (by kernel_rfl) (by kernel_rfl) (by kernel_rfl) (fun _ _ _ h => h) (Or.inl ⟨by rfl, ?y14⟩) (by assumption) ?r14
  case y14 => (intro w hSw; (try dsimp only at hSw); go_simp; try with_reducible rfl)
  try simp only [Act.put, List.setIfInBounds_toArray, List.set_cons_zero, List.set_cons_succ]
  refine wpAnyH_take (i := 15) (oi := { dst := some 137, op := Op.fieldAddr 25 (Operand.tmp 136) 1, type := 0, pos := "sweep.go:127", after := #[{ on := 14, ground := Ground.data }], guard := none }) (v := ?v15) rfl (by kernel_rfl) (by kernel_rfl) (by kernel_rfl) (fun _ _ _ h => h) (Or.inl ⟨by rfl, ?y15⟩) (by assumption) ?r15
  case y15 => (intro w hSw; (try dsimp only at hSw); go_simp; try with_reducible rfl)
  try simp only [Act.put, List.setIfInBounds_toArray, List.set_cons_zero, List.set_cons_succ]
  refine wpAnyH_take (i := 16) (oi := { dst := some 138, op := Op.load 23 (Operand.tmp 137), type := 23, pos := "sweep.go:127", after := #[{ on := 15, ground := Ground.data }], guard := none }) (v := ?v16) rfl (by kernel_rfl) (by kernel_rfl) (by kernel_rfl) (fun _ _ _ h => h) (Or.inl ⟨by rfl, ?y16⟩) (by assumption) ?r16
  case y16 => (intro w hSw; (try dsimp only at hSw); go_simp; try with_reducible rfl)
  try simp only [Act.put, List.setIfInBounds_toArray, List.set_cons_zero, List.set_cons_succ]
  refine wpAnyH_take (i := 17) (oi := { dst := some 139, op := Op.fieldAddr 47 (Operand.tmp 4) 3, type := 0, pos := "sweep.go:127", after := #[], guard := none }) (v := ?v17) rfl (by kernel_rfl) (by kernel_rfl) (by kernel_rfl) (fun _ _ _ h => h) (Or.inl ⟨by rfl, ?y17⟩) (by assumption) ?r17
  case y17 => (intro w hSw; (try dsimp only at hSw); go_simp; try with_reducible rfl)
  try simp only [Act.put, List.setIfInBounds_toArray, List.set_cons_zero, List.set_cons_succ]
  refine wpAnyH_take (i := 18) (oi := { dst := some 140, op := Op.load 3 (Operand.tmp 139), type := 3, pos := "sweep.go:127", after := #[{ on := 17, ground := Ground.data }], guard := none }) (v := ?v18) rfl (by kernel_rfl) (by kernel_rfl) (by kernel_rfl) (fun _ _ _ h => h) (Or.inl ⟨by rfl, ?y18⟩) (by assumption) ?r18
  case y18 => (intro w hSw; (try dsimp only at hSw); go_simp; try with_reducible rfl)
  try simp only [Act.put, List.setIfInBounds_toArray, List.set_cons_zero, List.set_cons_succ]
  refine wpAnyH_take (i := 19) (oi := { dst := some 141, op := Op.indexAddr 23 (Operand.tmp 138) (Operand.tmp 140), type := 0, pos := "sweep.go:127", after := #[{ on := 16, ground := Ground.data }, { on := 18, ground := Ground.data }], guard := none }) (v := ?v19) rfl (by kernel_rfl) (by kernel_rfl) (by kernel_rfl) (fun _ _ _ h => h) (Or.inl ⟨by rfl, ?y19⟩) (by assumption) ?r19
  case y19 => (intro w hSw; (try dsimp only at hSw); go_simp; try with_reducible rfl)
  try simp only [Act.put, List.setIfInBounds_toArray, List.set_cons_zero, List.set_cons_succ]
  refine wpAnyH_take (i := 23) (oi := { dst := some 145, op := Op.fieldAddr 47 (Operand.tmp 4) 2, type := 0, pos := "sweep.go:127", after := #[], guard := none }) (v := ?v23) rfl (by kernel_rfl) (by kernel_rfl) (by kernel_rfl) (fun _ _ _ h => h) (Or.inl ⟨by rfl, ?y23⟩) (by assumption) ?r23
  case y23 => (intro w hSw; (try dsimp only at hSw); go_simp; try with_reducible rfl)
  try simp only [Act.put, List.setIfInBounds_toArray, List.set_cons_zero, List.set_cons_succ]
  refine wpAnyH_take (i := 24) (oi := { dst := some 146, op := Op.load 3 (Operand.tmp 145), type := 3, pos := "sweep.go:127", after := #[{ on := 23, ground := Ground.data }], guard := none }) (v := ?v24) rfl (by kernel_rfl) (by kernel_rfl) (by kernel_rfl) (fun _ _ _ h => h) (Or.inl ⟨by rfl, ?y24⟩) (by assumption) ?r24
  case y24 => (intro w hSw; (try dsimp only at hSw); go_simp; try with_reducible rfl)
  try simp only [Act.put, List.setIfInBounds_toArray, List.set_cons_zero, List.set_cons_succ]
  refine wpAnyH_ready (rs := [20]) (by kernel_rfl) (by simp) ?_
  refine AllReadyH.cons (o := { dst := some 142, op := Op.load 3 (Operand.tmp 141), type := 3, pos := "sweep.go:127", after := #[{ on := 19, ground := Ground.data }], guard := none }) rfl (fun K hK => ?_) AllReadyH.nil
  go_simp
  skip
  refine hK.out _ _ (unhide HS0) (fun hHeld => ?_)
  clear hK K
  try simp only [Act.put, List.setIfInBounds_toArray, List.set_cons_zero, List.set_cons_succ]
  refine wpAnyH_take (i := 21) (oi := { dst := some 143, op := Op.indexAddr 22 (Operand.tmp 133) (Operand.tmp 142), type := 0, pos := "sweep.go:127", after := #[{ on := 11, ground := Ground.data }, { on := 20, ground := Ground.data }], guard := none }) (v := ?v21) rfl (by kernel_rfl) (by kernel_rfl) (by kernel_rfl) (fun _ _ _ h => h) (Or.inl ⟨by rfl, ?y21⟩) (by assumption) ?r21
  case y21 => (intro w hSw; (try dsimp only at hSw); go_simp; try with_reducible rfl)
  try simp only [Act.put, List.setIfInBounds_toArray, List.set_cons_zero, List.set_cons_succ]
  refine wpAnyH_take (i := 22) (oi := { dst := some 144, op := Op.load 23 (Operand.tmp 143), type := 23, pos := "sweep.go:127", after := #[{ on := 21, ground := Ground.data }], guard := none }) (v := ?v22) rfl (by kernel_rfl) (by kernel_rfl) (by kernel_rfl) (fun _ _ _ h => h) (Or.inl ⟨by rfl, ?y22⟩) (by assumption) ?r22
  case y22 => (intro w hSw; (try dsimp only at hSw); go_simp; try with_reducible rfl)
  try simp only [Act.put, List.setIfInBounds_toArray, List.set_cons_zero, List.set_cons_succ]
  refine wpAnyH_take (i := 25) (oi := { dst := some 147, op := Op.indexAddr 23 (Operand.tmp 144) (Operand.tmp 146), type := 0, pos := "sweep.go:127", after := #[{ on := 22, ground := Ground.data }, { on := 24, ground := Ground.data }], guard := none }) (v := ?v25) rfl (by kernel_rfl) (by kernel_rfl) (by kernel_rfl) (fun _ _ _ h => h) (Or.inl ⟨by rfl, ?y25⟩) (by assumption) ?r25
  case y25 => (intro w hSw; (try dsimp only at hSw); go_simp; try with_reducible rfl)
  try simp only [Act.put, List.setIfInBounds_toArray, List.set_cons_zero, List.set_cons_succ]
  refine wpAnyH_take (i := 26) (oi := { dst := some 148, op := Op.load 3 (Operand.tmp 147), type := 3, pos := "sweep.go:127", after := #[{ on := 25, ground := Ground.data }], guard := none }) (v := ?v26) rfl (by kernel_rfl) (by kernel_rfl) (by kernel_rfl) (fun _ _ _ h => h) (Or.inl ⟨by rfl, ?y26⟩) (by assumption) ?r26
  case y26 => (intro w hSw; (try dsimp only at hSw); go_simp; try with_reducible rfl)
  try simp only [Act.put, List.setIfInBounds_toArray, List.set_cons_zero, List.set_cons_succ]
  refine wpAnyH_take (i := 27) (oi := { dst := some 149, op := Op.indexAddr 23 (Operand.tmp 126) (Operand.tmp 128), type := 0, pos := "sweep.go:127", after := #[{ on := 4, ground := Ground.data }, { on := 6, ground := Ground.data }, { on := 0, ground := Ground.phase }, { on := 1, ground := Ground.phase }, { on := 2, ground := Ground.phase }, { on := 3, ground := Ground.phase }, { on := 4, ground := Ground.phase }, { on := 5, ground := Ground.phase }, { on := 6, ground := Ground.phase }, { on := 7, ground := Ground.phase }, { on := 8, ground := Ground.phase }, { on := 9, ground := Ground.phase }, { on := 10, ground := Ground.phase }, { on := 11, ground := Ground.phase }, { on := 12, ground := Ground.phase }, { on := 13, ground := Ground.phase }, { on := 14, ground := Ground.phase }, { on := 15, ground := Ground.phase }, { on := 16, ground := Ground.phase }, { on := 17, ground := Ground.phase }, { on := 18, ground := Ground.phase }, { on := 19, ground := Ground.phase }, { on := 20, ground := Ground.phase }, { on := 21, ground := Ground.phase }, { on := 22, ground := Ground.phase }, { on := 23, ground := Ground.phase }, { on := 24, ground := Ground.phase }, { on := 25, ground := Ground.phase }, { on := 26, ground := Ground.phase }], guard := none }) (v := ?v27) rfl (by kernel_rfl) (by kernel_rfl) (by kernel_rfl) (fun _ _ _ h => h) (Or.inl ⟨by rfl, ?y27⟩) (by assumption) ?r27
  case y27 => (intro w hSw; (try dsimp only at hSw); go_simp; try with_reducible rfl)
  try simp only [Act.put, List.setIfInBounds_toArray, List.set_cons_zero, List.set_cons_succ]
  refine wpAnyH_ready (rs := [28]) (by kernel_rfl) (by simp) ?_
  refine AllReadyH.cons (o := { dst := none, op := Op.store 3 (Operand.tmp 149) (Operand.tmp 148), type := 0, pos := "sweep.go:127", after := #[{ on := 27, ground := Ground.data }, { on := 26, ground := Ground.data }, { on := 0, ground := Ground.phase }, { on := 1, ground := Ground.phase }, { on := 2, ground := Ground.phase }, { on := 3, ground := Ground.phase }, { on := 4, ground := Ground.phase }, { on := 5, ground := Ground.phase }, { on := 6, ground := Ground.phase }, { on := 7, ground := Ground.phase }, { on := 8, ground := Ground.phase }, { on := 9, ground := Ground.phase }, { on := 10, ground := Ground.phase }, { on := 11, ground := Ground.phase }, { on := 12, ground := Ground.phase }, { on := 13, ground := Ground.phase }, { on := 14, ground := Ground.phase }, { on := 15, ground := Ground.phase }, { on := 16, ground := Ground.phase }, { on := 17, ground := Ground.phase }, { on := 18, ground := Ground.phase }, { on := 19, ground := Ground.phase }, { on := 20, ground := Ground.phase }, { on := 21, ground := Ground.phase }, { on := 22, ground := Ground.phase }, { on := 23, ground := Ground.phase }, { on := 24, ground := Ground.phase }, { on := 25, ground := Ground.phase }, { on := 26, ground := Ground.phase }], guard := none }) rfl (fun K hK => ?_) AllReadyH.nil
  go_simp
  skip
  refine hK.out _ _ (unhide HS3 _ _ (unhide HS0)) (fun hHeld => ?_)
  clear hK K
  try simp only [Act.put, List.setIfInBounds_toArray, List.set_cons_zero, List.set_cons_succ]
  refine wpAnyH_done (by kernel_rfl) ?_ _
  refine NoPanic.normal ?_
  have HRC := HR2
  have HBC := HB2
  all_goals
    obtain ⟨W8, e8⟩ : ∃ X, (w2.setCell ⟨gb, go + ta, none⟩ (.int .i64 v)).drew = X := ⟨_, rfl⟩
    have HR8 : Hid (RfL lo W8 lab b (some ⟨bo, 0, none⟩) n co (some ⟨gb, go, none⟩) nr cr wb cw vl ⟨g.os, g.rs.set ta v, g.mm⟩) := by rw [← e8]; exact ((unhide HRC).setReg hta rfl v).1.keep (Below.refl _ _).drew
    have HX8 : Hid (Below lo Wt W8) := by rw [← e8]; exact (((unhide HBC).mono (unhide HLO)).setCell (p := ⟨gb, go + ta, none⟩) (unhide HW5) _).drew
    try rw [e8]
    clear e8
    go_wp2_with fail
    exact unhide HP _ (RfX.of (unhide HR8)) (unhide HX8)

end Go.Proofs.Ytmkehjncnaokoaa
