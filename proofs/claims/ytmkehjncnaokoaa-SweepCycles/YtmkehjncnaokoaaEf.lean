/-
  taskmillref.Marking.act: writes.
-/
import Derived.Test.YtmkehjncnaokoaaEe
namespace Go.Proofs.Ytmkehjncnaokoaa
open Go.RowKit

set_option maxRecDepth 100000 in
set_option maxHeartbeats 4000000 in
theorem act_wkn0 {lo : Nat} {Wt : World} {lab : Nat → Nat} {b : Nat} {oa : Option Addr} {n co : Nat} {ar : Option Addr} {nr cr wb cw : Nat} {vl : Value} {g : Gm} (h : RfL lo Wt lab b oa n co ar nr cr wb cw vl g) (hg : GoodG g) (hnd : NodG g.mm) (AB : Nat) (A : Bool) (i f s m : Nat) (hi : i < nr) (hq : regG g (i : Int) = (f : Int)) (hf : f < n) (hm : (g.os.getD f []).length = m) (hs : s < m) (old : Int) (hold : (g.os.getD f []).getD s 0 = old) (hAB : Wt.heap[AB]? = some (.cells #[.int .i64 1, .int .i64 (i : Int), .int .i64 (s : Int), .int .i64 (-1)] 47 (0, 0))) (hla : lab AB = 0) (P0 : Ending → World → Prop) (hP : ∀ w', RfX lo w' b ⟨g.os.set f ((g.os.getD f []).set s (-1)), g.rs, shB 0 g.mm old (-1)⟩ → Below lo Wt w' → P0 (.returned (.int .i64 0)) w')
    {s1 s3 s5 s6 s7 s10 s11 s12 s13 s14 s15 s16 s17 s18 s19 s20 s21 s22 s23 s24 s25 s26 s27 s28 s29 s30 s31 s32 s33 s34 s35 s36 s37 s38 s39 s40 s41 s42 s43 s44 s45 s46 s47 s48 s49 s50 s51 s52 s53 s54 s55 s56 s57 s58 s59 s60 s61 s62 s63 s64 s65 s66 s67 s68 s69 s70 s71 s72 s73 s74 s75 s76 s77 s78 s79 s80 s81 s82 s83 s84 s85 s86 s87 s88 s89 s90 s91 s92 s93 s94 s95 s96 s97 s98 s99 s100 s101 s102 s103 s104 s105 s106 s107 s108 s109 s110 s111 s112 s113 s114 s115 s116 s117 s118 s119 s120 s121 s122 s123 s124 s125 s126 s127 s128 s129 s130 s131 s132 s133 s134 s135 s136 s137 s138 s139 s140 s141 s142 s143 s144 s145 s146 s147 s148 s149 s150 s151 s152 s153 s154 s155 s156 s157 s158 s159 s160 s161 s162 s163 s164 s165 s166 s167 s168 s169 s170 s171 s172 s173 s174 s175 s176 s177 s178 s179 s180 s181 s182 s183 s184 s185 s186 s187 s188 s189 s190 s191 s192 s193 s194 s195 s196 s197 s198 s199 s200 s201 s202 s203 s204 s205 s206 s207 s208 s209 s210 s211 s212 s213 s214 s215 s216 s217 s218 s219 s220 s221 s222 s223 s224 s225 s226 s227 s228 s229 s230 s231 s232 s233 s234 s235 s236 s237 s238 s239 s240 s241 s242 s243 s244 s245 s246 s247 s248 s249 s250 s251 s252 s253 s254 s255 s256 s257 s258 s259 s260 s261 s262 s263 s264 s265 s266 s267 s268 s269 s270 : Value} (K1 K2 : Act → World → Prop) (x y zc : Code) (hK1 : ∀ a w', y.wp Try.prog (Exit.then K2 (bodyPost Try.prog Try.f35 P0)) a w' → K1 a w') (hK2 : ∀ a w', zc.wp Try.prog (bodyPost Try.prog Try.f35 P0) a w' → K2 a w') (hcut : Try.f35.body.bind (cutIfE 4) = some (x, y, zc)) :
    x.wp Try.prog (Exit.then K1 (Exit.then K2 (bodyPost Try.prog Try.f35 P0))) { tmps := (.pointer (some ⟨b, 0, none⟩) :: s1 :: .int .i64 0 :: s3 :: .pointer (some ⟨AB, 0, none⟩) :: s5 :: s6 :: s7 :: .bool A :: .bool true :: s10 :: s11 :: s12 :: s13 :: s14 :: s15 :: s16 :: s17 :: s18 :: s19 :: s20 :: s21 :: s22 :: s23 :: s24 :: s25 :: s26 :: s27 :: s28 :: s29 :: s30 :: s31 :: s32 :: s33 :: s34 :: s35 :: s36 :: s37 :: s38 :: s39 :: s40 :: s41 :: s42 :: s43 :: s44 :: s45 :: s46 :: s47 :: s48 :: s49 :: s50 :: s51 :: s52 :: s53 :: s54 :: s55 :: s56 :: s57 :: s58 :: s59 :: s60 :: s61 :: s62 :: s63 :: s64 :: s65 :: s66 :: s67 :: s68 :: s69 :: s70 :: s71 :: s72 :: s73 :: s74 :: s75 :: s76 :: s77 :: s78 :: s79 :: s80 :: s81 :: s82 :: s83 :: s84 :: s85 :: s86 :: s87 :: s88 :: s89 :: s90 :: s91 :: s92 :: s93 :: s94 :: s95 :: s96 :: s97 :: s98 :: s99 :: s100 :: s101 :: s102 :: s103 :: s104 :: s105 :: s106 :: s107 :: s108 :: s109 :: s110 :: s111 :: s112 :: s113 :: s114 :: s115 :: s116 :: s117 :: s118 :: s119 :: s120 :: s121 :: s122 :: s123 :: s124 :: s125 :: s126 :: s127 :: s128 :: s129 :: s130 :: s131 :: s132 :: s133 :: s134 :: s135 :: s136 :: s137 :: s138 :: s139 :: s140 :: s141 :: s142 :: s143 :: s144 :: s145 :: s146 :: s147 :: s148 :: s149 :: s150 :: s151 :: s152 :: s153 :: s154 :: s155 :: s156 :: s157 :: s158 :: s159 :: s160 :: s161 :: s162 :: s163 :: s164 :: s165 :: s166 :: s167 :: s168 :: s169 :: s170 :: s171 :: s172 :: s173 :: s174 :: s175 :: s176 :: s177 :: s178 :: s179 :: s180 :: s181 :: s182 :: s183 :: s184 :: s185 :: s186 :: s187 :: s188 :: s189 :: s190 :: s191 :: s192 :: s193 :: s194 :: s195 :: s196 :: s197 :: s198 :: s199 :: s200 :: s201 :: s202 :: s203 :: s204 :: s205 :: s206 :: s207 :: s208 :: s209 :: s210 :: s211 :: s212 :: s213 :: s214 :: s215 :: s216 :: s217 :: s218 :: s219 :: s220 :: s221 :: s222 :: s223 :: s224 :: s225 :: s226 :: s227 :: s228 :: s229 :: s230 :: s231 :: s232 :: s233 :: s234 :: s235 :: s236 :: s237 :: s238 :: s239 :: s240 :: s241 :: s242 :: s243 :: s244 :: s245 :: s246 :: s247 :: s248 :: s249 :: s250 :: s251 :: s252 :: s253 :: s254 :: s255 :: s256 :: s257 :: s258 :: s259 :: s260 :: s261 :: s262 :: s263 :: s264 :: s265 :: s266 :: s267 :: s268 :: s269 :: s270 :: []).toArray, defers := [] } Wt := by
  have hcc : Try.f35.body.bind (cutIfE 4) = some (_, _, _) := rfl
  rw [hcc] at hcut
  cases hcut
  clear hcc
  obtain ⟨⟨q0, q1, q2, q3⟩, ⟨qf0, qf1, qf2, qf3⟩, ql⟩ := block4 hAB
  obtain ⟨⟨m0, m1, m2, m3⟩, ⟨mf0, mf1, mf2, mf3⟩, ml⟩ := block4 h.blk
  have HQ := hide hAB; have HP := hide hP; have HR := hide h; have HG := hide hg; have HND := hide hnd
  have HLO : Hid (lo ≤ Wt.heap.size) := Nat.le_trans h.low.1 (Nat.le_of_lt h.blt)
  obtain ⟨bo, rb, ro, c, eoa, hc, hcell, hfz, hlr, hlow, hrlt⟩ := h.slotAt hf hm hs
  rw [hold] at hcell
  obtain ⟨gb, go, ear, r1, _, hl5, _, hglt⟩ := h.regAt hi
  rw [← regG_at, hq] at r1
  have hf1 : hasSlB g (i : Int) (s : Int) = true := by
    unfold hasSlB hasRB
    rw [rowG_at hq, hq, hm, h.hr]
    have e1 : decide ((0 : Int) ≤ (i : Int)) = true := decide_eq_true (by omega)
    have e2 : decide ((i : Int) < (nr : Int)) = true := decide_eq_true (by omega)
    have e3 : decide ((f : Int) = -1) = false := decide_eq_false (by omega)
    have e4 : decide ((0 : Int) ≤ (s : Int)) = true := decide_eq_true (by omega)
    have e5 : decide ((s : Int) < (m : Int)) = true := decide_eq_true (by omega)
    rw [e1, e2, e3, e4, e5]
    rfl
  have HF := hide hf1
  have i1 : (0 : Int) ≤ (i : Int) := by omega
  have i2 : (i : Int) < (nr : Int) := by omega
  have i3 : (0 : Int) ≤ (f : Int) := by omega
  have i4 : (f : Int) < (n : Int) := by omega
  have i5 : (0 : Int) ≤ (s : Int) := by omega
  have i6 : (s : Int) < (m : Int) := by omega
  have hlb := h.lbs
  obtain ⟨_, _, hbol, _, hlbo⟩ := h.olo eoa
  have hABl := size_of hAB
  have n1 : b ≠ rb := fun e => by rw [← e] at hlr; omega
  have n2 : AB ≠ rb := fun e => by rw [← e] at hlr; omega
  have n3 : gb ≠ rb := fun e => by rw [← e] at hlr; omega
  have n4 : bo ≠ rb := fun e => by rw [← e] at hlr; omega
  subst eoa
  subst ear
  have HSS : Hid (∀ (W : World) (X Y : Value), W.heap[b]? = some (.cells #[.slice (some ⟨bo, 0, none⟩) n co, .slice (some ⟨gb, go, none⟩) nr cr, X, Y] 65 (0, 0)) → (∀ k, k < Wt.heap.size → lab k ≠ 2 → lab k ≠ 4 → W.heap[k]? = Wt.heap[k]?) → W.cell? ⟨b, 0, none⟩ = some (.slice (some ⟨bo, 0, none⟩) n co) ∧ W.cell? ⟨b, 1, none⟩ = some (.slice (some ⟨gb, go, none⟩) nr cr) ∧ W.cell? ⟨AB, 1, none⟩ = some (.int .i64 (i : Int)) ∧ W.cell? ⟨AB, 2, none⟩ = some (.int .i64 (s : Int)) ∧ W.cell? ⟨AB, 3, none⟩ = some (.int .i64 (-1)) ∧ W.cell? ⟨gb, go + i, none⟩ = some (.int .i64 (f : Int)) ∧ W.cell? ⟨bo, f, none⟩ = some (.slice (some ⟨rb, ro, none⟩) m c)) := fun W X Y hb hk => ⟨(block4 hb).1.1, (block4 hb).1.2.1, cell_of q1 (hk AB hABl (by omega) (by omega)), cell_of q2 (hk AB hABl (by omega) (by omega)), cell_of q3 (hk AB hABl (by omega) (by omega)), cell_of r1 (hk gb hglt (by omega) (by omega)), cell_of hc (hk bo hbol (by omega) (by omega))⟩
  have HS3 : Hid (∀ (W : World) (u : Value), (W.cell? ⟨b, 0, none⟩ = some (.slice (some ⟨bo, 0, none⟩) n co) ∧ W.cell? ⟨b, 1, none⟩ = some (.slice (some ⟨gb, go, none⟩) nr cr) ∧ W.cell? ⟨AB, 1, none⟩ = some (.int .i64 (i : Int)) ∧ W.cell? ⟨AB, 2, none⟩ = some (.int .i64 (s : Int)) ∧ W.cell? ⟨AB, 3, none⟩ = some (.int .i64 (-1)) ∧ W.cell? ⟨gb, go + i, none⟩ = some (.int .i64 (f : Int)) ∧ W.cell? ⟨bo, f, none⟩ = some (.slice (some ⟨rb, ro, none⟩) m c)) → (W.setCell ⟨rb, ro + s, none⟩ u).cell? ⟨b, 0, none⟩ = some (.slice (some ⟨bo, 0, none⟩) n co) ∧ (W.setCell ⟨rb, ro + s, none⟩ u).cell? ⟨b, 1, none⟩ = some (.slice (some ⟨gb, go, none⟩) nr cr) ∧ (W.setCell ⟨rb, ro + s, none⟩ u).cell? ⟨AB, 1, none⟩ = some (.int .i64 (i : Int)) ∧ (W.setCell ⟨rb, ro + s, none⟩ u).cell? ⟨AB, 2, none⟩ = some (.int .i64 (s : Int)) ∧ (W.setCell ⟨rb, ro + s, none⟩ u).cell? ⟨AB, 3, none⟩ = some (.int .i64 (-1)) ∧ (W.setCell ⟨rb, ro + s, none⟩ u).cell? ⟨gb, go + i, none⟩ = some (.int .i64 (f : Int)) ∧ (W.setCell ⟨rb, ro + s, none⟩ u).cell? ⟨bo, f, none⟩ = some (.slice (some ⟨rb, ro, none⟩) m c)) := fun W u hW => ⟨cell_other hW.1 (Or.inl n1) u, cell_other hW.2.1 (Or.inl n1) u, cell_other hW.2.2.1 (Or.inl n2) u, cell_other hW.2.2.2.1 (Or.inl n2) u, cell_other hW.2.2.2.2.1 (Or.inl n2) u, cell_other hW.2.2.2.2.2.1 (Or.inl n3) u, cell_other hW.2.2.2.2.2.2 (Or.inl n4) u⟩
  have hvr : -1 ≤ (-1 : Int) ∧ (-1 : Int) < (n : Int) := by omega
  have HSDR : Hid (∀ W : World, (W.cell? ⟨b, 0, none⟩ = some (.slice (some ⟨bo, 0, none⟩) n co) ∧ W.cell? ⟨b, 1, none⟩ = some (.slice (some ⟨gb, go, none⟩) nr cr) ∧ W.cell? ⟨AB, 1, none⟩ = some (.int .i64 (i : Int)) ∧ W.cell? ⟨AB, 2, none⟩ = some (.int .i64 (s : Int)) ∧ W.cell? ⟨AB, 3, none⟩ = some (.int .i64 (-1)) ∧ W.cell? ⟨gb, go + i, none⟩ = some (.int .i64 (f : Int)) ∧ W.cell? ⟨bo, f, none⟩ = some (.slice (some ⟨rb, ro, none⟩) m c)) → W.drew.cell? ⟨b, 0, none⟩ = some (.slice (some ⟨bo, 0, none⟩) n co) ∧ W.drew.cell? ⟨b, 1, none⟩ = some (.slice (some ⟨gb, go, none⟩) nr cr) ∧ W.drew.cell? ⟨AB, 1, none⟩ = some (.int .i64 (i : Int)) ∧ W.drew.cell? ⟨AB, 2, none⟩ = some (.int .i64 (s : Int)) ∧ W.drew.cell? ⟨AB, 3, none⟩ = some (.int .i64 (-1)) ∧ W.drew.cell? ⟨gb, go + i, none⟩ = some (.int .i64 (f : Int)) ∧ W.drew.cell? ⟨bo, f, none⟩ = some (.slice (some ⟨rb, ro, none⟩) m c)) := fun W hW => hW
  have HCL := hide hcell; have HFZ := hide hfz; have HRL := hide hrlt; have HLR := hide hlr; have HRW := hide hlow
  have HM := hide hm; have HC := hide hc; have HBO := hide hbol; have HLBO := hide hlbo
  have hln := hg.ln.cnt
  have HLN : Hid (g.mm.ln.length ≤ 2000) := hide (by omega)
  have HOR : Hid (-1 ≤ old ∧ old < (n : Int)) := by
    have h_ := hg.gh.so f (by rw [h.hn]; exact hf) _ (getD_mem (by rw [hm]; exact hs))
    rw [hold, h.hn] at h_
    exact h_
  clear hf1 n1 n2 n3 n4 hcell hfz hrlt hlr hlow hc r1 hm hbol hlbo hABl hglt hlb hl5 hq hln hold
  clear hAB hP h hg hnd
  have HTH := hide (there_any (unhide HR) (unhide HG) (i : Int) (s : Int))
  go_upto_region 9 with (go_at_call 48; (with_reducible refine Calls.mono (unhide HTH) ?_); rintro e w2 ⟨rfl, hb2⟩; rw [unhide HF]; have HB2 := hide hb2; have HR2 := hide ((unhide HR).keep hb2); clear hb2)
  clear q0 q1 q2 q3 qf0 qf1 qf2 qf3 ql m0 m1 m2 m3 mf0 mf1 mf2 mf3 ml
  have HS2 := hide (unhide HSS w2 _ _ (unhide HR2).blk (fun k k1 _ _ => (unhide HB2).block k k1))
  have HS2d : Hid ((fun W : World => W.cell? ⟨b, 0, none⟩ = some (.slice (some ⟨bo, 0, none⟩) n co) ∧ W.cell? ⟨b, 1, none⟩ = some (.slice (some ⟨gb, go, none⟩) nr cr) ∧ W.cell? ⟨AB, 1, none⟩ = some (.int .i64 (i : Int)) ∧ W.cell? ⟨AB, 2, none⟩ = some (.int .i64 (s : Int)) ∧ W.cell? ⟨AB, 3, none⟩ = some (.int .i64 (-1)) ∧ W.cell? ⟨gb, go + i, none⟩ = some (.int .i64 (f : Int)) ∧ W.cell? ⟨bo, f, none⟩ = some (.slice (some ⟨rb, ro, none⟩) m c)) w2.drew) := unhide HS2
  go_region_held3 (fun W => W.cell? ⟨b, 0, none⟩ = some (.slice (some ⟨bo, 0, none⟩) n co) ∧ W.cell? ⟨b, 1, none⟩ = some (.slice (some ⟨gb, go, none⟩) nr cr) ∧ W.cell? ⟨AB, 1, none⟩ = some (.int .i64 (i : Int)) ∧ W.cell? ⟨AB, 2, none⟩ = some (.int .i64 (s : Int)) ∧ W.cell? ⟨AB, 3, none⟩ = some (.int .i64 (-1)) ∧ W.cell? ⟨gb, go + i, none⟩ = some (.int .i64 (f : Int)) ∧ W.cell? ⟨bo, f, none⟩ = some (.slice (some ⟨rb, ro, none⟩) m c))
    (first | with_reducible exact unhide HS2 | with_reducible exact unhide HS2d)
    (fail)
  obtain ⟨W3, e3⟩ : ∃ X, w2.drew = X := ⟨_, rfl⟩
  have HB3 : Hid (Below Wt.heap.size Wt W3) := by rw [← e3]; exact (unhide HB2).drew
  rw [e3]
  clear e3 HS2 HS2d
  have HR3 := hide ((unhide HR).keep (unhide HB3))
  have HS2 := hide (unhide HSS W3 _ _ (unhide HR3).blk (fun k k1 _ _ => (unhide HB3).block k k1))
  have HS2d : Hid ((fun W : World => W.cell? ⟨b, 0, none⟩ = some (.slice (some ⟨bo, 0, none⟩) n co) ∧ W.cell? ⟨b, 1, none⟩ = some (.slice (some ⟨gb, go, none⟩) nr cr) ∧ W.cell? ⟨AB, 1, none⟩ = some (.int .i64 (i : Int)) ∧ W.cell? ⟨AB, 2, none⟩ = some (.int .i64 (s : Int)) ∧ W.cell? ⟨AB, 3, none⟩ = some (.int .i64 (-1)) ∧ W.cell? ⟨gb, go + i, none⟩ = some (.int .i64 (f : Int)) ∧ W.cell? ⟨bo, f, none⟩ = some (.slice (some ⟨rb, ro, none⟩) m c)) W3.drew) := unhide HS2
  have a3 := (unhide HS2).2.2.2.2.1
  have HB4 := HB3
  obtain ⟨W4, e4⟩ : ∃ X, W3 = X := ⟨_, rfl⟩
  rw [e4] at HB4 HR3 HS2 HS2d a3
  rw [e4]
  clear HB3
  go_upto_region 13 with fail
  clear a3 HS2 HS2d
  have HR4 := hide ((unhide HR).keep (unhide HB4))
  have HS4 := hide (unhide HSS W4 _ _ (unhide HR4).blk (fun k k1 _ _ => (unhide HB4).block k k1))
  have c4 := cell_of (unhide HCL) ((unhide HB4).block rb (unhide HRL))
  have f4 := froz_of (unhide HFZ) ((unhide HB4).block rb (unhide HRL))
  have HK4 : Hid (∀ k, k < Wt.heap.size → lab k ≠ 2 → lab k ≠ 4 → W4.heap[k]? = Wt.heap[k]?) := fun k k1 _ _ => (unhide HB4).block k k1
  have HL4 : Hid (∀ k, k < Wt.heap.size → lab k = lab k) := fun _ _ => rfl
  have HX4 : Hid (Below lo Wt W4) := (unhide HB4).mono (unhide HLO)
  have HZ4 : Hid (Wt.heap.size ≤ W4.heap.size) := (unhide HB4).size
  go_upto_region 15 with fail
  have hc4 := cell_of (unhide HC) ((unhide HB4).block bo (unhide HBO))
  have HSd : Hid ((fun W : World => W.cell? ⟨b, 0, none⟩ = some (.slice (some ⟨bo, 0, none⟩) n co) ∧ W.cell? ⟨b, 1, none⟩ = some (.slice (some ⟨gb, go, none⟩) nr cr) ∧ W.cell? ⟨AB, 1, none⟩ = some (.int .i64 (i : Int)) ∧ W.cell? ⟨AB, 2, none⟩ = some (.int .i64 (s : Int)) ∧ W.cell? ⟨AB, 3, none⟩ = some (.int .i64 (-1)) ∧ W.cell? ⟨gb, go + i, none⟩ = some (.int .i64 (f : Int)) ∧ W.cell? ⟨bo, f, none⟩ = some (.slice (some ⟨rb, ro, none⟩) m c)) W4.drew) := unhide HS4
  have hset := (unhide HR4).setSlot (f := f) (s := s) (by omega) (unhide HM) (by omega) rfl hc4 (-1)
  have HST := hide hset
  have f4d : W4.drew.frozen? ⟨rb, ro + s, none⟩ = false := f4
  have c4d : W4.drew.cell? ⟨rb, ro + s, none⟩ = some (.int .i64 old) := c4
  clear hset hc4
  go_region_held3 (fun W => W.cell? ⟨b, 0, none⟩ = some (.slice (some ⟨bo, 0, none⟩) n co) ∧ W.cell? ⟨b, 1, none⟩ = some (.slice (some ⟨gb, go, none⟩) nr cr) ∧ W.cell? ⟨AB, 1, none⟩ = some (.int .i64 (i : Int)) ∧ W.cell? ⟨AB, 2, none⟩ = some (.int .i64 (s : Int)) ∧ W.cell? ⟨AB, 3, none⟩ = some (.int .i64 (-1)) ∧ W.cell? ⟨gb, go + i, none⟩ = some (.int .i64 (f : Int)) ∧ W.cell? ⟨bo, f, none⟩ = some (.slice (some ⟨rb, ro, none⟩) m c))
    (first | with_reducible exact unhide HS4 | with_reducible exact unhide HSd | (repeat (first | with_reducible exact unhide HS4 | with_reducible exact unhide HSd | with_reducible refine unhide HS3 _ _ ?_ | with_reducible refine unhide HSDR _ ?_)))
    (fail)
  all_goals
    obtain ⟨W8, e8⟩ : ∃ X, (W4.setCell ⟨rb, ro + s, none⟩ (.int .i64 (-1))).drew = X := ⟨_, rfl⟩
    have HR8 : Hid (RfL lo W8 lab b (some ⟨bo, 0, none⟩) n co (some ⟨gb, go, none⟩) nr cr wb cw vl ⟨g.os.set f ((g.os.getD f []).set s (-1)), g.rs, g.mm⟩) := by rw [← e8]; exact (unhide HST).1.keep (Below.refl _ _).drew
    have HX8 : Hid (Below lo Wt W8) := by rw [← e8]; exact ((unhide HX4).setCell (p := ⟨rb, ro + s, none⟩) (unhide HST).2.1 _).drew
    try rw [e8]
    clear e8
    go_wp2_with fail
    exact unhide HP _ (RfX.of (unhide HR8)) (unhide HX8)

set_option maxRecDepth 100000 in
set_option maxHeartbeats 4000000 in
theorem act_wkn1 {lo : Nat} {Wt : World} {lab : Nat → Nat} {b : Nat} {oa : Option Addr} {n co : Nat} {ar : Option Addr} {nr cr wb cw : Nat} {vl : Value} {g : Gm} (h : RfL lo Wt lab b oa n co ar nr cr wb cw vl g) (hg : GoodG g) (hnd : NodG g.mm) (AB : Nat) (A : Bool) (i f s m : Nat) (hi : i < nr) (hq : regG g (i : Int) = (f : Int)) (hf : f < n) (hm : (g.os.getD f []).length = m) (hs : s < m) (old : Int) (hold : (g.os.getD f []).getD s 0 = old) (hAB : Wt.heap[AB]? = some (.cells #[.int .i64 1, .int .i64 (i : Int), .int .i64 (s : Int), .int .i64 (-1)] 47 (0, 0))) (hla : lab AB = 0) (P0 : Ending → World → Prop) (hP : ∀ w', RfX lo w' b ⟨g.os.set f ((g.os.getD f []).set s (-1)), g.rs, shB 1 g.mm old (-1)⟩ → Below lo Wt w' → P0 (.returned (.int .i64 0)) w')
    {s1 s3 s5 s6 s7 s10 s11 s12 s13 s14 s15 s16 s17 s18 s19 s20 s21 s22 s23 s24 s25 s26 s27 s28 s29 s30 s31 s32 s33 s34 s35 s36 s37 s38 s39 s40 s41 s42 s43 s44 s45 s46 s47 s48 s49 s50 s51 s52 s53 s54 s55 s56 s57 s58 s59 s60 s61 s62 s63 s64 s65 s66 s67 s68 s69 s70 s71 s72 s73 s74 s75 s76 s77 s78 s79 s80 s81 s82 s83 s84 s85 s86 s87 s88 s89 s90 s91 s92 s93 s94 s95 s96 s97 s98 s99 s100 s101 s102 s103 s104 s105 s106 s107 s108 s109 s110 s111 s112 s113 s114 s115 s116 s117 s118 s119 s120 s121 s122 s123 s124 s125 s126 s127 s128 s129 s130 s131 s132 s133 s134 s135 s136 s137 s138 s139 s140 s141 s142 s143 s144 s145 s146 s147 s148 s149 s150 s151 s152 s153 s154 s155 s156 s157 s158 s159 s160 s161 s162 s163 s164 s165 s166 s167 s168 s169 s170 s171 s172 s173 s174 s175 s176 s177 s178 s179 s180 s181 s182 s183 s184 s185 s186 s187 s188 s189 s190 s191 s192 s193 s194 s195 s196 s197 s198 s199 s200 s201 s202 s203 s204 s205 s206 s207 s208 s209 s210 s211 s212 s213 s214 s215 s216 s217 s218 s219 s220 s221 s222 s223 s224 s225 s226 s227 s228 s229 s230 s231 s232 s233 s234 s235 s236 s237 s238 s239 s240 s241 s242 s243 s244 s245 s246 s247 s248 s249 s250 s251 s252 s253 s254 s255 s256 s257 s258 s259 s260 s261 s262 s263 s264 s265 s266 s267 s268 s269 s270 : Value} (K1 K2 : Act → World → Prop) (x y zc : Code) (hK1 : ∀ a w', y.wp Try.prog (Exit.then K2 (bodyPost Try.prog Try.f35 P0)) a w' → K1 a w') (hK2 : ∀ a w', zc.wp Try.prog (bodyPost Try.prog Try.f35 P0) a w' → K2 a w') (hcut : Try.f35.body.bind (cutIfE 4) = some (x, y, zc)) :
    x.wp Try.prog (Exit.then K1 (Exit.then K2 (bodyPost Try.prog Try.f35 P0))) { tmps := (.pointer (some ⟨b, 0, none⟩) :: s1 :: .int .i64 1 :: s3 :: .pointer (some ⟨AB, 0, none⟩) :: s5 :: s6 :: s7 :: .bool A :: .bool true :: s10 :: s11 :: s12 :: s13 :: s14 :: s15 :: s16 :: s17 :: s18 :: s19 :: s20 :: s21 :: s22 :: s23 :: s24 :: s25 :: s26 :: s27 :: s28 :: s29 :: s30 :: s31 :: s32 :: s33 :: s34 :: s35 :: s36 :: s37 :: s38 :: s39 :: s40 :: s41 :: s42 :: s43 :: s44 :: s45 :: s46 :: s47 :: s48 :: s49 :: s50 :: s51 :: s52 :: s53 :: s54 :: s55 :: s56 :: s57 :: s58 :: s59 :: s60 :: s61 :: s62 :: s63 :: s64 :: s65 :: s66 :: s67 :: s68 :: s69 :: s70 :: s71 :: s72 :: s73 :: s74 :: s75 :: s76 :: s77 :: s78 :: s79 :: s80 :: s81 :: s82 :: s83 :: s84 :: s85 :: s86 :: s87 :: s88 :: s89 :: s90 :: s91 :: s92 :: s93 :: s94 :: s95 :: s96 :: s97 :: s98 :: s99 :: s100 :: s101 :: s102 :: s103 :: s104 :: s105 :: s106 :: s107 :: s108 :: s109 :: s110 :: s111 :: s112 :: s113 :: s114 :: s115 :: s116 :: s117 :: s118 :: s119 :: s120 :: s121 :: s122 :: s123 :: s124 :: s125 :: s126 :: s127 :: s128 :: s129 :: s130 :: s131 :: s132 :: s133 :: s134 :: s135 :: s136 :: s137 :: s138 :: s139 :: s140 :: s141 :: s142 :: s143 :: s144 :: s145 :: s146 :: s147 :: s148 :: s149 :: s150 :: s151 :: s152 :: s153 :: s154 :: s155 :: s156 :: s157 :: s158 :: s159 :: s160 :: s161 :: s162 :: s163 :: s164 :: s165 :: s166 :: s167 :: s168 :: s169 :: s170 :: s171 :: s172 :: s173 :: s174 :: s175 :: s176 :: s177 :: s178 :: s179 :: s180 :: s181 :: s182 :: s183 :: s184 :: s185 :: s186 :: s187 :: s188 :: s189 :: s190 :: s191 :: s192 :: s193 :: s194 :: s195 :: s196 :: s197 :: s198 :: s199 :: s200 :: s201 :: s202 :: s203 :: s204 :: s205 :: s206 :: s207 :: s208 :: s209 :: s210 :: s211 :: s212 :: s213 :: s214 :: s215 :: s216 :: s217 :: s218 :: s219 :: s220 :: s221 :: s222 :: s223 :: s224 :: s225 :: s226 :: s227 :: s228 :: s229 :: s230 :: s231 :: s232 :: s233 :: s234 :: s235 :: s236 :: s237 :: s238 :: s239 :: s240 :: s241 :: s242 :: s243 :: s244 :: s245 :: s246 :: s247 :: s248 :: s249 :: s250 :: s251 :: s252 :: s253 :: s254 :: s255 :: s256 :: s257 :: s258 :: s259 :: s260 :: s261 :: s262 :: s263 :: s264 :: s265 :: s266 :: s267 :: s268 :: s269 :: s270 :: []).toArray, defers := [] } Wt := by
  have hcc : Try.f35.body.bind (cutIfE 4) = some (_, _, _) := rfl
  rw [hcc] at hcut
  cases hcut
  clear hcc
  obtain ⟨⟨q0, q1, q2, q3⟩, ⟨qf0, qf1, qf2, qf3⟩, ql⟩ := block4 hAB
  obtain ⟨⟨m0, m1, m2, m3⟩, ⟨mf0, mf1, mf2, mf3⟩, ml⟩ := block4 h.blk
  have HQ := hide hAB; have HP := hide hP; have HR := hide h; have HG := hide hg; have HND := hide hnd
  have HLO : Hid (lo ≤ Wt.heap.size) := Nat.le_trans h.low.1 (Nat.le_of_lt h.blt)
  obtain ⟨bo, rb, ro, c, eoa, hc, hcell, hfz, hlr, hlow, hrlt⟩ := h.slotAt hf hm hs
  rw [hold] at hcell
  obtain ⟨gb, go, ear, r1, _, hl5, _, hglt⟩ := h.regAt hi
  rw [← regG_at, hq] at r1
  have hf1 : hasSlB g (i : Int) (s : Int) = true := by
    unfold hasSlB hasRB
    rw [rowG_at hq, hq, hm, h.hr]
    have e1 : decide ((0 : Int) ≤ (i : Int)) = true := decide_eq_true (by omega)
    have e2 : decide ((i : Int) < (nr : Int)) = true := decide_eq_true (by omega)
    have e3 : decide ((f : Int) = -1) = false := decide_eq_false (by omega)
    have e4 : decide ((0 : Int) ≤ (s : Int)) = true := decide_eq_true (by omega)
    have e5 : decide ((s : Int) < (m : Int)) = true := decide_eq_true (by omega)
    rw [e1, e2, e3, e4, e5]
    rfl
  have HF := hide hf1
  have i1 : (0 : Int) ≤ (i : Int) := by omega
  have i2 : (i : Int) < (nr : Int) := by omega
  have i3 : (0 : Int) ≤ (f : Int) := by omega
  have i4 : (f : Int) < (n : Int) := by omega
  have i5 : (0 : Int) ≤ (s : Int) := by omega
  have i6 : (s : Int) < (m : Int) := by omega
  have hlb := h.lbs
  obtain ⟨_, _, hbol, _, hlbo⟩ := h.olo eoa
  have hABl := size_of hAB
  have n1 : b ≠ rb := fun e => by rw [← e] at hlr; omega
  have n2 : AB ≠ rb := fun e => by rw [← e] at hlr; omega
  have n3 : gb ≠ rb := fun e => by rw [← e] at hlr; omega
  have n4 : bo ≠ rb := fun e => by rw [← e] at hlr; omega
  subst eoa
  subst ear
  have HSS : Hid (∀ (W : World) (X Y : Value), W.heap[b]? = some (.cells #[.slice (some ⟨bo, 0, none⟩) n co, .slice (some ⟨gb, go, none⟩) nr cr, X, Y] 65 (0, 0)) → (∀ k, k < Wt.heap.size → lab k ≠ 2 → lab k ≠ 4 → W.heap[k]? = Wt.heap[k]?) → W.cell? ⟨b, 0, none⟩ = some (.slice (some ⟨bo, 0, none⟩) n co) ∧ W.cell? ⟨b, 1, none⟩ = some (.slice (some ⟨gb, go, none⟩) nr cr) ∧ W.cell? ⟨AB, 1, none⟩ = some (.int .i64 (i : Int)) ∧ W.cell? ⟨AB, 2, none⟩ = some (.int .i64 (s : Int)) ∧ W.cell? ⟨AB, 3, none⟩ = some (.int .i64 (-1)) ∧ W.cell? ⟨gb, go + i, none⟩ = some (.int .i64 (f : Int)) ∧ W.cell? ⟨bo, f, none⟩ = some (.slice (some ⟨rb, ro, none⟩) m c)) := fun W X Y hb hk => ⟨(block4 hb).1.1, (block4 hb).1.2.1, cell_of q1 (hk AB hABl (by omega) (by omega)), cell_of q2 (hk AB hABl (by omega) (by omega)), cell_of q3 (hk AB hABl (by omega) (by omega)), cell_of r1 (hk gb hglt (by omega) (by omega)), cell_of hc (hk bo hbol (by omega) (by omega))⟩
  have HS3 : Hid (∀ (W : World) (u : Value), (W.cell? ⟨b, 0, none⟩ = some (.slice (some ⟨bo, 0, none⟩) n co) ∧ W.cell? ⟨b, 1, none⟩ = some (.slice (some ⟨gb, go, none⟩) nr cr) ∧ W.cell? ⟨AB, 1, none⟩ = some (.int .i64 (i : Int)) ∧ W.cell? ⟨AB, 2, none⟩ = some (.int .i64 (s : Int)) ∧ W.cell? ⟨AB, 3, none⟩ = some (.int .i64 (-1)) ∧ W.cell? ⟨gb, go + i, none⟩ = some (.int .i64 (f : Int)) ∧ W.cell? ⟨bo, f, none⟩ = some (.slice (some ⟨rb, ro, none⟩) m c)) → (W.setCell ⟨rb, ro + s, none⟩ u).cell? ⟨b, 0, none⟩ = some (.slice (some ⟨bo, 0, none⟩) n co) ∧ (W.setCell ⟨rb, ro + s, none⟩ u).cell? ⟨b, 1, none⟩ = some (.slice (some ⟨gb, go, none⟩) nr cr) ∧ (W.setCell ⟨rb, ro + s, none⟩ u).cell? ⟨AB, 1, none⟩ = some (.int .i64 (i : Int)) ∧ (W.setCell ⟨rb, ro + s, none⟩ u).cell? ⟨AB, 2, none⟩ = some (.int .i64 (s : Int)) ∧ (W.setCell ⟨rb, ro + s, none⟩ u).cell? ⟨AB, 3, none⟩ = some (.int .i64 (-1)) ∧ (W.setCell ⟨rb, ro + s, none⟩ u).cell? ⟨gb, go + i, none⟩ = some (.int .i64 (f : Int)) ∧ (W.setCell ⟨rb, ro + s, none⟩ u).cell? ⟨bo, f, none⟩ = some (.slice (some ⟨rb, ro, none⟩) m c)) := fun W u hW => ⟨cell_other hW.1 (Or.inl n1) u, cell_other hW.2.1 (Or.inl n1) u, cell_other hW.2.2.1 (Or.inl n2) u, cell_other hW.2.2.2.1 (Or.inl n2) u, cell_other hW.2.2.2.2.1 (Or.inl n2) u, cell_other hW.2.2.2.2.2.1 (Or.inl n3) u, cell_other hW.2.2.2.2.2.2 (Or.inl n4) u⟩
  have hvr : -1 ≤ (-1 : Int) ∧ (-1 : Int) < (n : Int) := by omega
  have HSDR : Hid (∀ W : World, (W.cell? ⟨b, 0, none⟩ = some (.slice (some ⟨bo, 0, none⟩) n co) ∧ W.cell? ⟨b, 1, none⟩ = some (.slice (some ⟨gb, go, none⟩) nr cr) ∧ W.cell? ⟨AB, 1, none⟩ = some (.int .i64 (i : Int)) ∧ W.cell? ⟨AB, 2, none⟩ = some (.int .i64 (s : Int)) ∧ W.cell? ⟨AB, 3, none⟩ = some (.int .i64 (-1)) ∧ W.cell? ⟨gb, go + i, none⟩ = some (.int .i64 (f : Int)) ∧ W.cell? ⟨bo, f, none⟩ = some (.slice (some ⟨rb, ro, none⟩) m c)) → W.drew.cell? ⟨b, 0, none⟩ = some (.slice (some ⟨bo, 0, none⟩) n co) ∧ W.drew.cell? ⟨b, 1, none⟩ = some (.slice (some ⟨gb, go, none⟩) nr cr) ∧ W.drew.cell? ⟨AB, 1, none⟩ = some (.int .i64 (i : Int)) ∧ W.drew.cell? ⟨AB, 2, none⟩ = some (.int .i64 (s : Int)) ∧ W.drew.cell? ⟨AB, 3, none⟩ = some (.int .i64 (-1)) ∧ W.drew.cell? ⟨gb, go + i, none⟩ = some (.int .i64 (f : Int)) ∧ W.drew.cell? ⟨bo, f, none⟩ = some (.slice (some ⟨rb, ro, none⟩) m c)) := fun W hW => hW
  have HCL := hide hcell; have HFZ := hide hfz; have HRL := hide hrlt; have HLR := hide hlr; have HRW := hide hlow
  have HM := hide hm; have HC := hide hc; have HBO := hide hbol; have HLBO := hide hlbo
  have hln := hg.ln.cnt
  have HLN : Hid (g.mm.ln.length ≤ 2000) := hide (by omega)
  have HOR : Hid (-1 ≤ old ∧ old < (n : Int)) := by
    have h_ := hg.gh.so f (by rw [h.hn]; exact hf) _ (getD_mem (by rw [hm]; exact hs))
    rw [hold, h.hn] at h_
    exact h_
  clear hf1 n1 n2 n3 n4 hcell hfz hrlt hlr hlow hc r1 hm hbol hlbo hABl hglt hlb hl5 hq hln hold
  clear hAB hP h hg hnd
  have HTH := hide (there_any (unhide HR) (unhide HG) (i : Int) (s : Int))
  go_upto_region 9 with (go_at_call 48; (with_reducible refine Calls.mono (unhide HTH) ?_); rintro e w2 ⟨rfl, hb2⟩; rw [unhide HF]; have HB2 := hide hb2; have HR2 := hide ((unhide HR).keep hb2); clear hb2)
  clear q0 q1 q2 q3 qf0 qf1 qf2 qf3 ql m0 m1 m2 m3 mf0 mf1 mf2 mf3 ml
  have HS2 := hide (unhide HSS w2 _ _ (unhide HR2).blk (fun k k1 _ _ => (unhide HB2).block k k1))
  have HS2d : Hid ((fun W : World => W.cell? ⟨b, 0, none⟩ = some (.slice (some ⟨bo, 0, none⟩) n co) ∧ W.cell? ⟨b, 1, none⟩ = some (.slice (some ⟨gb, go, none⟩) nr cr) ∧ W.cell? ⟨AB, 1, none⟩ = some (.int .i64 (i : Int)) ∧ W.cell? ⟨AB, 2, none⟩ = some (.int .i64 (s : Int)) ∧ W.cell? ⟨AB, 3, none⟩ = some (.int .i64 (-1)) ∧ W.cell? ⟨gb, go + i, none⟩ = some (.int .i64 (f : Int)) ∧ W.cell? ⟨bo, f, none⟩ = some (.slice (some ⟨rb, ro, none⟩) m c)) w2.drew) := unhide HS2
  go_region_held3 (fun W => W.cell? ⟨b, 0, none⟩ = some (.slice (some ⟨bo, 0, none⟩) n co) ∧ W.cell? ⟨b, 1, none⟩ = some (.slice (some ⟨gb, go, none⟩) nr cr) ∧ W.cell? ⟨AB, 1, none⟩ = some (.int .i64 (i : Int)) ∧ W.cell? ⟨AB, 2, none⟩ = some (.int .i64 (s : Int)) ∧ W.cell? ⟨AB, 3, none⟩ = some (.int .i64 (-1)) ∧ W.cell? ⟨gb, go + i, none⟩ = some (.int .i64 (f : Int)) ∧ W.cell? ⟨bo, f, none⟩ = some (.slice (some ⟨rb, ro, none⟩) m c))
    (first | with_reducible exact unhide HS2 | with_reducible exact unhide HS2d)
    (fail)
  obtain ⟨W3, e3⟩ : ∃ X, w2.drew = X := ⟨_, rfl⟩
  have HB3 : Hid (Below Wt.heap.size Wt W3) := by rw [← e3]; exact (unhide HB2).drew
  rw [e3]
  clear e3 HS2 HS2d
  have HR3 := hide ((unhide HR).keep (unhide HB3))
  have HS2 := hide (unhide HSS W3 _ _ (unhide HR3).blk (fun k k1 _ _ => (unhide HB3).block k k1))
  have HS2d : Hid ((fun W : World => W.cell? ⟨b, 0, none⟩ = some (.slice (some ⟨bo, 0, none⟩) n co) ∧ W.cell? ⟨b, 1, none⟩ = some (.slice (some ⟨gb, go, none⟩) nr cr) ∧ W.cell? ⟨AB, 1, none⟩ = some (.int .i64 (i : Int)) ∧ W.cell? ⟨AB, 2, none⟩ = some (.int .i64 (s : Int)) ∧ W.cell? ⟨AB, 3, none⟩ = some (.int .i64 (-1)) ∧ W.cell? ⟨gb, go + i, none⟩ = some (.int .i64 (f : Int)) ∧ W.cell? ⟨bo, f, none⟩ = some (.slice (some ⟨rb, ro, none⟩) m c)) W3.drew) := unhide HS2
  have a3 := (unhide HS2).2.2.2.2.1
  have HB4 := HB3
  obtain ⟨W4, e4⟩ : ∃ X, W3 = X := ⟨_, rfl⟩
  rw [e4] at HB4 HR3 HS2 HS2d a3
  rw [e4]
  clear HB3
  go_upto_region 13 with fail
  clear a3 HS2 HS2d
  have HR4 := hide ((unhide HR).keep (unhide HB4))
  have HS4 := hide (unhide HSS W4 _ _ (unhide HR4).blk (fun k k1 _ _ => (unhide HB4).block k k1))
  have c4 := cell_of (unhide HCL) ((unhide HB4).block rb (unhide HRL))
  have f4 := froz_of (unhide HFZ) ((unhide HB4).block rb (unhide HRL))
  have HK4 : Hid (∀ k, k < Wt.heap.size → lab k ≠ 2 → lab k ≠ 4 → W4.heap[k]? = Wt.heap[k]?) := fun k k1 _ _ => (unhide HB4).block k k1
  have HL4 : Hid (∀ k, k < Wt.heap.size → lab k = lab k) := fun _ _ => rfl
  have HX4 : Hid (Below lo Wt W4) := (unhide HB4).mono (unhide HLO)
  have HZ4 : Hid (Wt.heap.size ≤ W4.heap.size) := (unhide HB4).size
  go_upto_region 15 with fail
  have hc4 := cell_of (unhide HC) ((unhide HB4).block bo (unhide HBO))
  have HSd : Hid ((fun W : World => W.cell? ⟨b, 0, none⟩ = some (.slice (some ⟨bo, 0, none⟩) n co) ∧ W.cell? ⟨b, 1, none⟩ = some (.slice (some ⟨gb, go, none⟩) nr cr) ∧ W.cell? ⟨AB, 1, none⟩ = some (.int .i64 (i : Int)) ∧ W.cell? ⟨AB, 2, none⟩ = some (.int .i64 (s : Int)) ∧ W.cell? ⟨AB, 3, none⟩ = some (.int .i64 (-1)) ∧ W.cell? ⟨gb, go + i, none⟩ = some (.int .i64 (f : Int)) ∧ W.cell? ⟨bo, f, none⟩ = some (.slice (some ⟨rb, ro, none⟩) m c)) W4.drew) := unhide HS4
  have hset := (unhide HR4).setSlot (f := f) (s := s) (by omega) (unhide HM) (by omega) rfl hc4 (-1)
  have HST := hide hset
  have f4d : W4.drew.frozen? ⟨rb, ro + s, none⟩ = false := f4
  have c4d : W4.drew.cell? ⟨rb, ro + s, none⟩ = some (.int .i64 old) := c4
  clear hset hc4
  go_region_held3 (fun W => W.cell? ⟨b, 0, none⟩ = some (.slice (some ⟨bo, 0, none⟩) n co) ∧ W.cell? ⟨b, 1, none⟩ = some (.slice (some ⟨gb, go, none⟩) nr cr) ∧ W.cell? ⟨AB, 1, none⟩ = some (.int .i64 (i : Int)) ∧ W.cell? ⟨AB, 2, none⟩ = some (.int .i64 (s : Int)) ∧ W.cell? ⟨AB, 3, none⟩ = some (.int .i64 (-1)) ∧ W.cell? ⟨gb, go + i, none⟩ = some (.int .i64 (f : Int)) ∧ W.cell? ⟨bo, f, none⟩ = some (.slice (some ⟨rb, ro, none⟩) m c))
    (first | with_reducible exact unhide HS4 | with_reducible exact unhide HSd | (repeat (first | with_reducible exact unhide HS4 | with_reducible exact unhide HSd | with_reducible refine unhide HS3 _ _ ?_ | with_reducible refine unhide HSDR _ ?_)))
    (fail)
  all_goals
    obtain ⟨W8, e8⟩ : ∃ X, (W4.setCell ⟨rb, ro + s, none⟩ (.int .i64 (-1))).drew = X := ⟨_, rfl⟩
    have HR8 : Hid (RfL lo W8 lab b (some ⟨bo, 0, none⟩) n co (some ⟨gb, go, none⟩) nr cr wb cw vl ⟨g.os.set f ((g.os.getD f []).set s (-1)), g.rs, g.mm⟩) := by rw [← e8]; exact (unhide HST).1.keep (Below.refl _ _).drew
    have HX8 : Hid (Below lo Wt W8) := by rw [← e8]; exact ((unhide HX4).setCell (p := ⟨rb, ro + s, none⟩) (unhide HST).2.1 _).drew
    try rw [e8]
    clear e8
    have HSV := hide (rshade_k (unhide HR8) (unhide HND) (by show (g.mm).ln.length ≤ 900000; have := unhide HLN; omega) (-1) hvr)
    go_wp2_with (go_at_call 47; (with_reducible refine Calls.mono (unhide HSV) ?_); rintro e w9 ⟨rfl, h9, _, hb9⟩; have H9 := hide h9; have HB9 := hide hb9; clear h9 hb9)
    exact unhide HP _ (unhide H9).x ((unhide HX8).trans (unhide HB9))

set_option maxRecDepth 100000 in
set_option maxHeartbeats 4000000 in
theorem act_wkn2 {lo : Nat} {Wt : World} {lab : Nat → Nat} {b : Nat} {oa : Option Addr} {n co : Nat} {ar : Option Addr} {nr cr wb cw : Nat} {vl : Value} {g : Gm} (h : RfL lo Wt lab b oa n co ar nr cr wb cw vl g) (hg : GoodG g) (hnd : NodG g.mm) (AB : Nat) (A : Bool) (i f s m : Nat) (hi : i < nr) (hq : regG g (i : Int) = (f : Int)) (hf : f < n) (hm : (g.os.getD f []).length = m) (hs : s < m) (old : Int) (hold : (g.os.getD f []).getD s 0 = old) (hAB : Wt.heap[AB]? = some (.cells #[.int .i64 1, .int .i64 (i : Int), .int .i64 (s : Int), .int .i64 (-1)] 47 (0, 0))) (hla : lab AB = 0) (P0 : Ending → World → Prop) (hP : ∀ w', RfX lo w' b ⟨g.os.set f ((g.os.getD f []).set s (-1)), g.rs, shB 2 g.mm old (-1)⟩ → Below lo Wt w' → P0 (.returned (.int .i64 0)) w')
    {s1 s3 s5 s6 s7 s10 s11 s12 s13 s14 s15 s16 s17 s18 s19 s20 s21 s22 s23 s24 s25 s26 s27 s28 s29 s30 s31 s32 s33 s34 s35 s36 s37 s38 s39 s40 s41 s42 s43 s44 s45 s46 s47 s48 s49 s50 s51 s52 s53 s54 s55 s56 s57 s58 s59 s60 s61 s62 s63 s64 s65 s66 s67 s68 s69 s70 s71 s72 s73 s74 s75 s76 s77 s78 s79 s80 s81 s82 s83 s84 s85 s86 s87 s88 s89 s90 s91 s92 s93 s94 s95 s96 s97 s98 s99 s100 s101 s102 s103 s104 s105 s106 s107 s108 s109 s110 s111 s112 s113 s114 s115 s116 s117 s118 s119 s120 s121 s122 s123 s124 s125 s126 s127 s128 s129 s130 s131 s132 s133 s134 s135 s136 s137 s138 s139 s140 s141 s142 s143 s144 s145 s146 s147 s148 s149 s150 s151 s152 s153 s154 s155 s156 s157 s158 s159 s160 s161 s162 s163 s164 s165 s166 s167 s168 s169 s170 s171 s172 s173 s174 s175 s176 s177 s178 s179 s180 s181 s182 s183 s184 s185 s186 s187 s188 s189 s190 s191 s192 s193 s194 s195 s196 s197 s198 s199 s200 s201 s202 s203 s204 s205 s206 s207 s208 s209 s210 s211 s212 s213 s214 s215 s216 s217 s218 s219 s220 s221 s222 s223 s224 s225 s226 s227 s228 s229 s230 s231 s232 s233 s234 s235 s236 s237 s238 s239 s240 s241 s242 s243 s244 s245 s246 s247 s248 s249 s250 s251 s252 s253 s254 s255 s256 s257 s258 s259 s260 s261 s262 s263 s264 s265 s266 s267 s268 s269 s270 : Value} (K1 K2 : Act → World → Prop) (x y zc : Code) (hK1 : ∀ a w', y.wp Try.prog (Exit.then K2 (bodyPost Try.prog Try.f35 P0)) a w' → K1 a w') (hK2 : ∀ a w', zc.wp Try.prog (bodyPost Try.prog Try.f35 P0) a w' → K2 a w') (hcut : Try.f35.body.bind (cutIfE 4) = some (x, y, zc)) :
    x.wp Try.prog (Exit.then K1 (Exit.then K2 (bodyPost Try.prog Try.f35 P0))) { tmps := (.pointer (some ⟨b, 0, none⟩) :: s1 :: .int .i64 2 :: s3 :: .pointer (some ⟨AB, 0, none⟩) :: s5 :: s6 :: s7 :: .bool A :: .bool true :: s10 :: s11 :: s12 :: s13 :: s14 :: s15 :: s16 :: s17 :: s18 :: s19 :: s20 :: s21 :: s22 :: s23 :: s24 :: s25 :: s26 :: s27 :: s28 :: s29 :: s30 :: s31 :: s32 :: s33 :: s34 :: s35 :: s36 :: s37 :: s38 :: s39 :: s40 :: s41 :: s42 :: s43 :: s44 :: s45 :: s46 :: s47 :: s48 :: s49 :: s50 :: s51 :: s52 :: s53 :: s54 :: s55 :: s56 :: s57 :: s58 :: s59 :: s60 :: s61 :: s62 :: s63 :: s64 :: s65 :: s66 :: s67 :: s68 :: s69 :: s70 :: s71 :: s72 :: s73 :: s74 :: s75 :: s76 :: s77 :: s78 :: s79 :: s80 :: s81 :: s82 :: s83 :: s84 :: s85 :: s86 :: s87 :: s88 :: s89 :: s90 :: s91 :: s92 :: s93 :: s94 :: s95 :: s96 :: s97 :: s98 :: s99 :: s100 :: s101 :: s102 :: s103 :: s104 :: s105 :: s106 :: s107 :: s108 :: s109 :: s110 :: s111 :: s112 :: s113 :: s114 :: s115 :: s116 :: s117 :: s118 :: s119 :: s120 :: s121 :: s122 :: s123 :: s124 :: s125 :: s126 :: s127 :: s128 :: s129 :: s130 :: s131 :: s132 :: s133 :: s134 :: s135 :: s136 :: s137 :: s138 :: s139 :: s140 :: s141 :: s142 :: s143 :: s144 :: s145 :: s146 :: s147 :: s148 :: s149 :: s150 :: s151 :: s152 :: s153 :: s154 :: s155 :: s156 :: s157 :: s158 :: s159 :: s160 :: s161 :: s162 :: s163 :: s164 :: s165 :: s166 :: s167 :: s168 :: s169 :: s170 :: s171 :: s172 :: s173 :: s174 :: s175 :: s176 :: s177 :: s178 :: s179 :: s180 :: s181 :: s182 :: s183 :: s184 :: s185 :: s186 :: s187 :: s188 :: s189 :: s190 :: s191 :: s192 :: s193 :: s194 :: s195 :: s196 :: s197 :: s198 :: s199 :: s200 :: s201 :: s202 :: s203 :: s204 :: s205 :: s206 :: s207 :: s208 :: s209 :: s210 :: s211 :: s212 :: s213 :: s214 :: s215 :: s216 :: s217 :: s218 :: s219 :: s220 :: s221 :: s222 :: s223 :: s224 :: s225 :: s226 :: s227 :: s228 :: s229 :: s230 :: s231 :: s232 :: s233 :: s234 :: s235 :: s236 :: s237 :: s238 :: s239 :: s240 :: s241 :: s242 :: s243 :: s244 :: s245 :: s246 :: s247 :: s248 :: s249 :: s250 :: s251 :: s252 :: s253 :: s254 :: s255 :: s256 :: s257 :: s258 :: s259 :: s260 :: s261 :: s262 :: s263 :: s264 :: s265 :: s266 :: s267 :: s268 :: s269 :: s270 :: []).toArray, defers := [] } Wt := by
  have hcc : Try.f35.body.bind (cutIfE 4) = some (_, _, _) := rfl
  rw [hcc] at hcut
  cases hcut
  clear hcc
  obtain ⟨⟨q0, q1, q2, q3⟩, ⟨qf0, qf1, qf2, qf3⟩, ql⟩ := block4 hAB
  obtain ⟨⟨m0, m1, m2, m3⟩, ⟨mf0, mf1, mf2, mf3⟩, ml⟩ := block4 h.blk
  have HQ := hide hAB; have HP := hide hP; have HR := hide h; have HG := hide hg; have HND := hide hnd
  have HLO : Hid (lo ≤ Wt.heap.size) := Nat.le_trans h.low.1 (Nat.le_of_lt h.blt)
  obtain ⟨bo, rb, ro, c, eoa, hc, hcell, hfz, hlr, hlow, hrlt⟩ := h.slotAt hf hm hs
  rw [hold] at hcell
  obtain ⟨gb, go, ear, r1, _, hl5, _, hglt⟩ := h.regAt hi
  rw [← regG_at, hq] at r1
  have hf1 : hasSlB g (i : Int) (s : Int) = true := by
    unfold hasSlB hasRB
    rw [rowG_at hq, hq, hm, h.hr]
    have e1 : decide ((0 : Int) ≤ (i : Int)) = true := decide_eq_true (by omega)
    have e2 : decide ((i : Int) < (nr : Int)) = true := decide_eq_true (by omega)
    have e3 : decide ((f : Int) = -1) = false := decide_eq_false (by omega)
    have e4 : decide ((0 : Int) ≤ (s : Int)) = true := decide_eq_true (by omega)
    have e5 : decide ((s : Int) < (m : Int)) = true := decide_eq_true (by omega)
    rw [e1, e2, e3, e4, e5]
    rfl
  have HF := hide hf1
  have i1 : (0 : Int) ≤ (i : Int) := by omega
  have i2 : (i : Int) < (nr : Int) := by omega
  have i3 : (0 : Int) ≤ (f : Int) := by omega
  have i4 : (f : Int) < (n : Int) := by omega
  have i5 : (0 : Int) ≤ (s : Int) := by omega
  have i6 : (s : Int) < (m : Int) := by omega
  have hlb := h.lbs
  obtain ⟨_, _, hbol, _, hlbo⟩ := h.olo eoa
  have hABl := size_of hAB
  have n1 : b ≠ rb := fun e => by rw [← e] at hlr; omega
  have n2 : AB ≠ rb := fun e => by rw [← e] at hlr; omega
  have n3 : gb ≠ rb := fun e => by rw [← e] at hlr; omega
  have n4 : bo ≠ rb := fun e => by rw [← e] at hlr; omega
  subst eoa
  subst ear
  have HSS : Hid (∀ (W : World) (X Y : Value), W.heap[b]? = some (.cells #[.slice (some ⟨bo, 0, none⟩) n co, .slice (some ⟨gb, go, none⟩) nr cr, X, Y] 65 (0, 0)) → (∀ k, k < Wt.heap.size → lab k ≠ 2 → lab k ≠ 4 → W.heap[k]? = Wt.heap[k]?) → W.cell? ⟨b, 0, none⟩ = some (.slice (some ⟨bo, 0, none⟩) n co) ∧ W.cell? ⟨b, 1, none⟩ = some (.slice (some ⟨gb, go, none⟩) nr cr) ∧ W.cell? ⟨AB, 1, none⟩ = some (.int .i64 (i : Int)) ∧ W.cell? ⟨AB, 2, none⟩ = some (.int .i64 (s : Int)) ∧ W.cell? ⟨AB, 3, none⟩ = some (.int .i64 (-1)) ∧ W.cell? ⟨gb, go + i, none⟩ = some (.int .i64 (f : Int)) ∧ W.cell? ⟨bo, f, none⟩ = some (.slice (some ⟨rb, ro, none⟩) m c)) := fun W X Y hb hk => ⟨(block4 hb).1.1, (block4 hb).1.2.1, cell_of q1 (hk AB hABl (by omega) (by omega)), cell_of q2 (hk AB hABl (by omega) (by omega)), cell_of q3 (hk AB hABl (by omega) (by omega)), cell_of r1 (hk gb hglt (by omega) (by omega)), cell_of hc (hk bo hbol (by omega) (by omega))⟩
  have HS3 : Hid (∀ (W : World) (u : Value), (W.cell? ⟨b, 0, none⟩ = some (.slice (some ⟨bo, 0, none⟩) n co) ∧ W.cell? ⟨b, 1, none⟩ = some (.slice (some ⟨gb, go, none⟩) nr cr) ∧ W.cell? ⟨AB, 1, none⟩ = some (.int .i64 (i : Int)) ∧ W.cell? ⟨AB, 2, none⟩ = some (.int .i64 (s : Int)) ∧ W.cell? ⟨AB, 3, none⟩ = some (.int .i64 (-1)) ∧ W.cell? ⟨gb, go + i, none⟩ = some (.int .i64 (f : Int)) ∧ W.cell? ⟨bo, f, none⟩ = some (.slice (some ⟨rb, ro, none⟩) m c)) → (W.setCell ⟨rb, ro + s, none⟩ u).cell? ⟨b, 0, none⟩ = some (.slice (some ⟨bo, 0, none⟩) n co) ∧ (W.setCell ⟨rb, ro + s, none⟩ u).cell? ⟨b, 1, none⟩ = some (.slice (some ⟨gb, go, none⟩) nr cr) ∧ (W.setCell ⟨rb, ro + s, none⟩ u).cell? ⟨AB, 1, none⟩ = some (.int .i64 (i : Int)) ∧ (W.setCell ⟨rb, ro + s, none⟩ u).cell? ⟨AB, 2, none⟩ = some (.int .i64 (s : Int)) ∧ (W.setCell ⟨rb, ro + s, none⟩ u).cell? ⟨AB, 3, none⟩ = some (.int .i64 (-1)) ∧ (W.setCell ⟨rb, ro + s, none⟩ u).cell? ⟨gb, go + i, none⟩ = some (.int .i64 (f : Int)) ∧ (W.setCell ⟨rb, ro + s, none⟩ u).cell? ⟨bo, f, none⟩ = some (.slice (some ⟨rb, ro, none⟩) m c)) := fun W u hW => ⟨cell_other hW.1 (Or.inl n1) u, cell_other hW.2.1 (Or.inl n1) u, cell_other hW.2.2.1 (Or.inl n2) u, cell_other hW.2.2.2.1 (Or.inl n2) u, cell_other hW.2.2.2.2.1 (Or.inl n2) u, cell_other hW.2.2.2.2.2.1 (Or.inl n3) u, cell_other hW.2.2.2.2.2.2 (Or.inl n4) u⟩
  have hvr : -1 ≤ (-1 : Int) ∧ (-1 : Int) < (n : Int) := by omega
  have HSDR : Hid (∀ W : World, (W.cell? ⟨b, 0, none⟩ = some (.slice (some ⟨bo, 0, none⟩) n co) ∧ W.cell? ⟨b, 1, none⟩ = some (.slice (some ⟨gb, go, none⟩) nr cr) ∧ W.cell? ⟨AB, 1, none⟩ = some (.int .i64 (i : Int)) ∧ W.cell? ⟨AB, 2, none⟩ = some (.int .i64 (s : Int)) ∧ W.cell? ⟨AB, 3, none⟩ = some (.int .i64 (-1)) ∧ W.cell? ⟨gb, go + i, none⟩ = some (.int .i64 (f : Int)) ∧ W.cell? ⟨bo, f, none⟩ = some (.slice (some ⟨rb, ro, none⟩) m c)) → W.drew.cell? ⟨b, 0, none⟩ = some (.slice (some ⟨bo, 0, none⟩) n co) ∧ W.drew.cell? ⟨b, 1, none⟩ = some (.slice (some ⟨gb, go, none⟩) nr cr) ∧ W.drew.cell? ⟨AB, 1, none⟩ = some (.int .i64 (i : Int)) ∧ W.drew.cell? ⟨AB, 2, none⟩ = some (.int .i64 (s : Int)) ∧ W.drew.cell? ⟨AB, 3, none⟩ = some (.int .i64 (-1)) ∧ W.drew.cell? ⟨gb, go + i, none⟩ = some (.int .i64 (f : Int)) ∧ W.drew.cell? ⟨bo, f, none⟩ = some (.slice (some ⟨rb, ro, none⟩) m c)) := fun W hW => hW
  have HCL := hide hcell; have HFZ := hide hfz; have HRL := hide hrlt; have HLR := hide hlr; have HRW := hide hlow
  have HM := hide hm; have HC := hide hc; have HBO := hide hbol; have HLBO := hide hlbo
  have hln := hg.ln.cnt
  have HLN : Hid (g.mm.ln.length ≤ 2000) := hide (by omega)
  have HOR : Hid (-1 ≤ old ∧ old < (n : Int)) := by
    have h_ := hg.gh.so f (by rw [h.hn]; exact hf) _ (getD_mem (by rw [hm]; exact hs))
    rw [hold, h.hn] at h_
    exact h_
  clear hf1 n1 n2 n3 n4 hcell hfz hrlt hlr hlow hc r1 hm hbol hlbo hABl hglt hlb hl5 hq hln hold
  clear hAB hP h hg hnd
  have HTH := hide (there_any (unhide HR) (unhide HG) (i : Int) (s : Int))
  go_upto_region 9 with (go_at_call 48; (with_reducible refine Calls.mono (unhide HTH) ?_); rintro e w2 ⟨rfl, hb2⟩; rw [unhide HF]; have HB2 := hide hb2; have HR2 := hide ((unhide HR).keep hb2); clear hb2)
  clear q0 q1 q2 q3 qf0 qf1 qf2 qf3 ql m0 m1 m2 m3 mf0 mf1 mf2 mf3 ml
  have HS2 := hide (unhide HSS w2 _ _ (unhide HR2).blk (fun k k1 _ _ => (unhide HB2).block k k1))
  have HS2d : Hid ((fun W : World => W.cell? ⟨b, 0, none⟩ = some (.slice (some ⟨bo, 0, none⟩) n co) ∧ W.cell? ⟨b, 1, none⟩ = some (.slice (some ⟨gb, go, none⟩) nr cr) ∧ W.cell? ⟨AB, 1, none⟩ = some (.int .i64 (i : Int)) ∧ W.cell? ⟨AB, 2, none⟩ = some (.int .i64 (s : Int)) ∧ W.cell? ⟨AB, 3, none⟩ = some (.int .i64 (-1)) ∧ W.cell? ⟨gb, go + i, none⟩ = some (.int .i64 (f : Int)) ∧ W.cell? ⟨bo, f, none⟩ = some (.slice (some ⟨rb, ro, none⟩) m c)) w2.drew) := unhide HS2
  go_region_held3 (fun W => W.cell? ⟨b, 0, none⟩ = some (.slice (some ⟨bo, 0, none⟩) n co) ∧ W.cell? ⟨b, 1, none⟩ = some (.slice (some ⟨gb, go, none⟩) nr cr) ∧ W.cell? ⟨AB, 1, none⟩ = some (.int .i64 (i : Int)) ∧ W.cell? ⟨AB, 2, none⟩ = some (.int .i64 (s : Int)) ∧ W.cell? ⟨AB, 3, none⟩ = some (.int .i64 (-1)) ∧ W.cell? ⟨gb, go + i, none⟩ = some (.int .i64 (f : Int)) ∧ W.cell? ⟨bo, f, none⟩ = some (.slice (some ⟨rb, ro, none⟩) m c))
    (first | with_reducible exact unhide HS2 | with_reducible exact unhide HS2d)
    (fail)
  obtain ⟨W3, e3⟩ : ∃ X, w2.drew = X := ⟨_, rfl⟩
  have HB3 : Hid (Below Wt.heap.size Wt W3) := by rw [← e3]; exact (unhide HB2).drew
  rw [e3]
  clear e3 HS2 HS2d
  have HR3 := hide ((unhide HR).keep (unhide HB3))
  have HS2 := hide (unhide HSS W3 _ _ (unhide HR3).blk (fun k k1 _ _ => (unhide HB3).block k k1))
  have HS2d : Hid ((fun W : World => W.cell? ⟨b, 0, none⟩ = some (.slice (some ⟨bo, 0, none⟩) n co) ∧ W.cell? ⟨b, 1, none⟩ = some (.slice (some ⟨gb, go, none⟩) nr cr) ∧ W.cell? ⟨AB, 1, none⟩ = some (.int .i64 (i : Int)) ∧ W.cell? ⟨AB, 2, none⟩ = some (.int .i64 (s : Int)) ∧ W.cell? ⟨AB, 3, none⟩ = some (.int .i64 (-1)) ∧ W.cell? ⟨gb, go + i, none⟩ = some (.int .i64 (f : Int)) ∧ W.cell? ⟨bo, f, none⟩ = some (.slice (some ⟨rb, ro, none⟩) m c)) W3.drew) := unhide HS2
  have a3 := (unhide HS2).2.2.2.2.1
  have HB4 := HB3
  obtain ⟨W4, e4⟩ : ∃ X, W3 = X := ⟨_, rfl⟩
  rw [e4] at HB4 HR3 HS2 HS2d a3
  rw [e4]
  clear HB3
  go_upto_region 13 with fail
  clear a3 HS2 HS2d
  have HR4 := hide ((unhide HR).keep (unhide HB4))
  have HS4 := hide (unhide HSS W4 _ _ (unhide HR4).blk (fun k k1 _ _ => (unhide HB4).block k k1))
  have c4 := cell_of (unhide HCL) ((unhide HB4).block rb (unhide HRL))
  have f4 := froz_of (unhide HFZ) ((unhide HB4).block rb (unhide HRL))
  have HK4 : Hid (∀ k, k < Wt.heap.size → lab k ≠ 2 → lab k ≠ 4 → W4.heap[k]? = Wt.heap[k]?) := fun k k1 _ _ => (unhide HB4).block k k1
  have HL4 : Hid (∀ k, k < Wt.heap.size → lab k = lab k) := fun _ _ => rfl
  have HX4 : Hid (Below lo Wt W4) := (unhide HB4).mono (unhide HLO)
  have HZ4 : Hid (Wt.heap.size ≤ W4.heap.size) := (unhide HB4).size
  go_upto_region 14 with fail
  have HSH : Hid (∀ W, Below W4.heap.size W4 W → Calls Try.prog 47 #[.pointer (some ⟨b, 0, none⟩), .int .i64 old] W fun e w' => e = .returned (.tuple #[]) ∧ RfS lo w' lab W4.heap.size b (some ⟨bo, 0, none⟩) n co (some ⟨gb, go, none⟩) nr cr wb cw ⟨g.os, g.rs, shade1 g.mm old⟩ ∧ (∀ k, k < W4.heap.size → lab k ≠ 2 → lab k ≠ 4 → w'.heap[k]? = W4.heap[k]?) ∧ Below lo W4 w') := fun W hW => (rshade_k ((unhide HR4).keep hW) (unhide HND) (Nat.le_trans (unhide HLN) (by decide)) old (unhide HOR)).mono fun e w' ⟨h1, ⟨l5, v5, h2, h2b⟩, h3, h4⟩ => ⟨h1, ⟨l5, v5, h2, fun k k1 => h2b k (Nat.lt_of_lt_of_le k1 hW.size)⟩, fun k k1 k2 k3 => (h3 k (Nat.lt_of_lt_of_le k1 hW.size) k2 k3).trans (hW.block k k1), (hW.mono (Nat.le_trans (unhide HLO) (unhide HZ4))).trans h4⟩
  have HD0 : Hid (Below W4.heap.size W4 W4) := Below.refl _ _
  have HD1 : Hid (Below W4.heap.size W4 W4.drew) := (Below.refl _ _).drew
  have HT4 : Hid ((fun W : World => W.cell? ⟨b, 0, none⟩ = some (.slice (some ⟨bo, 0, none⟩) n co) ∧ W.cell? ⟨b, 1, none⟩ = some (.slice (some ⟨gb, go, none⟩) nr cr) ∧ W.cell? ⟨AB, 1, none⟩ = some (.int .i64 (i : Int)) ∧ W.cell? ⟨AB, 2, none⟩ = some (.int .i64 (s : Int)) ∧ W.cell? ⟨AB, 3, none⟩ = some (.int .i64 (-1)) ∧ W.cell? ⟨gb, go + i, none⟩ = some (.int .i64 (f : Int)) ∧ W.cell? ⟨bo, f, none⟩ = some (.slice (some ⟨rb, ro, none⟩) m c) ∧ W.cell? ⟨rb, ro + s, none⟩ = some (.int .i64 old)) W4) := by
    have h_ := unhide HS4
    exact ⟨h_.1, h_.2.1, h_.2.2.1, h_.2.2.2.1, h_.2.2.2.2.1, h_.2.2.2.2.2.1, h_.2.2.2.2.2.2, c4⟩
  have HT4d : Hid ((fun W : World => W.cell? ⟨b, 0, none⟩ = some (.slice (some ⟨bo, 0, none⟩) n co) ∧ W.cell? ⟨b, 1, none⟩ = some (.slice (some ⟨gb, go, none⟩) nr cr) ∧ W.cell? ⟨AB, 1, none⟩ = some (.int .i64 (i : Int)) ∧ W.cell? ⟨AB, 2, none⟩ = some (.int .i64 (s : Int)) ∧ W.cell? ⟨AB, 3, none⟩ = some (.int .i64 (-1)) ∧ W.cell? ⟨gb, go + i, none⟩ = some (.int .i64 (f : Int)) ∧ W.cell? ⟨bo, f, none⟩ = some (.slice (some ⟨rb, ro, none⟩) m c) ∧ W.cell? ⟨rb, ro + s, none⟩ = some (.int .i64 old)) W4.drew) := unhide HT4
  clear c4 f4
  go_region_held3 (fun W => W.cell? ⟨b, 0, none⟩ = some (.slice (some ⟨bo, 0, none⟩) n co) ∧ W.cell? ⟨b, 1, none⟩ = some (.slice (some ⟨gb, go, none⟩) nr cr) ∧ W.cell? ⟨AB, 1, none⟩ = some (.int .i64 (i : Int)) ∧ W.cell? ⟨AB, 2, none⟩ = some (.int .i64 (s : Int)) ∧ W.cell? ⟨AB, 3, none⟩ = some (.int .i64 (-1)) ∧ W.cell? ⟨gb, go + i, none⟩ = some (.int .i64 (f : Int)) ∧ W.cell? ⟨bo, f, none⟩ = some (.slice (some ⟨rb, ro, none⟩) m c) ∧ W.cell? ⟨rb, ro + s, none⟩ = some (.int .i64 old))
    (first | with_reducible exact unhide HT4 | with_reducible exact unhide HT4d | with_reducible exact unhide HT6)
    (first | (go_at_call 47; (with_reducible refine Calls.mono (unhide HSH _ (by first | with_reducible exact unhide HD1 | with_reducible exact unhide HD0)) ?_); rintro e w6 ⟨rfl, ⟨lab6, vl6, h6, ha6⟩, hk6, hb6⟩; have hkk : ∀ k, k < Wt.heap.size → lab k ≠ 2 → lab k ≠ 4 → w6.heap[k]? = Wt.heap[k]? := (fun k k1 k2 k3 => (hk6 k (Nat.lt_of_lt_of_le k1 (unhide HZ4)) k2 k3).trans (unhide HK4 k k1 k2 k3)); have HT6 : Hid ((fun W : World => W.cell? ⟨b, 0, none⟩ = some (.slice (some ⟨bo, 0, none⟩) n co) ∧ W.cell? ⟨b, 1, none⟩ = some (.slice (some ⟨gb, go, none⟩) nr cr) ∧ W.cell? ⟨AB, 1, none⟩ = some (.int .i64 (i : Int)) ∧ W.cell? ⟨AB, 2, none⟩ = some (.int .i64 (s : Int)) ∧ W.cell? ⟨AB, 3, none⟩ = some (.int .i64 (-1)) ∧ W.cell? ⟨gb, go + i, none⟩ = some (.int .i64 (f : Int)) ∧ W.cell? ⟨bo, f, none⟩ = some (.slice (some ⟨rb, ro, none⟩) m c) ∧ W.cell? ⟨rb, ro + s, none⟩ = some (.int .i64 old)) w6) := (by have h_ := unhide HSS w6 _ _ h6.blk hkk; exact ⟨h_.1, h_.2.1, h_.2.2.1, h_.2.2.2.1, h_.2.2.2.2.1, h_.2.2.2.2.2.1, h_.2.2.2.2.2.2, cell_of (unhide HCL) (hkk rb (unhide HRL) (by have := unhide HLR; omega) (by have := unhide HLR; omega))⟩); have HR6 := hide h6; have HA6 := hide (fun k k1 => ha6 k (Nat.lt_of_lt_of_le k1 (unhide HZ4))); have HK6 := hide hkk; have HX6 := hide ((unhide HX4).trans hb6); clear h6 ha6 hk6 hb6 hkk))
  clear HT4 HT4d HS4
  have HS6 := hide (unhide HSS w6 _ _ (unhide HR6).blk (unhide HK6))
  go_upto_region 15 with fail
  have f6 := froz_of (unhide HFZ) (unhide HK6 rb (unhide HRL) (by have := unhide HLR; omega) (by have := unhide HLR; omega))
  have c6 := cell_of (unhide HCL) (unhide HK6 rb (unhide HRL) (by have := unhide HLR; omega) (by have := unhide HLR; omega))
  have hc6 := cell_of (unhide HC) (unhide HK6 bo (unhide HBO) (by have := unhide HLBO; omega) (by have := unhide HLBO; omega))
  have HSd : Hid ((fun W : World => W.cell? ⟨b, 0, none⟩ = some (.slice (some ⟨bo, 0, none⟩) n co) ∧ W.cell? ⟨b, 1, none⟩ = some (.slice (some ⟨gb, go, none⟩) nr cr) ∧ W.cell? ⟨AB, 1, none⟩ = some (.int .i64 (i : Int)) ∧ W.cell? ⟨AB, 2, none⟩ = some (.int .i64 (s : Int)) ∧ W.cell? ⟨AB, 3, none⟩ = some (.int .i64 (-1)) ∧ W.cell? ⟨gb, go + i, none⟩ = some (.int .i64 (f : Int)) ∧ W.cell? ⟨bo, f, none⟩ = some (.slice (some ⟨rb, ro, none⟩) m c)) w6.drew) := unhide HS6
  have hset := (unhide HR6).setSlot (f := f) (s := s) (by omega) (unhide HM) (by omega) rfl hc6 (-1)
  have HST := hide hset
  have f6d : w6.drew.frozen? ⟨rb, ro + s, none⟩ = false := f6
  have c6d : w6.drew.cell? ⟨rb, ro + s, none⟩ = some (.int .i64 old) := c6
  clear hset hc6
  go_region_held3 (fun W => W.cell? ⟨b, 0, none⟩ = some (.slice (some ⟨bo, 0, none⟩) n co) ∧ W.cell? ⟨b, 1, none⟩ = some (.slice (some ⟨gb, go, none⟩) nr cr) ∧ W.cell? ⟨AB, 1, none⟩ = some (.int .i64 (i : Int)) ∧ W.cell? ⟨AB, 2, none⟩ = some (.int .i64 (s : Int)) ∧ W.cell? ⟨AB, 3, none⟩ = some (.int .i64 (-1)) ∧ W.cell? ⟨gb, go + i, none⟩ = some (.int .i64 (f : Int)) ∧ W.cell? ⟨bo, f, none⟩ = some (.slice (some ⟨rb, ro, none⟩) m c))
    (first | with_reducible exact unhide HS6 | with_reducible exact unhide HSd | (repeat (first | with_reducible exact unhide HS6 | with_reducible exact unhide HSd | with_reducible refine unhide HS3 _ _ ?_ | with_reducible refine unhide HSDR _ ?_)))
    (fail)
  all_goals
    obtain ⟨W8, e8⟩ : ∃ X, (w6.setCell ⟨rb, ro + s, none⟩ (.int .i64 (-1))).drew = X := ⟨_, rfl⟩
    have HR8 : Hid (RfL lo W8 lab6 b (some ⟨bo, 0, none⟩) n co (some ⟨gb, go, none⟩) nr cr wb cw vl6 ⟨g.os.set f ((g.os.getD f []).set s (-1)), g.rs, shade1 g.mm old⟩) := by rw [← e8]; exact (unhide HST).1.keep (Below.refl _ _).drew
    have HX8 : Hid (Below lo Wt W8) := by rw [← e8]; exact ((unhide HX6).setCell (p := ⟨rb, ro + s, none⟩) (unhide HST).2.1 _).drew
    try rw [e8]
    clear e8
    go_wp2_with fail
    exact unhide HP _ (RfX.of (unhide HR8)) (unhide HX8)

set_option maxRecDepth 100000 in
set_option maxHeartbeats 4000000 in
theorem act_wkn3 {lo : Nat} {Wt : World} {lab : Nat → Nat} {b : Nat} {oa : Option Addr} {n co : Nat} {ar : Option Addr} {nr cr wb cw : Nat} {vl : Value} {g : Gm} (h : RfL lo Wt lab b oa n co ar nr cr wb cw vl g) (hg : GoodG g) (hnd : NodG g.mm) (AB : Nat) (A : Bool) (i f s m : Nat) (hi : i < nr) (hq : regG g (i : Int) = (f : Int)) (hf : f < n) (hm : (g.os.getD f []).length = m) (hs : s < m) (old : Int) (hold : (g.os.getD f []).getD s 0 = old) (hAB : Wt.heap[AB]? = some (.cells #[.int .i64 1, .int .i64 (i : Int), .int .i64 (s : Int), .int .i64 (-1)] 47 (0, 0))) (hla : lab AB = 0) (P0 : Ending → World → Prop) (hP : ∀ w', RfX lo w' b ⟨g.os.set f ((g.os.getD f []).set s (-1)), g.rs, shB 3 g.mm old (-1)⟩ → Below lo Wt w' → P0 (.returned (.int .i64 0)) w')
    {s1 s3 s5 s6 s7 s10 s11 s12 s13 s14 s15 s16 s17 s18 s19 s20 s21 s22 s23 s24 s25 s26 s27 s28 s29 s30 s31 s32 s33 s34 s35 s36 s37 s38 s39 s40 s41 s42 s43 s44 s45 s46 s47 s48 s49 s50 s51 s52 s53 s54 s55 s56 s57 s58 s59 s60 s61 s62 s63 s64 s65 s66 s67 s68 s69 s70 s71 s72 s73 s74 s75 s76 s77 s78 s79 s80 s81 s82 s83 s84 s85 s86 s87 s88 s89 s90 s91 s92 s93 s94 s95 s96 s97 s98 s99 s100 s101 s102 s103 s104 s105 s106 s107 s108 s109 s110 s111 s112 s113 s114 s115 s116 s117 s118 s119 s120 s121 s122 s123 s124 s125 s126 s127 s128 s129 s130 s131 s132 s133 s134 s135 s136 s137 s138 s139 s140 s141 s142 s143 s144 s145 s146 s147 s148 s149 s150 s151 s152 s153 s154 s155 s156 s157 s158 s159 s160 s161 s162 s163 s164 s165 s166 s167 s168 s169 s170 s171 s172 s173 s174 s175 s176 s177 s178 s179 s180 s181 s182 s183 s184 s185 s186 s187 s188 s189 s190 s191 s192 s193 s194 s195 s196 s197 s198 s199 s200 s201 s202 s203 s204 s205 s206 s207 s208 s209 s210 s211 s212 s213 s214 s215 s216 s217 s218 s219 s220 s221 s222 s223 s224 s225 s226 s227 s228 s229 s230 s231 s232 s233 s234 s235 s236 s237 s238 s239 s240 s241 s242 s243 s244 s245 s246 s247 s248 s249 s250 s251 s252 s253 s254 s255 s256 s257 s258 s259 s260 s261 s262 s263 s264 s265 s266 s267 s268 s269 s270 : Value} (K1 K2 : Act → World → Prop) (x y zc : Code) (hK1 : ∀ a w', y.wp Try.prog (Exit.then K2 (bodyPost Try.prog Try.f35 P0)) a w' → K1 a w') (hK2 : ∀ a w', zc.wp Try.prog (bodyPost Try.prog Try.f35 P0) a w' → K2 a w') (hcut : Try.f35.body.bind (cutIfE 4) = some (x, y, zc)) :
    x.wp Try.prog (Exit.then K1 (Exit.then K2 (bodyPost Try.prog Try.f35 P0))) { tmps := (.pointer (some ⟨b, 0, none⟩) :: s1 :: .int .i64 3 :: s3 :: .pointer (some ⟨AB, 0, none⟩) :: s5 :: s6 :: s7 :: .bool A :: .bool true :: s10 :: s11 :: s12 :: s13 :: s14 :: s15 :: s16 :: s17 :: s18 :: s19 :: s20 :: s21 :: s22 :: s23 :: s24 :: s25 :: s26 :: s27 :: s28 :: s29 :: s30 :: s31 :: s32 :: s33 :: s34 :: s35 :: s36 :: s37 :: s38 :: s39 :: s40 :: s41 :: s42 :: s43 :: s44 :: s45 :: s46 :: s47 :: s48 :: s49 :: s50 :: s51 :: s52 :: s53 :: s54 :: s55 :: s56 :: s57 :: s58 :: s59 :: s60 :: s61 :: s62 :: s63 :: s64 :: s65 :: s66 :: s67 :: s68 :: s69 :: s70 :: s71 :: s72 :: s73 :: s74 :: s75 :: s76 :: s77 :: s78 :: s79 :: s80 :: s81 :: s82 :: s83 :: s84 :: s85 :: s86 :: s87 :: s88 :: s89 :: s90 :: s91 :: s92 :: s93 :: s94 :: s95 :: s96 :: s97 :: s98 :: s99 :: s100 :: s101 :: s102 :: s103 :: s104 :: s105 :: s106 :: s107 :: s108 :: s109 :: s110 :: s111 :: s112 :: s113 :: s114 :: s115 :: s116 :: s117 :: s118 :: s119 :: s120 :: s121 :: s122 :: s123 :: s124 :: s125 :: s126 :: s127 :: s128 :: s129 :: s130 :: s131 :: s132 :: s133 :: s134 :: s135 :: s136 :: s137 :: s138 :: s139 :: s140 :: s141 :: s142 :: s143 :: s144 :: s145 :: s146 :: s147 :: s148 :: s149 :: s150 :: s151 :: s152 :: s153 :: s154 :: s155 :: s156 :: s157 :: s158 :: s159 :: s160 :: s161 :: s162 :: s163 :: s164 :: s165 :: s166 :: s167 :: s168 :: s169 :: s170 :: s171 :: s172 :: s173 :: s174 :: s175 :: s176 :: s177 :: s178 :: s179 :: s180 :: s181 :: s182 :: s183 :: s184 :: s185 :: s186 :: s187 :: s188 :: s189 :: s190 :: s191 :: s192 :: s193 :: s194 :: s195 :: s196 :: s197 :: s198 :: s199 :: s200 :: s201 :: s202 :: s203 :: s204 :: s205 :: s206 :: s207 :: s208 :: s209 :: s210 :: s211 :: s212 :: s213 :: s214 :: s215 :: s216 :: s217 :: s218 :: s219 :: s220 :: s221 :: s222 :: s223 :: s224 :: s225 :: s226 :: s227 :: s228 :: s229 :: s230 :: s231 :: s232 :: s233 :: s234 :: s235 :: s236 :: s237 :: s238 :: s239 :: s240 :: s241 :: s242 :: s243 :: s244 :: s245 :: s246 :: s247 :: s248 :: s249 :: s250 :: s251 :: s252 :: s253 :: s254 :: s255 :: s256 :: s257 :: s258 :: s259 :: s260 :: s261 :: s262 :: s263 :: s264 :: s265 :: s266 :: s267 :: s268 :: s269 :: s270 :: []).toArray, defers := [] } Wt := by
  have hcc : Try.f35.body.bind (cutIfE 4) = some (_, _, _) := rfl
  rw [hcc] at hcut
  cases hcut
  clear hcc
  obtain ⟨⟨q0, q1, q2, q3⟩, ⟨qf0, qf1, qf2, qf3⟩, ql⟩ := block4 hAB
  obtain ⟨⟨m0, m1, m2, m3⟩, ⟨mf0, mf1, mf2, mf3⟩, ml⟩ := block4 h.blk
  have HQ := hide hAB; have HP := hide hP; have HR := hide h; have HG := hide hg; have HND := hide hnd
  have HLO : Hid (lo ≤ Wt.heap.size) := Nat.le_trans h.low.1 (Nat.le_of_lt h.blt)
  obtain ⟨bo, rb, ro, c, eoa, hc, hcell, hfz, hlr, hlow, hrlt⟩ := h.slotAt hf hm hs
  rw [hold] at hcell
  obtain ⟨gb, go, ear, r1, _, hl5, _, hglt⟩ := h.regAt hi
  rw [← regG_at, hq] at r1
  have hf1 : hasSlB g (i : Int) (s : Int) = true := by
    unfold hasSlB hasRB
    rw [rowG_at hq, hq, hm, h.hr]
    have e1 : decide ((0 : Int) ≤ (i : Int)) = true := decide_eq_true (by omega)
    have e2 : decide ((i : Int) < (nr : Int)) = true := decide_eq_true (by omega)
    have e3 : decide ((f : Int) = -1) = false := decide_eq_false (by omega)
    have e4 : decide ((0 : Int) ≤ (s : Int)) = true := decide_eq_true (by omega)
    have e5 : decide ((s : Int) < (m : Int)) = true := decide_eq_true (by omega)
    rw [e1, e2, e3, e4, e5]
    rfl
  have HF := hide hf1
  have i1 : (0 : Int) ≤ (i : Int) := by omega
  have i2 : (i : Int) < (nr : Int) := by omega
  have i3 : (0 : Int) ≤ (f : Int) := by omega
  have i4 : (f : Int) < (n : Int) := by omega
  have i5 : (0 : Int) ≤ (s : Int) := by omega
  have i6 : (s : Int) < (m : Int) := by omega
  have hlb := h.lbs
  obtain ⟨_, _, hbol, _, hlbo⟩ := h.olo eoa
  have hABl := size_of hAB
  have n1 : b ≠ rb := fun e => by rw [← e] at hlr; omega
  have n2 : AB ≠ rb := fun e => by rw [← e] at hlr; omega
  have n3 : gb ≠ rb := fun e => by rw [← e] at hlr; omega
  have n4 : bo ≠ rb := fun e => by rw [← e] at hlr; omega
  subst eoa
  subst ear
  have HSS : Hid (∀ (W : World) (X Y : Value), W.heap[b]? = some (.cells #[.slice (some ⟨bo, 0, none⟩) n co, .slice (some ⟨gb, go, none⟩) nr cr, X, Y] 65 (0, 0)) → (∀ k, k < Wt.heap.size → lab k ≠ 2 → lab k ≠ 4 → W.heap[k]? = Wt.heap[k]?) → W.cell? ⟨b, 0, none⟩ = some (.slice (some ⟨bo, 0, none⟩) n co) ∧ W.cell? ⟨b, 1, none⟩ = some (.slice (some ⟨gb, go, none⟩) nr cr) ∧ W.cell? ⟨AB, 1, none⟩ = some (.int .i64 (i : Int)) ∧ W.cell? ⟨AB, 2, none⟩ = some (.int .i64 (s : Int)) ∧ W.cell? ⟨AB, 3, none⟩ = some (.int .i64 (-1)) ∧ W.cell? ⟨gb, go + i, none⟩ = some (.int .i64 (f : Int)) ∧ W.cell? ⟨bo, f, none⟩ = some (.slice (some ⟨rb, ro, none⟩) m c)) := fun W X Y hb hk => ⟨(block4 hb).1.1, (block4 hb).1.2.1, cell_of q1 (hk AB hABl (by omega) (by omega)), cell_of q2 (hk AB hABl (by omega) (by omega)), cell_of q3 (hk AB hABl (by omega) (by omega)), cell_of r1 (hk gb hglt (by omega) (by omega)), cell_of hc (hk bo hbol (by omega) (by omega))⟩
  have HS3 : Hid (∀ (W : World) (u : Value), (W.cell? ⟨b, 0, none⟩ = some (.slice (some ⟨bo, 0, none⟩) n co) ∧ W.cell? ⟨b, 1, none⟩ = some (.slice (some ⟨gb, go, none⟩) nr cr) ∧ W.cell? ⟨AB, 1, none⟩ = some (.int .i64 (i : Int)) ∧ W.cell? ⟨AB, 2, none⟩ = some (.int .i64 (s : Int)) ∧ W.cell? ⟨AB, 3, none⟩ = some (.int .i64 (-1)) ∧ W.cell? ⟨gb, go + i, none⟩ = some (.int .i64 (f : Int)) ∧ W.cell? ⟨bo, f, none⟩ = some (.slice (some ⟨rb, ro, none⟩) m c)) → (W.setCell ⟨rb, ro + s, none⟩ u).cell? ⟨b, 0, none⟩ = some (.slice (some ⟨bo, 0, none⟩) n co) ∧ (W.setCell ⟨rb, ro + s, none⟩ u).cell? ⟨b, 1, none⟩ = some (.slice (some ⟨gb, go, none⟩) nr cr) ∧ (W.setCell ⟨rb, ro + s, none⟩ u).cell? ⟨AB, 1, none⟩ = some (.int .i64 (i : Int)) ∧ (W.setCell ⟨rb, ro + s, none⟩ u).cell? ⟨AB, 2, none⟩ = some (.int .i64 (s : Int)) ∧ (W.setCell ⟨rb, ro + s, none⟩ u).cell? ⟨AB, 3, none⟩ = some (.int .i64 (-1)) ∧ (W.setCell ⟨rb, ro + s, none⟩ u).cell? ⟨gb, go + i, none⟩ = some (.int .i64 (f : Int)) ∧ (W.setCell ⟨rb, ro + s, none⟩ u).cell? ⟨bo, f, none⟩ = some (.slice (some ⟨rb, ro, none⟩) m c)) := fun W u hW => ⟨cell_other hW.1 (Or.inl n1) u, cell_other hW.2.1 (Or.inl n1) u, cell_other hW.2.2.1 (Or.inl n2) u, cell_other hW.2.2.2.1 (Or.inl n2) u, cell_other hW.2.2.2.2.1 (Or.inl n2) u, cell_other hW.2.2.2.2.2.1 (Or.inl n3) u, cell_other hW.2.2.2.2.2.2 (Or.inl n4) u⟩
  have hvr : -1 ≤ (-1 : Int) ∧ (-1 : Int) < (n : Int) := by omega
  have HSDR : Hid (∀ W : World, (W.cell? ⟨b, 0, none⟩ = some (.slice (some ⟨bo, 0, none⟩) n co) ∧ W.cell? ⟨b, 1, none⟩ = some (.slice (some ⟨gb, go, none⟩) nr cr) ∧ W.cell? ⟨AB, 1, none⟩ = some (.int .i64 (i : Int)) ∧ W.cell? ⟨AB, 2, none⟩ = some (.int .i64 (s : Int)) ∧ W.cell? ⟨AB, 3, none⟩ = some (.int .i64 (-1)) ∧ W.cell? ⟨gb, go + i, none⟩ = some (.int .i64 (f : Int)) ∧ W.cell? ⟨bo, f, none⟩ = some (.slice (some ⟨rb, ro, none⟩) m c)) → W.drew.cell? ⟨b, 0, none⟩ = some (.slice (some ⟨bo, 0, none⟩) n co) ∧ W.drew.cell? ⟨b, 1, none⟩ = some (.slice (some ⟨gb, go, none⟩) nr cr) ∧ W.drew.cell? ⟨AB, 1, none⟩ = some (.int .i64 (i : Int)) ∧ W.drew.cell? ⟨AB, 2, none⟩ = some (.int .i64 (s : Int)) ∧ W.drew.cell? ⟨AB, 3, none⟩ = some (.int .i64 (-1)) ∧ W.drew.cell? ⟨gb, go + i, none⟩ = some (.int .i64 (f : Int)) ∧ W.drew.cell? ⟨bo, f, none⟩ = some (.slice (some ⟨rb, ro, none⟩) m c)) := fun W hW => hW
  have HCL := hide hcell; have HFZ := hide hfz; have HRL := hide hrlt; have HLR := hide hlr; have HRW := hide hlow
  have HM := hide hm; have HC := hide hc; have HBO := hide hbol; have HLBO := hide hlbo
  have hln := hg.ln.cnt
  have HLN : Hid (g.mm.ln.length ≤ 2000) := hide (by omega)
  have HOR : Hid (-1 ≤ old ∧ old < (n : Int)) := by
    have h_ := hg.gh.so f (by rw [h.hn]; exact hf) _ (getD_mem (by rw [hm]; exact hs))
    rw [hold, h.hn] at h_
    exact h_
  clear hf1 n1 n2 n3 n4 hcell hfz hrlt hlr hlow hc r1 hm hbol hlbo hABl hglt hlb hl5 hq hln hold
  clear hAB hP h hg hnd
  have HTH := hide (there_any (unhide HR) (unhide HG) (i : Int) (s : Int))
  go_upto_region 9 with (go_at_call 48; (with_reducible refine Calls.mono (unhide HTH) ?_); rintro e w2 ⟨rfl, hb2⟩; rw [unhide HF]; have HB2 := hide hb2; have HR2 := hide ((unhide HR).keep hb2); clear hb2)
  clear q0 q1 q2 q3 qf0 qf1 qf2 qf3 ql m0 m1 m2 m3 mf0 mf1 mf2 mf3 ml
  have HS2 := hide (unhide HSS w2 _ _ (unhide HR2).blk (fun k k1 _ _ => (unhide HB2).block k k1))
  have HS2d : Hid ((fun W : World => W.cell? ⟨b, 0, none⟩ = some (.slice (some ⟨bo, 0, none⟩) n co) ∧ W.cell? ⟨b, 1, none⟩ = some (.slice (some ⟨gb, go, none⟩) nr cr) ∧ W.cell? ⟨AB, 1, none⟩ = some (.int .i64 (i : Int)) ∧ W.cell? ⟨AB, 2, none⟩ = some (.int .i64 (s : Int)) ∧ W.cell? ⟨AB, 3, none⟩ = some (.int .i64 (-1)) ∧ W.cell? ⟨gb, go + i, none⟩ = some (.int .i64 (f : Int)) ∧ W.cell? ⟨bo, f, none⟩ = some (.slice (some ⟨rb, ro, none⟩) m c)) w2.drew) := unhide HS2
  go_region_held3 (fun W => W.cell? ⟨b, 0, none⟩ = some (.slice (some ⟨bo, 0, none⟩) n co) ∧ W.cell? ⟨b, 1, none⟩ = some (.slice (some ⟨gb, go, none⟩) nr cr) ∧ W.cell? ⟨AB, 1, none⟩ = some (.int .i64 (i : Int)) ∧ W.cell? ⟨AB, 2, none⟩ = some (.int .i64 (s : Int)) ∧ W.cell? ⟨AB, 3, none⟩ = some (.int .i64 (-1)) ∧ W.cell? ⟨gb, go + i, none⟩ = some (.int .i64 (f : Int)) ∧ W.cell? ⟨bo, f, none⟩ = some (.slice (some ⟨rb, ro, none⟩) m c))
    (first | with_reducible exact unhide HS2 | with_reducible exact unhide HS2d)
    (fail)
  obtain ⟨W3, e3⟩ : ∃ X, w2.drew = X := ⟨_, rfl⟩
  have HB3 : Hid (Below Wt.heap.size Wt W3) := by rw [← e3]; exact (unhide HB2).drew
  rw [e3]
  clear e3 HS2 HS2d
  have HR3 := hide ((unhide HR).keep (unhide HB3))
  have HS2 := hide (unhide HSS W3 _ _ (unhide HR3).blk (fun k k1 _ _ => (unhide HB3).block k k1))
  have HS2d : Hid ((fun W : World => W.cell? ⟨b, 0, none⟩ = some (.slice (some ⟨bo, 0, none⟩) n co) ∧ W.cell? ⟨b, 1, none⟩ = some (.slice (some ⟨gb, go, none⟩) nr cr) ∧ W.cell? ⟨AB, 1, none⟩ = some (.int .i64 (i : Int)) ∧ W.cell? ⟨AB, 2, none⟩ = some (.int .i64 (s : Int)) ∧ W.cell? ⟨AB, 3, none⟩ = some (.int .i64 (-1)) ∧ W.cell? ⟨gb, go + i, none⟩ = some (.int .i64 (f : Int)) ∧ W.cell? ⟨bo, f, none⟩ = some (.slice (some ⟨rb, ro, none⟩) m c)) W3.drew) := unhide HS2
  have a3 := (unhide HS2).2.2.2.2.1
  have HB4 := HB3
  obtain ⟨W4, e4⟩ : ∃ X, W3 = X := ⟨_, rfl⟩
  rw [e4] at HB4 HR3 HS2 HS2d a3
  rw [e4]
  clear HB3
  go_upto_region 13 with fail
  clear a3 HS2 HS2d
  have HR4 := hide ((unhide HR).keep (unhide HB4))
  have HS4 := hide (unhide HSS W4 _ _ (unhide HR4).blk (fun k k1 _ _ => (unhide HB4).block k k1))
  have c4 := cell_of (unhide HCL) ((unhide HB4).block rb (unhide HRL))
  have f4 := froz_of (unhide HFZ) ((unhide HB4).block rb (unhide HRL))
  have HK4 : Hid (∀ k, k < Wt.heap.size → lab k ≠ 2 → lab k ≠ 4 → W4.heap[k]? = Wt.heap[k]?) := fun k k1 _ _ => (unhide HB4).block k k1
  have HL4 : Hid (∀ k, k < Wt.heap.size → lab k = lab k) := fun _ _ => rfl
  have HX4 : Hid (Below lo Wt W4) := (unhide HB4).mono (unhide HLO)
  have HZ4 : Hid (Wt.heap.size ≤ W4.heap.size) := (unhide HB4).size
  go_upto_region 14 with fail
  have HSH : Hid (∀ W, Below W4.heap.size W4 W → Calls Try.prog 47 #[.pointer (some ⟨b, 0, none⟩), .int .i64 old] W fun e w' => e = .returned (.tuple #[]) ∧ RfS lo w' lab W4.heap.size b (some ⟨bo, 0, none⟩) n co (some ⟨gb, go, none⟩) nr cr wb cw ⟨g.os, g.rs, shade1 g.mm old⟩ ∧ (∀ k, k < W4.heap.size → lab k ≠ 2 → lab k ≠ 4 → w'.heap[k]? = W4.heap[k]?) ∧ Below lo W4 w') := fun W hW => (rshade_k ((unhide HR4).keep hW) (unhide HND) (Nat.le_trans (unhide HLN) (by decide)) old (unhide HOR)).mono fun e w' ⟨h1, ⟨l5, v5, h2, h2b⟩, h3, h4⟩ => ⟨h1, ⟨l5, v5, h2, fun k k1 => h2b k (Nat.lt_of_lt_of_le k1 hW.size)⟩, fun k k1 k2 k3 => (h3 k (Nat.lt_of_lt_of_le k1 hW.size) k2 k3).trans (hW.block k k1), (hW.mono (Nat.le_trans (unhide HLO) (unhide HZ4))).trans h4⟩
  have HD0 : Hid (Below W4.heap.size W4 W4) := Below.refl _ _
  have HD1 : Hid (Below W4.heap.size W4 W4.drew) := (Below.refl _ _).drew
  have HT4 : Hid ((fun W : World => W.cell? ⟨b, 0, none⟩ = some (.slice (some ⟨bo, 0, none⟩) n co) ∧ W.cell? ⟨b, 1, none⟩ = some (.slice (some ⟨gb, go, none⟩) nr cr) ∧ W.cell? ⟨AB, 1, none⟩ = some (.int .i64 (i : Int)) ∧ W.cell? ⟨AB, 2, none⟩ = some (.int .i64 (s : Int)) ∧ W.cell? ⟨AB, 3, none⟩ = some (.int .i64 (-1)) ∧ W.cell? ⟨gb, go + i, none⟩ = some (.int .i64 (f : Int)) ∧ W.cell? ⟨bo, f, none⟩ = some (.slice (some ⟨rb, ro, none⟩) m c) ∧ W.cell? ⟨rb, ro + s, none⟩ = some (.int .i64 old)) W4) := by
    have h_ := unhide HS4
    exact ⟨h_.1, h_.2.1, h_.2.2.1, h_.2.2.2.1, h_.2.2.2.2.1, h_.2.2.2.2.2.1, h_.2.2.2.2.2.2, c4⟩
  have HT4d : Hid ((fun W : World => W.cell? ⟨b, 0, none⟩ = some (.slice (some ⟨bo, 0, none⟩) n co) ∧ W.cell? ⟨b, 1, none⟩ = some (.slice (some ⟨gb, go, none⟩) nr cr) ∧ W.cell? ⟨AB, 1, none⟩ = some (.int .i64 (i : Int)) ∧ W.cell? ⟨AB, 2, none⟩ = some (.int .i64 (s : Int)) ∧ W.cell? ⟨AB, 3, none⟩ = some (.int .i64 (-1)) ∧ W.cell? ⟨gb, go + i, none⟩ = some (.int .i64 (f : Int)) ∧ W.cell? ⟨bo, f, none⟩ = some (.slice (some ⟨rb, ro, none⟩) m c) ∧ W.cell? ⟨rb, ro + s, none⟩ = some (.int .i64 old)) W4.drew) := unhide HT4
  clear c4 f4
  go_region_held3 (fun W => W.cell? ⟨b, 0, none⟩ = some (.slice (some ⟨bo, 0, none⟩) n co) ∧ W.cell? ⟨b, 1, none⟩ = some (.slice (some ⟨gb, go, none⟩) nr cr) ∧ W.cell? ⟨AB, 1, none⟩ = some (.int .i64 (i : Int)) ∧ W.cell? ⟨AB, 2, none⟩ = some (.int .i64 (s : Int)) ∧ W.cell? ⟨AB, 3, none⟩ = some (.int .i64 (-1)) ∧ W.cell? ⟨gb, go + i, none⟩ = some (.int .i64 (f : Int)) ∧ W.cell? ⟨bo, f, none⟩ = some (.slice (some ⟨rb, ro, none⟩) m c) ∧ W.cell? ⟨rb, ro + s, none⟩ = some (.int .i64 old))
    (first | with_reducible exact unhide HT4 | with_reducible exact unhide HT4d | with_reducible exact unhide HT6)
    (first | (go_at_call 47; (with_reducible refine Calls.mono (unhide HSH _ (by first | with_reducible exact unhide HD1 | with_reducible exact unhide HD0)) ?_); rintro e w6 ⟨rfl, ⟨lab6, vl6, h6, ha6⟩, hk6, hb6⟩; have hkk : ∀ k, k < Wt.heap.size → lab k ≠ 2 → lab k ≠ 4 → w6.heap[k]? = Wt.heap[k]? := (fun k k1 k2 k3 => (hk6 k (Nat.lt_of_lt_of_le k1 (unhide HZ4)) k2 k3).trans (unhide HK4 k k1 k2 k3)); have HT6 : Hid ((fun W : World => W.cell? ⟨b, 0, none⟩ = some (.slice (some ⟨bo, 0, none⟩) n co) ∧ W.cell? ⟨b, 1, none⟩ = some (.slice (some ⟨gb, go, none⟩) nr cr) ∧ W.cell? ⟨AB, 1, none⟩ = some (.int .i64 (i : Int)) ∧ W.cell? ⟨AB, 2, none⟩ = some (.int .i64 (s : Int)) ∧ W.cell? ⟨AB, 3, none⟩ = some (.int .i64 (-1)) ∧ W.cell? ⟨gb, go + i, none⟩ = some (.int .i64 (f : Int)) ∧ W.cell? ⟨bo, f, none⟩ = some (.slice (some ⟨rb, ro, none⟩) m c) ∧ W.cell? ⟨rb, ro + s, none⟩ = some (.int .i64 old)) w6) := (by have h_ := unhide HSS w6 _ _ h6.blk hkk; exact ⟨h_.1, h_.2.1, h_.2.2.1, h_.2.2.2.1, h_.2.2.2.2.1, h_.2.2.2.2.2.1, h_.2.2.2.2.2.2, cell_of (unhide HCL) (hkk rb (unhide HRL) (by have := unhide HLR; omega) (by have := unhide HLR; omega))⟩); have HR6 := hide h6; have HA6 := hide (fun k k1 => ha6 k (Nat.lt_of_lt_of_le k1 (unhide HZ4))); have HK6 := hide hkk; have HX6 := hide ((unhide HX4).trans hb6); clear h6 ha6 hk6 hb6 hkk))
  clear HT4 HT4d HS4
  have HS6 := hide (unhide HSS w6 _ _ (unhide HR6).blk (unhide HK6))
  go_upto_region 15 with fail
  have f6 := froz_of (unhide HFZ) (unhide HK6 rb (unhide HRL) (by have := unhide HLR; omega) (by have := unhide HLR; omega))
  have c6 := cell_of (unhide HCL) (unhide HK6 rb (unhide HRL) (by have := unhide HLR; omega) (by have := unhide HLR; omega))
  have hc6 := cell_of (unhide HC) (unhide HK6 bo (unhide HBO) (by have := unhide HLBO; omega) (by have := unhide HLBO; omega))
  have HSd : Hid ((fun W : World => W.cell? ⟨b, 0, none⟩ = some (.slice (some ⟨bo, 0, none⟩) n co) ∧ W.cell? ⟨b, 1, none⟩ = some (.slice (some ⟨gb, go, none⟩) nr cr) ∧ W.cell? ⟨AB, 1, none⟩ = some (.int .i64 (i : Int)) ∧ W.cell? ⟨AB, 2, none⟩ = some (.int .i64 (s : Int)) ∧ W.cell? ⟨AB, 3, none⟩ = some (.int .i64 (-1)) ∧ W.cell? ⟨gb, go + i, none⟩ = some (.int .i64 (f : Int)) ∧ W.cell? ⟨bo, f, none⟩ = some (.slice (some ⟨rb, ro, none⟩) m c)) w6.drew) := unhide HS6
  have hset := (unhide HR6).setSlot (f := f) (s := s) (by omega) (unhide HM) (by omega) rfl hc6 (-1)
  have HST := hide hset
  have f6d : w6.drew.frozen? ⟨rb, ro + s, none⟩ = false := f6
  have c6d : w6.drew.cell? ⟨rb, ro + s, none⟩ = some (.int .i64 old) := c6
  clear hset hc6
  go_region_held3 (fun W => W.cell? ⟨b, 0, none⟩ = some (.slice (some ⟨bo, 0, none⟩) n co) ∧ W.cell? ⟨b, 1, none⟩ = some (.slice (some ⟨gb, go, none⟩) nr cr) ∧ W.cell? ⟨AB, 1, none⟩ = some (.int .i64 (i : Int)) ∧ W.cell? ⟨AB, 2, none⟩ = some (.int .i64 (s : Int)) ∧ W.cell? ⟨AB, 3, none⟩ = some (.int .i64 (-1)) ∧ W.cell? ⟨gb, go + i, none⟩ = some (.int .i64 (f : Int)) ∧ W.cell? ⟨bo, f, none⟩ = some (.slice (some ⟨rb, ro, none⟩) m c))
    (first | with_reducible exact unhide HS6 | with_reducible exact unhide HSd | (repeat (first | with_reducible exact unhide HS6 | with_reducible exact unhide HSd | with_reducible refine unhide HS3 _ _ ?_ | with_reducible refine unhide HSDR _ ?_)))
    (fail)
  all_goals
    obtain ⟨W8, e8⟩ : ∃ X, (w6.setCell ⟨rb, ro + s, none⟩ (.int .i64 (-1))).drew = X := ⟨_, rfl⟩
    have HR8 : Hid (RfL lo W8 lab6 b (some ⟨bo, 0, none⟩) n co (some ⟨gb, go, none⟩) nr cr wb cw vl6 ⟨g.os.set f ((g.os.getD f []).set s (-1)), g.rs, shade1 g.mm old⟩) := by rw [← e8]; exact (unhide HST).1.keep (Below.refl _ _).drew
    have HX8 : Hid (Below lo Wt W8) := by rw [← e8]; exact ((unhide HX6).setCell (p := ⟨rb, ro + s, none⟩) (unhide HST).2.1 _).drew
    try rw [e8]
    clear e8
    have HSV := hide (rshade_k (unhide HR8) ((unhide HND).shade1 old) (by show (shade1 g.mm old).ln.length ≤ 900000; have h1_ := shade1_len g.mm old; have := unhide HLN; omega) (-1) hvr)
    go_wp2_with (go_at_call 47; (with_reducible refine Calls.mono (unhide HSV) ?_); rintro e w9 ⟨rfl, h9, _, hb9⟩; have H9 := hide h9; have HB9 := hide hb9; clear h9 hb9)
    exact unhide HP _ (unhide H9).x ((unhide HX8).trans (unhide HB9))

set_option maxRecDepth 100000 in
set_option maxHeartbeats 4000000 in
theorem act_wkj0 {lo : Nat} {Wt : World} {lab : Nat → Nat} {b : Nat} {oa : Option Addr} {n co : Nat} {ar : Option Addr} {nr cr wb cw : Nat} {vl : Value} {g : Gm} (h : RfL lo Wt lab b oa n co ar nr cr wb cw vl g) (hg : GoodG g) (hnd : NodG g.mm) (AB : Nat) (A : Bool) (i f s m : Nat) (hi : i < nr) (hq : regG g (i : Int) = (f : Int)) (hf : f < n) (hm : (g.os.getD f []).length = m) (hs : s < m) (j : Nat) (hj : j < nr) (v : Int) (hv : srcG g (j : Int) = v) (_hvr : -1 ≤ v ∧ v < (n : Int)) (old : Int) (hold : (g.os.getD f []).getD s 0 = old) (hAB : Wt.heap[AB]? = some (.cells #[.int .i64 1, .int .i64 (i : Int), .int .i64 (s : Int), .int .i64 (j : Int)] 47 (0, 0))) (hla : lab AB = 0) (P0 : Ending → World → Prop) (hP : ∀ w', RfX lo w' b ⟨g.os.set f ((g.os.getD f []).set s v), g.rs, shB 0 g.mm old v⟩ → Below lo Wt w' → P0 (.returned (.int .i64 0)) w')
    {s1 s3 s5 s6 s7 s10 s11 s12 s13 s14 s15 s16 s17 s18 s19 s20 s21 s22 s23 s24 s25 s26 s27 s28 s29 s30 s31 s32 s33 s34 s35 s36 s37 s38 s39 s40 s41 s42 s43 s44 s45 s46 s47 s48 s49 s50 s51 s52 s53 s54 s55 s56 s57 s58 s59 s60 s61 s62 s63 s64 s65 s66 s67 s68 s69 s70 s71 s72 s73 s74 s75 s76 s77 s78 s79 s80 s81 s82 s83 s84 s85 s86 s87 s88 s89 s90 s91 s92 s93 s94 s95 s96 s97 s98 s99 s100 s101 s102 s103 s104 s105 s106 s107 s108 s109 s110 s111 s112 s113 s114 s115 s116 s117 s118 s119 s120 s121 s122 s123 s124 s125 s126 s127 s128 s129 s130 s131 s132 s133 s134 s135 s136 s137 s138 s139 s140 s141 s142 s143 s144 s145 s146 s147 s148 s149 s150 s151 s152 s153 s154 s155 s156 s157 s158 s159 s160 s161 s162 s163 s164 s165 s166 s167 s168 s169 s170 s171 s172 s173 s174 s175 s176 s177 s178 s179 s180 s181 s182 s183 s184 s185 s186 s187 s188 s189 s190 s191 s192 s193 s194 s195 s196 s197 s198 s199 s200 s201 s202 s203 s204 s205 s206 s207 s208 s209 s210 s211 s212 s213 s214 s215 s216 s217 s218 s219 s220 s221 s222 s223 s224 s225 s226 s227 s228 s229 s230 s231 s232 s233 s234 s235 s236 s237 s238 s239 s240 s241 s242 s243 s244 s245 s246 s247 s248 s249 s250 s251 s252 s253 s254 s255 s256 s257 s258 s259 s260 s261 s262 s263 s264 s265 s266 s267 s268 s269 s270 : Value} (K1 K2 : Act → World → Prop) (x y zc : Code) (hK1 : ∀ a w', y.wp Try.prog (Exit.then K2 (bodyPost Try.prog Try.f35 P0)) a w' → K1 a w') (hK2 : ∀ a w', zc.wp Try.prog (bodyPost Try.prog Try.f35 P0) a w' → K2 a w') (hcut : Try.f35.body.bind (cutIfE 4) = some (x, y, zc)) :
    x.wp Try.prog (Exit.then K1 (Exit.then K2 (bodyPost Try.prog Try.f35 P0))) { tmps := (.pointer (some ⟨b, 0, none⟩) :: s1 :: .int .i64 0 :: s3 :: .pointer (some ⟨AB, 0, none⟩) :: s5 :: s6 :: s7 :: .bool A :: .bool true :: s10 :: s11 :: s12 :: s13 :: s14 :: s15 :: s16 :: s17 :: s18 :: s19 :: s20 :: s21 :: s22 :: s23 :: s24 :: s25 :: s26 :: s27 :: s28 :: s29 :: s30 :: s31 :: s32 :: s33 :: s34 :: s35 :: s36 :: s37 :: s38 :: s39 :: s40 :: s41 :: s42 :: s43 :: s44 :: s45 :: s46 :: s47 :: s48 :: s49 :: s50 :: s51 :: s52 :: s53 :: s54 :: s55 :: s56 :: s57 :: s58 :: s59 :: s60 :: s61 :: s62 :: s63 :: s64 :: s65 :: s66 :: s67 :: s68 :: s69 :: s70 :: s71 :: s72 :: s73 :: s74 :: s75 :: s76 :: s77 :: s78 :: s79 :: s80 :: s81 :: s82 :: s83 :: s84 :: s85 :: s86 :: s87 :: s88 :: s89 :: s90 :: s91 :: s92 :: s93 :: s94 :: s95 :: s96 :: s97 :: s98 :: s99 :: s100 :: s101 :: s102 :: s103 :: s104 :: s105 :: s106 :: s107 :: s108 :: s109 :: s110 :: s111 :: s112 :: s113 :: s114 :: s115 :: s116 :: s117 :: s118 :: s119 :: s120 :: s121 :: s122 :: s123 :: s124 :: s125 :: s126 :: s127 :: s128 :: s129 :: s130 :: s131 :: s132 :: s133 :: s134 :: s135 :: s136 :: s137 :: s138 :: s139 :: s140 :: s141 :: s142 :: s143 :: s144 :: s145 :: s146 :: s147 :: s148 :: s149 :: s150 :: s151 :: s152 :: s153 :: s154 :: s155 :: s156 :: s157 :: s158 :: s159 :: s160 :: s161 :: s162 :: s163 :: s164 :: s165 :: s166 :: s167 :: s168 :: s169 :: s170 :: s171 :: s172 :: s173 :: s174 :: s175 :: s176 :: s177 :: s178 :: s179 :: s180 :: s181 :: s182 :: s183 :: s184 :: s185 :: s186 :: s187 :: s188 :: s189 :: s190 :: s191 :: s192 :: s193 :: s194 :: s195 :: s196 :: s197 :: s198 :: s199 :: s200 :: s201 :: s202 :: s203 :: s204 :: s205 :: s206 :: s207 :: s208 :: s209 :: s210 :: s211 :: s212 :: s213 :: s214 :: s215 :: s216 :: s217 :: s218 :: s219 :: s220 :: s221 :: s222 :: s223 :: s224 :: s225 :: s226 :: s227 :: s228 :: s229 :: s230 :: s231 :: s232 :: s233 :: s234 :: s235 :: s236 :: s237 :: s238 :: s239 :: s240 :: s241 :: s242 :: s243 :: s244 :: s245 :: s246 :: s247 :: s248 :: s249 :: s250 :: s251 :: s252 :: s253 :: s254 :: s255 :: s256 :: s257 :: s258 :: s259 :: s260 :: s261 :: s262 :: s263 :: s264 :: s265 :: s266 :: s267 :: s268 :: s269 :: s270 :: []).toArray, defers := [] } Wt := by
  have hcc : Try.f35.body.bind (cutIfE 4) = some (_, _, _) := rfl
  rw [hcc] at hcut
  cases hcut
  clear hcc
  obtain ⟨⟨q0, q1, q2, q3⟩, ⟨qf0, qf1, qf2, qf3⟩, ql⟩ := block4 hAB
  obtain ⟨⟨m0, m1, m2, m3⟩, ⟨mf0, mf1, mf2, mf3⟩, ml⟩ := block4 h.blk
  have HQ := hide hAB; have HP := hide hP; have HR := hide h; have HG := hide hg; have HND := hide hnd
  have HLO : Hid (lo ≤ Wt.heap.size) := Nat.le_trans h.low.1 (Nat.le_of_lt h.blt)
  obtain ⟨bo, rb, ro, c, eoa, hc, hcell, hfz, hlr, hlow, hrlt⟩ := h.slotAt hf hm hs
  rw [hold] at hcell
  obtain ⟨gb, go, ear, r1, _, hl5, _, hglt⟩ := h.regAt hi
  rw [← regG_at, hq] at r1
  obtain ⟨gb', go', ear', r2, _, _, _, _⟩ := h.regAt hj
  rw [ear] at ear'
  cases ear'
  have hjv : g.rs.getD j 0 = v := by rw [← hv]; unfold srcG; rw [if_neg (by omega), regG_at]
  rw [hjv] at r2
  have j1 : (0 : Int) ≤ (j : Int) := by omega
  have j2 : (j : Int) < (nr : Int) := by omega
  have hf1 : hasSlB g (i : Int) (s : Int) = true := by
    unfold hasSlB hasRB
    rw [rowG_at hq, hq, hm, h.hr]
    have e1 : decide ((0 : Int) ≤ (i : Int)) = true := decide_eq_true (by omega)
    have e2 : decide ((i : Int) < (nr : Int)) = true := decide_eq_true (by omega)
    have e3 : decide ((f : Int) = -1) = false := decide_eq_false (by omega)
    have e4 : decide ((0 : Int) ≤ (s : Int)) = true := decide_eq_true (by omega)
    have e5 : decide ((s : Int) < (m : Int)) = true := decide_eq_true (by omega)
    rw [e1, e2, e3, e4, e5]
    rfl
  have HF := hide hf1
  have i1 : (0 : Int) ≤ (i : Int) := by omega
  have i2 : (i : Int) < (nr : Int) := by omega
  have i3 : (0 : Int) ≤ (f : Int) := by omega
  have i4 : (f : Int) < (n : Int) := by omega
  have i5 : (0 : Int) ≤ (s : Int) := by omega
  have i6 : (s : Int) < (m : Int) := by omega
  have hlb := h.lbs
  obtain ⟨_, _, hbol, _, hlbo⟩ := h.olo eoa
  have hABl := size_of hAB
  have n1 : b ≠ rb := fun e => by rw [← e] at hlr; omega
  have n2 : AB ≠ rb := fun e => by rw [← e] at hlr; omega
  have n3 : gb ≠ rb := fun e => by rw [← e] at hlr; omega
  have n4 : bo ≠ rb := fun e => by rw [← e] at hlr; omega
  subst eoa
  subst ear
  have HSS : Hid (∀ (W : World) (X Y : Value), W.heap[b]? = some (.cells #[.slice (some ⟨bo, 0, none⟩) n co, .slice (some ⟨gb, go, none⟩) nr cr, X, Y] 65 (0, 0)) → (∀ k, k < Wt.heap.size → lab k ≠ 2 → lab k ≠ 4 → W.heap[k]? = Wt.heap[k]?) → W.cell? ⟨b, 0, none⟩ = some (.slice (some ⟨bo, 0, none⟩) n co) ∧ W.cell? ⟨b, 1, none⟩ = some (.slice (some ⟨gb, go, none⟩) nr cr) ∧ W.cell? ⟨AB, 1, none⟩ = some (.int .i64 (i : Int)) ∧ W.cell? ⟨AB, 2, none⟩ = some (.int .i64 (s : Int)) ∧ W.cell? ⟨AB, 3, none⟩ = some (.int .i64 (j : Int)) ∧ W.cell? ⟨gb, go + i, none⟩ = some (.int .i64 (f : Int)) ∧ W.cell? ⟨bo, f, none⟩ = some (.slice (some ⟨rb, ro, none⟩) m c) ∧ W.cell? ⟨gb, go + j, none⟩ = some (.int .i64 v)) := fun W X Y hb hk => ⟨(block4 hb).1.1, (block4 hb).1.2.1, cell_of q1 (hk AB hABl (by omega) (by omega)), cell_of q2 (hk AB hABl (by omega) (by omega)), cell_of q3 (hk AB hABl (by omega) (by omega)), cell_of r1 (hk gb hglt (by omega) (by omega)), cell_of hc (hk bo hbol (by omega) (by omega)), cell_of r2 (hk gb hglt (by omega) (by omega))⟩
  have HS3 : Hid (∀ (W : World) (u : Value), (W.cell? ⟨b, 0, none⟩ = some (.slice (some ⟨bo, 0, none⟩) n co) ∧ W.cell? ⟨b, 1, none⟩ = some (.slice (some ⟨gb, go, none⟩) nr cr) ∧ W.cell? ⟨AB, 1, none⟩ = some (.int .i64 (i : Int)) ∧ W.cell? ⟨AB, 2, none⟩ = some (.int .i64 (s : Int)) ∧ W.cell? ⟨AB, 3, none⟩ = some (.int .i64 (j : Int)) ∧ W.cell? ⟨gb, go + i, none⟩ = some (.int .i64 (f : Int)) ∧ W.cell? ⟨bo, f, none⟩ = some (.slice (some ⟨rb, ro, none⟩) m c) ∧ W.cell? ⟨gb, go + j, none⟩ = some (.int .i64 v)) → (W.setCell ⟨rb, ro + s, none⟩ u).cell? ⟨b, 0, none⟩ = some (.slice (some ⟨bo, 0, none⟩) n co) ∧ (W.setCell ⟨rb, ro + s, none⟩ u).cell? ⟨b, 1, none⟩ = some (.slice (some ⟨gb, go, none⟩) nr cr) ∧ (W.setCell ⟨rb, ro + s, none⟩ u).cell? ⟨AB, 1, none⟩ = some (.int .i64 (i : Int)) ∧ (W.setCell ⟨rb, ro + s, none⟩ u).cell? ⟨AB, 2, none⟩ = some (.int .i64 (s : Int)) ∧ (W.setCell ⟨rb, ro + s, none⟩ u).cell? ⟨AB, 3, none⟩ = some (.int .i64 (j : Int)) ∧ (W.setCell ⟨rb, ro + s, none⟩ u).cell? ⟨gb, go + i, none⟩ = some (.int .i64 (f : Int)) ∧ (W.setCell ⟨rb, ro + s, none⟩ u).cell? ⟨bo, f, none⟩ = some (.slice (some ⟨rb, ro, none⟩) m c) ∧ (W.setCell ⟨rb, ro + s, none⟩ u).cell? ⟨gb, go + j, none⟩ = some (.int .i64 v)) := fun W u hW => ⟨cell_other hW.1 (Or.inl n1) u, cell_other hW.2.1 (Or.inl n1) u, cell_other hW.2.2.1 (Or.inl n2) u, cell_other hW.2.2.2.1 (Or.inl n2) u, cell_other hW.2.2.2.2.1 (Or.inl n2) u, cell_other hW.2.2.2.2.2.1 (Or.inl n3) u, cell_other hW.2.2.2.2.2.2.1 (Or.inl n4) u, cell_other hW.2.2.2.2.2.2.2 (Or.inl n3) u⟩
  have HSDR : Hid (∀ W : World, (W.cell? ⟨b, 0, none⟩ = some (.slice (some ⟨bo, 0, none⟩) n co) ∧ W.cell? ⟨b, 1, none⟩ = some (.slice (some ⟨gb, go, none⟩) nr cr) ∧ W.cell? ⟨AB, 1, none⟩ = some (.int .i64 (i : Int)) ∧ W.cell? ⟨AB, 2, none⟩ = some (.int .i64 (s : Int)) ∧ W.cell? ⟨AB, 3, none⟩ = some (.int .i64 (j : Int)) ∧ W.cell? ⟨gb, go + i, none⟩ = some (.int .i64 (f : Int)) ∧ W.cell? ⟨bo, f, none⟩ = some (.slice (some ⟨rb, ro, none⟩) m c) ∧ W.cell? ⟨gb, go + j, none⟩ = some (.int .i64 v)) → W.drew.cell? ⟨b, 0, none⟩ = some (.slice (some ⟨bo, 0, none⟩) n co) ∧ W.drew.cell? ⟨b, 1, none⟩ = some (.slice (some ⟨gb, go, none⟩) nr cr) ∧ W.drew.cell? ⟨AB, 1, none⟩ = some (.int .i64 (i : Int)) ∧ W.drew.cell? ⟨AB, 2, none⟩ = some (.int .i64 (s : Int)) ∧ W.drew.cell? ⟨AB, 3, none⟩ = some (.int .i64 (j : Int)) ∧ W.drew.cell? ⟨gb, go + i, none⟩ = some (.int .i64 (f : Int)) ∧ W.drew.cell? ⟨bo, f, none⟩ = some (.slice (some ⟨rb, ro, none⟩) m c) ∧ W.drew.cell? ⟨gb, go + j, none⟩ = some (.int .i64 v)) := fun W hW => hW
  have HCL := hide hcell; have HFZ := hide hfz; have HRL := hide hrlt; have HLR := hide hlr; have HRW := hide hlow
  have HM := hide hm; have HC := hide hc; have HBO := hide hbol; have HLBO := hide hlbo
  have hln := hg.ln.cnt
  have HLN : Hid (g.mm.ln.length ≤ 2000) := hide (by omega)
  have HOR : Hid (-1 ≤ old ∧ old < (n : Int)) := by
    have h_ := hg.gh.so f (by rw [h.hn]; exact hf) _ (getD_mem (by rw [hm]; exact hs))
    rw [hold, h.hn] at h_
    exact h_
  clear hf1 n1 n2 n3 n4 hcell hfz hrlt hlr hlow hc r1 r2 hjv hm hbol hlbo hABl hglt hlb hl5 hq hln hold
  clear hAB hP h hg hnd
  have HTH := hide (there_any (unhide HR) (unhide HG) (i : Int) (s : Int))
  go_upto_region 9 with (go_at_call 48; (with_reducible refine Calls.mono (unhide HTH) ?_); rintro e w2 ⟨rfl, hb2⟩; rw [unhide HF]; have HB2 := hide hb2; have HR2 := hide ((unhide HR).keep hb2); clear hb2)
  clear q0 q1 q2 q3 qf0 qf1 qf2 qf3 ql m0 m1 m2 m3 mf0 mf1 mf2 mf3 ml
  have HS2 := hide (unhide HSS w2 _ _ (unhide HR2).blk (fun k k1 _ _ => (unhide HB2).block k k1))
  have HS2d : Hid ((fun W : World => W.cell? ⟨b, 0, none⟩ = some (.slice (some ⟨bo, 0, none⟩) n co) ∧ W.cell? ⟨b, 1, none⟩ = some (.slice (some ⟨gb, go, none⟩) nr cr) ∧ W.cell? ⟨AB, 1, none⟩ = some (.int .i64 (i : Int)) ∧ W.cell? ⟨AB, 2, none⟩ = some (.int .i64 (s : Int)) ∧ W.cell? ⟨AB, 3, none⟩ = some (.int .i64 (j : Int)) ∧ W.cell? ⟨gb, go + i, none⟩ = some (.int .i64 (f : Int)) ∧ W.cell? ⟨bo, f, none⟩ = some (.slice (some ⟨rb, ro, none⟩) m c) ∧ W.cell? ⟨gb, go + j, none⟩ = some (.int .i64 v)) w2.drew) := unhide HS2
  go_region_held3 (fun W => W.cell? ⟨b, 0, none⟩ = some (.slice (some ⟨bo, 0, none⟩) n co) ∧ W.cell? ⟨b, 1, none⟩ = some (.slice (some ⟨gb, go, none⟩) nr cr) ∧ W.cell? ⟨AB, 1, none⟩ = some (.int .i64 (i : Int)) ∧ W.cell? ⟨AB, 2, none⟩ = some (.int .i64 (s : Int)) ∧ W.cell? ⟨AB, 3, none⟩ = some (.int .i64 (j : Int)) ∧ W.cell? ⟨gb, go + i, none⟩ = some (.int .i64 (f : Int)) ∧ W.cell? ⟨bo, f, none⟩ = some (.slice (some ⟨rb, ro, none⟩) m c) ∧ W.cell? ⟨gb, go + j, none⟩ = some (.int .i64 v))
    (first | with_reducible exact unhide HS2 | with_reducible exact unhide HS2d)
    (fail)
  obtain ⟨W3, e3⟩ : ∃ X, w2.drew = X := ⟨_, rfl⟩
  have HB3 : Hid (Below Wt.heap.size Wt W3) := by rw [← e3]; exact (unhide HB2).drew
  rw [e3]
  clear e3 HS2 HS2d
  have HR3 := hide ((unhide HR).keep (unhide HB3))
  have HS2 := hide (unhide HSS W3 _ _ (unhide HR3).blk (fun k k1 _ _ => (unhide HB3).block k k1))
  have HS2d : Hid ((fun W : World => W.cell? ⟨b, 0, none⟩ = some (.slice (some ⟨bo, 0, none⟩) n co) ∧ W.cell? ⟨b, 1, none⟩ = some (.slice (some ⟨gb, go, none⟩) nr cr) ∧ W.cell? ⟨AB, 1, none⟩ = some (.int .i64 (i : Int)) ∧ W.cell? ⟨AB, 2, none⟩ = some (.int .i64 (s : Int)) ∧ W.cell? ⟨AB, 3, none⟩ = some (.int .i64 (j : Int)) ∧ W.cell? ⟨gb, go + i, none⟩ = some (.int .i64 (f : Int)) ∧ W.cell? ⟨bo, f, none⟩ = some (.slice (some ⟨rb, ro, none⟩) m c) ∧ W.cell? ⟨gb, go + j, none⟩ = some (.int .i64 v)) W3.drew) := unhide HS2
  have a3 := (unhide HS2).2.2.2.2.1
  go_upto_region 12 with fail
  clear a3
  go_region_held3 (fun W => W.cell? ⟨b, 0, none⟩ = some (.slice (some ⟨bo, 0, none⟩) n co) ∧ W.cell? ⟨b, 1, none⟩ = some (.slice (some ⟨gb, go, none⟩) nr cr) ∧ W.cell? ⟨AB, 1, none⟩ = some (.int .i64 (i : Int)) ∧ W.cell? ⟨AB, 2, none⟩ = some (.int .i64 (s : Int)) ∧ W.cell? ⟨AB, 3, none⟩ = some (.int .i64 (j : Int)) ∧ W.cell? ⟨gb, go + i, none⟩ = some (.int .i64 (f : Int)) ∧ W.cell? ⟨bo, f, none⟩ = some (.slice (some ⟨rb, ro, none⟩) m c) ∧ W.cell? ⟨gb, go + j, none⟩ = some (.int .i64 v))
    (first | with_reducible exact unhide HS2 | with_reducible exact unhide HS2d)
    (fail)
  obtain ⟨W4, e4⟩ : ∃ X, W3.drew = X := ⟨_, rfl⟩
  have HB4 : Hid (Below Wt.heap.size Wt W4) := by rw [← e4]; exact (unhide HB3).drew
  rw [e4]
  clear e4 HS2 HS2d
  have HR4 := hide ((unhide HR).keep (unhide HB4))
  have HS4 := hide (unhide HSS W4 _ _ (unhide HR4).blk (fun k k1 _ _ => (unhide HB4).block k k1))
  have c4 := cell_of (unhide HCL) ((unhide HB4).block rb (unhide HRL))
  have f4 := froz_of (unhide HFZ) ((unhide HB4).block rb (unhide HRL))
  have HK4 : Hid (∀ k, k < Wt.heap.size → lab k ≠ 2 → lab k ≠ 4 → W4.heap[k]? = Wt.heap[k]?) := fun k k1 _ _ => (unhide HB4).block k k1
  have HL4 : Hid (∀ k, k < Wt.heap.size → lab k = lab k) := fun _ _ => rfl
  have HX4 : Hid (Below lo Wt W4) := (unhide HB4).mono (unhide HLO)
  have HZ4 : Hid (Wt.heap.size ≤ W4.heap.size) := (unhide HB4).size
  go_upto_region 15 with fail
  have hc4 := cell_of (unhide HC) ((unhide HB4).block bo (unhide HBO))
  have HSd : Hid ((fun W : World => W.cell? ⟨b, 0, none⟩ = some (.slice (some ⟨bo, 0, none⟩) n co) ∧ W.cell? ⟨b, 1, none⟩ = some (.slice (some ⟨gb, go, none⟩) nr cr) ∧ W.cell? ⟨AB, 1, none⟩ = some (.int .i64 (i : Int)) ∧ W.cell? ⟨AB, 2, none⟩ = some (.int .i64 (s : Int)) ∧ W.cell? ⟨AB, 3, none⟩ = some (.int .i64 (j : Int)) ∧ W.cell? ⟨gb, go + i, none⟩ = some (.int .i64 (f : Int)) ∧ W.cell? ⟨bo, f, none⟩ = some (.slice (some ⟨rb, ro, none⟩) m c) ∧ W.cell? ⟨gb, go + j, none⟩ = some (.int .i64 v)) W4.drew) := unhide HS4
  have hset := (unhide HR4).setSlot (f := f) (s := s) (by omega) (unhide HM) (by omega) rfl hc4 v
  have HST := hide hset
  have f4d : W4.drew.frozen? ⟨rb, ro + s, none⟩ = false := f4
  have c4d : W4.drew.cell? ⟨rb, ro + s, none⟩ = some (.int .i64 old) := c4
  clear hset hc4
  go_region_held3 (fun W => W.cell? ⟨b, 0, none⟩ = some (.slice (some ⟨bo, 0, none⟩) n co) ∧ W.cell? ⟨b, 1, none⟩ = some (.slice (some ⟨gb, go, none⟩) nr cr) ∧ W.cell? ⟨AB, 1, none⟩ = some (.int .i64 (i : Int)) ∧ W.cell? ⟨AB, 2, none⟩ = some (.int .i64 (s : Int)) ∧ W.cell? ⟨AB, 3, none⟩ = some (.int .i64 (j : Int)) ∧ W.cell? ⟨gb, go + i, none⟩ = some (.int .i64 (f : Int)) ∧ W.cell? ⟨bo, f, none⟩ = some (.slice (some ⟨rb, ro, none⟩) m c) ∧ W.cell? ⟨gb, go + j, none⟩ = some (.int .i64 v))
    (first | with_reducible exact unhide HS4 | with_reducible exact unhide HSd | (repeat (first | with_reducible exact unhide HS4 | with_reducible exact unhide HSd | with_reducible refine unhide HS3 _ _ ?_ | with_reducible refine unhide HSDR _ ?_)))
    (fail)
  all_goals
    obtain ⟨W8, e8⟩ : ∃ X, (W4.setCell ⟨rb, ro + s, none⟩ (.int .i64 v)).drew = X := ⟨_, rfl⟩
    have HR8 : Hid (RfL lo W8 lab b (some ⟨bo, 0, none⟩) n co (some ⟨gb, go, none⟩) nr cr wb cw vl ⟨g.os.set f ((g.os.getD f []).set s v), g.rs, g.mm⟩) := by rw [← e8]; exact (unhide HST).1.keep (Below.refl _ _).drew
    have HX8 : Hid (Below lo Wt W8) := by rw [← e8]; exact ((unhide HX4).setCell (p := ⟨rb, ro + s, none⟩) (unhide HST).2.1 _).drew
    try rw [e8]
    clear e8
    go_wp2_with fail
    exact unhide HP _ (RfX.of (unhide HR8)) (unhide HX8)

set_option maxRecDepth 100000 in
set_option maxHeartbeats 4000000 in
theorem act_wkj1 {lo : Nat} {Wt : World} {lab : Nat → Nat} {b : Nat} {oa : Option Addr} {n co : Nat} {ar : Option Addr} {nr cr wb cw : Nat} {vl : Value} {g : Gm} (h : RfL lo Wt lab b oa n co ar nr cr wb cw vl g) (hg : GoodG g) (hnd : NodG g.mm) (AB : Nat) (A : Bool) (i f s m : Nat) (hi : i < nr) (hq : regG g (i : Int) = (f : Int)) (hf : f < n) (hm : (g.os.getD f []).length = m) (hs : s < m) (j : Nat) (hj : j < nr) (v : Int) (hv : srcG g (j : Int) = v) (hvr : -1 ≤ v ∧ v < (n : Int)) (old : Int) (hold : (g.os.getD f []).getD s 0 = old) (hAB : Wt.heap[AB]? = some (.cells #[.int .i64 1, .int .i64 (i : Int), .int .i64 (s : Int), .int .i64 (j : Int)] 47 (0, 0))) (hla : lab AB = 0) (P0 : Ending → World → Prop) (hP : ∀ w', RfX lo w' b ⟨g.os.set f ((g.os.getD f []).set s v), g.rs, shB 1 g.mm old v⟩ → Below lo Wt w' → P0 (.returned (.int .i64 0)) w')
    {s1 s3 s5 s6 s7 s10 s11 s12 s13 s14 s15 s16 s17 s18 s19 s20 s21 s22 s23 s24 s25 s26 s27 s28 s29 s30 s31 s32 s33 s34 s35 s36 s37 s38 s39 s40 s41 s42 s43 s44 s45 s46 s47 s48 s49 s50 s51 s52 s53 s54 s55 s56 s57 s58 s59 s60 s61 s62 s63 s64 s65 s66 s67 s68 s69 s70 s71 s72 s73 s74 s75 s76 s77 s78 s79 s80 s81 s82 s83 s84 s85 s86 s87 s88 s89 s90 s91 s92 s93 s94 s95 s96 s97 s98 s99 s100 s101 s102 s103 s104 s105 s106 s107 s108 s109 s110 s111 s112 s113 s114 s115 s116 s117 s118 s119 s120 s121 s122 s123 s124 s125 s126 s127 s128 s129 s130 s131 s132 s133 s134 s135 s136 s137 s138 s139 s140 s141 s142 s143 s144 s145 s146 s147 s148 s149 s150 s151 s152 s153 s154 s155 s156 s157 s158 s159 s160 s161 s162 s163 s164 s165 s166 s167 s168 s169 s170 s171 s172 s173 s174 s175 s176 s177 s178 s179 s180 s181 s182 s183 s184 s185 s186 s187 s188 s189 s190 s191 s192 s193 s194 s195 s196 s197 s198 s199 s200 s201 s202 s203 s204 s205 s206 s207 s208 s209 s210 s211 s212 s213 s214 s215 s216 s217 s218 s219 s220 s221 s222 s223 s224 s225 s226 s227 s228 s229 s230 s231 s232 s233 s234 s235 s236 s237 s238 s239 s240 s241 s242 s243 s244 s245 s246 s247 s248 s249 s250 s251 s252 s253 s254 s255 s256 s257 s258 s259 s260 s261 s262 s263 s264 s265 s266 s267 s268 s269 s270 : Value} (K1 K2 : Act → World → Prop) (x y zc : Code) (hK1 : ∀ a w', y.wp Try.prog (Exit.then K2 (bodyPost Try.prog Try.f35 P0)) a w' → K1 a w') (hK2 : ∀ a w', zc.wp Try.prog (bodyPost Try.prog Try.f35 P0) a w' → K2 a w') (hcut : Try.f35.body.bind (cutIfE 4) = some (x, y, zc)) :
    x.wp Try.prog (Exit.then K1 (Exit.then K2 (bodyPost Try.prog Try.f35 P0))) { tmps := (.pointer (some ⟨b, 0, none⟩) :: s1 :: .int .i64 1 :: s3 :: .pointer (some ⟨AB, 0, none⟩) :: s5 :: s6 :: s7 :: .bool A :: .bool true :: s10 :: s11 :: s12 :: s13 :: s14 :: s15 :: s16 :: s17 :: s18 :: s19 :: s20 :: s21 :: s22 :: s23 :: s24 :: s25 :: s26 :: s27 :: s28 :: s29 :: s30 :: s31 :: s32 :: s33 :: s34 :: s35 :: s36 :: s37 :: s38 :: s39 :: s40 :: s41 :: s42 :: s43 :: s44 :: s45 :: s46 :: s47 :: s48 :: s49 :: s50 :: s51 :: s52 :: s53 :: s54 :: s55 :: s56 :: s57 :: s58 :: s59 :: s60 :: s61 :: s62 :: s63 :: s64 :: s65 :: s66 :: s67 :: s68 :: s69 :: s70 :: s71 :: s72 :: s73 :: s74 :: s75 :: s76 :: s77 :: s78 :: s79 :: s80 :: s81 :: s82 :: s83 :: s84 :: s85 :: s86 :: s87 :: s88 :: s89 :: s90 :: s91 :: s92 :: s93 :: s94 :: s95 :: s96 :: s97 :: s98 :: s99 :: s100 :: s101 :: s102 :: s103 :: s104 :: s105 :: s106 :: s107 :: s108 :: s109 :: s110 :: s111 :: s112 :: s113 :: s114 :: s115 :: s116 :: s117 :: s118 :: s119 :: s120 :: s121 :: s122 :: s123 :: s124 :: s125 :: s126 :: s127 :: s128 :: s129 :: s130 :: s131 :: s132 :: s133 :: s134 :: s135 :: s136 :: s137 :: s138 :: s139 :: s140 :: s141 :: s142 :: s143 :: s144 :: s145 :: s146 :: s147 :: s148 :: s149 :: s150 :: s151 :: s152 :: s153 :: s154 :: s155 :: s156 :: s157 :: s158 :: s159 :: s160 :: s161 :: s162 :: s163 :: s164 :: s165 :: s166 :: s167 :: s168 :: s169 :: s170 :: s171 :: s172 :: s173 :: s174 :: s175 :: s176 :: s177 :: s178 :: s179 :: s180 :: s181 :: s182 :: s183 :: s184 :: s185 :: s186 :: s187 :: s188 :: s189 :: s190 :: s191 :: s192 :: s193 :: s194 :: s195 :: s196 :: s197 :: s198 :: s199 :: s200 :: s201 :: s202 :: s203 :: s204 :: s205 :: s206 :: s207 :: s208 :: s209 :: s210 :: s211 :: s212 :: s213 :: s214 :: s215 :: s216 :: s217 :: s218 :: s219 :: s220 :: s221 :: s222 :: s223 :: s224 :: s225 :: s226 :: s227 :: s228 :: s229 :: s230 :: s231 :: s232 :: s233 :: s234 :: s235 :: s236 :: s237 :: s238 :: s239 :: s240 :: s241 :: s242 :: s243 :: s244 :: s245 :: s246 :: s247 :: s248 :: s249 :: s250 :: s251 :: s252 :: s253 :: s254 :: s255 :: s256 :: s257 :: s258 :: s259 :: s260 :: s261 :: s262 :: s263 :: s264 :: s265 :: s266 :: s267 :: s268 :: s269 :: s270 :: []).toArray, defers := [] } Wt := by
  have hcc : Try.f35.body.bind (cutIfE 4) = some (_, _, _) := rfl
  rw [hcc] at hcut
  cases hcut
  clear hcc
  obtain ⟨⟨q0, q1, q2, q3⟩, ⟨qf0, qf1, qf2, qf3⟩, ql⟩ := block4 hAB
  obtain ⟨⟨m0, m1, m2, m3⟩, ⟨mf0, mf1, mf2, mf3⟩, ml⟩ := block4 h.blk
  have HQ := hide hAB; have HP := hide hP; have HR := hide h; have HG := hide hg; have HND := hide hnd
  have HLO : Hid (lo ≤ Wt.heap.size) := Nat.le_trans h.low.1 (Nat.le_of_lt h.blt)
  obtain ⟨bo, rb, ro, c, eoa, hc, hcell, hfz, hlr, hlow, hrlt⟩ := h.slotAt hf hm hs
  rw [hold] at hcell
  obtain ⟨gb, go, ear, r1, _, hl5, _, hglt⟩ := h.regAt hi
  rw [← regG_at, hq] at r1
  obtain ⟨gb', go', ear', r2, _, _, _, _⟩ := h.regAt hj
  rw [ear] at ear'
  cases ear'
  have hjv : g.rs.getD j 0 = v := by rw [← hv]; unfold srcG; rw [if_neg (by omega), regG_at]
  rw [hjv] at r2
  have j1 : (0 : Int) ≤ (j : Int) := by omega
  have j2 : (j : Int) < (nr : Int) := by omega
  have hf1 : hasSlB g (i : Int) (s : Int) = true := by
    unfold hasSlB hasRB
    rw [rowG_at hq, hq, hm, h.hr]
    have e1 : decide ((0 : Int) ≤ (i : Int)) = true := decide_eq_true (by omega)
    have e2 : decide ((i : Int) < (nr : Int)) = true := decide_eq_true (by omega)
    have e3 : decide ((f : Int) = -1) = false := decide_eq_false (by omega)
    have e4 : decide ((0 : Int) ≤ (s : Int)) = true := decide_eq_true (by omega)
    have e5 : decide ((s : Int) < (m : Int)) = true := decide_eq_true (by omega)
    rw [e1, e2, e3, e4, e5]
    rfl
  have HF := hide hf1
  have i1 : (0 : Int) ≤ (i : Int) := by omega
  have i2 : (i : Int) < (nr : Int) := by omega
  have i3 : (0 : Int) ≤ (f : Int) := by omega
  have i4 : (f : Int) < (n : Int) := by omega
  have i5 : (0 : Int) ≤ (s : Int) := by omega
  have i6 : (s : Int) < (m : Int) := by omega
  have hlb := h.lbs
  obtain ⟨_, _, hbol, _, hlbo⟩ := h.olo eoa
  have hABl := size_of hAB
  have n1 : b ≠ rb := fun e => by rw [← e] at hlr; omega
  have n2 : AB ≠ rb := fun e => by rw [← e] at hlr; omega
  have n3 : gb ≠ rb := fun e => by rw [← e] at hlr; omega
  have n4 : bo ≠ rb := fun e => by rw [← e] at hlr; omega
  subst eoa
  subst ear
  have HSS : Hid (∀ (W : World) (X Y : Value), W.heap[b]? = some (.cells #[.slice (some ⟨bo, 0, none⟩) n co, .slice (some ⟨gb, go, none⟩) nr cr, X, Y] 65 (0, 0)) → (∀ k, k < Wt.heap.size → lab k ≠ 2 → lab k ≠ 4 → W.heap[k]? = Wt.heap[k]?) → W.cell? ⟨b, 0, none⟩ = some (.slice (some ⟨bo, 0, none⟩) n co) ∧ W.cell? ⟨b, 1, none⟩ = some (.slice (some ⟨gb, go, none⟩) nr cr) ∧ W.cell? ⟨AB, 1, none⟩ = some (.int .i64 (i : Int)) ∧ W.cell? ⟨AB, 2, none⟩ = some (.int .i64 (s : Int)) ∧ W.cell? ⟨AB, 3, none⟩ = some (.int .i64 (j : Int)) ∧ W.cell? ⟨gb, go + i, none⟩ = some (.int .i64 (f : Int)) ∧ W.cell? ⟨bo, f, none⟩ = some (.slice (some ⟨rb, ro, none⟩) m c) ∧ W.cell? ⟨gb, go + j, none⟩ = some (.int .i64 v)) := fun W X Y hb hk => ⟨(block4 hb).1.1, (block4 hb).1.2.1, cell_of q1 (hk AB hABl (by omega) (by omega)), cell_of q2 (hk AB hABl (by omega) (by omega)), cell_of q3 (hk AB hABl (by omega) (by omega)), cell_of r1 (hk gb hglt (by omega) (by omega)), cell_of hc (hk bo hbol (by omega) (by omega)), cell_of r2 (hk gb hglt (by omega) (by omega))⟩
  have HS3 : Hid (∀ (W : World) (u : Value), (W.cell? ⟨b, 0, none⟩ = some (.slice (some ⟨bo, 0, none⟩) n co) ∧ W.cell? ⟨b, 1, none⟩ = some (.slice (some ⟨gb, go, none⟩) nr cr) ∧ W.cell? ⟨AB, 1, none⟩ = some (.int .i64 (i : Int)) ∧ W.cell? ⟨AB, 2, none⟩ = some (.int .i64 (s : Int)) ∧ W.cell? ⟨AB, 3, none⟩ = some (.int .i64 (j : Int)) ∧ W.cell? ⟨gb, go + i, none⟩ = some (.int .i64 (f : Int)) ∧ W.cell? ⟨bo, f, none⟩ = some (.slice (some ⟨rb, ro, none⟩) m c) ∧ W.cell? ⟨gb, go + j, none⟩ = some (.int .i64 v)) → (W.setCell ⟨rb, ro + s, none⟩ u).cell? ⟨b, 0, none⟩ = some (.slice (some ⟨bo, 0, none⟩) n co) ∧ (W.setCell ⟨rb, ro + s, none⟩ u).cell? ⟨b, 1, none⟩ = some (.slice (some ⟨gb, go, none⟩) nr cr) ∧ (W.setCell ⟨rb, ro + s, none⟩ u).cell? ⟨AB, 1, none⟩ = some (.int .i64 (i : Int)) ∧ (W.setCell ⟨rb, ro + s, none⟩ u).cell? ⟨AB, 2, none⟩ = some (.int .i64 (s : Int)) ∧ (W.setCell ⟨rb, ro + s, none⟩ u).cell? ⟨AB, 3, none⟩ = some (.int .i64 (j : Int)) ∧ (W.setCell ⟨rb, ro + s, none⟩ u).cell? ⟨gb, go + i, none⟩ = some (.int .i64 (f : Int)) ∧ (W.setCell ⟨rb, ro + s, none⟩ u).cell? ⟨bo, f, none⟩ = some (.slice (some ⟨rb, ro, none⟩) m c) ∧ (W.setCell ⟨rb, ro + s, none⟩ u).cell? ⟨gb, go + j, none⟩ = some (.int .i64 v)) := fun W u hW => ⟨cell_other hW.1 (Or.inl n1) u, cell_other hW.2.1 (Or.inl n1) u, cell_other hW.2.2.1 (Or.inl n2) u, cell_other hW.2.2.2.1 (Or.inl n2) u, cell_other hW.2.2.2.2.1 (Or.inl n2) u, cell_other hW.2.2.2.2.2.1 (Or.inl n3) u, cell_other hW.2.2.2.2.2.2.1 (Or.inl n4) u, cell_other hW.2.2.2.2.2.2.2 (Or.inl n3) u⟩
  have HSDR : Hid (∀ W : World, (W.cell? ⟨b, 0, none⟩ = some (.slice (some ⟨bo, 0, none⟩) n co) ∧ W.cell? ⟨b, 1, none⟩ = some (.slice (some ⟨gb, go, none⟩) nr cr) ∧ W.cell? ⟨AB, 1, none⟩ = some (.int .i64 (i : Int)) ∧ W.cell? ⟨AB, 2, none⟩ = some (.int .i64 (s : Int)) ∧ W.cell? ⟨AB, 3, none⟩ = some (.int .i64 (j : Int)) ∧ W.cell? ⟨gb, go + i, none⟩ = some (.int .i64 (f : Int)) ∧ W.cell? ⟨bo, f, none⟩ = some (.slice (some ⟨rb, ro, none⟩) m c) ∧ W.cell? ⟨gb, go + j, none⟩ = some (.int .i64 v)) → W.drew.cell? ⟨b, 0, none⟩ = some (.slice (some ⟨bo, 0, none⟩) n co) ∧ W.drew.cell? ⟨b, 1, none⟩ = some (.slice (some ⟨gb, go, none⟩) nr cr) ∧ W.drew.cell? ⟨AB, 1, none⟩ = some (.int .i64 (i : Int)) ∧ W.drew.cell? ⟨AB, 2, none⟩ = some (.int .i64 (s : Int)) ∧ W.drew.cell? ⟨AB, 3, none⟩ = some (.int .i64 (j : Int)) ∧ W.drew.cell? ⟨gb, go + i, none⟩ = some (.int .i64 (f : Int)) ∧ W.drew.cell? ⟨bo, f, none⟩ = some (.slice (some ⟨rb, ro, none⟩) m c) ∧ W.drew.cell? ⟨gb, go + j, none⟩ = some (.int .i64 v)) := fun W hW => hW
  have HCL := hide hcell; have HFZ := hide hfz; have HRL := hide hrlt; have HLR := hide hlr; have HRW := hide hlow
  have HM := hide hm; have HC := hide hc; have HBO := hide hbol; have HLBO := hide hlbo
  have hln := hg.ln.cnt
  have HLN : Hid (g.mm.ln.length ≤ 2000) := hide (by omega)
  have HOR : Hid (-1 ≤ old ∧ old < (n : Int)) := by
    have h_ := hg.gh.so f (by rw [h.hn]; exact hf) _ (getD_mem (by rw [hm]; exact hs))
    rw [hold, h.hn] at h_
    exact h_
  clear hf1 n1 n2 n3 n4 hcell hfz hrlt hlr hlow hc r1 r2 hjv hm hbol hlbo hABl hglt hlb hl5 hq hln hold
  clear hAB hP h hg hnd
  have HTH := hide (there_any (unhide HR) (unhide HG) (i : Int) (s : Int))
  go_upto_region 9 with (go_at_call 48; (with_reducible refine Calls.mono (unhide HTH) ?_); rintro e w2 ⟨rfl, hb2⟩; rw [unhide HF]; have HB2 := hide hb2; have HR2 := hide ((unhide HR).keep hb2); clear hb2)
  clear q0 q1 q2 q3 qf0 qf1 qf2 qf3 ql m0 m1 m2 m3 mf0 mf1 mf2 mf3 ml
  have HS2 := hide (unhide HSS w2 _ _ (unhide HR2).blk (fun k k1 _ _ => (unhide HB2).block k k1))
  have HS2d : Hid ((fun W : World => W.cell? ⟨b, 0, none⟩ = some (.slice (some ⟨bo, 0, none⟩) n co) ∧ W.cell? ⟨b, 1, none⟩ = some (.slice (some ⟨gb, go, none⟩) nr cr) ∧ W.cell? ⟨AB, 1, none⟩ = some (.int .i64 (i : Int)) ∧ W.cell? ⟨AB, 2, none⟩ = some (.int .i64 (s : Int)) ∧ W.cell? ⟨AB, 3, none⟩ = some (.int .i64 (j : Int)) ∧ W.cell? ⟨gb, go + i, none⟩ = some (.int .i64 (f : Int)) ∧ W.cell? ⟨bo, f, none⟩ = some (.slice (some ⟨rb, ro, none⟩) m c) ∧ W.cell? ⟨gb, go + j, none⟩ = some (.int .i64 v)) w2.drew) := unhide HS2
  go_region_held3 (fun W => W.cell? ⟨b, 0, none⟩ = some (.slice (some ⟨bo, 0, none⟩) n co) ∧ W.cell? ⟨b, 1, none⟩ = some (.slice (some ⟨gb, go, none⟩) nr cr) ∧ W.cell? ⟨AB, 1, none⟩ = some (.int .i64 (i : Int)) ∧ W.cell? ⟨AB, 2, none⟩ = some (.int .i64 (s : Int)) ∧ W.cell? ⟨AB, 3, none⟩ = some (.int .i64 (j : Int)) ∧ W.cell? ⟨gb, go + i, none⟩ = some (.int .i64 (f : Int)) ∧ W.cell? ⟨bo, f, none⟩ = some (.slice (some ⟨rb, ro, none⟩) m c) ∧ W.cell? ⟨gb, go + j, none⟩ = some (.int .i64 v))
    (first | with_reducible exact unhide HS2 | with_reducible exact unhide HS2d)
    (fail)
  obtain ⟨W3, e3⟩ : ∃ X, w2.drew = X := ⟨_, rfl⟩
  have HB3 : Hid (Below Wt.heap.size Wt W3) := by rw [← e3]; exact (unhide HB2).drew
  rw [e3]
  clear e3 HS2 HS2d
  have HR3 := hide ((unhide HR).keep (unhide HB3))
  have HS2 := hide (unhide HSS W3 _ _ (unhide HR3).blk (fun k k1 _ _ => (unhide HB3).block k k1))
  have HS2d : Hid ((fun W : World => W.cell? ⟨b, 0, none⟩ = some (.slice (some ⟨bo, 0, none⟩) n co) ∧ W.cell? ⟨b, 1, none⟩ = some (.slice (some ⟨gb, go, none⟩) nr cr) ∧ W.cell? ⟨AB, 1, none⟩ = some (.int .i64 (i : Int)) ∧ W.cell? ⟨AB, 2, none⟩ = some (.int .i64 (s : Int)) ∧ W.cell? ⟨AB, 3, none⟩ = some (.int .i64 (j : Int)) ∧ W.cell? ⟨gb, go + i, none⟩ = some (.int .i64 (f : Int)) ∧ W.cell? ⟨bo, f, none⟩ = some (.slice (some ⟨rb, ro, none⟩) m c) ∧ W.cell? ⟨gb, go + j, none⟩ = some (.int .i64 v)) W3.drew) := unhide HS2
  have a3 := (unhide HS2).2.2.2.2.1
  go_upto_region 12 with fail
  clear a3
  go_region_held3 (fun W => W.cell? ⟨b, 0, none⟩ = some (.slice (some ⟨bo, 0, none⟩) n co) ∧ W.cell? ⟨b, 1, none⟩ = some (.slice (some ⟨gb, go, none⟩) nr cr) ∧ W.cell? ⟨AB, 1, none⟩ = some (.int .i64 (i : Int)) ∧ W.cell? ⟨AB, 2, none⟩ = some (.int .i64 (s : Int)) ∧ W.cell? ⟨AB, 3, none⟩ = some (.int .i64 (j : Int)) ∧ W.cell? ⟨gb, go + i, none⟩ = some (.int .i64 (f : Int)) ∧ W.cell? ⟨bo, f, none⟩ = some (.slice (some ⟨rb, ro, none⟩) m c) ∧ W.cell? ⟨gb, go + j, none⟩ = some (.int .i64 v))
    (first | with_reducible exact unhide HS2 | with_reducible exact unhide HS2d)
    (fail)
  obtain ⟨W4, e4⟩ : ∃ X, W3.drew = X := ⟨_, rfl⟩
  have HB4 : Hid (Below Wt.heap.size Wt W4) := by rw [← e4]; exact (unhide HB3).drew
  rw [e4]
  clear e4 HS2 HS2d
  have HR4 := hide ((unhide HR).keep (unhide HB4))
  have HS4 := hide (unhide HSS W4 _ _ (unhide HR4).blk (fun k k1 _ _ => (unhide HB4).block k k1))
  have c4 := cell_of (unhide HCL) ((unhide HB4).block rb (unhide HRL))
  have f4 := froz_of (unhide HFZ) ((unhide HB4).block rb (unhide HRL))
  have HK4 : Hid (∀ k, k < Wt.heap.size → lab k ≠ 2 → lab k ≠ 4 → W4.heap[k]? = Wt.heap[k]?) := fun k k1 _ _ => (unhide HB4).block k k1
  have HL4 : Hid (∀ k, k < Wt.heap.size → lab k = lab k) := fun _ _ => rfl
  have HX4 : Hid (Below lo Wt W4) := (unhide HB4).mono (unhide HLO)
  have HZ4 : Hid (Wt.heap.size ≤ W4.heap.size) := (unhide HB4).size
  go_upto_region 15 with fail
  have hc4 := cell_of (unhide HC) ((unhide HB4).block bo (unhide HBO))
  have HSd : Hid ((fun W : World => W.cell? ⟨b, 0, none⟩ = some (.slice (some ⟨bo, 0, none⟩) n co) ∧ W.cell? ⟨b, 1, none⟩ = some (.slice (some ⟨gb, go, none⟩) nr cr) ∧ W.cell? ⟨AB, 1, none⟩ = some (.int .i64 (i : Int)) ∧ W.cell? ⟨AB, 2, none⟩ = some (.int .i64 (s : Int)) ∧ W.cell? ⟨AB, 3, none⟩ = some (.int .i64 (j : Int)) ∧ W.cell? ⟨gb, go + i, none⟩ = some (.int .i64 (f : Int)) ∧ W.cell? ⟨bo, f, none⟩ = some (.slice (some ⟨rb, ro, none⟩) m c) ∧ W.cell? ⟨gb, go + j, none⟩ = some (.int .i64 v)) W4.drew) := unhide HS4
  have hset := (unhide HR4).setSlot (f := f) (s := s) (by omega) (unhide HM) (by omega) rfl hc4 v
  have HST := hide hset
  have f4d : W4.drew.frozen? ⟨rb, ro + s, none⟩ = false := f4
  have c4d : W4.drew.cell? ⟨rb, ro + s, none⟩ = some (.int .i64 old) := c4
  clear hset hc4
  go_region_held3 (fun W => W.cell? ⟨b, 0, none⟩ = some (.slice (some ⟨bo, 0, none⟩) n co) ∧ W.cell? ⟨b, 1, none⟩ = some (.slice (some ⟨gb, go, none⟩) nr cr) ∧ W.cell? ⟨AB, 1, none⟩ = some (.int .i64 (i : Int)) ∧ W.cell? ⟨AB, 2, none⟩ = some (.int .i64 (s : Int)) ∧ W.cell? ⟨AB, 3, none⟩ = some (.int .i64 (j : Int)) ∧ W.cell? ⟨gb, go + i, none⟩ = some (.int .i64 (f : Int)) ∧ W.cell? ⟨bo, f, none⟩ = some (.slice (some ⟨rb, ro, none⟩) m c) ∧ W.cell? ⟨gb, go + j, none⟩ = some (.int .i64 v))
    (first | with_reducible exact unhide HS4 | with_reducible exact unhide HSd | (repeat (first | with_reducible exact unhide HS4 | with_reducible exact unhide HSd | with_reducible refine unhide HS3 _ _ ?_ | with_reducible refine unhide HSDR _ ?_)))
    (fail)
  all_goals
    obtain ⟨W8, e8⟩ : ∃ X, (W4.setCell ⟨rb, ro + s, none⟩ (.int .i64 v)).drew = X := ⟨_, rfl⟩
    have HR8 : Hid (RfL lo W8 lab b (some ⟨bo, 0, none⟩) n co (some ⟨gb, go, none⟩) nr cr wb cw vl ⟨g.os.set f ((g.os.getD f []).set s v), g.rs, g.mm⟩) := by rw [← e8]; exact (unhide HST).1.keep (Below.refl _ _).drew
    have HX8 : Hid (Below lo Wt W8) := by rw [← e8]; exact ((unhide HX4).setCell (p := ⟨rb, ro + s, none⟩) (unhide HST).2.1 _).drew
    try rw [e8]
    clear e8
    have HSV := hide (rshade_k (unhide HR8) (unhide HND) (by show (g.mm).ln.length ≤ 900000; have := unhide HLN; omega) v hvr)
    go_wp2_with (go_at_call 47; (with_reducible refine Calls.mono (unhide HSV) ?_); rintro e w9 ⟨rfl, h9, _, hb9⟩; have H9 := hide h9; have HB9 := hide hb9; clear h9 hb9)
    exact unhide HP _ (unhide H9).x ((unhide HX8).trans (unhide HB9))

set_option maxRecDepth 100000 in
set_option maxHeartbeats 4000000 in
theorem act_wkj2 {lo : Nat} {Wt : World} {lab : Nat → Nat} {b : Nat} {oa : Option Addr} {n co : Nat} {ar : Option Addr} {nr cr wb cw : Nat} {vl : Value} {g : Gm} (h : RfL lo Wt lab b oa n co ar nr cr wb cw vl g) (hg : GoodG g) (hnd : NodG g.mm) (AB : Nat) (A : Bool) (i f s m : Nat) (hi : i < nr) (hq : regG g (i : Int) = (f : Int)) (hf : f < n) (hm : (g.os.getD f []).length = m) (hs : s < m) (j : Nat) (hj : j < nr) (v : Int) (hv : srcG g (j : Int) = v) (_hvr : -1 ≤ v ∧ v < (n : Int)) (old : Int) (hold : (g.os.getD f []).getD s 0 = old) (hAB : Wt.heap[AB]? = some (.cells #[.int .i64 1, .int .i64 (i : Int), .int .i64 (s : Int), .int .i64 (j : Int)] 47 (0, 0))) (hla : lab AB = 0) (P0 : Ending → World → Prop) (hP : ∀ w', RfX lo w' b ⟨g.os.set f ((g.os.getD f []).set s v), g.rs, shB 2 g.mm old v⟩ → Below lo Wt w' → P0 (.returned (.int .i64 0)) w')
    {s1 s3 s5 s6 s7 s10 s11 s12 s13 s14 s15 s16 s17 s18 s19 s20 s21 s22 s23 s24 s25 s26 s27 s28 s29 s30 s31 s32 s33 s34 s35 s36 s37 s38 s39 s40 s41 s42 s43 s44 s45 s46 s47 s48 s49 s50 s51 s52 s53 s54 s55 s56 s57 s58 s59 s60 s61 s62 s63 s64 s65 s66 s67 s68 s69 s70 s71 s72 s73 s74 s75 s76 s77 s78 s79 s80 s81 s82 s83 s84 s85 s86 s87 s88 s89 s90 s91 s92 s93 s94 s95 s96 s97 s98 s99 s100 s101 s102 s103 s104 s105 s106 s107 s108 s109 s110 s111 s112 s113 s114 s115 s116 s117 s118 s119 s120 s121 s122 s123 s124 s125 s126 s127 s128 s129 s130 s131 s132 s133 s134 s135 s136 s137 s138 s139 s140 s141 s142 s143 s144 s145 s146 s147 s148 s149 s150 s151 s152 s153 s154 s155 s156 s157 s158 s159 s160 s161 s162 s163 s164 s165 s166 s167 s168 s169 s170 s171 s172 s173 s174 s175 s176 s177 s178 s179 s180 s181 s182 s183 s184 s185 s186 s187 s188 s189 s190 s191 s192 s193 s194 s195 s196 s197 s198 s199 s200 s201 s202 s203 s204 s205 s206 s207 s208 s209 s210 s211 s212 s213 s214 s215 s216 s217 s218 s219 s220 s221 s222 s223 s224 s225 s226 s227 s228 s229 s230 s231 s232 s233 s234 s235 s236 s237 s238 s239 s240 s241 s242 s243 s244 s245 s246 s247 s248 s249 s250 s251 s252 s253 s254 s255 s256 s257 s258 s259 s260 s261 s262 s263 s264 s265 s266 s267 s268 s269 s270 : Value} (K1 K2 : Act → World → Prop) (x y zc : Code) (hK1 : ∀ a w', y.wp Try.prog (Exit.then K2 (bodyPost Try.prog Try.f35 P0)) a w' → K1 a w') (hK2 : ∀ a w', zc.wp Try.prog (bodyPost Try.prog Try.f35 P0) a w' → K2 a w') (hcut : Try.f35.body.bind (cutIfE 4) = some (x, y, zc)) :
    x.wp Try.prog (Exit.then K1 (Exit.then K2 (bodyPost Try.prog Try.f35 P0))) { tmps := (.pointer (some ⟨b, 0, none⟩) :: s1 :: .int .i64 2 :: s3 :: .pointer (some ⟨AB, 0, none⟩) :: s5 :: s6 :: s7 :: .bool A :: .bool true :: s10 :: s11 :: s12 :: s13 :: s14 :: s15 :: s16 :: s17 :: s18 :: s19 :: s20 :: s21 :: s22 :: s23 :: s24 :: s25 :: s26 :: s27 :: s28 :: s29 :: s30 :: s31 :: s32 :: s33 :: s34 :: s35 :: s36 :: s37 :: s38 :: s39 :: s40 :: s41 :: s42 :: s43 :: s44 :: s45 :: s46 :: s47 :: s48 :: s49 :: s50 :: s51 :: s52 :: s53 :: s54 :: s55 :: s56 :: s57 :: s58 :: s59 :: s60 :: s61 :: s62 :: s63 :: s64 :: s65 :: s66 :: s67 :: s68 :: s69 :: s70 :: s71 :: s72 :: s73 :: s74 :: s75 :: s76 :: s77 :: s78 :: s79 :: s80 :: s81 :: s82 :: s83 :: s84 :: s85 :: s86 :: s87 :: s88 :: s89 :: s90 :: s91 :: s92 :: s93 :: s94 :: s95 :: s96 :: s97 :: s98 :: s99 :: s100 :: s101 :: s102 :: s103 :: s104 :: s105 :: s106 :: s107 :: s108 :: s109 :: s110 :: s111 :: s112 :: s113 :: s114 :: s115 :: s116 :: s117 :: s118 :: s119 :: s120 :: s121 :: s122 :: s123 :: s124 :: s125 :: s126 :: s127 :: s128 :: s129 :: s130 :: s131 :: s132 :: s133 :: s134 :: s135 :: s136 :: s137 :: s138 :: s139 :: s140 :: s141 :: s142 :: s143 :: s144 :: s145 :: s146 :: s147 :: s148 :: s149 :: s150 :: s151 :: s152 :: s153 :: s154 :: s155 :: s156 :: s157 :: s158 :: s159 :: s160 :: s161 :: s162 :: s163 :: s164 :: s165 :: s166 :: s167 :: s168 :: s169 :: s170 :: s171 :: s172 :: s173 :: s174 :: s175 :: s176 :: s177 :: s178 :: s179 :: s180 :: s181 :: s182 :: s183 :: s184 :: s185 :: s186 :: s187 :: s188 :: s189 :: s190 :: s191 :: s192 :: s193 :: s194 :: s195 :: s196 :: s197 :: s198 :: s199 :: s200 :: s201 :: s202 :: s203 :: s204 :: s205 :: s206 :: s207 :: s208 :: s209 :: s210 :: s211 :: s212 :: s213 :: s214 :: s215 :: s216 :: s217 :: s218 :: s219 :: s220 :: s221 :: s222 :: s223 :: s224 :: s225 :: s226 :: s227 :: s228 :: s229 :: s230 :: s231 :: s232 :: s233 :: s234 :: s235 :: s236 :: s237 :: s238 :: s239 :: s240 :: s241 :: s242 :: s243 :: s244 :: s245 :: s246 :: s247 :: s248 :: s249 :: s250 :: s251 :: s252 :: s253 :: s254 :: s255 :: s256 :: s257 :: s258 :: s259 :: s260 :: s261 :: s262 :: s263 :: s264 :: s265 :: s266 :: s267 :: s268 :: s269 :: s270 :: []).toArray, defers := [] } Wt := by
  have hcc : Try.f35.body.bind (cutIfE 4) = some (_, _, _) := rfl
  rw [hcc] at hcut
  cases hcut
  clear hcc
  obtain ⟨⟨q0, q1, q2, q3⟩, ⟨qf0, qf1, qf2, qf3⟩, ql⟩ := block4 hAB
  obtain ⟨⟨m0, m1, m2, m3⟩, ⟨mf0, mf1, mf2, mf3⟩, ml⟩ := block4 h.blk
  have HQ := hide hAB; have HP := hide hP; have HR := hide h; have HG := hide hg; have HND := hide hnd
  have HLO : Hid (lo ≤ Wt.heap.size) := Nat.le_trans h.low.1 (Nat.le_of_lt h.blt)
  obtain ⟨bo, rb, ro, c, eoa, hc, hcell, hfz, hlr, hlow, hrlt⟩ := h.slotAt hf hm hs
  rw [hold] at hcell
  obtain ⟨gb, go, ear, r1, _, hl5, _, hglt⟩ := h.regAt hi
  rw [← regG_at, hq] at r1
  obtain ⟨gb', go', ear', r2, _, _, _, _⟩ := h.regAt hj
  rw [ear] at ear'
  cases ear'
  have hjv : g.rs.getD j 0 = v := by rw [← hv]; unfold srcG; rw [if_neg (by omega), regG_at]
  rw [hjv] at r2
  have j1 : (0 : Int) ≤ (j : Int) := by omega
  have j2 : (j : Int) < (nr : Int) := by omega
  have hf1 : hasSlB g (i : Int) (s : Int) = true := by
    unfold hasSlB hasRB
    rw [rowG_at hq, hq, hm, h.hr]
    have e1 : decide ((0 : Int) ≤ (i : Int)) = true := decide_eq_true (by omega)
    have e2 : decide ((i : Int) < (nr : Int)) = true := decide_eq_true (by omega)
    have e3 : decide ((f : Int) = -1) = false := decide_eq_false (by omega)
    have e4 : decide ((0 : Int) ≤ (s : Int)) = true := decide_eq_true (by omega)
    have e5 : decide ((s : Int) < (m : Int)) = true := decide_eq_true (by omega)
    rw [e1, e2, e3, e4, e5]
    rfl
  have HF := hide hf1
  have i1 : (0 : Int) ≤ (i : Int) := by omega
  have i2 : (i : Int) < (nr : Int) := by omega
  have i3 : (0 : Int) ≤ (f : Int) := by omega
  have i4 : (f : Int) < (n : Int) := by omega
  have i5 : (0 : Int) ≤ (s : Int) := by omega
  have i6 : (s : Int) < (m : Int) := by omega
  have hlb := h.lbs
  obtain ⟨_, _, hbol, _, hlbo⟩ := h.olo eoa
  have hABl := size_of hAB
  have n1 : b ≠ rb := fun e => by rw [← e] at hlr; omega
  have n2 : AB ≠ rb := fun e => by rw [← e] at hlr; omega
  have n3 : gb ≠ rb := fun e => by rw [← e] at hlr; omega
  have n4 : bo ≠ rb := fun e => by rw [← e] at hlr; omega
  subst eoa
  subst ear
  have HSS : Hid (∀ (W : World) (X Y : Value), W.heap[b]? = some (.cells #[.slice (some ⟨bo, 0, none⟩) n co, .slice (some ⟨gb, go, none⟩) nr cr, X, Y] 65 (0, 0)) → (∀ k, k < Wt.heap.size → lab k ≠ 2 → lab k ≠ 4 → W.heap[k]? = Wt.heap[k]?) → W.cell? ⟨b, 0, none⟩ = some (.slice (some ⟨bo, 0, none⟩) n co) ∧ W.cell? ⟨b, 1, none⟩ = some (.slice (some ⟨gb, go, none⟩) nr cr) ∧ W.cell? ⟨AB, 1, none⟩ = some (.int .i64 (i : Int)) ∧ W.cell? ⟨AB, 2, none⟩ = some (.int .i64 (s : Int)) ∧ W.cell? ⟨AB, 3, none⟩ = some (.int .i64 (j : Int)) ∧ W.cell? ⟨gb, go + i, none⟩ = some (.int .i64 (f : Int)) ∧ W.cell? ⟨bo, f, none⟩ = some (.slice (some ⟨rb, ro, none⟩) m c) ∧ W.cell? ⟨gb, go + j, none⟩ = some (.int .i64 v)) := fun W X Y hb hk => ⟨(block4 hb).1.1, (block4 hb).1.2.1, cell_of q1 (hk AB hABl (by omega) (by omega)), cell_of q2 (hk AB hABl (by omega) (by omega)), cell_of q3 (hk AB hABl (by omega) (by omega)), cell_of r1 (hk gb hglt (by omega) (by omega)), cell_of hc (hk bo hbol (by omega) (by omega)), cell_of r2 (hk gb hglt (by omega) (by omega))⟩
  have HS3 : Hid (∀ (W : World) (u : Value), (W.cell? ⟨b, 0, none⟩ = some (.slice (some ⟨bo, 0, none⟩) n co) ∧ W.cell? ⟨b, 1, none⟩ = some (.slice (some ⟨gb, go, none⟩) nr cr) ∧ W.cell? ⟨AB, 1, none⟩ = some (.int .i64 (i : Int)) ∧ W.cell? ⟨AB, 2, none⟩ = some (.int .i64 (s : Int)) ∧ W.cell? ⟨AB, 3, none⟩ = some (.int .i64 (j : Int)) ∧ W.cell? ⟨gb, go + i, none⟩ = some (.int .i64 (f : Int)) ∧ W.cell? ⟨bo, f, none⟩ = some (.slice (some ⟨rb, ro, none⟩) m c) ∧ W.cell? ⟨gb, go + j, none⟩ = some (.int .i64 v)) → (W.setCell ⟨rb, ro + s, none⟩ u).cell? ⟨b, 0, none⟩ = some (.slice (some ⟨bo, 0, none⟩) n co) ∧ (W.setCell ⟨rb, ro + s, none⟩ u).cell? ⟨b, 1, none⟩ = some (.slice (some ⟨gb, go, none⟩) nr cr) ∧ (W.setCell ⟨rb, ro + s, none⟩ u).cell? ⟨AB, 1, none⟩ = some (.int .i64 (i : Int)) ∧ (W.setCell ⟨rb, ro + s, none⟩ u).cell? ⟨AB, 2, none⟩ = some (.int .i64 (s : Int)) ∧ (W.setCell ⟨rb, ro + s, none⟩ u).cell? ⟨AB, 3, none⟩ = some (.int .i64 (j : Int)) ∧ (W.setCell ⟨rb, ro + s, none⟩ u).cell? ⟨gb, go + i, none⟩ = some (.int .i64 (f : Int)) ∧ (W.setCell ⟨rb, ro + s, none⟩ u).cell? ⟨bo, f, none⟩ = some (.slice (some ⟨rb, ro, none⟩) m c) ∧ (W.setCell ⟨rb, ro + s, none⟩ u).cell? ⟨gb, go + j, none⟩ = some (.int .i64 v)) := fun W u hW => ⟨cell_other hW.1 (Or.inl n1) u, cell_other hW.2.1 (Or.inl n1) u, cell_other hW.2.2.1 (Or.inl n2) u, cell_other hW.2.2.2.1 (Or.inl n2) u, cell_other hW.2.2.2.2.1 (Or.inl n2) u, cell_other hW.2.2.2.2.2.1 (Or.inl n3) u, cell_other hW.2.2.2.2.2.2.1 (Or.inl n4) u, cell_other hW.2.2.2.2.2.2.2 (Or.inl n3) u⟩
  have HSDR : Hid (∀ W : World, (W.cell? ⟨b, 0, none⟩ = some (.slice (some ⟨bo, 0, none⟩) n co) ∧ W.cell? ⟨b, 1, none⟩ = some (.slice (some ⟨gb, go, none⟩) nr cr) ∧ W.cell? ⟨AB, 1, none⟩ = some (.int .i64 (i : Int)) ∧ W.cell? ⟨AB, 2, none⟩ = some (.int .i64 (s : Int)) ∧ W.cell? ⟨AB, 3, none⟩ = some (.int .i64 (j : Int)) ∧ W.cell? ⟨gb, go + i, none⟩ = some (.int .i64 (f : Int)) ∧ W.cell? ⟨bo, f, none⟩ = some (.slice (some ⟨rb, ro, none⟩) m c) ∧ W.cell? ⟨gb, go + j, none⟩ = some (.int .i64 v)) → W.drew.cell? ⟨b, 0, none⟩ = some (.slice (some ⟨bo, 0, none⟩) n co) ∧ W.drew.cell? ⟨b, 1, none⟩ = some (.slice (some ⟨gb, go, none⟩) nr cr) ∧ W.drew.cell? ⟨AB, 1, none⟩ = some (.int .i64 (i : Int)) ∧ W.drew.cell? ⟨AB, 2, none⟩ = some (.int .i64 (s : Int)) ∧ W.drew.cell? ⟨AB, 3, none⟩ = some (.int .i64 (j : Int)) ∧ W.drew.cell? ⟨gb, go + i, none⟩ = some (.int .i64 (f : Int)) ∧ W.drew.cell? ⟨bo, f, none⟩ = some (.slice (some ⟨rb, ro, none⟩) m c) ∧ W.drew.cell? ⟨gb, go + j, none⟩ = some (.int .i64 v)) := fun W hW => hW
  have HCL := hide hcell; have HFZ := hide hfz; have HRL := hide hrlt; have HLR := hide hlr; have HRW := hide hlow
  have HM := hide hm; have HC := hide hc; have HBO := hide hbol; have HLBO := hide hlbo
  have hln := hg.ln.cnt
  have HLN : Hid (g.mm.ln.length ≤ 2000) := hide (by omega)
  have HOR : Hid (-1 ≤ old ∧ old < (n : Int)) := by
    have h_ := hg.gh.so f (by rw [h.hn]; exact hf) _ (getD_mem (by rw [hm]; exact hs))
    rw [hold, h.hn] at h_
    exact h_
  clear hf1 n1 n2 n3 n4 hcell hfz hrlt hlr hlow hc r1 r2 hjv hm hbol hlbo hABl hglt hlb hl5 hq hln hold
  clear hAB hP h hg hnd
  have HTH := hide (there_any (unhide HR) (unhide HG) (i : Int) (s : Int))
  go_upto_region 9 with (go_at_call 48; (with_reducible refine Calls.mono (unhide HTH) ?_); rintro e w2 ⟨rfl, hb2⟩; rw [unhide HF]; have HB2 := hide hb2; have HR2 := hide ((unhide HR).keep hb2); clear hb2)
  clear q0 q1 q2 q3 qf0 qf1 qf2 qf3 ql m0 m1 m2 m3 mf0 mf1 mf2 mf3 ml
  have HS2 := hide (unhide HSS w2 _ _ (unhide HR2).blk (fun k k1 _ _ => (unhide HB2).block k k1))
  have HS2d : Hid ((fun W : World => W.cell? ⟨b, 0, none⟩ = some (.slice (some ⟨bo, 0, none⟩) n co) ∧ W.cell? ⟨b, 1, none⟩ = some (.slice (some ⟨gb, go, none⟩) nr cr) ∧ W.cell? ⟨AB, 1, none⟩ = some (.int .i64 (i : Int)) ∧ W.cell? ⟨AB, 2, none⟩ = some (.int .i64 (s : Int)) ∧ W.cell? ⟨AB, 3, none⟩ = some (.int .i64 (j : Int)) ∧ W.cell? ⟨gb, go + i, none⟩ = some (.int .i64 (f : Int)) ∧ W.cell? ⟨bo, f, none⟩ = some (.slice (some ⟨rb, ro, none⟩) m c) ∧ W.cell? ⟨gb, go + j, none⟩ = some (.int .i64 v)) w2.drew) := unhide HS2
  go_region_held3 (fun W => W.cell? ⟨b, 0, none⟩ = some (.slice (some ⟨bo, 0, none⟩) n co) ∧ W.cell? ⟨b, 1, none⟩ = some (.slice (some ⟨gb, go, none⟩) nr cr) ∧ W.cell? ⟨AB, 1, none⟩ = some (.int .i64 (i : Int)) ∧ W.cell? ⟨AB, 2, none⟩ = some (.int .i64 (s : Int)) ∧ W.cell? ⟨AB, 3, none⟩ = some (.int .i64 (j : Int)) ∧ W.cell? ⟨gb, go + i, none⟩ = some (.int .i64 (f : Int)) ∧ W.cell? ⟨bo, f, none⟩ = some (.slice (some ⟨rb, ro, none⟩) m c) ∧ W.cell? ⟨gb, go + j, none⟩ = some (.int .i64 v))
    (first | with_reducible exact unhide HS2 | with_reducible exact unhide HS2d)
    (fail)
  obtain ⟨W3, e3⟩ : ∃ X, w2.drew = X := ⟨_, rfl⟩
  have HB3 : Hid (Below Wt.heap.size Wt W3) := by rw [← e3]; exact (unhide HB2).drew
  rw [e3]
  clear e3 HS2 HS2d
  have HR3 := hide ((unhide HR).keep (unhide HB3))
  have HS2 := hide (unhide HSS W3 _ _ (unhide HR3).blk (fun k k1 _ _ => (unhide HB3).block k k1))
  have HS2d : Hid ((fun W : World => W.cell? ⟨b, 0, none⟩ = some (.slice (some ⟨bo, 0, none⟩) n co) ∧ W.cell? ⟨b, 1, none⟩ = some (.slice (some ⟨gb, go, none⟩) nr cr) ∧ W.cell? ⟨AB, 1, none⟩ = some (.int .i64 (i : Int)) ∧ W.cell? ⟨AB, 2, none⟩ = some (.int .i64 (s : Int)) ∧ W.cell? ⟨AB, 3, none⟩ = some (.int .i64 (j : Int)) ∧ W.cell? ⟨gb, go + i, none⟩ = some (.int .i64 (f : Int)) ∧ W.cell? ⟨bo, f, none⟩ = some (.slice (some ⟨rb, ro, none⟩) m c) ∧ W.cell? ⟨gb, go + j, none⟩ = some (.int .i64 v)) W3.drew) := unhide HS2
  have a3 := (unhide HS2).2.2.2.2.1
  go_upto_region 12 with fail
  clear a3
  go_region_held3 (fun W => W.cell? ⟨b, 0, none⟩ = some (.slice (some ⟨bo, 0, none⟩) n co) ∧ W.cell? ⟨b, 1, none⟩ = some (.slice (some ⟨gb, go, none⟩) nr cr) ∧ W.cell? ⟨AB, 1, none⟩ = some (.int .i64 (i : Int)) ∧ W.cell? ⟨AB, 2, none⟩ = some (.int .i64 (s : Int)) ∧ W.cell? ⟨AB, 3, none⟩ = some (.int .i64 (j : Int)) ∧ W.cell? ⟨gb, go + i, none⟩ = some (.int .i64 (f : Int)) ∧ W.cell? ⟨bo, f, none⟩ = some (.slice (some ⟨rb, ro, none⟩) m c) ∧ W.cell? ⟨gb, go + j, none⟩ = some (.int .i64 v))
    (first | with_reducible exact unhide HS2 | with_reducible exact unhide HS2d)
    (fail)
  obtain ⟨W4, e4⟩ : ∃ X, W3.drew = X := ⟨_, rfl⟩
  have HB4 : Hid (Below Wt.heap.size Wt W4) := by rw [← e4]; exact (unhide HB3).drew
  rw [e4]
  clear e4 HS2 HS2d
  have HR4 := hide ((unhide HR).keep (unhide HB4))
  have HS4 := hide (unhide HSS W4 _ _ (unhide HR4).blk (fun k k1 _ _ => (unhide HB4).block k k1))
  have c4 := cell_of (unhide HCL) ((unhide HB4).block rb (unhide HRL))
  have f4 := froz_of (unhide HFZ) ((unhide HB4).block rb (unhide HRL))
  have HK4 : Hid (∀ k, k < Wt.heap.size → lab k ≠ 2 → lab k ≠ 4 → W4.heap[k]? = Wt.heap[k]?) := fun k k1 _ _ => (unhide HB4).block k k1
  have HL4 : Hid (∀ k, k < Wt.heap.size → lab k = lab k) := fun _ _ => rfl
  have HX4 : Hid (Below lo Wt W4) := (unhide HB4).mono (unhide HLO)
  have HZ4 : Hid (Wt.heap.size ≤ W4.heap.size) := (unhide HB4).size
  go_upto_region 14 with fail
  have HSH : Hid (∀ W, Below W4.heap.size W4 W → Calls Try.prog 47 #[.pointer (some ⟨b, 0, none⟩), .int .i64 old] W fun e w' => e = .returned (.tuple #[]) ∧ RfS lo w' lab W4.heap.size b (some ⟨bo, 0, none⟩) n co (some ⟨gb, go, none⟩) nr cr wb cw ⟨g.os, g.rs, shade1 g.mm old⟩ ∧ (∀ k, k < W4.heap.size → lab k ≠ 2 → lab k ≠ 4 → w'.heap[k]? = W4.heap[k]?) ∧ Below lo W4 w') := fun W hW => (rshade_k ((unhide HR4).keep hW) (unhide HND) (Nat.le_trans (unhide HLN) (by decide)) old (unhide HOR)).mono fun e w' ⟨h1, ⟨l5, v5, h2, h2b⟩, h3, h4⟩ => ⟨h1, ⟨l5, v5, h2, fun k k1 => h2b k (Nat.lt_of_lt_of_le k1 hW.size)⟩, fun k k1 k2 k3 => (h3 k (Nat.lt_of_lt_of_le k1 hW.size) k2 k3).trans (hW.block k k1), (hW.mono (Nat.le_trans (unhide HLO) (unhide HZ4))).trans h4⟩
  have HD0 : Hid (Below W4.heap.size W4 W4) := Below.refl _ _
  have HD1 : Hid (Below W4.heap.size W4 W4.drew) := (Below.refl _ _).drew
  have HT4 : Hid ((fun W : World => W.cell? ⟨b, 0, none⟩ = some (.slice (some ⟨bo, 0, none⟩) n co) ∧ W.cell? ⟨b, 1, none⟩ = some (.slice (some ⟨gb, go, none⟩) nr cr) ∧ W.cell? ⟨AB, 1, none⟩ = some (.int .i64 (i : Int)) ∧ W.cell? ⟨AB, 2, none⟩ = some (.int .i64 (s : Int)) ∧ W.cell? ⟨AB, 3, none⟩ = some (.int .i64 (j : Int)) ∧ W.cell? ⟨gb, go + i, none⟩ = some (.int .i64 (f : Int)) ∧ W.cell? ⟨bo, f, none⟩ = some (.slice (some ⟨rb, ro, none⟩) m c) ∧ W.cell? ⟨gb, go + j, none⟩ = some (.int .i64 v) ∧ W.cell? ⟨rb, ro + s, none⟩ = some (.int .i64 old)) W4) := by
    have h_ := unhide HS4
    exact ⟨h_.1, h_.2.1, h_.2.2.1, h_.2.2.2.1, h_.2.2.2.2.1, h_.2.2.2.2.2.1, h_.2.2.2.2.2.2.1, h_.2.2.2.2.2.2.2, c4⟩
  have HT4d : Hid ((fun W : World => W.cell? ⟨b, 0, none⟩ = some (.slice (some ⟨bo, 0, none⟩) n co) ∧ W.cell? ⟨b, 1, none⟩ = some (.slice (some ⟨gb, go, none⟩) nr cr) ∧ W.cell? ⟨AB, 1, none⟩ = some (.int .i64 (i : Int)) ∧ W.cell? ⟨AB, 2, none⟩ = some (.int .i64 (s : Int)) ∧ W.cell? ⟨AB, 3, none⟩ = some (.int .i64 (j : Int)) ∧ W.cell? ⟨gb, go + i, none⟩ = some (.int .i64 (f : Int)) ∧ W.cell? ⟨bo, f, none⟩ = some (.slice (some ⟨rb, ro, none⟩) m c) ∧ W.cell? ⟨gb, go + j, none⟩ = some (.int .i64 v) ∧ W.cell? ⟨rb, ro + s, none⟩ = some (.int .i64 old)) W4.drew) := unhide HT4
  clear c4 f4
  go_region_held3 (fun W => W.cell? ⟨b, 0, none⟩ = some (.slice (some ⟨bo, 0, none⟩) n co) ∧ W.cell? ⟨b, 1, none⟩ = some (.slice (some ⟨gb, go, none⟩) nr cr) ∧ W.cell? ⟨AB, 1, none⟩ = some (.int .i64 (i : Int)) ∧ W.cell? ⟨AB, 2, none⟩ = some (.int .i64 (s : Int)) ∧ W.cell? ⟨AB, 3, none⟩ = some (.int .i64 (j : Int)) ∧ W.cell? ⟨gb, go + i, none⟩ = some (.int .i64 (f : Int)) ∧ W.cell? ⟨bo, f, none⟩ = some (.slice (some ⟨rb, ro, none⟩) m c) ∧ W.cell? ⟨gb, go + j, none⟩ = some (.int .i64 v) ∧ W.cell? ⟨rb, ro + s, none⟩ = some (.int .i64 old))
    (first | with_reducible exact unhide HT4 | with_reducible exact unhide HT4d | with_reducible exact unhide HT6)
    (first | (go_at_call 47; (with_reducible refine Calls.mono (unhide HSH _ (by first | with_reducible exact unhide HD1 | with_reducible exact unhide HD0)) ?_); rintro e w6 ⟨rfl, ⟨lab6, vl6, h6, ha6⟩, hk6, hb6⟩; have hkk : ∀ k, k < Wt.heap.size → lab k ≠ 2 → lab k ≠ 4 → w6.heap[k]? = Wt.heap[k]? := (fun k k1 k2 k3 => (hk6 k (Nat.lt_of_lt_of_le k1 (unhide HZ4)) k2 k3).trans (unhide HK4 k k1 k2 k3)); have HT6 : Hid ((fun W : World => W.cell? ⟨b, 0, none⟩ = some (.slice (some ⟨bo, 0, none⟩) n co) ∧ W.cell? ⟨b, 1, none⟩ = some (.slice (some ⟨gb, go, none⟩) nr cr) ∧ W.cell? ⟨AB, 1, none⟩ = some (.int .i64 (i : Int)) ∧ W.cell? ⟨AB, 2, none⟩ = some (.int .i64 (s : Int)) ∧ W.cell? ⟨AB, 3, none⟩ = some (.int .i64 (j : Int)) ∧ W.cell? ⟨gb, go + i, none⟩ = some (.int .i64 (f : Int)) ∧ W.cell? ⟨bo, f, none⟩ = some (.slice (some ⟨rb, ro, none⟩) m c) ∧ W.cell? ⟨gb, go + j, none⟩ = some (.int .i64 v) ∧ W.cell? ⟨rb, ro + s, none⟩ = some (.int .i64 old)) w6) := (by have h_ := unhide HSS w6 _ _ h6.blk hkk; exact ⟨h_.1, h_.2.1, h_.2.2.1, h_.2.2.2.1, h_.2.2.2.2.1, h_.2.2.2.2.2.1, h_.2.2.2.2.2.2.1, h_.2.2.2.2.2.2.2, cell_of (unhide HCL) (hkk rb (unhide HRL) (by have := unhide HLR; omega) (by have := unhide HLR; omega))⟩); have HR6 := hide h6; have HA6 := hide (fun k k1 => ha6 k (Nat.lt_of_lt_of_le k1 (unhide HZ4))); have HK6 := hide hkk; have HX6 := hide ((unhide HX4).trans hb6); clear h6 ha6 hk6 hb6 hkk))
  clear HT4 HT4d HS4
  have HS6 := hide (unhide HSS w6 _ _ (unhide HR6).blk (unhide HK6))
  go_upto_region 15 with fail
  have f6 := froz_of (unhide HFZ) (unhide HK6 rb (unhide HRL) (by have := unhide HLR; omega) (by have := unhide HLR; omega))
  have c6 := cell_of (unhide HCL) (unhide HK6 rb (unhide HRL) (by have := unhide HLR; omega) (by have := unhide HLR; omega))
  have hc6 := cell_of (unhide HC) (unhide HK6 bo (unhide HBO) (by have := unhide HLBO; omega) (by have := unhide HLBO; omega))
  have HSd : Hid ((fun W : World => W.cell? ⟨b, 0, none⟩ = some (.slice (some ⟨bo, 0, none⟩) n co) ∧ W.cell? ⟨b, 1, none⟩ = some (.slice (some ⟨gb, go, none⟩) nr cr) ∧ W.cell? ⟨AB, 1, none⟩ = some (.int .i64 (i : Int)) ∧ W.cell? ⟨AB, 2, none⟩ = some (.int .i64 (s : Int)) ∧ W.cell? ⟨AB, 3, none⟩ = some (.int .i64 (j : Int)) ∧ W.cell? ⟨gb, go + i, none⟩ = some (.int .i64 (f : Int)) ∧ W.cell? ⟨bo, f, none⟩ = some (.slice (some ⟨rb, ro, none⟩) m c) ∧ W.cell? ⟨gb, go + j, none⟩ = some (.int .i64 v)) w6.drew) := unhide HS6
  have hset := (unhide HR6).setSlot (f := f) (s := s) (by omega) (unhide HM) (by omega) rfl hc6 v
  have HST := hide hset
  have f6d : w6.drew.frozen? ⟨rb, ro + s, none⟩ = false := f6
  have c6d : w6.drew.cell? ⟨rb, ro + s, none⟩ = some (.int .i64 old) := c6
  clear hset hc6
  go_region_held3 (fun W => W.cell? ⟨b, 0, none⟩ = some (.slice (some ⟨bo, 0, none⟩) n co) ∧ W.cell? ⟨b, 1, none⟩ = some (.slice (some ⟨gb, go, none⟩) nr cr) ∧ W.cell? ⟨AB, 1, none⟩ = some (.int .i64 (i : Int)) ∧ W.cell? ⟨AB, 2, none⟩ = some (.int .i64 (s : Int)) ∧ W.cell? ⟨AB, 3, none⟩ = some (.int .i64 (j : Int)) ∧ W.cell? ⟨gb, go + i, none⟩ = some (.int .i64 (f : Int)) ∧ W.cell? ⟨bo, f, none⟩ = some (.slice (some ⟨rb, ro, none⟩) m c) ∧ W.cell? ⟨gb, go + j, none⟩ = some (.int .i64 v))
    (first | with_reducible exact unhide HS6 | with_reducible exact unhide HSd | (repeat (first | with_reducible exact unhide HS6 | with_reducible exact unhide HSd | with_reducible refine unhide HS3 _ _ ?_ | with_reducible refine unhide HSDR _ ?_)))
    (fail)
  all_goals
    obtain ⟨W8, e8⟩ : ∃ X, (w6.setCell ⟨rb, ro + s, none⟩ (.int .i64 v)).drew = X := ⟨_, rfl⟩
    have HR8 : Hid (RfL lo W8 lab6 b (some ⟨bo, 0, none⟩) n co (some ⟨gb, go, none⟩) nr cr wb cw vl6 ⟨g.os.set f ((g.os.getD f []).set s v), g.rs, shade1 g.mm old⟩) := by rw [← e8]; exact (unhide HST).1.keep (Below.refl _ _).drew
    have HX8 : Hid (Below lo Wt W8) := by rw [← e8]; exact ((unhide HX6).setCell (p := ⟨rb, ro + s, none⟩) (unhide HST).2.1 _).drew
    try rw [e8]
    clear e8
    go_wp2_with fail
    exact unhide HP _ (RfX.of (unhide HR8)) (unhide HX8)

set_option maxRecDepth 100000 in
set_option maxHeartbeats 4000000 in
theorem act_wkj3 {lo : Nat} {Wt : World} {lab : Nat → Nat} {b : Nat} {oa : Option Addr} {n co : Nat} {ar : Option Addr} {nr cr wb cw : Nat} {vl : Value} {g : Gm} (h : RfL lo Wt lab b oa n co ar nr cr wb cw vl g) (hg : GoodG g) (hnd : NodG g.mm) (AB : Nat) (A : Bool) (i f s m : Nat) (hi : i < nr) (hq : regG g (i : Int) = (f : Int)) (hf : f < n) (hm : (g.os.getD f []).length = m) (hs : s < m) (j : Nat) (hj : j < nr) (v : Int) (hv : srcG g (j : Int) = v) (hvr : -1 ≤ v ∧ v < (n : Int)) (old : Int) (hold : (g.os.getD f []).getD s 0 = old) (hAB : Wt.heap[AB]? = some (.cells #[.int .i64 1, .int .i64 (i : Int), .int .i64 (s : Int), .int .i64 (j : Int)] 47 (0, 0))) (hla : lab AB = 0) (P0 : Ending → World → Prop) (hP : ∀ w', RfX lo w' b ⟨g.os.set f ((g.os.getD f []).set s v), g.rs, shB 3 g.mm old v⟩ → Below lo Wt w' → P0 (.returned (.int .i64 0)) w')
    {s1 s3 s5 s6 s7 s10 s11 s12 s13 s14 s15 s16 s17 s18 s19 s20 s21 s22 s23 s24 s25 s26 s27 s28 s29 s30 s31 s32 s33 s34 s35 s36 s37 s38 s39 s40 s41 s42 s43 s44 s45 s46 s47 s48 s49 s50 s51 s52 s53 s54 s55 s56 s57 s58 s59 s60 s61 s62 s63 s64 s65 s66 s67 s68 s69 s70 s71 s72 s73 s74 s75 s76 s77 s78 s79 s80 s81 s82 s83 s84 s85 s86 s87 s88 s89 s90 s91 s92 s93 s94 s95 s96 s97 s98 s99 s100 s101 s102 s103 s104 s105 s106 s107 s108 s109 s110 s111 s112 s113 s114 s115 s116 s117 s118 s119 s120 s121 s122 s123 s124 s125 s126 s127 s128 s129 s130 s131 s132 s133 s134 s135 s136 s137 s138 s139 s140 s141 s142 s143 s144 s145 s146 s147 s148 s149 s150 s151 s152 s153 s154 s155 s156 s157 s158 s159 s160 s161 s162 s163 s164 s165 s166 s167 s168 s169 s170 s171 s172 s173 s174 s175 s176 s177 s178 s179 s180 s181 s182 s183 s184 s185 s186 s187 s188 s189 s190 s191 s192 s193 s194 s195 s196 s197 s198 s199 s200 s201 s202 s203 s204 s205 s206 s207 s208 s209 s210 s211 s212 s213 s214 s215 s216 s217 s218 s219 s220 s221 s222 s223 s224 s225 s226 s227 s228 s229 s230 s231 s232 s233 s234 s235 s236 s237 s238 s239 s240 s241 s242 s243 s244 s245 s246 s247 s248 s249 s250 s251 s252 s253 s254 s255 s256 s257 s258 s259 s260 s261 s262 s263 s264 s265 s266 s267 s268 s269 s270 : Value} (K1 K2 : Act → World → Prop) (x y zc : Code) (hK1 : ∀ a w', y.wp Try.prog (Exit.then K2 (bodyPost Try.prog Try.f35 P0)) a w' → K1 a w') (hK2 : ∀ a w', zc.wp Try.prog (bodyPost Try.prog Try.f35 P0) a w' → K2 a w') (hcut : Try.f35.body.bind (cutIfE 4) = some (x, y, zc)) :
    x.wp Try.prog (Exit.then K1 (Exit.then K2 (bodyPost Try.prog Try.f35 P0))) { tmps := (.pointer (some ⟨b, 0, none⟩) :: s1 :: .int .i64 3 :: s3 :: .pointer (some ⟨AB, 0, none⟩) :: s5 :: s6 :: s7 :: .bool A :: .bool true :: s10 :: s11 :: s12 :: s13 :: s14 :: s15 :: s16 :: s17 :: s18 :: s19 :: s20 :: s21 :: s22 :: s23 :: s24 :: s25 :: s26 :: s27 :: s28 :: s29 :: s30 :: s31 :: s32 :: s33 :: s34 :: s35 :: s36 :: s37 :: s38 :: s39 :: s40 :: s41 :: s42 :: s43 :: s44 :: s45 :: s46 :: s47 :: s48 :: s49 :: s50 :: s51 :: s52 :: s53 :: s54 :: s55 :: s56 :: s57 :: s58 :: s59 :: s60 :: s61 :: s62 :: s63 :: s64 :: s65 :: s66 :: s67 :: s68 :: s69 :: s70 :: s71 :: s72 :: s73 :: s74 :: s75 :: s76 :: s77 :: s78 :: s79 :: s80 :: s81 :: s82 :: s83 :: s84 :: s85 :: s86 :: s87 :: s88 :: s89 :: s90 :: s91 :: s92 :: s93 :: s94 :: s95 :: s96 :: s97 :: s98 :: s99 :: s100 :: s101 :: s102 :: s103 :: s104 :: s105 :: s106 :: s107 :: s108 :: s109 :: s110 :: s111 :: s112 :: s113 :: s114 :: s115 :: s116 :: s117 :: s118 :: s119 :: s120 :: s121 :: s122 :: s123 :: s124 :: s125 :: s126 :: s127 :: s128 :: s129 :: s130 :: s131 :: s132 :: s133 :: s134 :: s135 :: s136 :: s137 :: s138 :: s139 :: s140 :: s141 :: s142 :: s143 :: s144 :: s145 :: s146 :: s147 :: s148 :: s149 :: s150 :: s151 :: s152 :: s153 :: s154 :: s155 :: s156 :: s157 :: s158 :: s159 :: s160 :: s161 :: s162 :: s163 :: s164 :: s165 :: s166 :: s167 :: s168 :: s169 :: s170 :: s171 :: s172 :: s173 :: s174 :: s175 :: s176 :: s177 :: s178 :: s179 :: s180 :: s181 :: s182 :: s183 :: s184 :: s185 :: s186 :: s187 :: s188 :: s189 :: s190 :: s191 :: s192 :: s193 :: s194 :: s195 :: s196 :: s197 :: s198 :: s199 :: s200 :: s201 :: s202 :: s203 :: s204 :: s205 :: s206 :: s207 :: s208 :: s209 :: s210 :: s211 :: s212 :: s213 :: s214 :: s215 :: s216 :: s217 :: s218 :: s219 :: s220 :: s221 :: s222 :: s223 :: s224 :: s225 :: s226 :: s227 :: s228 :: s229 :: s230 :: s231 :: s232 :: s233 :: s234 :: s235 :: s236 :: s237 :: s238 :: s239 :: s240 :: s241 :: s242 :: s243 :: s244 :: s245 :: s246 :: s247 :: s248 :: s249 :: s250 :: s251 :: s252 :: s253 :: s254 :: s255 :: s256 :: s257 :: s258 :: s259 :: s260 :: s261 :: s262 :: s263 :: s264 :: s265 :: s266 :: s267 :: s268 :: s269 :: s270 :: []).toArray, defers := [] } Wt := by
  have hcc : Try.f35.body.bind (cutIfE 4) = some (_, _, _) := rfl
  rw [hcc] at hcut
  cases hcut
  clear hcc
  obtain ⟨⟨q0, q1, q2, q3⟩, ⟨qf0, qf1, qf2, qf3⟩, ql⟩ := block4 hAB
  obtain ⟨⟨m0, m1, m2, m3⟩, ⟨mf0, mf1, mf2, mf3⟩, ml⟩ := block4 h.blk
  have HQ := hide hAB; have HP := hide hP; have HR := hide h; have HG := hide hg; have HND := hide hnd
  have HLO : Hid (lo ≤ Wt.heap.size) := Nat.le_trans h.low.1 (Nat.le_of_lt h.blt)
  obtain ⟨bo, rb, ro, c, eoa, hc, hcell, hfz, hlr, hlow, hrlt⟩ := h.slotAt hf hm hs
  rw [hold] at hcell
  obtain ⟨gb, go, ear, r1, _, hl5, _, hglt⟩ := h.regAt hi
  rw [← regG_at, hq] at r1
  obtain ⟨gb', go', ear', r2, _, _, _, _⟩ := h.regAt hj
  rw [ear] at ear'
  cases ear'
  have hjv : g.rs.getD j 0 = v := by rw [← hv]; unfold srcG; rw [if_neg (by omega), regG_at]
  rw [hjv] at r2
  have j1 : (0 : Int) ≤ (j : Int) := by omega
  have j2 : (j : Int) < (nr : Int) := by omega
  have hf1 : hasSlB g (i : Int) (s : Int) = true := by
    unfold hasSlB hasRB
    rw [rowG_at hq, hq, hm, h.hr]
    have e1 : decide ((0 : Int) ≤ (i : Int)) = true := decide_eq_true (by omega)
    have e2 : decide ((i : Int) < (nr : Int)) = true := decide_eq_true (by omega)
    have e3 : decide ((f : Int) = -1) = false := decide_eq_false (by omega)
    have e4 : decide ((0 : Int) ≤ (s : Int)) = true := decide_eq_true (by omega)
    have e5 : decide ((s : Int) < (m : Int)) = true := decide_eq_true (by omega)
    rw [e1, e2, e3, e4, e5]
    rfl
  have HF := hide hf1
  have i1 : (0 : Int) ≤ (i : Int) := by omega
  have i2 : (i : Int) < (nr : Int) := by omega
  have i3 : (0 : Int) ≤ (f : Int) := by omega
  have i4 : (f : Int) < (n : Int) := by omega
  have i5 : (0 : Int) ≤ (s : Int) := by omega
  have i6 : (s : Int) < (m : Int) := by omega
  have hlb := h.lbs
  obtain ⟨_, _, hbol, _, hlbo⟩ := h.olo eoa
  have hABl := size_of hAB
  have n1 : b ≠ rb := fun e => by rw [← e] at hlr; omega
  have n2 : AB ≠ rb := fun e => by rw [← e] at hlr; omega
  have n3 : gb ≠ rb := fun e => by rw [← e] at hlr; omega
  have n4 : bo ≠ rb := fun e => by rw [← e] at hlr; omega
  subst eoa
  subst ear
  have HSS : Hid (∀ (W : World) (X Y : Value), W.heap[b]? = some (.cells #[.slice (some ⟨bo, 0, none⟩) n co, .slice (some ⟨gb, go, none⟩) nr cr, X, Y] 65 (0, 0)) → (∀ k, k < Wt.heap.size → lab k ≠ 2 → lab k ≠ 4 → W.heap[k]? = Wt.heap[k]?) → W.cell? ⟨b, 0, none⟩ = some (.slice (some ⟨bo, 0, none⟩) n co) ∧ W.cell? ⟨b, 1, none⟩ = some (.slice (some ⟨gb, go, none⟩) nr cr) ∧ W.cell? ⟨AB, 1, none⟩ = some (.int .i64 (i : Int)) ∧ W.cell? ⟨AB, 2, none⟩ = some (.int .i64 (s : Int)) ∧ W.cell? ⟨AB, 3, none⟩ = some (.int .i64 (j : Int)) ∧ W.cell? ⟨gb, go + i, none⟩ = some (.int .i64 (f : Int)) ∧ W.cell? ⟨bo, f, none⟩ = some (.slice (some ⟨rb, ro, none⟩) m c) ∧ W.cell? ⟨gb, go + j, none⟩ = some (.int .i64 v)) := fun W X Y hb hk => ⟨(block4 hb).1.1, (block4 hb).1.2.1, cell_of q1 (hk AB hABl (by omega) (by omega)), cell_of q2 (hk AB hABl (by omega) (by omega)), cell_of q3 (hk AB hABl (by omega) (by omega)), cell_of r1 (hk gb hglt (by omega) (by omega)), cell_of hc (hk bo hbol (by omega) (by omega)), cell_of r2 (hk gb hglt (by omega) (by omega))⟩
  have HS3 : Hid (∀ (W : World) (u : Value), (W.cell? ⟨b, 0, none⟩ = some (.slice (some ⟨bo, 0, none⟩) n co) ∧ W.cell? ⟨b, 1, none⟩ = some (.slice (some ⟨gb, go, none⟩) nr cr) ∧ W.cell? ⟨AB, 1, none⟩ = some (.int .i64 (i : Int)) ∧ W.cell? ⟨AB, 2, none⟩ = some (.int .i64 (s : Int)) ∧ W.cell? ⟨AB, 3, none⟩ = some (.int .i64 (j : Int)) ∧ W.cell? ⟨gb, go + i, none⟩ = some (.int .i64 (f : Int)) ∧ W.cell? ⟨bo, f, none⟩ = some (.slice (some ⟨rb, ro, none⟩) m c) ∧ W.cell? ⟨gb, go + j, none⟩ = some (.int .i64 v)) → (W.setCell ⟨rb, ro + s, none⟩ u).cell? ⟨b, 0, none⟩ = some (.slice (some ⟨bo, 0, none⟩) n co) ∧ (W.setCell ⟨rb, ro + s, none⟩ u).cell? ⟨b, 1, none⟩ = some (.slice (some ⟨gb, go, none⟩) nr cr) ∧ (W.setCell ⟨rb, ro + s, none⟩ u).cell? ⟨AB, 1, none⟩ = some (.int .i64 (i : Int)) ∧ (W.setCell ⟨rb, ro + s, none⟩ u).cell? ⟨AB, 2, none⟩ = some (.int .i64 (s : Int)) ∧ (W.setCell ⟨rb, ro + s, none⟩ u).cell? ⟨AB, 3, none⟩ = some (.int .i64 (j : Int)) ∧ (W.setCell ⟨rb, ro + s, none⟩ u).cell? ⟨gb, go + i, none⟩ = some (.int .i64 (f : Int)) ∧ (W.setCell ⟨rb, ro + s, none⟩ u).cell? ⟨bo, f, none⟩ = some (.slice (some ⟨rb, ro, none⟩) m c) ∧ (W.setCell ⟨rb, ro + s, none⟩ u).cell? ⟨gb, go + j, none⟩ = some (.int .i64 v)) := fun W u hW => ⟨cell_other hW.1 (Or.inl n1) u, cell_other hW.2.1 (Or.inl n1) u, cell_other hW.2.2.1 (Or.inl n2) u, cell_other hW.2.2.2.1 (Or.inl n2) u, cell_other hW.2.2.2.2.1 (Or.inl n2) u, cell_other hW.2.2.2.2.2.1 (Or.inl n3) u, cell_other hW.2.2.2.2.2.2.1 (Or.inl n4) u, cell_other hW.2.2.2.2.2.2.2 (Or.inl n3) u⟩
  have HSDR : Hid (∀ W : World, (W.cell? ⟨b, 0, none⟩ = some (.slice (some ⟨bo, 0, none⟩) n co) ∧ W.cell? ⟨b, 1, none⟩ = some (.slice (some ⟨gb, go, none⟩) nr cr) ∧ W.cell? ⟨AB, 1, none⟩ = some (.int .i64 (i : Int)) ∧ W.cell? ⟨AB, 2, none⟩ = some (.int .i64 (s : Int)) ∧ W.cell? ⟨AB, 3, none⟩ = some (.int .i64 (j : Int)) ∧ W.cell? ⟨gb, go + i, none⟩ = some (.int .i64 (f : Int)) ∧ W.cell? ⟨bo, f, none⟩ = some (.slice (some ⟨rb, ro, none⟩) m c) ∧ W.cell? ⟨gb, go + j, none⟩ = some (.int .i64 v)) → W.drew.cell? ⟨b, 0, none⟩ = some (.slice (some ⟨bo, 0, none⟩) n co) ∧ W.drew.cell? ⟨b, 1, none⟩ = some (.slice (some ⟨gb, go, none⟩) nr cr) ∧ W.drew.cell? ⟨AB, 1, none⟩ = some (.int .i64 (i : Int)) ∧ W.drew.cell? ⟨AB, 2, none⟩ = some (.int .i64 (s : Int)) ∧ W.drew.cell? ⟨AB, 3, none⟩ = some (.int .i64 (j : Int)) ∧ W.drew.cell? ⟨gb, go + i, none⟩ = some (.int .i64 (f : Int)) ∧ W.drew.cell? ⟨bo, f, none⟩ = some (.slice (some ⟨rb, ro, none⟩) m c) ∧ W.drew.cell? ⟨gb, go + j, none⟩ = some (.int .i64 v)) := fun W hW => hW
  have HCL := hide hcell; have HFZ := hide hfz; have HRL := hide hrlt; have HLR := hide hlr; have HRW := hide hlow
  have HM := hide hm; have HC := hide hc; have HBO := hide hbol; have HLBO := hide hlbo
  have hln := hg.ln.cnt
  have HLN : Hid (g.mm.ln.length ≤ 2000) := hide (by omega)
  have HOR : Hid (-1 ≤ old ∧ old < (n : Int)) := by
    have h_ := hg.gh.so f (by rw [h.hn]; exact hf) _ (getD_mem (by rw [hm]; exact hs))
    rw [hold, h.hn] at h_
    exact h_
  clear hf1 n1 n2 n3 n4 hcell hfz hrlt hlr hlow hc r1 r2 hjv hm hbol hlbo hABl hglt hlb hl5 hq hln hold
  clear hAB hP h hg hnd
  have HTH := hide (there_any (unhide HR) (unhide HG) (i : Int) (s : Int))
  go_upto_region 9 with (go_at_call 48; (with_reducible refine Calls.mono (unhide HTH) ?_); rintro e w2 ⟨rfl, hb2⟩; rw [unhide HF]; have HB2 := hide hb2; have HR2 := hide ((unhide HR).keep hb2); clear hb2)
  clear q0 q1 q2 q3 qf0 qf1 qf2 qf3 ql m0 m1 m2 m3 mf0 mf1 mf2 mf3 ml
  have HS2 := hide (unhide HSS w2 _ _ (unhide HR2).blk (fun k k1 _ _ => (unhide HB2).block k k1))
  have HS2d : Hid ((fun W : World => W.cell? ⟨b, 0, none⟩ = some (.slice (some ⟨bo, 0, none⟩) n co) ∧ W.cell? ⟨b, 1, none⟩ = some (.slice (some ⟨gb, go, none⟩) nr cr) ∧ W.cell? ⟨AB, 1, none⟩ = some (.int .i64 (i : Int)) ∧ W.cell? ⟨AB, 2, none⟩ = some (.int .i64 (s : Int)) ∧ W.cell? ⟨AB, 3, none⟩ = some (.int .i64 (j : Int)) ∧ W.cell? ⟨gb, go + i, none⟩ = some (.int .i64 (f : Int)) ∧ W.cell? ⟨bo, f, none⟩ = some (.slice (some ⟨rb, ro, none⟩) m c) ∧ W.cell? ⟨gb, go + j, none⟩ = some (.int .i64 v)) w2.drew) := unhide HS2
  go_region_held3 (fun W => W.cell? ⟨b, 0, none⟩ = some (.slice (some ⟨bo, 0, none⟩) n co) ∧ W.cell? ⟨b, 1, none⟩ = some (.slice (some ⟨gb, go, none⟩) nr cr) ∧ W.cell? ⟨AB, 1, none⟩ = some (.int .i64 (i : Int)) ∧ W.cell? ⟨AB, 2, none⟩ = some (.int .i64 (s : Int)) ∧ W.cell? ⟨AB, 3, none⟩ = some (.int .i64 (j : Int)) ∧ W.cell? ⟨gb, go + i, none⟩ = some (.int .i64 (f : Int)) ∧ W.cell? ⟨bo, f, none⟩ = some (.slice (some ⟨rb, ro, none⟩) m c) ∧ W.cell? ⟨gb, go + j, none⟩ = some (.int .i64 v))
    (first | with_reducible exact unhide HS2 | with_reducible exact unhide HS2d)
    (fail)
  obtain ⟨W3, e3⟩ : ∃ X, w2.drew = X := ⟨_, rfl⟩
  have HB3 : Hid (Below Wt.heap.size Wt W3) := by rw [← e3]; exact (unhide HB2).drew
  rw [e3]
  clear e3 HS2 HS2d
  have HR3 := hide ((unhide HR).keep (unhide HB3))
  have HS2 := hide (unhide HSS W3 _ _ (unhide HR3).blk (fun k k1 _ _ => (unhide HB3).block k k1))
  have HS2d : Hid ((fun W : World => W.cell? ⟨b, 0, none⟩ = some (.slice (some ⟨bo, 0, none⟩) n co) ∧ W.cell? ⟨b, 1, none⟩ = some (.slice (some ⟨gb, go, none⟩) nr cr) ∧ W.cell? ⟨AB, 1, none⟩ = some (.int .i64 (i : Int)) ∧ W.cell? ⟨AB, 2, none⟩ = some (.int .i64 (s : Int)) ∧ W.cell? ⟨AB, 3, none⟩ = some (.int .i64 (j : Int)) ∧ W.cell? ⟨gb, go + i, none⟩ = some (.int .i64 (f : Int)) ∧ W.cell? ⟨bo, f, none⟩ = some (.slice (some ⟨rb, ro, none⟩) m c) ∧ W.cell? ⟨gb, go + j, none⟩ = some (.int .i64 v)) W3.drew) := unhide HS2
  have a3 := (unhide HS2).2.2.2.2.1
  go_upto_region 12 with fail
  clear a3
  go_region_held3 (fun W => W.cell? ⟨b, 0, none⟩ = some (.slice (some ⟨bo, 0, none⟩) n co) ∧ W.cell? ⟨b, 1, none⟩ = some (.slice (some ⟨gb, go, none⟩) nr cr) ∧ W.cell? ⟨AB, 1, none⟩ = some (.int .i64 (i : Int)) ∧ W.cell? ⟨AB, 2, none⟩ = some (.int .i64 (s : Int)) ∧ W.cell? ⟨AB, 3, none⟩ = some (.int .i64 (j : Int)) ∧ W.cell? ⟨gb, go + i, none⟩ = some (.int .i64 (f : Int)) ∧ W.cell? ⟨bo, f, none⟩ = some (.slice (some ⟨rb, ro, none⟩) m c) ∧ W.cell? ⟨gb, go + j, none⟩ = some (.int .i64 v))
    (first | with_reducible exact unhide HS2 | with_reducible exact unhide HS2d)
    (fail)
  obtain ⟨W4, e4⟩ : ∃ X, W3.drew = X := ⟨_, rfl⟩
  have HB4 : Hid (Below Wt.heap.size Wt W4) := by rw [← e4]; exact (unhide HB3).drew
  rw [e4]
  clear e4 HS2 HS2d
  have HR4 := hide ((unhide HR).keep (unhide HB4))
  have HS4 := hide (unhide HSS W4 _ _ (unhide HR4).blk (fun k k1 _ _ => (unhide HB4).block k k1))
  have c4 := cell_of (unhide HCL) ((unhide HB4).block rb (unhide HRL))
  have f4 := froz_of (unhide HFZ) ((unhide HB4).block rb (unhide HRL))
  have HK4 : Hid (∀ k, k < Wt.heap.size → lab k ≠ 2 → lab k ≠ 4 → W4.heap[k]? = Wt.heap[k]?) := fun k k1 _ _ => (unhide HB4).block k k1
  have HL4 : Hid (∀ k, k < Wt.heap.size → lab k = lab k) := fun _ _ => rfl
  have HX4 : Hid (Below lo Wt W4) := (unhide HB4).mono (unhide HLO)
  have HZ4 : Hid (Wt.heap.size ≤ W4.heap.size) := (unhide HB4).size
  go_upto_region 14 with fail
  have HSH : Hid (∀ W, Below W4.heap.size W4 W → Calls Try.prog 47 #[.pointer (some ⟨b, 0, none⟩), .int .i64 old] W fun e w' => e = .returned (.tuple #[]) ∧ RfS lo w' lab W4.heap.size b (some ⟨bo, 0, none⟩) n co (some ⟨gb, go, none⟩) nr cr wb cw ⟨g.os, g.rs, shade1 g.mm old⟩ ∧ (∀ k, k < W4.heap.size → lab k ≠ 2 → lab k ≠ 4 → w'.heap[k]? = W4.heap[k]?) ∧ Below lo W4 w') := fun W hW => (rshade_k ((unhide HR4).keep hW) (unhide HND) (Nat.le_trans (unhide HLN) (by decide)) old (unhide HOR)).mono fun e w' ⟨h1, ⟨l5, v5, h2, h2b⟩, h3, h4⟩ => ⟨h1, ⟨l5, v5, h2, fun k k1 => h2b k (Nat.lt_of_lt_of_le k1 hW.size)⟩, fun k k1 k2 k3 => (h3 k (Nat.lt_of_lt_of_le k1 hW.size) k2 k3).trans (hW.block k k1), (hW.mono (Nat.le_trans (unhide HLO) (unhide HZ4))).trans h4⟩
  have HD0 : Hid (Below W4.heap.size W4 W4) := Below.refl _ _
  have HD1 : Hid (Below W4.heap.size W4 W4.drew) := (Below.refl _ _).drew
  have HT4 : Hid ((fun W : World => W.cell? ⟨b, 0, none⟩ = some (.slice (some ⟨bo, 0, none⟩) n co) ∧ W.cell? ⟨b, 1, none⟩ = some (.slice (some ⟨gb, go, none⟩) nr cr) ∧ W.cell? ⟨AB, 1, none⟩ = some (.int .i64 (i : Int)) ∧ W.cell? ⟨AB, 2, none⟩ = some (.int .i64 (s : Int)) ∧ W.cell? ⟨AB, 3, none⟩ = some (.int .i64 (j : Int)) ∧ W.cell? ⟨gb, go + i, none⟩ = some (.int .i64 (f : Int)) ∧ W.cell? ⟨bo, f, none⟩ = some (.slice (some ⟨rb, ro, none⟩) m c) ∧ W.cell? ⟨gb, go + j, none⟩ = some (.int .i64 v) ∧ W.cell? ⟨rb, ro + s, none⟩ = some (.int .i64 old)) W4) := by
    have h_ := unhide HS4
    exact ⟨h_.1, h_.2.1, h_.2.2.1, h_.2.2.2.1, h_.2.2.2.2.1, h_.2.2.2.2.2.1, h_.2.2.2.2.2.2.1, h_.2.2.2.2.2.2.2, c4⟩
  have HT4d : Hid ((fun W : World => W.cell? ⟨b, 0, none⟩ = some (.slice (some ⟨bo, 0, none⟩) n co) ∧ W.cell? ⟨b, 1, none⟩ = some (.slice (some ⟨gb, go, none⟩) nr cr) ∧ W.cell? ⟨AB, 1, none⟩ = some (.int .i64 (i : Int)) ∧ W.cell? ⟨AB, 2, none⟩ = some (.int .i64 (s : Int)) ∧ W.cell? ⟨AB, 3, none⟩ = some (.int .i64 (j : Int)) ∧ W.cell? ⟨gb, go + i, none⟩ = some (.int .i64 (f : Int)) ∧ W.cell? ⟨bo, f, none⟩ = some (.slice (some ⟨rb, ro, none⟩) m c) ∧ W.cell? ⟨gb, go + j, none⟩ = some (.int .i64 v) ∧ W.cell? ⟨rb, ro + s, none⟩ = some (.int .i64 old)) W4.drew) := unhide HT4
  clear c4 f4
  go_region_held3 (fun W => W.cell? ⟨b, 0, none⟩ = some (.slice (some ⟨bo, 0, none⟩) n co) ∧ W.cell? ⟨b, 1, none⟩ = some (.slice (some ⟨gb, go, none⟩) nr cr) ∧ W.cell? ⟨AB, 1, none⟩ = some (.int .i64 (i : Int)) ∧ W.cell? ⟨AB, 2, none⟩ = some (.int .i64 (s : Int)) ∧ W.cell? ⟨AB, 3, none⟩ = some (.int .i64 (j : Int)) ∧ W.cell? ⟨gb, go + i, none⟩ = some (.int .i64 (f : Int)) ∧ W.cell? ⟨bo, f, none⟩ = some (.slice (some ⟨rb, ro, none⟩) m c) ∧ W.cell? ⟨gb, go + j, none⟩ = some (.int .i64 v) ∧ W.cell? ⟨rb, ro + s, none⟩ = some (.int .i64 old))
    (first | with_reducible exact unhide HT4 | with_reducible exact unhide HT4d | with_reducible exact unhide HT6)
    (first | (go_at_call 47; (with_reducible refine Calls.mono (unhide HSH _ (by first | with_reducible exact unhide HD1 | with_reducible exact unhide HD0)) ?_); rintro e w6 ⟨rfl, ⟨lab6, vl6, h6, ha6⟩, hk6, hb6⟩; have hkk : ∀ k, k < Wt.heap.size → lab k ≠ 2 → lab k ≠ 4 → w6.heap[k]? = Wt.heap[k]? := (fun k k1 k2 k3 => (hk6 k (Nat.lt_of_lt_of_le k1 (unhide HZ4)) k2 k3).trans (unhide HK4 k k1 k2 k3)); have HT6 : Hid ((fun W : World => W.cell? ⟨b, 0, none⟩ = some (.slice (some ⟨bo, 0, none⟩) n co) ∧ W.cell? ⟨b, 1, none⟩ = some (.slice (some ⟨gb, go, none⟩) nr cr) ∧ W.cell? ⟨AB, 1, none⟩ = some (.int .i64 (i : Int)) ∧ W.cell? ⟨AB, 2, none⟩ = some (.int .i64 (s : Int)) ∧ W.cell? ⟨AB, 3, none⟩ = some (.int .i64 (j : Int)) ∧ W.cell? ⟨gb, go + i, none⟩ = some (.int .i64 (f : Int)) ∧ W.cell? ⟨bo, f, none⟩ = some (.slice (some ⟨rb, ro, none⟩) m c) ∧ W.cell? ⟨gb, go + j, none⟩ = some (.int .i64 v) ∧ W.cell? ⟨rb, ro + s, none⟩ = some (.int .i64 old)) w6) := (by have h_ := unhide HSS w6 _ _ h6.blk hkk; exact ⟨h_.1, h_.2.1, h_.2.2.1, h_.2.2.2.1, h_.2.2.2.2.1, h_.2.2.2.2.2.1, h_.2.2.2.2.2.2.1, h_.2.2.2.2.2.2.2, cell_of (unhide HCL) (hkk rb (unhide HRL) (by have := unhide HLR; omega) (by have := unhide HLR; omega))⟩); have HR6 := hide h6; have HA6 := hide (fun k k1 => ha6 k (Nat.lt_of_lt_of_le k1 (unhide HZ4))); have HK6 := hide hkk; have HX6 := hide ((unhide HX4).trans hb6); clear h6 ha6 hk6 hb6 hkk))
  clear HT4 HT4d HS4
  have HS6 := hide (unhide HSS w6 _ _ (unhide HR6).blk (unhide HK6))
  go_upto_region 15 with fail
  have f6 := froz_of (unhide HFZ) (unhide HK6 rb (unhide HRL) (by have := unhide HLR; omega) (by have := unhide HLR; omega))
  have c6 := cell_of (unhide HCL) (unhide HK6 rb (unhide HRL) (by have := unhide HLR; omega) (by have := unhide HLR; omega))
  have hc6 := cell_of (unhide HC) (unhide HK6 bo (unhide HBO) (by have := unhide HLBO; omega) (by have := unhide HLBO; omega))
  have HSd : Hid ((fun W : World => W.cell? ⟨b, 0, none⟩ = some (.slice (some ⟨bo, 0, none⟩) n co) ∧ W.cell? ⟨b, 1, none⟩ = some (.slice (some ⟨gb, go, none⟩) nr cr) ∧ W.cell? ⟨AB, 1, none⟩ = some (.int .i64 (i : Int)) ∧ W.cell? ⟨AB, 2, none⟩ = some (.int .i64 (s : Int)) ∧ W.cell? ⟨AB, 3, none⟩ = some (.int .i64 (j : Int)) ∧ W.cell? ⟨gb, go + i, none⟩ = some (.int .i64 (f : Int)) ∧ W.cell? ⟨bo, f, none⟩ = some (.slice (some ⟨rb, ro, none⟩) m c) ∧ W.cell? ⟨gb, go + j, none⟩ = some (.int .i64 v)) w6.drew) := unhide HS6
  have hset := (unhide HR6).setSlot (f := f) (s := s) (by omega) (unhide HM) (by omega) rfl hc6 v
  have HST := hide hset
  have f6d : w6.drew.frozen? ⟨rb, ro + s, none⟩ = false := f6
  have c6d : w6.drew.cell? ⟨rb, ro + s, none⟩ = some (.int .i64 old) := c6
  clear hset hc6
  go_region_held3 (fun W => W.cell? ⟨b, 0, none⟩ = some (.slice (some ⟨bo, 0, none⟩) n co) ∧ W.cell? ⟨b, 1, none⟩ = some (.slice (some ⟨gb, go, none⟩) nr cr) ∧ W.cell? ⟨AB, 1, none⟩ = some (.int .i64 (i : Int)) ∧ W.cell? ⟨AB, 2, none⟩ = some (.int .i64 (s : Int)) ∧ W.cell? ⟨AB, 3, none⟩ = some (.int .i64 (j : Int)) ∧ W.cell? ⟨gb, go + i, none⟩ = some (.int .i64 (f : Int)) ∧ W.cell? ⟨bo, f, none⟩ = some (.slice (some ⟨rb, ro, none⟩) m c) ∧ W.cell? ⟨gb, go + j, none⟩ = some (.int .i64 v))
    (first | with_reducible exact unhide HS6 | with_reducible exact unhide HSd | (repeat (first | with_reducible exact unhide HS6 | with_reducible exact unhide HSd | with_reducible refine unhide HS3 _ _ ?_ | with_reducible refine unhide HSDR _ ?_)))
    (fail)
  all_goals
    obtain ⟨W8, e8⟩ : ∃ X, (w6.setCell ⟨rb, ro + s, none⟩ (.int .i64 v)).drew = X := ⟨_, rfl⟩
    have HR8 : Hid (RfL lo W8 lab6 b (some ⟨bo, 0, none⟩) n co (some ⟨gb, go, none⟩) nr cr wb cw vl6 ⟨g.os.set f ((g.os.getD f []).set s v), g.rs, shade1 g.mm old⟩) := by rw [← e8]; exact (unhide HST).1.keep (Below.refl _ _).drew
    have HX8 : Hid (Below lo Wt W8) := by rw [← e8]; exact ((unhide HX6).setCell (p := ⟨rb, ro + s, none⟩) (unhide HST).2.1 _).drew
    try rw [e8]
    clear e8
    have HSV := hide (rshade_k (unhide HR8) ((unhide HND).shade1 old) (by show (shade1 g.mm old).ln.length ≤ 900000; have h1_ := shade1_len g.mm old; have := unhide HLN; omega) v hvr)
    go_wp2_with (go_at_call 47; (with_reducible refine Calls.mono (unhide HSV) ?_); rintro e w9 ⟨rfl, h9, _, hb9⟩; have H9 := hide h9; have HB9 := hide hb9; clear h9 hb9)
    exact unhide HP _ (unhide H9).x ((unhide HX8).trans (unhide HB9))

end Go.Proofs.Ytmkehjncnaokoaa
