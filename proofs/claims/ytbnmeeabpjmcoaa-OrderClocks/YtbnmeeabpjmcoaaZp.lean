/-
  taskmilllaw.OrderClocks: what follows when nothing is wrong.
-/
import Derived.Test.YtbnmeeabpjmcoaaZo
namespace Go.Proofs.Ytbnmeeabpjmcoaa
open Go.RowKit

set_option maxRecDepth 100000 in
set_option maxHeartbeats 4000000 in
theorem oc_tail_long (w : World) (a0 : Option Addr) (n0 c0 : Nat) (a1 : Option Addr) (n1 c1 : Nat) (l : List Ev) (_hs : List Int) (_hl : IsL KE w (.slice a0 n0 c0) l) (h : 300 < n0) (Wt : World) (hX : Below w.heap.size w Wt) (G V : Nat) (is : Bool) (zi zk : Int)
    {s4 s5 s6 s7 s8 s9 s10 s11 s13 s15 s16 s18 s19 s20 s21 s22 s23 s24 s25 s26 s27 s28 s29 s30 s31 s32 s33 s34 s35 s36 s37 s38 s39 s40 s41 s42 s43 s44 s45 s46 s47 s48 s49 s50 s51 s52 s53 s54 s55 s56 s57 s58 s59 s60 s61 s62 s63 s64 s65 s66 s67 s68 s69 s70 s71 s72 s73 s74 s75 s76 s77 s78 s79 s80 s81 s82 s83 s84 s85 s86 s87 s88 s89 s90 s91 s92 s93 s94 s95 s96 s97 s98 s99 s100 s101 s102 s103 s104 s105 s106 s107 s108 s109 s110 s111 s112 s113 s114 s115 s116 s117 s118 s119 s120 s121 s122 s123 s124 s125 s126 s127 s128 s129 s130 s131 s132 s133 s134 s135 s136 s137 s138 s139 s140 s141 s142 s143 s144 s145 s146 s147 s148 s149 s150 s151 s152 s153 s154 s155 s156 s157 s158 s159 s160 s161 s162 s163 s164 s165 s166 s167 s168 s169 s170 s171 s172 s173 s174 s175 s176 s177 s178 s179 s180 s181 s182 s183 s184 s185 s186 s187 s188 s189 s190 s191 s192 s193 s194 s195 s196 s197 s198 s199 s200 s201 s202 s203 s204 s205 s206 s207 s208 s209 s210 s211 s212 s213 s214 s215 s216 s217 s218 s219 s220 s221 s222 s223 s224 s225 s226 s227 s228 s229 s230 s231 s232 s233 s234 s235 s236 s237 s238 s239 s240 s241 s242 s243 s244 s245 : Value} (K1 K2 : Act → World → Prop) (x y z : Code) (hK1 : ∀ a w', y.wp Try.prog (Exit.then K2 (bodyPost Try.prog Try.f3 fun e w' => e = .returned (.bool true) ∧ Below w.heap.size w w')) a w' → K1 a w') (hK2 : ∀ a w', z.wp Try.prog (bodyPost Try.prog Try.f3 fun e w' => e = .returned (.bool true) ∧ Below w.heap.size w w') a w' → K2 a w') (hcut : Try.f3.body.bind (cutIf3 19) = some (x, y, z)) :
    x.wp Try.prog (Exit.then K1 (Exit.then K2 (bodyPost Try.prog Try.f3 fun e w' => e = .returned (.bool true) ∧ Below w.heap.size w w'))) { tmps := (.slice a0 n0 c0 :: .slice a1 n1 c1 :: .int .i64 zi :: .int .i64 zk :: s4 :: s5 :: s6 :: s7 :: s8 :: s9 :: s10 :: s11 :: .slice (some ⟨G, 0, none⟩) n0 n0 :: s13 :: .bool is :: s15 :: s16 :: .pointer (some ⟨V, 0, none⟩) :: s18 :: s19 :: s20 :: s21 :: s22 :: s23 :: s24 :: s25 :: s26 :: s27 :: s28 :: s29 :: s30 :: s31 :: s32 :: s33 :: s34 :: s35 :: s36 :: s37 :: s38 :: s39 :: s40 :: s41 :: s42 :: s43 :: s44 :: s45 :: s46 :: s47 :: s48 :: s49 :: s50 :: s51 :: s52 :: s53 :: s54 :: s55 :: s56 :: s57 :: s58 :: s59 :: s60 :: s61 :: s62 :: s63 :: s64 :: s65 :: s66 :: s67 :: s68 :: s69 :: s70 :: s71 :: s72 :: s73 :: s74 :: s75 :: s76 :: s77 :: s78 :: s79 :: s80 :: s81 :: s82 :: s83 :: s84 :: s85 :: s86 :: s87 :: s88 :: s89 :: s90 :: s91 :: s92 :: s93 :: s94 :: s95 :: s96 :: s97 :: s98 :: s99 :: s100 :: s101 :: s102 :: s103 :: s104 :: s105 :: s106 :: s107 :: s108 :: s109 :: s110 :: s111 :: s112 :: s113 :: s114 :: s115 :: s116 :: s117 :: s118 :: s119 :: s120 :: s121 :: s122 :: s123 :: s124 :: s125 :: s126 :: s127 :: s128 :: s129 :: s130 :: s131 :: s132 :: s133 :: s134 :: s135 :: s136 :: s137 :: s138 :: s139 :: s140 :: s141 :: s142 :: s143 :: s144 :: s145 :: s146 :: s147 :: s148 :: s149 :: s150 :: s151 :: s152 :: s153 :: s154 :: s155 :: s156 :: s157 :: s158 :: s159 :: s160 :: s161 :: s162 :: s163 :: s164 :: s165 :: s166 :: s167 :: s168 :: s169 :: s170 :: s171 :: s172 :: s173 :: s174 :: s175 :: s176 :: s177 :: s178 :: s179 :: s180 :: s181 :: s182 :: s183 :: s184 :: s185 :: s186 :: s187 :: s188 :: s189 :: s190 :: s191 :: s192 :: s193 :: s194 :: s195 :: s196 :: s197 :: s198 :: s199 :: s200 :: s201 :: s202 :: s203 :: s204 :: s205 :: s206 :: s207 :: s208 :: s209 :: s210 :: s211 :: s212 :: s213 :: s214 :: s215 :: s216 :: s217 :: s218 :: s219 :: s220 :: s221 :: s222 :: s223 :: s224 :: s225 :: s226 :: s227 :: s228 :: s229 :: s230 :: s231 :: s232 :: s233 :: s234 :: s235 :: s236 :: s237 :: s238 :: s239 :: s240 :: s241 :: s242 :: s243 :: s244 :: s245 :: []).toArray, defers := [] } Wt := by
  have hcc : Try.f3.body.bind (cutIf3 19) = some (_, _, _) := rfl
  rw [hcc] at hcut
  cases hcut
  clear hcc
  have i1 : (300 : Int) < (n0 : Int) := by omega
  have xn : ((n0 : Int) == (n0 : Int)) = true := by simp
  have HX := hide hX
  clear hX
  go_wp2_with fail
  go_ret
  exact ⟨rfl, unhide HX⟩

set_option maxRecDepth 100000 in
set_option maxHeartbeats 4000000 in
theorem oc_tail (w : World) (a0 : Option Addr) (n0 c0 : Nat) (a1 : Option Addr) (n1 c1 : Nat) (l : List Ev) (hs : List Int) (hl : IsL KE w (.slice a0 n0 c0) l) (hh : IsL KI w (.slice a1 n1 c1) hs) (hg : GoodT hs l) (h : ¬ 300 < n0) (Wt : World) (hX : Below w.heap.size w Wt) (m : Nat) (hm : lastL l = (m : Int)) (lo G : Nat) (hR : Rows2 lo Wt G n0 (rowL hs l m) m n0) (V : Nat) (vc va : Int) (hV : Wt.heap[V]? = some (.cells #[.int .i64 vc, .int .i64 va] 28 (0, 0))) (is : Bool) (zi zk : Int) (hv : vc ≠ 0 ∨ (vc = 0 ∧ ∃ i k : Nat, zi = (i : Int) ∧ zk = (k : Int) ∧ i < n0 ∧ k < n0 ∧ befL hs l i k = is))
    {s4 s5 s6 s7 s8 s9 s10 s11 s13 s15 s16 s18 s19 s20 s21 s22 s23 s24 s25 s26 s27 s28 s29 s30 s31 s32 s33 s34 s35 s36 s37 s38 s39 s40 s41 s42 s43 s44 s45 s46 s47 s48 s49 s50 s51 s52 s53 s54 s55 s56 s57 s58 s59 s60 s61 s62 s63 s64 s65 s66 s67 s68 s69 s70 s71 s72 s73 s74 s75 s76 s77 s78 s79 s80 s81 s82 s83 s84 s85 s86 s87 s88 s89 s90 s91 s92 s93 s94 s95 s96 s97 s98 s99 s100 s101 s102 s103 s104 s105 s106 s107 s108 s109 s110 s111 s112 s113 s114 s115 s116 s117 s118 s119 s120 s121 s122 s123 s124 s125 s126 s127 s128 s129 s130 s131 s132 s133 s134 s135 s136 s137 s138 s139 s140 s141 s142 s143 s144 s145 s146 s147 s148 s149 s150 s151 s152 s153 s154 s155 s156 s157 s158 s159 s160 s161 s162 s163 s164 s165 s166 s167 s168 s169 s170 s171 s172 s173 s174 s175 s176 s177 s178 s179 s180 s181 s182 s183 s184 s185 s186 s187 s188 s189 s190 s191 s192 s193 s194 s195 s196 s197 s198 s199 s200 s201 s202 s203 s204 s205 s206 s207 s208 s209 s210 s211 s212 s213 s214 s215 s216 s217 s218 s219 s220 s221 s222 s223 s224 s225 s226 s227 s228 s229 s230 s231 s232 s233 s234 s235 s236 s237 s238 s239 s240 s241 s242 s243 s244 s245 : Value} (K1 K2 : Act → World → Prop) (x y z : Code) (hK1 : ∀ a w', y.wp Try.prog (Exit.then K2 (bodyPost Try.prog Try.f3 fun e w' => e = .returned (.bool true) ∧ Below w.heap.size w w')) a w' → K1 a w') (hK2 : ∀ a w', z.wp Try.prog (bodyPost Try.prog Try.f3 fun e w' => e = .returned (.bool true) ∧ Below w.heap.size w w') a w' → K2 a w') (hcut : Try.f3.body.bind (cutIf3 19) = some (x, y, z)) :
    x.wp Try.prog (Exit.then K1 (Exit.then K2 (bodyPost Try.prog Try.f3 fun e w' => e = .returned (.bool true) ∧ Below w.heap.size w w'))) { tmps := (.slice a0 n0 c0 :: .slice a1 n1 c1 :: .int .i64 zi :: .int .i64 zk :: s4 :: s5 :: s6 :: s7 :: s8 :: s9 :: s10 :: s11 :: .slice (some ⟨G, 0, none⟩) n0 n0 :: s13 :: .bool is :: s15 :: s16 :: .pointer (some ⟨V, 0, none⟩) :: s18 :: s19 :: s20 :: s21 :: s22 :: s23 :: s24 :: s25 :: s26 :: s27 :: s28 :: s29 :: s30 :: s31 :: s32 :: s33 :: s34 :: s35 :: s36 :: s37 :: s38 :: s39 :: s40 :: s41 :: s42 :: s43 :: s44 :: s45 :: s46 :: s47 :: s48 :: s49 :: s50 :: s51 :: s52 :: s53 :: s54 :: s55 :: s56 :: s57 :: s58 :: s59 :: s60 :: s61 :: s62 :: s63 :: s64 :: s65 :: s66 :: s67 :: s68 :: s69 :: s70 :: s71 :: s72 :: s73 :: s74 :: s75 :: s76 :: s77 :: s78 :: s79 :: s80 :: s81 :: s82 :: s83 :: s84 :: s85 :: s86 :: s87 :: s88 :: s89 :: s90 :: s91 :: s92 :: s93 :: s94 :: s95 :: s96 :: s97 :: s98 :: s99 :: s100 :: s101 :: s102 :: s103 :: s104 :: s105 :: s106 :: s107 :: s108 :: s109 :: s110 :: s111 :: s112 :: s113 :: s114 :: s115 :: s116 :: s117 :: s118 :: s119 :: s120 :: s121 :: s122 :: s123 :: s124 :: s125 :: s126 :: s127 :: s128 :: s129 :: s130 :: s131 :: s132 :: s133 :: s134 :: s135 :: s136 :: s137 :: s138 :: s139 :: s140 :: s141 :: s142 :: s143 :: s144 :: s145 :: s146 :: s147 :: s148 :: s149 :: s150 :: s151 :: s152 :: s153 :: s154 :: s155 :: s156 :: s157 :: s158 :: s159 :: s160 :: s161 :: s162 :: s163 :: s164 :: s165 :: s166 :: s167 :: s168 :: s169 :: s170 :: s171 :: s172 :: s173 :: s174 :: s175 :: s176 :: s177 :: s178 :: s179 :: s180 :: s181 :: s182 :: s183 :: s184 :: s185 :: s186 :: s187 :: s188 :: s189 :: s190 :: s191 :: s192 :: s193 :: s194 :: s195 :: s196 :: s197 :: s198 :: s199 :: s200 :: s201 :: s202 :: s203 :: s204 :: s205 :: s206 :: s207 :: s208 :: s209 :: s210 :: s211 :: s212 :: s213 :: s214 :: s215 :: s216 :: s217 :: s218 :: s219 :: s220 :: s221 :: s222 :: s223 :: s224 :: s225 :: s226 :: s227 :: s228 :: s229 :: s230 :: s231 :: s232 :: s233 :: s234 :: s235 :: s236 :: s237 :: s238 :: s239 :: s240 :: s241 :: s242 :: s243 :: s244 :: s245 :: []).toArray, defers := [] } Wt := by
  have hcc : Try.f3.body.bind (cutIf3 19) = some (_, _, _) := rfl
  rw [hcc] at hcut
  cases hcut
  clear hcc
  have i1 : ¬ (300 : Int) < (n0 : Int) := by omega
  have xn : ((n0 : Int) != (n0 : Int)) = false := by simp
  have hn : n0 ≤ 2000 := by omega
  have hln := hl.len
  have HRE : Hid (Calls Try.prog 19 #[.slice a0 n0 c0, .slice a1 n1 c1] Wt fun e w' => ∃ R, e = .returned (.slice (some ⟨R, 0, none⟩) n0 n0) ∧ ∃ bf M, RowsB w' R n0 n0 bf M ∧ Tells n0 M (fun k j => Rch hs l j k) ∧ Wt.heap.size ≤ R ∧ Below Wt.heap.size Wt w') := reach_any Wt a0 n0 c0 a1 n1 c1 l hs (hl.below hX) (hh.below hX) hg
  have HL := hide hl; have HG := hide hg; have HML := hide hm; have HLN := hide hln
  have HX := hide hX; have HR := hide hR; have HV := hide hV; have HVV := hide hv
  clear hl hh hg hm hX hR hV hv hln h
  go_upto_region 23 with (go_at_call 19; (with_reducible refine Calls.mono (unhide HRE) ?_); rintro e w1 ⟨R, rfl, bf, M, hRB, hM, hle, hb1⟩; have HX1 := hide (Below.next (unhide HX) hb1 (Nat.le_refl _)); have HR1 := hide ((unhide HR).below hb1); have HV1 := hide (keep_below (unhide HV) hb1); have HRB := hide hRB; have HTM := hide hM; clear hRB hM hle hb1)
  refine oc_most w a0 n0 c0 a1 n1 c1 l hs (unhide HL) w1 (unhide HX1) hn _ _ _ _ (by assumption) (by kernel_rfl) ?_
  intro _ _ _ _ _ _ _ _ _ _ _ _ _ _ _ _ _ _ _ _ _ _ _ _ _ _ _ _ _ _ _ _ _ _ _ _ _ _ _ W2 hb2 hb3
  have HX2 := hide hb2; have HR2 := hide ((unhide HR1).below hb3); have HV2 := hide (keep_below (unhide HV1) hb3); have HRB2 := hide ((unhide HRB).below hb3)
  rw [unhide HML]
  clear hb2 hb3 HX HX1 HR HR1 HV HV1 HRB HRE
  obtain ⟨g0, g1, gf0, gf1, gl⟩ := block2 (unhide HV2)
  by_cases hvc : vc = 0
  · subst hvc
    rcases unhide HVV with q | ⟨_, i, k, rfl, rfl, hi, hk, hb⟩
    · exact absurd rfl q
    · have k0 := (unhide HRB2).cell k hk
      have k1 := (unhide HRB2).row k hk i hi
      have e1 : M k i = is := by
        have h1 := unhide HTM k i hk hi
        have h2 := bef_rch (unhide HG).tasks (fun j => ((unhide HG).h j).1) (i := i) (k := k) (by rw [unhide HLN]; exact hk)
        rw [← hb]
        cases q1 : M k i with
        | true => exact (h2.2 (h1.1 q1)).symm
        | false =>
          cases q2 : befL hs l i k with
          | false => rfl
          | true => rw [h1.2 (h2.1 q2)] at q1; cases q1
      rw [e1] at k1
      have j0 : (0 : Int) ≤ (i : Int) := by omega
      have j1 : (i : Int) < (n0 : Int) := by omega
      have j2 : (0 : Int) ≤ (k : Int) := by omega
      have j3 : (k : Int) < (n0 : Int) := by omega
      clear e1 hb hi hk
      cases is
      · skip
        go_upto_region 32 with fail
        clear g0 g1 gf0 gf1 gl
        refine oc_rows w a0 n0 c0 a1 n1 c1 l hs (unhide HL) (unhide HG) W2 (unhide HX2) m (unhide HML) lo G (unhide HR2) R bf M (unhide HRB2) (unhide HTM) _ _ _ _ (by assumption) (by kernel_rfl) ?_
        intro _ _ _ _ _ _ _ _ _ _ _ _ _ _ _ _ _ _ _ _ _ _ _ _ _ _ _ _ _ _ _ _ _ _ _ _ _ _ _ _ _ _ _ _ _ _ _ _ _ _ _ _ _ _ _ _ _ _ _ _ _ _ _ _ _ _ _ _ _ _ _ _ _ _ _ _ _ _ _ _ _ _ _ _ _ _ _ _ _ _ _ _ _ _ _ _ _ _ _ _ _ _ _ _ _ _ _ _ _ _ _ _ _ _ _ _ _ _ _ _ _ _ _ _ _ _ _ _ _ _ _ _ _ _ _ _ _ _ _ _ _ _ _ _ _ _ _ _ _ _ _ _ _ _ _ _ _ _ _ _ _ _ _ _ _ _ _ _ _ _ _ _ _ _ _ _ _ _ _ _ _ _ _ _ _ _ _ _ _ _ _ _ _ _ _ _ _ _ _ _ _ _ _ _ _ _ _ _ _ _ _ _ _ _ _ _ _ _ _ _ _ _ _ _ _ _ _ _ _ _ _ _ _ _ _ _ _ _ _ _ _ W3 hb3
        have HX3 := hide hb3
        clear hb3
        go_wp2_with fail
        go_ret
        exact ⟨rfl, unhide HX3⟩
      · skip
        go_upto_region 32 with fail
        clear g0 g1 gf0 gf1 gl
        refine oc_rows w a0 n0 c0 a1 n1 c1 l hs (unhide HL) (unhide HG) W2 (unhide HX2) m (unhide HML) lo G (unhide HR2) R bf M (unhide HRB2) (unhide HTM) _ _ _ _ (by assumption) (by kernel_rfl) ?_
        intro _ _ _ _ _ _ _ _ _ _ _ _ _ _ _ _ _ _ _ _ _ _ _ _ _ _ _ _ _ _ _ _ _ _ _ _ _ _ _ _ _ _ _ _ _ _ _ _ _ _ _ _ _ _ _ _ _ _ _ _ _ _ _ _ _ _ _ _ _ _ _ _ _ _ _ _ _ _ _ _ _ _ _ _ _ _ _ _ _ _ _ _ _ _ _ _ _ _ _ _ _ _ _ _ _ _ _ _ _ _ _ _ _ _ _ _ _ _ _ _ _ _ _ _ _ _ _ _ _ _ _ _ _ _ _ _ _ _ _ _ _ _ _ _ _ _ _ _ _ _ _ _ _ _ _ _ _ _ _ _ _ _ _ _ _ _ _ _ _ _ _ _ _ _ _ _ _ _ _ _ _ _ _ _ _ _ _ _ _ _ _ _ _ _ _ _ _ _ _ _ _ _ _ _ _ _ _ _ _ _ _ _ _ _ _ _ _ _ _ _ _ _ _ _ _ _ _ _ _ _ _ _ _ _ _ _ _ _ _ _ _ W3 hb3
        have HX3 := hide hb3
        clear hb3
        go_wp2_with fail
        go_ret
        exact ⟨rfl, unhide HX3⟩
  · have xv : (vc == 0) = false := by simpa using hvc
    clear hvc
    · skip
      · skip
        go_upto_region 32 with fail
        clear g0 g1 gf0 gf1 gl
        refine oc_rows w a0 n0 c0 a1 n1 c1 l hs (unhide HL) (unhide HG) W2 (unhide HX2) m (unhide HML) lo G (unhide HR2) R bf M (unhide HRB2) (unhide HTM) _ _ _ _ (by assumption) (by kernel_rfl) ?_
        intro _ _ _ _ _ _ _ _ _ _ _ _ _ _ _ _ _ _ _ _ _ _ _ _ _ _ _ _ _ _ _ _ _ _ _ _ _ _ _ _ _ _ _ _ _ _ _ _ _ _ _ _ _ _ _ _ _ _ _ _ _ _ _ _ _ _ _ _ _ _ _ _ _ _ _ _ _ _ _ _ _ _ _ _ _ _ _ _ _ _ _ _ _ _ _ _ _ _ _ _ _ _ _ _ _ _ _ _ _ _ _ _ _ _ _ _ _ _ _ _ _ _ _ _ _ _ _ _ _ _ _ _ _ _ _ _ _ _ _ _ _ _ _ _ _ _ _ _ _ _ _ _ _ _ _ _ _ _ _ _ _ _ _ _ _ _ _ _ _ _ _ _ _ _ _ _ _ _ _ _ _ _ _ _ _ _ _ _ _ _ _ _ _ _ _ _ _ _ _ _ _ _ _ _ _ _ _ _ _ _ _ _ _ _ _ _ _ _ _ _ _ _ _ _ _ _ _ _ _ _ _ _ _ _ _ _ _ _ _ _ _ W3 hb3
        have HX3 := hide hb3
        clear hb3
        go_wp2_with fail
        go_ret
        exact ⟨rfl, unhide HX3⟩
end Go.Proofs.Ytbnmeeabpjmcoaa
