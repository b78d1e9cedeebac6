/-
  taskmillref.Edges: its loop over pipes; the whole.
-/
import Derived.Test.YtbnmeeabpjmcoaaZi
import Derived.Test.YtbnmeeabpjmcoaaZe
namespace Go.Proofs.Ytbnmeeabpjmcoaa
open Go.RowKit

set_option maxRecDepth 100000 in
set_option maxHeartbeats 4000000 in
theorem edges_pipes (w : World) (a0 : Option Addr) (n0 c0 : Nat) (a1 : Option Addr) (n1 c1 : Nat) (l : List Ev) (hs : List Int) (hl : IsL KE w (.slice a0 n0 c0) l) (hh : IsL KI w (.slice a1 n1 c1) hs) (hg : GoodT hs l) (Wt : World) (G : Nat) (hwG : w.heap.size ≤ G) (hX : Below G w Wt) (T : Nat) (hT : T ≤ 20000000) (hEd : EdSt (G + 1 + 1) Wt (G + 1) G n0 (EA l) T)
    {s2 s3 s7 s8 s9 s10 s11 s12 s13 s14 s15 s16 s17 s18 s19 s20 s21 s22 s23 s24 s25 s26 s27 s28 s29 s30 s31 s32 s33 s34 s35 s36 s37 s38 s39 s40 s41 s42 s43 s44 s45 s46 s47 s48 s49 s50 s51 s52 s53 s54 s55 s56 s57 s58 s59 s60 s61 s62 s63 s64 s65 s66 s67 s68 s69 s70 s71 s72 s73 s74 s75 s76 s77 s78 s79 s80 s81 s82 s83 s84 s85 s86 s87 s88 s89 s90 s91 s92 s93 s94 s95 s96 s97 s98 s99 s100 s101 s102 s103 s104 s105 s106 s107 s108 s109 s110 s111 s112 s113 s114 s115 s116 s117 s118 s119 s120 s121 s122 s123 s124 s125 s126 s127 s128 s129 s130 s131 s132 s133 s134 s135 s136 s137 s138 s139 s140 s141 s142 s143 s144 s145 s146 s147 s148 s149 s150 s151 s152 s153 s154 s155 s156 s157 s158 s159 s160 s161 s162 s163 s164 s165 s166 s167 s168 s169 s170 s171 s172 s173 s174 s175 s176 s177 s178 s179 s180 s181 s182 s183 s184 s185 s186 s187 s188 s189 s190 s191 s192 s193 s194 s195 s196 s197 s198 s199 s200 s201 s202 s203 s204 s205 s206 s207 s208 s209 s210 s211 s212 s213 s214 s215 s216 s217 s218 s219 s220 s221 s222 s223 s224 s225 s226 s227 s228 s229 s230 s231 s232 s233 s234 s235 s236 s237 s238 s239 : Value} (K1 : Act → World → Prop) (Q : Exit → Act → World → Prop) (x y : Code) (hK1 : ∀ a w', y.wp Try.prog Q a w' → K1 a w') (hcut : Try.f36.body.bind (forAt 17) = some (x, y))
    (hfin : ∀ (s2 s3 s7 s8 s9 s10 s11 s12 s13 s14 s15 s16 s17 s18 s19 s20 s21 s22 s23 s24 s25 s26 s27 s28 s29 s30 s31 s32 s33 s34 s35 s36 s37 s38 s39 s40 s41 s42 s43 s44 s45 s46 s47 s48 s49 s50 s51 s52 s53 s54 s55 s56 s57 s58 s59 s60 s61 s62 s63 s64 s65 s66 s67 s68 s69 s70 s71 s72 s73 s74 s75 s76 s77 s78 s79 s80 s81 s82 s83 s84 s85 s86 s87 s88 s89 s90 s91 s92 s93 s94 s95 s96 s97 s98 s99 s100 s101 s102 s103 s104 s105 s106 s107 s108 s109 s110 s111 s112 s113 s114 s115 s116 s117 s118 s119 s120 s121 s122 s123 s124 s125 s126 s127 s128 s129 s130 s131 s132 s133 s134 s135 s136 s137 s138 s139 s140 s141 s142 s143 s144 s145 s146 s147 s148 s149 s150 s151 s152 s153 s154 s155 s156 s157 s158 s159 s160 s161 s162 s163 s164 s165 s166 s167 s168 s169 s170 s171 s172 s173 s174 s175 s176 s177 s178 s179 s180 s181 s182 s183 s184 s185 s186 s187 s188 s189 s190 s191 s192 s193 s194 s195 s196 s197 s198 s199 s200 s201 s202 s203 s204 s205 s206 s207 s208 s209 s210 s211 s212 s213 s214 s215 s216 s217 s218 s219 s220 s221 s222 s223 s224 s225 s226 s227 s228 s229 s230 s231 s232 s233 s234 s235 s236 s237 s238 s239 : Value) (W : World) (T2 : Nat), EdSt (G + 1 + 1) W (G + 1) G n0 (Edge hs l) T2 → T2 ≤ 20200000 → Below G w W → Q .normal { tmps := (.slice a0 n0 c0 :: .slice a1 n1 c1 :: s2 :: s3 :: .slice none 0 0 :: .pointer (some ⟨G + 1, 0, none⟩) :: .func (.func 45) #[] #[.pointer (some ⟨G + 1, 0, none⟩)] :: s7 :: s8 :: s9 :: s10 :: s11 :: s12 :: s13 :: s14 :: s15 :: s16 :: s17 :: s18 :: s19 :: s20 :: s21 :: s22 :: s23 :: s24 :: s25 :: s26 :: s27 :: s28 :: s29 :: s30 :: s31 :: s32 :: s33 :: s34 :: s35 :: s36 :: s37 :: s38 :: s39 :: s40 :: s41 :: s42 :: s43 :: s44 :: s45 :: s46 :: s47 :: s48 :: s49 :: s50 :: s51 :: s52 :: s53 :: s54 :: s55 :: s56 :: s57 :: s58 :: s59 :: s60 :: s61 :: s62 :: s63 :: s64 :: s65 :: s66 :: s67 :: s68 :: s69 :: s70 :: s71 :: s72 :: s73 :: s74 :: s75 :: s76 :: s77 :: s78 :: s79 :: s80 :: s81 :: s82 :: s83 :: s84 :: s85 :: s86 :: s87 :: s88 :: s89 :: s90 :: s91 :: s92 :: s93 :: s94 :: s95 :: s96 :: s97 :: s98 :: s99 :: s100 :: s101 :: s102 :: s103 :: s104 :: s105 :: s106 :: s107 :: s108 :: s109 :: s110 :: s111 :: s112 :: s113 :: s114 :: s115 :: s116 :: s117 :: s118 :: s119 :: s120 :: s121 :: s122 :: s123 :: s124 :: s125 :: s126 :: s127 :: s128 :: s129 :: s130 :: s131 :: s132 :: s133 :: s134 :: s135 :: s136 :: s137 :: s138 :: s139 :: s140 :: s141 :: s142 :: s143 :: s144 :: s145 :: s146 :: s147 :: s148 :: s149 :: s150 :: s151 :: s152 :: s153 :: s154 :: s155 :: s156 :: s157 :: s158 :: s159 :: s160 :: s161 :: s162 :: s163 :: s164 :: s165 :: s166 :: s167 :: s168 :: s169 :: s170 :: s171 :: s172 :: s173 :: s174 :: s175 :: s176 :: s177 :: s178 :: s179 :: s180 :: s181 :: s182 :: s183 :: s184 :: s185 :: s186 :: s187 :: s188 :: s189 :: s190 :: s191 :: s192 :: s193 :: s194 :: s195 :: s196 :: s197 :: s198 :: s199 :: s200 :: s201 :: s202 :: s203 :: s204 :: s205 :: s206 :: s207 :: s208 :: s209 :: s210 :: s211 :: s212 :: s213 :: s214 :: s215 :: s216 :: s217 :: s218 :: s219 :: s220 :: s221 :: s222 :: s223 :: s224 :: s225 :: s226 :: s227 :: s228 :: s229 :: s230 :: s231 :: s232 :: s233 :: s234 :: s235 :: s236 :: s237 :: s238 :: s239 :: []).toArray, defers := [] } W) :
    x.wp Try.prog (Exit.then K1 Q) { tmps := (.slice a0 n0 c0 :: .slice a1 n1 c1 :: s2 :: s3 :: .slice none 0 0 :: .pointer (some ⟨G + 1, 0, none⟩) :: .func (.func 45) #[] #[.pointer (some ⟨G + 1, 0, none⟩)] :: s7 :: s8 :: s9 :: s10 :: s11 :: s12 :: s13 :: s14 :: s15 :: s16 :: s17 :: s18 :: s19 :: s20 :: s21 :: s22 :: s23 :: s24 :: s25 :: s26 :: s27 :: s28 :: s29 :: s30 :: s31 :: s32 :: s33 :: s34 :: s35 :: s36 :: s37 :: s38 :: s39 :: s40 :: s41 :: s42 :: s43 :: s44 :: s45 :: s46 :: s47 :: s48 :: s49 :: s50 :: s51 :: s52 :: s53 :: s54 :: s55 :: s56 :: s57 :: s58 :: s59 :: s60 :: s61 :: s62 :: s63 :: s64 :: s65 :: s66 :: s67 :: s68 :: s69 :: s70 :: s71 :: s72 :: s73 :: s74 :: s75 :: s76 :: s77 :: s78 :: s79 :: s80 :: s81 :: s82 :: s83 :: s84 :: s85 :: s86 :: s87 :: s88 :: s89 :: s90 :: s91 :: s92 :: s93 :: s94 :: s95 :: s96 :: s97 :: s98 :: s99 :: s100 :: s101 :: s102 :: s103 :: s104 :: s105 :: s106 :: s107 :: s108 :: s109 :: s110 :: s111 :: s112 :: s113 :: s114 :: s115 :: s116 :: s117 :: s118 :: s119 :: s120 :: s121 :: s122 :: s123 :: s124 :: s125 :: s126 :: s127 :: s128 :: s129 :: s130 :: s131 :: s132 :: s133 :: s134 :: s135 :: s136 :: s137 :: s138 :: s139 :: s140 :: s141 :: s142 :: s143 :: s144 :: s145 :: s146 :: s147 :: s148 :: s149 :: s150 :: s151 :: s152 :: s153 :: s154 :: s155 :: s156 :: s157 :: s158 :: s159 :: s160 :: s161 :: s162 :: s163 :: s164 :: s165 :: s166 :: s167 :: s168 :: s169 :: s170 :: s171 :: s172 :: s173 :: s174 :: s175 :: s176 :: s177 :: s178 :: s179 :: s180 :: s181 :: s182 :: s183 :: s184 :: s185 :: s186 :: s187 :: s188 :: s189 :: s190 :: s191 :: s192 :: s193 :: s194 :: s195 :: s196 :: s197 :: s198 :: s199 :: s200 :: s201 :: s202 :: s203 :: s204 :: s205 :: s206 :: s207 :: s208 :: s209 :: s210 :: s211 :: s212 :: s213 :: s214 :: s215 :: s216 :: s217 :: s218 :: s219 :: s220 :: s221 :: s222 :: s223 :: s224 :: s225 :: s226 :: s227 :: s228 :: s229 :: s230 :: s231 :: s232 :: s233 :: s234 :: s235 :: s236 :: s237 :: s238 :: s239 :: []).toArray, defers := [] } Wt := by
  have hcc : Try.f36.body.bind (forAt 17) = some (_, _) := rfl
  rw [hcc] at hcut
  cases hcut
  clear hcc
  have hln := hl.len
  have hhn := hh.len
  have hn : n0 ≤ 2000 := by rw [← hln]; exact hg.n
  have hn1 : n1 ≤ 20 := by rw [← hhn]; exact hg.m
  have HL := hide hl; have HH := hide hh; have HG := hide hg
  have HLN := hide hln
  have HHN := hide hhn
  have HX := hide hX
  have HED : Hid (EdSt (G + 1 + 1) Wt (G + 1) G n0 (SQ hs l 0) T) := hEd.congr (Nat.le_refl _) (fun a b _ _ => sq_zero a b)
  have HFIN := hide hfin
  clear hl hh hX hEd hln hhn hfin hg
  go_wp2_with fail
  go_loopw [9] (fun s9 wr => ∃ (p T2 : Nat), p ≤ n1 ∧ s9 = .int .i64 (p : Int) ∧ T2 ≤ T + 6000 * p ∧ Hid (EdSt (G + 1 + 1) wr (G + 1) G n0 (SQ hs l p) T2) ∧ Hid (Below G w wr)) (fun s _ => n1 - (intOf s).toNat)
  case atStart => exact ⟨0, T, Nat.zero_le _, rfl, Nat.le_refl _, HED, HX⟩
  case round =>
    obtain ⟨p, T2, hp, rfl, hT2, HEi, HBi⟩ := hrel
    clear HED HX
    by_cases hlt : p < n1
    · have i0 : (0 : Int) ≤ (p : Int) := by omega
      have i1 : (p : Int) < (n1 : Int) := by omega
      have hw1 : IntKind.i64.wrap ((p : Int) + 1) = (p : Int) + 1 := wrapi (by omega) (by omega)
      go_upto_region 22 with fail
      refine edges_pl1 w a0 n0 c0 a1 n1 c1 l hs (unhide HL) (unhide HG) wr G hwG (unhide HBi) p (SQ hs l p) T2 (by omega) (unhide HEi).tl _ _ _ _ (by assumption) (by kernel_rfl) ?_
      intro _ _ _ _ _ _ _ _ _ _ _ _ _ _ _ _ _ _ _ _ _ _ _ _ _ _ _ _ _ _ _ _ _ _ _ _ _ _ _ _ _ _ _ _ _ a10 m10 k10 a11 m11 k11 z W3 T3 hT3 hm10 hm11 hTl3 hB3
      have HM10 := hide hm10; have HM11 := hide hm11; have HT3 := hide hTl3; have HB3 := hide hB3
      clear hm10 hm11 hTl3 hB3
      go_upto_region 36 with fail
      refine edges_pl2 w a0 n0 c0 a1 n1 c1 l hs (unhide HL) (unhide HH) (unhide HG) W3 G hwG (unhide HB3) p hlt (SQ hs l p) T3 (by omega) a10 m10 k10 a11 m11 k11 (unhide HM10) (unhide HM11) (unhide HT3) _ _ _ _ (by assumption) (by kernel_rfl) ?_
      intro _ _ _ _ _ _ _ _ _ _ _ _ _ _ _ _ _ _ _ _ _ _ _ _ _ _ _ _ _ _ _ _ _ _ _ _ _ _ _ _ _ _ _ _ _ _ _ _ _ _ _ _ _ _ _ _ _ _ _ _ _ _ _ _ _ _ W4 T4 hT4 hE4 hB4
      have HE4 := hide hE4; have HB4 := hide hB4
      clear hE4 hB4
      go_wp2_with fail
      go_roundw
      case rel => exact ⟨p + 1, T4, by omega, by go_num, by omega, hide ((unhide HE4).congr (Nat.le_refl _) (fun a b _ _ => sq_succ a b)), HB4⟩
      case measure => simp [intOf]; omega
    · obtain rfl : p = n1 := by omega
      have i1 : ¬ (p : Int) < (p : Int) := by omega
      go_wp2_with fail
      refine unhide HFIN _ _ _ _ _ _ _ _ _ _ _ _ _ _ _ _ _ _ _ _ _ _ _ _ _ _ _ _ _ _ _ _ _ _ _ _ _ _ _ _ _ _ _ _ _ _ _ _ _ _ _ _ _ _ _ _ _ _ _ _ _ _ _ _ _ _ _ _ _ _ _ _ _ _ _ _ _ _ _ _ _ _ _ _ _ _ _ _ _ _ _ _ _ _ _ _ _ _ _ _ _ _ _ _ _ _ _ _ _ _ _ _ _ _ _ _ _ _ _ _ _ _ _ _ _ _ _ _ _ _ _ _ _ _ _ _ _ _ _ _ _ _ _ _ _ _ _ _ _ _ _ _ _ _ _ _ _ _ _ _ _ _ _ _ _ _ _ _ _ _ _ _ _ _ _ _ _ _ _ _ _ _ _ _ _ _ _ _ _ _ _ _ _ _ _ _ _ _ _ _ _ _ _ _ _ _ _ _ _ _ _ _ _ _ _ _ _ _ _ _ _ _ _ _ _ _ _ _ _ _ _ _ _ _ _ wr T2 ((unhide HEi).congr (Nat.le_refl _) (fun a b hab hb => ?_)) (by omega) (unhide HBi)
      have hbl : b < l.length := by rw [unhide HLN]; exact hb
      have e := edge_all (hs := hs) (l := l) (fun i => ((unhide HG).h i).1) (fun i hi h => by
        obtain ⟨q1, q2⟩ := ((unhide HG).ev hi).pipe h
        exact ⟨(l.getD i ev0).obj.toNat, by omega, by omega⟩) hab hbl
      rw [e, unhide HHN]
      exact Iff.rfl

set_option maxRecDepth 100000 in
set_option maxHeartbeats 4000000 in
theorem edges_any (w : World) (a0 : Option Addr) (n0 c0 : Nat) (a1 : Option Addr) (n1 c1 : Nat) (l : List Ev) (hs : List Int) (hl : IsL KE w (.slice a0 n0 c0) l) (hh : IsL KI w (.slice a1 n1 c1) hs) (hg : GoodT hs l) :
    Calls Try.prog 36 #[.slice a0 n0 c0, .slice a1 n1 c1] w fun e w' => ∃ vf L, e = .returned (.slice (some ⟨w.heap.size, 0, none⟩) n0 n0) ∧ RowsE (w.heap.size + 1 + 1) w' w.heap.size n0 vf L ∧ Ed n0 (Edge hs l) L 20200000 ∧ Below w.heap.size w w' := by
  have hln := hl.len
  have hn : n0 ≤ 2000 := by rw [← hln]; exact hg.n
  obtain ⟨A, hA, hmk⟩ := make_rows3 n0 hn
  have HL := hide hl; have HH := hide hh; have HG := hide hg
  obtain ⟨W3, e3⟩ : ∃ X, (w.alloc (.cells A 23)).alloc (.cells #[.slice (some ⟨w.heap.size, 0, none⟩) n0 n0] 30) = X := ⟨_, rfl⟩
  have hs1 : (w.alloc (.cells A 23)).heap.size = w.heap.size + 1 := by simp
  have hB3 : Below w.heap.size w W3 := by
    rw [← e3]
    exact ((Below.refl w.heap.size w).alloc (Nat.le_refl _) _).alloc (by rw [hs1]; omega) _
  have hG3 : W3.heap[w.heap.size]? = some (.cells A 23 (0, 0)) := by
    rw [← e3]
    exact keep_alloc (new_block w _) _
  have hE3 : W3.heap[w.heap.size + 1]? = some (.cells #[.slice (some ⟨w.heap.size, 0, none⟩) n0 n0] 30 (0, 0)) := by
    rw [← e3]
    have h2 := new_block (w.alloc (.cells A 23)) (.cells #[.slice (some ⟨w.heap.size, 0, none⟩) n0 n0] 30)
    rw [hs1] at h2
    exact h2
  have HED : Hid (EdSt (w.heap.size + 1 + 1) W3 (w.heap.size + 1) w.heap.size n0 (SI l 0) 0) := edges_begin w W3 w.heap.size n0 A hA hG3 hE3 _ (fun a b h => Nat.not_lt_zero _ h.1)
  have HB3 := hide hB3
  have HE3 := hide e3
  clear hl hh hg hln hs1 hB3 hG3 hE3 e3 hA
  go_enter Try.func36, Try.ntmps36
  go_upto_region 3 with fail
  rw [unhide HE3]
  refine edges_events w a0 n0 c0 a1 n1 c1 l hs (unhide HL) (unhide HH) (unhide HG) W3 w.heap.size (Nat.le_refl _) (unhide HB3) (unhide HED) _ _ _ _ _ _ (by assumption) rfl ?_
  intro _ _ _ _ _ _ _ _ _ _ _ _ _ _ _ _ _ _ _ _ _ _ _ _ _ _ _ _ _ _ _ _ _ _ _ _ _ _ _ _ _ _ _ _ _ _ _ _ _ _ _ _ _ _ _ _ _ _ _ _ _ _ _ _ _ _ _ _ _ _ _ _ _ _ _ _ _ _ _ _ _ _ _ _ _ _ _ _ _ _ _ _ _ _ _ _ _ _ _ _ _ _ _ _ _ _ _ _ _ _ _ _ _ _ _ _ _ _ _ _ _ _ _ _ _ _ _ _ _ _ _ _ _ _ _ _ _ _ _ _ _ _ _ _ _ _ _ _ _ _ _ _ _ _ _ _ _ _ _ _ _ _ _ _ _ _ _ _ _ _ _ _ _ _ _ _ _ _ _ _ _ _ _ _ _ _ _ _ _ _ _ _ _ _ _ _ _ _ _ _ _ _ _ _ _ _ _ _ _ _ _ _ _ _ _ _ _ _ _ _ _ _ _ _ _ _ _ _ _ _ _ _ _ _ _ W4 T4 hT4 hB4 hE4
  have HB4 := hide hB4; have HE4 := hide hE4
  clear hB4 hE4 HED HB3 HE3
  go_upto_region 17 with fail
  refine edges_pipes w a0 n0 c0 a1 n1 c1 l hs (unhide HL) (unhide HH) (unhide HG) W4 w.heap.size (Nat.le_refl _) (unhide HB4) T4 hT4 (unhide HE4) _ _ _ _ (by assumption) (by kernel_rfl) ?_
  intro _ _ _ _ _ _ _ _ _ _ _ _ _ _ _ _ _ _ _ _ _ _ _ _ _ _ _ _ _ _ _ _ _ _ _ _ _ _ _ _ _ _ _ _ _ _ _ _ _ _ _ _ _ _ _ _ _ _ _ _ _ _ _ _ _ _ _ _ _ _ _ _ _ _ _ _ _ _ _ _ _ _ _ _ _ _ _ _ _ _ _ _ _ _ _ _ _ _ _ _ _ _ _ _ _ _ _ _ _ _ _ _ _ _ _ _ _ _ _ _ _ _ _ _ _ _ _ _ _ _ _ _ _ _ _ _ _ _ _ _ _ _ _ _ _ _ _ _ _ _ _ _ _ _ _ _ _ _ _ _ _ _ _ _ _ _ _ _ _ _ _ _ _ _ _ _ _ _ _ _ _ _ _ _ _ _ _ _ _ _ _ _ _ _ _ _ _ _ _ _ _ _ _ _ _ _ _ _ _ _ _ _ _ _ _ _ _ _ _ _ _ _ _ _ _ _ _ _ _ _ _ _ _ _ _ W5 T5 hE5 hT5 hB5
  obtain ⟨vf, L, hEA, hEd⟩ := hE5
  have c0 := (block1 hEA.var).1
  have HEA := hide hEA; have HEd := hide (hEd.congr (T' := 20200000) hT5 (fun _ _ _ _ => Iff.rfl)); have HB5 := hide hB5
  clear hEA hEd hB5 HB4 HE4
  go_wp2_with fail
  go_ret
  exact ⟨vf, L, rfl, (unhide HEA).rows, unhide HEd, unhide HB5⟩
end Go.Proofs.Ytbnmeeabpjmcoaa
