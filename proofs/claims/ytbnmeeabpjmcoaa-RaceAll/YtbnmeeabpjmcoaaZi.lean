/-
  taskmillref.Edges: a pipe's loop over its numbered gets.
-/
import Derived.Test.YtbnmeeabpjmcoaaZh
namespace Go.Proofs.Ytbnmeeabpjmcoaa
open Go.RowKit

theorem own_ix {lo : Nat} {w : World} {b o m c : Nat} {L : List Nat} {k s : Nat} (h : Own KI lo w (.slice (some ⟨b, o, none⟩) m c) (ixL L)) (hm : L.length = m) (hk : L[k]? = some s) : w.cell? ⟨b, o + k, none⟩ = some (.int .i64 (s : Int)) := by
  have hkl := (List.getElem?_eq_some_iff.1 hk).1
  obtain ⟨b', o', e, hb, hli⟩ := h.isl.opens ki (by rw [ixL_len]; exact hm) (by omega)
  cases e
  have := hli.ints (j := k) (by rw [ixL_len]; exact hkl)
  rwa [ixL_get hk] at this
theorem own_open {lo : Nat} {w : World} {a : Option Addr} {m c : Nat} {L : List Nat} (h : Own KI lo w (.slice a m c) (ixL L)) (hm : L.length = m) (h0 : 0 < m) : ∃ b o, a = some ⟨b, o, none⟩ := by
  obtain ⟨b', o', e, _, _⟩ := h.isl.opens ki (by rw [ixL_len]; exact hm) h0
  exact ⟨b', o', e⟩

set_option maxRecDepth 100000 in
set_option maxHeartbeats 4000000 in
theorem edges_pl2 (w : World) (a0 : Option Addr) (n0 c0 : Nat) (a1 : Option Addr) (n1 c1 : Nat) (l : List Ev) (hs : List Int) (hl : IsL KE w (.slice a0 n0 c0) l) (hh : IsL KI w (.slice a1 n1 c1) hs) (hg : GoodT hs l) (Wt : World) (G : Nat) (hwG : w.heap.size ≤ G) (hX : Below G w Wt) (p : Nat) (hp : p < n1) (S : Nat → Nat → Prop) (T : Nat) (hT : T ≤ 90000000) (a10 : Option Addr) (m10 k10 : Nat) (a11 : Option Addr) (m11 k11 : Nat) (hm10 : (pix l (p : Int) n0).sends.length = m10) (hm11 : (pix l (p : Int) n0).gets.length = m11) (hTl : Tl (G + 1 + 1) Wt (G + 1) G n0 (SP S l (p : Int) n0) T (.slice a10 m10 k10) (ixL (pix l (p : Int) n0).sends) (.slice a11 m11 k11) (ixL (pix l (p : Int) n0).gets))
    {s2 s3 s7 s8 s12 s13 s14 s15 s16 s17 s18 s19 s20 s21 s22 s23 s24 s25 s26 s27 s28 s29 s30 s31 s32 s33 s34 s35 s36 s37 s38 s39 s40 s41 s42 s43 s44 s45 s46 s47 s48 s49 s50 s51 s52 s53 s54 s55 s56 s57 s58 s59 s60 s61 s62 s63 s64 s65 s66 s67 s68 s69 s70 s71 s72 s73 s74 s75 s76 s77 s78 s79 s80 s81 s82 s83 s84 s85 s86 s87 s88 s89 s90 s91 s92 s93 s94 s95 s96 s97 s98 s99 s100 s101 s102 s103 s104 s105 s106 s107 s108 s109 s110 s111 s112 s113 s114 s115 s116 s117 s118 s119 s120 s121 s122 s123 s124 s125 s126 s127 s128 s129 s130 s131 s132 s133 s134 s135 s136 s137 s138 s139 s140 s141 s142 s143 s144 s145 s146 s147 s148 s149 s150 s151 s152 s153 s154 s155 s156 s157 s158 s159 s160 s161 s162 s163 s164 s165 s166 s167 s168 s169 s170 s171 s172 s173 s174 s175 s176 s177 s178 s179 s180 s181 s182 s183 s184 s185 s186 s187 s188 s189 s190 s191 s192 s193 s194 s195 s196 s197 s198 s199 s200 s201 s202 s203 s204 s205 s206 s207 s208 s209 s210 s211 s212 s213 s214 s215 s216 s217 s218 s219 s220 s221 s222 s223 s224 s225 s226 s227 s228 s229 s230 s231 s232 s233 s234 s235 s236 s237 s238 s239 : Value} (K1 : Act → World → Prop) (Q : Exit → Act → World → Prop) (x y : Code) (hK1 : ∀ a w', y.wp Try.prog Q a w' → K1 a w') (hcut : Try.f36.body.bind (forAt 36) = some (x, y))
    (hfin : ∀ (s14 s174 s175 s176 s177 s178 s179 s180 s181 s182 s183 s184 s185 s186 s187 s188 s189 s190 s191 s192 s193 s194 s195 s196 s197 s198 s199 s200 s201 s202 s203 s204 s205 s206 s207 s208 s209 s210 s211 s212 s213 s214 s215 s216 s217 s218 s219 s220 s221 s222 s223 s224 s225 s226 s227 s228 s229 s230 s231 s232 s233 s234 s235 s236 s237 s238 : Value) (W : World) (T2 : Nat), T2 ≤ T + 2 * n0 → EdSt (G + 1 + 1) W (G + 1) G n0 (fun a b => S a b ∨ EP hs l (p : Int) a b) T2 → Below G w W → Q .normal { tmps := (.slice a0 n0 c0 :: .slice a1 n1 c1 :: s2 :: s3 :: .slice none 0 0 :: .pointer (some ⟨G + 1, 0, none⟩) :: .func (.func 45) #[] #[.pointer (some ⟨G + 1, 0, none⟩)] :: s7 :: s8 :: .int .i64 (p : Int) :: .slice a10 m10 k10 :: .slice a11 m11 k11 :: s12 :: s13 :: s14 :: s15 :: s16 :: s17 :: s18 :: s19 :: s20 :: s21 :: s22 :: s23 :: s24 :: s25 :: s26 :: s27 :: s28 :: s29 :: s30 :: s31 :: s32 :: s33 :: s34 :: s35 :: s36 :: s37 :: s38 :: s39 :: s40 :: s41 :: s42 :: s43 :: s44 :: s45 :: s46 :: s47 :: s48 :: s49 :: s50 :: s51 :: s52 :: s53 :: s54 :: s55 :: s56 :: s57 :: s58 :: s59 :: s60 :: s61 :: s62 :: s63 :: s64 :: s65 :: s66 :: s67 :: s68 :: s69 :: s70 :: s71 :: s72 :: s73 :: s74 :: s75 :: s76 :: s77 :: s78 :: s79 :: s80 :: s81 :: s82 :: s83 :: s84 :: s85 :: s86 :: s87 :: s88 :: s89 :: s90 :: s91 :: s92 :: s93 :: s94 :: s95 :: s96 :: s97 :: s98 :: s99 :: s100 :: s101 :: s102 :: s103 :: s104 :: s105 :: s106 :: s107 :: s108 :: s109 :: s110 :: s111 :: s112 :: s113 :: s114 :: s115 :: s116 :: s117 :: s118 :: s119 :: s120 :: s121 :: s122 :: s123 :: s124 :: s125 :: s126 :: s127 :: s128 :: s129 :: s130 :: s131 :: s132 :: s133 :: s134 :: s135 :: s136 :: s137 :: s138 :: s139 :: s140 :: s141 :: s142 :: s143 :: s144 :: s145 :: s146 :: s147 :: s148 :: s149 :: s150 :: s151 :: s152 :: s153 :: s154 :: s155 :: s156 :: s157 :: s158 :: s159 :: s160 :: s161 :: s162 :: s163 :: s164 :: s165 :: s166 :: s167 :: s168 :: s169 :: s170 :: s171 :: s172 :: s173 :: s174 :: s175 :: s176 :: s177 :: s178 :: s179 :: s180 :: s181 :: s182 :: s183 :: s184 :: s185 :: s186 :: s187 :: s188 :: s189 :: s190 :: s191 :: s192 :: s193 :: s194 :: s195 :: s196 :: s197 :: s198 :: s199 :: s200 :: s201 :: s202 :: s203 :: s204 :: s205 :: s206 :: s207 :: s208 :: s209 :: s210 :: s211 :: s212 :: s213 :: s214 :: s215 :: s216 :: s217 :: s218 :: s219 :: s220 :: s221 :: s222 :: s223 :: s224 :: s225 :: s226 :: s227 :: s228 :: s229 :: s230 :: s231 :: s232 :: s233 :: s234 :: s235 :: s236 :: s237 :: s238 :: s239 :: []).toArray, defers := [] } W) :
    x.wp Try.prog (Exit.then K1 Q) { tmps := (.slice a0 n0 c0 :: .slice a1 n1 c1 :: s2 :: s3 :: .slice none 0 0 :: .pointer (some ⟨G + 1, 0, none⟩) :: .func (.func 45) #[] #[.pointer (some ⟨G + 1, 0, none⟩)] :: s7 :: s8 :: .int .i64 (p : Int) :: .slice a10 m10 k10 :: .slice a11 m11 k11 :: s12 :: s13 :: s14 :: s15 :: s16 :: s17 :: s18 :: s19 :: s20 :: s21 :: s22 :: s23 :: s24 :: s25 :: s26 :: s27 :: s28 :: s29 :: s30 :: s31 :: s32 :: s33 :: s34 :: s35 :: s36 :: s37 :: s38 :: s39 :: s40 :: s41 :: s42 :: s43 :: s44 :: s45 :: s46 :: s47 :: s48 :: s49 :: s50 :: s51 :: s52 :: s53 :: s54 :: s55 :: s56 :: s57 :: s58 :: s59 :: s60 :: s61 :: s62 :: s63 :: s64 :: s65 :: s66 :: s67 :: s68 :: s69 :: s70 :: s71 :: s72 :: s73 :: s74 :: s75 :: s76 :: s77 :: s78 :: s79 :: s80 :: s81 :: s82 :: s83 :: s84 :: s85 :: s86 :: s87 :: s88 :: s89 :: s90 :: s91 :: s92 :: s93 :: s94 :: s95 :: s96 :: s97 :: s98 :: s99 :: s100 :: s101 :: s102 :: s103 :: s104 :: s105 :: s106 :: s107 :: s108 :: s109 :: s110 :: s111 :: s112 :: s113 :: s114 :: s115 :: s116 :: s117 :: s118 :: s119 :: s120 :: s121 :: s122 :: s123 :: s124 :: s125 :: s126 :: s127 :: s128 :: s129 :: s130 :: s131 :: s132 :: s133 :: s134 :: s135 :: s136 :: s137 :: s138 :: s139 :: s140 :: s141 :: s142 :: s143 :: s144 :: s145 :: s146 :: s147 :: s148 :: s149 :: s150 :: s151 :: s152 :: s153 :: s154 :: s155 :: s156 :: s157 :: s158 :: s159 :: s160 :: s161 :: s162 :: s163 :: s164 :: s165 :: s166 :: s167 :: s168 :: s169 :: s170 :: s171 :: s172 :: s173 :: s174 :: s175 :: s176 :: s177 :: s178 :: s179 :: s180 :: s181 :: s182 :: s183 :: s184 :: s185 :: s186 :: s187 :: s188 :: s189 :: s190 :: s191 :: s192 :: s193 :: s194 :: s195 :: s196 :: s197 :: s198 :: s199 :: s200 :: s201 :: s202 :: s203 :: s204 :: s205 :: s206 :: s207 :: s208 :: s209 :: s210 :: s211 :: s212 :: s213 :: s214 :: s215 :: s216 :: s217 :: s218 :: s219 :: s220 :: s221 :: s222 :: s223 :: s224 :: s225 :: s226 :: s227 :: s228 :: s229 :: s230 :: s231 :: s232 :: s233 :: s234 :: s235 :: s236 :: s237 :: s238 :: s239 :: []).toArray, defers := [] } Wt := by
  have hcc : Try.f36.body.bind (forAt 36) = some (_, _) := rfl
  rw [hcc] at hcut
  cases hcut
  clear hcc
  have hln := hl.len
  have hhn := hh.len
  have hn : n0 ≤ 2000 := by rw [← hln]; exact hg.n
  have hle : m11 ≤ n0 := by rw [← hm11]; exact Nat.le_trans (pix_len l _ n0) (pix_len_i l _ n0)
  have hl10 : m10 ≤ n0 := by rw [← hm10]; exact pix_len_i l _ n0
  have HLE : Hid (m11 ≤ m10) := by show _ ≤ _; rw [← hm10, ← hm11]; exact pix_len l _ n0
  have HTR := hide (hl.opens ke hln)
  have HHR := hide (hh.opens ki hhn)
  have HLN := hide hln
  have HHN := hide hhn
  have HX := hide hX
  have HTL : Hid (Tl (G + 1 + 1) Wt (G + 1) G n0 (SG S hs l (p : Int) 0) T (.slice a10 m10 k10) (ixL (pix l (p : Int) n0).sends) (.slice a11 m11 k11) (ixL (pix l (p : Int) n0).gets)) := hTl.congr (Nat.le_refl _) (fun a b _ _ => by rw [← hln]; exact sg_zero a b)
  have HFIN := hide hfin
  have HGT := hide hg
  have HM10 := hide hm10; have HM11 := hide hm11
  clear hl hh hX hTl hln hhn hfin hg hm10 hm11
  obtain ⟨h, eh⟩ : ∃ X, hs.getD p 0 = X := ⟨_, rfl⟩
  have hho : 0 ≤ h ∧ h ≤ 100 := by rw [← eh]; exact (unhide HGT).h p
  have HEH : Hid (hs.getD (p : Int).toNat 0 = h) := by show _ = _; rw [Int.toNat_natCast]; exact eh
  obtain ⟨hb, hof, rfl, hhb, hhl⟩ := unhide HHR (by omega)
  have HHC : Hid (∀ W, Below G w W → W.cell? ⟨hb, hof + p, none⟩ = some (.int .i64 h)) := fun W hW => by
    have := ((hhl.below (hW.mono (Nat.le_refl _)) (Nat.lt_of_lt_of_le hhb hwG))).ints (j := p) (by rw [unhide HHN]; exact hp)
    rwa [eh] at this
  have i4 : (0 : Int) ≤ (p : Int) := by omega
  have i5 : (p : Int) < (n1 : Int) := by omega
  clear hhl eh
  go_wp2_with fail
  go_loopw [14] (fun s14 wr => ∃ (k T2 : Nat), k ≤ m11 ∧ s14 = .int .i64 (k : Int) ∧ T2 ≤ T + 2 * k ∧ Hid (Tl (G + 1 + 1) wr (G + 1) G n0 (SG S hs l (p : Int) k) T2 (.slice a10 m10 k10) (ixL (pix l (p : Int) n0).sends) (.slice a11 m11 k11) (ixL (pix l (p : Int) n0).gets)) ∧ Hid (Below G w wr)) (fun s _ => m11 - (intOf s).toNat)
  case atStart => exact ⟨0, T, Nat.zero_le _, rfl, Nat.le_refl _, HTL, HX⟩
  case round =>
    obtain ⟨k, T2, hk, rfl, hT2, HTi, HBi⟩ := hrel
    clear HTL HX
    by_cases hlt : k < m11
    · have i0 : (0 : Int) ≤ (k : Int) := by omega
      have i1 : (k : Int) < (m11 : Int) := by omega
      have i2 : (k : Int) < (m10 : Int) := by have := unhide HLE; omega
      have hw1 : IntKind.i64.wrap ((k : Int) + 1) = (k : Int) + 1 := wrapi (by omega) (by omega)
      obtain ⟨g, hgk⟩ : ∃ g, (pix l (p : Int) n0).gets[k]? = some g := ⟨_, List.getElem?_eq_getElem (by rw [unhide HM11]; exact hlt)⟩
      obtain ⟨s, hsk⟩ : ∃ s, (pix l (p : Int) n0).sends[k]? = some s := ⟨_, List.getElem?_eq_getElem (by rw [unhide HM10]; have := unhide HLE; omega)⟩
      obtain ⟨sb, so, rfl⟩ := own_open (unhide HTi).sends (unhide HM10) (by have := unhide HLE; omega)
      obtain ⟨gb, go, rfl⟩ := own_open (unhide HTi).gets (unhide HM11) (by omega)
      have hsn : s < n0 := (pix_send hsk).1
      obtain ⟨ts, ets⟩ : ∃ X, (l.getD s ev0).task = X := ⟨_, rfl⟩
      have hgn : g < n0 := (pix_get hgk).1
      obtain ⟨tb, tof, rfl, htb, hli⟩ := unhide HTR (by omega)
      have hat : ∀ W, Below G w W → Lies KE W tb tof l ∧ tb < W.heap.size := fun W hW => ⟨hli.below (hW.mono (Nat.le_refl _)) (Nat.lt_of_lt_of_le htb hwG), Nat.lt_of_lt_of_le htb hW.size⟩
      have HAT := hide hat
      have HNX : Hid (∀ (t : Int) (i : Nat) W, i < n0 → Below G w W → Calls Try.prog 46 #[.slice (some ⟨tb, tof, none⟩) n0 c0, .int .i64 t, .int .i64 (i : Int)] W fun e w' => ∃ r, e = .returned (.int .i64 r) ∧ NextR l t i r ∧ Below W.heap.size W w') := fun t i W hi hW => nextOf_any W tb tof n0 c0 l (hat W hW).1 (hat W hW).2 (unhide HLN) hn t i hi
      have HCC : Hid (∀ W S' T', Tl (G + 1 + 1) W (G + 1) G n0 S' T' (.slice (some ⟨sb, so, none⟩) m10 k10) (ixL (pix l (p : Int) n0).sends) (.slice (some ⟨gb, go, none⟩) m11 k11) (ixL (pix l (p : Int) n0).gets) → Below G w W → W.cell? ⟨sb, so + k, none⟩ = some (.int .i64 (s : Int)) ∧ W.cell? ⟨gb, go + k, none⟩ = some (.int .i64 (g : Int)) ∧ W.cell? ⟨tb, tof + s * 4, none⟩ = some (.int .i64 ts) ∧ W.cell? ⟨hb, hof + p, none⟩ = some (.int .i64 h)) := fun W S' T' hW hB => ⟨own_ix hW.sends (unhide HM10) hsk, own_ix hW.gets (unhide HM11) hgk, ((hat W hB).1.ev (j := s) (by rw [unhide HLN]; exact hsn) (show l.getD s ev0 = ⟨(l.getD s ev0).task, (l.getD s ev0).op, (l.getD s ev0).obj, (l.getD s ev0).val⟩ from rfl)).1.trans (by rw [ets]), unhide HHC W hB⟩
      have HGK := hide hgk; have HSK := hide hsk
      have HSN := hide hsn; have HGL := hide hgn
      have HGN : Hid ((g : Int) < (n0 : Int)) := by show _ < _; omega
      have j0 : (0 : Int) ≤ (s : Int) := by omega
      have j1 : (s : Int) < (n0 : Int) := by omega
      have HTS := hide ets
      clear hli hat hgk hsk hsn hgn ets
      have HTd := hide ((unhide HTi).below ((Below.refl _ _).drew))
      have HBd := hide ((unhide HBi).drew)
      have HC0 := hide (unhide HCC _ _ _ (unhide HTd) (unhide HBd))
      go_upto_region 39 with fail
      go_region_held3 (fun W' => W'.cell? ⟨sb, so + k, none⟩ = some (.int .i64 (s : Int)) ∧ W'.cell? ⟨gb, go + k, none⟩ = some (.int .i64 (g : Int)) ∧ W'.cell? ⟨tb, tof + s * 4, none⟩ = some (.int .i64 ts) ∧ W'.cell? ⟨hb, hof + p, none⟩ = some (.int .i64 h))
        (first | exact unhide HC0 | exact unhide HC5)
        (first
          | (go_at_call 45; (with_reducible refine Calls.mono (tl_add (unhide HTd) s (g : Int) (unhide HSN) (unhide HGN) hn (by omega)) ?_); rintro e w5 ⟨rfl, he5, hb5⟩; have HT5 := hide he5; have HB5 := hide ((unhide HBd).trans hb5); have HC5 := hide (unhide HCC _ _ _ he5 ((unhide HBd).trans hb5)); clear he5 hb5))
      obtain ⟨q1, q2, q3, q4⟩ := unhide HC5
      by_cases h0 : h = 0
      · subst h0
        have HH0 := HEH
        go_upto_region 41 with fail
        have HT6 := hide ((unhide HT5).below ((Below.refl _ _).drew))
        have HB6 := hide ((unhide HB5).drew)
        have HC6 := hide (unhide HCC _ _ _ (unhide HT6) (unhide HB6))
        clear q1 q2 q3 q4
        go_region_held3 (fun W' => W'.cell? ⟨sb, so + k, none⟩ = some (.int .i64 (s : Int)) ∧ W'.cell? ⟨gb, go + k, none⟩ = some (.int .i64 (g : Int)) ∧ W'.cell? ⟨tb, tof + s * 4, none⟩ = some (.int .i64 ts) ∧ W'.cell? ⟨hb, hof + p, none⟩ = some (.int .i64 0))
          (first | exact unhide HC6 | exact unhide HC7 | exact unhide HC8)
          (first
            | (go_at_call 46; (with_reducible refine Calls.mono (unhide HNX ts g _ (unhide HGL) (unhide HB6)) ?_); rintro e w7 ⟨r1, rfl, hr7, hb7⟩; have HR7 := hide hr7; have HL7 := hide (show r1 < (n0 : Int) by have h_ := next_lt hr7; rw [unhide HLN] at h_; exact h_); have HT7 := hide ((unhide HT6).below hb7); have HB7 := hide ((unhide HB6).trans (hb7.mono (Nat.le_of_lt (unhide HT6).lt))); have HC7 := hide (unhide HCC _ _ _ (unhide HT7) (unhide HB7)); clear hr7 hb7)
            | (go_at_call 45; (with_reducible refine Calls.mono (tl_add (unhide HT7) g r1 (unhide HGL) (unhide HL7) hn (by omega)) ?_); rintro e w8 ⟨rfl, he8, hb8⟩; have HT8 := hide he8; have HB8 := hide ((unhide HB7).trans hb8); have HC8 := hide (unhide HCC _ _ _ he8 ((unhide HB7).trans hb8)); clear he8 hb8))
        go_wp2_with fail
        go_roundw
        case rel => exact ⟨k + 1, T2 + 1 + 1, by omega, by go_num, by omega, hide ((unhide HT8).congr (Nat.le_refl _) (fun a b hab hb => by
          have hb' : b < l.length := by rw [unhide HLN]; exact hb
          exact sg_next (by rw [unhide HLN]; exact unhide HGK) (by rw [unhide HLN]; exact unhide HSK) (unhide HH0) (by rw [unhide HTS]; exact unhide HR7) a b hab hb')), HB8⟩
        case measure => simp [intOf]; omega
      · have x0 : (h == 0) = false := by simpa using h0
        obtain ⟨q, rfl⟩ : ∃ q : Nat, h = (q : Int) := ⟨h.toNat, by omega⟩
        obtain ⟨kq, ekq⟩ : ∃ X : Nat, k + q = X := ⟨_, rfl⟩
        have hw2 : IntKind.i64.wrap ((k : Int) + (q : Int)) = (kq : Int) := by rw [wrapi (by omega) (by omega)]; omega
        have HKQ := hide ekq
        have HH0 := hide h0
        by_cases hq : kq < m10
        · have i6 : (kq : Int) < (m10 : Int) := by omega
          have i7 : (0 : Int) ≤ (kq : Int) := by omega
          obtain ⟨y, hyk⟩ : ∃ y, (pix l (p : Int) n0).sends[kq]? = some y := ⟨_, List.getElem?_eq_getElem (by rw [unhide HM10]; exact hq)⟩
          have HYK := hide hyk
          have HYN : Hid ((y : Int) < (n0 : Int)) := by show _ < _; have := (pix_send hyk).1; omega
          have HCY : Hid (∀ W S' T', Tl (G + 1 + 1) W (G + 1) G n0 S' T' (.slice (some ⟨sb, so, none⟩) m10 k10) (ixL (pix l (p : Int) n0).sends) (.slice (some ⟨gb, go, none⟩) m11 k11) (ixL (pix l (p : Int) n0).gets) → Below G w W → W.cell? ⟨sb, so + k, none⟩ = some (.int .i64 (s : Int)) ∧ W.cell? ⟨gb, go + k, none⟩ = some (.int .i64 (g : Int)) ∧ W.cell? ⟨tb, tof + s * 4, none⟩ = some (.int .i64 ts) ∧ W.cell? ⟨hb, hof + p, none⟩ = some (.int .i64 (q : Int)) ∧ W.cell? ⟨sb, so + kq, none⟩ = some (.int .i64 (y : Int))) := fun W S' T' hW hB => by
            obtain ⟨u1, u2, u3, u4⟩ := unhide HCC W S' T' hW hB
            exact ⟨u1, u2, u3, u4, own_ix hW.sends (unhide HM10) (unhide HYK)⟩
          clear hyk ekq
          go_upto_region 43 with fail
          have HT6 := hide ((unhide HT5).below ((Below.refl _ _).drew))
          have HB6 := hide ((unhide HB5).drew)
          have HC6 := hide (unhide HCY _ _ _ (unhide HT6) (unhide HB6))
          clear q1 q2 q3 q4
          go_region_held3 (fun W' => W'.cell? ⟨sb, so + k, none⟩ = some (.int .i64 (s : Int)) ∧ W'.cell? ⟨gb, go + k, none⟩ = some (.int .i64 (g : Int)) ∧ W'.cell? ⟨tb, tof + s * 4, none⟩ = some (.int .i64 ts) ∧ W'.cell? ⟨hb, hof + p, none⟩ = some (.int .i64 (q : Int)) ∧ W'.cell? ⟨sb, so + kq, none⟩ = some (.int .i64 (y : Int)))
            (first | exact unhide HC6 | exact unhide HC8)
            (first
              | (go_at_call 45; (with_reducible refine Calls.mono (tl_add (unhide HT6) g (y : Int) (unhide HGL) (unhide HYN) hn (by omega)) ?_); rintro e w8 ⟨rfl, he8, hb8⟩; have HT8 := hide he8; have HB8 := hide ((unhide HB6).trans hb8); have HC8 := hide (unhide HCY _ _ _ he8 ((unhide HB6).trans hb8)); clear he8 hb8))
          go_wp2_with fail
          go_roundw
          case rel => exact ⟨k + 1, T2 + 1 + 1, by omega, by go_num, by omega, hide ((unhide HT8).congr (Nat.le_refl _) (fun a b _ _ => by
            exact sg_hold (by rw [unhide HLN]; exact unhide HGK) (by rw [unhide HLN]; exact unhide HSK) (by rw [unhide HEH]; exact unhide HH0) (by rw [unhide HLN, unhide HEH, Int.toNat_natCast, unhide HKQ]; exact unhide HYK) a b)), HB8⟩
          case measure => simp [intOf]; omega
        · have i6 : ¬ (kq : Int) < (m10 : Int) := by omega
          go_wp2_with fail
          go_roundw
          case rel => exact ⟨k + 1, T2 + 1, by omega, by go_num, by omega, hide ((unhide HT5).congr (Nat.le_refl _) (fun a b _ _ => by
            exact sg_none (by rw [unhide HLN]; exact unhide HGK) (by rw [unhide HLN]; exact unhide HSK) (by rw [unhide HEH]; exact unhide HH0) (by rw [unhide HLN, unhide HEH, Int.toNat_natCast, unhide HM10, unhide HKQ]; omega) a b)), HB5⟩
          case measure => simp [intOf]; omega
    · obtain rfl : k = m11 := by omega
      have i1 : ¬ (k : Int) < (k : Int) := by omega
      go_wp2_with fail
      exact unhide HFIN _ _ _ _ _ _ _ _ _ _ _ _ _ _ _ _ _ _ _ _ _ _ _ _ _ _ _ _ _ _ _ _ _ _ _ _ _ _ _ _ _ _ _ _ _ _ _ _ _ _ _ _ _ _ _ _ _ _ _ _ _ _ _ _ _ _ wr T2 (by omega) ((unhide HTi).ed.congr (Nat.le_refl _) (fun a b _ hb => sg_end (by rw [unhide HLN]; exact unhide HM11) a b (by rw [unhide HLN]; exact hb))) (unhide HBi)
end Go.Proofs.Ytbnmeeabpjmcoaa
