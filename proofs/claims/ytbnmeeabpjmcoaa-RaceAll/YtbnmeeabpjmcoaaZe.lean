/-
  taskmillref.Edges: its loop over events.
-/
import Derived.Test.YtbnmeeabpjmcoaaZd
namespace Go.Proofs.Ytbnmeeabpjmcoaa
open Go.RowKit

/-- The statement that opens with the region n, its second part, and what follows it. -/
def cutIf3 (n : Nat) : Code → Option (Code × Code × Code)
  | .seq (.seq (.region id ops dr) c) b => bif Nat.beq id n then some (.region id ops dr, c, b) else cutIf3 n b
  | .seq _ b => cutIf3 n b
  | _ => none

set_option maxRecDepth 100000 in
set_option maxHeartbeats 4000000 in
theorem edges_events (w : World) (a0 : Option Addr) (n0 c0 : Nat) (a1 : Option Addr) (n1 c1 : Nat) (l : List Ev) (hs : List Int) (hl : IsL KE w (.slice a0 n0 c0) l) (_hh : IsL KI w (.slice a1 n1 c1) hs) (hg : GoodT hs l) (Wt : World) (G : Nat) (hwG : w.heap.size ≤ G) (hX : Below G w Wt) (hEd : EdSt (G + 1 + 1) Wt (G + 1) G n0 (SI l 0) 0) (Q0 : Ending → World → Prop)
    {s2 s3 s7 s8 s9 s10 s11 s12 s13 s14 s15 s16 s17 s18 s19 s20 s21 s22 s23 s24 s25 s26 s27 s28 s29 s30 s31 s32 s33 s34 s35 s36 s37 s38 s39 s40 s41 s42 s43 s44 s45 s46 s47 s48 s49 s50 s51 s52 s53 s54 s55 s56 s57 s58 s59 s60 s61 s62 s63 s64 s65 s66 s67 s68 s69 s70 s71 s72 s73 s74 s75 s76 s77 s78 s79 s80 s81 s82 s83 s84 s85 s86 s87 s88 s89 s90 s91 s92 s93 s94 s95 s96 s97 s98 s99 s100 s101 s102 s103 s104 s105 s106 s107 s108 s109 s110 s111 s112 s113 s114 s115 s116 s117 s118 s119 s120 s121 s122 s123 s124 s125 s126 s127 s128 s129 s130 s131 s132 s133 s134 s135 s136 s137 s138 s139 s140 s141 s142 s143 s144 s145 s146 s147 s148 s149 s150 s151 s152 s153 s154 s155 s156 s157 s158 s159 s160 s161 s162 s163 s164 s165 s166 s167 s168 s169 s170 s171 s172 s173 s174 s175 s176 s177 s178 s179 s180 s181 s182 s183 s184 s185 s186 s187 s188 s189 s190 s191 s192 s193 s194 s195 s196 s197 s198 s199 s200 s201 s202 s203 s204 s205 s206 s207 s208 s209 s210 s211 s212 s213 s214 s215 s216 s217 s218 s219 s220 s221 s222 s223 s224 s225 s226 s227 s228 s229 s230 s231 s232 s233 s234 s235 s236 s237 s238 s239 : Value} (K1 K2 : Act → World → Prop) (x y z : Code) (hK1 : ∀ a w', y.wp Try.prog (Exit.then K2 (bodyPost Try.prog Try.f36 Q0)) a w' → K1 a w') (hcut : Try.f36.body.bind (cutIf3 3) = some (x, y, z))
    (hfin : ∀ (s2 s3 s7 s8 s9 s10 s11 s12 s13 s14 s15 s16 s17 s18 s19 s20 s21 s22 s23 s24 s25 s26 s27 s28 s29 s30 s31 s32 s33 s34 s35 s36 s37 s38 s39 s40 s41 s42 s43 s44 s45 s46 s47 s48 s49 s50 s51 s52 s53 s54 s55 s56 s57 s58 s59 s60 s61 s62 s63 s64 s65 s66 s67 s68 s69 s70 s71 s72 s73 s74 s75 s76 s77 s78 s79 s80 s81 s82 s83 s84 s85 s86 s87 s88 s89 s90 s91 s92 s93 s94 s95 s96 s97 s98 s99 s100 s101 s102 s103 s104 s105 s106 s107 s108 s109 s110 s111 s112 s113 s114 s115 s116 s117 s118 s119 s120 s121 s122 s123 s124 s125 s126 s127 s128 s129 s130 s131 s132 s133 s134 s135 s136 s137 s138 s139 s140 s141 s142 s143 s144 s145 s146 s147 s148 s149 s150 s151 s152 s153 s154 s155 s156 s157 s158 s159 s160 s161 s162 s163 s164 s165 s166 s167 s168 s169 s170 s171 s172 s173 s174 s175 s176 s177 s178 s179 s180 s181 s182 s183 s184 s185 s186 s187 s188 s189 s190 s191 s192 s193 s194 s195 s196 s197 s198 s199 s200 s201 s202 s203 s204 s205 s206 s207 s208 s209 s210 s211 s212 s213 s214 s215 s216 s217 s218 s219 s220 s221 s222 s223 s224 s225 s226 s227 s228 s229 s230 s231 s232 s233 s234 s235 s236 s237 s238 s239 : Value) (W : World) (T : Nat), T ≤ 20000000 → Below G w W → EdSt (G + 1 + 1) W (G + 1) G n0 (EA l) T → K2 { tmps := (.slice a0 n0 c0 :: .slice a1 n1 c1 :: s2 :: s3 :: .slice none 0 0 :: .pointer (some ⟨G + 1, 0, none⟩) :: .func (.func 45) #[] #[.pointer (some ⟨G + 1, 0, none⟩)] :: s7 :: s8 :: s9 :: s10 :: s11 :: s12 :: s13 :: s14 :: s15 :: s16 :: s17 :: s18 :: s19 :: s20 :: s21 :: s22 :: s23 :: s24 :: s25 :: s26 :: s27 :: s28 :: s29 :: s30 :: s31 :: s32 :: s33 :: s34 :: s35 :: s36 :: s37 :: s38 :: s39 :: s40 :: s41 :: s42 :: s43 :: s44 :: s45 :: s46 :: s47 :: s48 :: s49 :: s50 :: s51 :: s52 :: s53 :: s54 :: s55 :: s56 :: s57 :: s58 :: s59 :: s60 :: s61 :: s62 :: s63 :: s64 :: s65 :: s66 :: s67 :: s68 :: s69 :: s70 :: s71 :: s72 :: s73 :: s74 :: s75 :: s76 :: s77 :: s78 :: s79 :: s80 :: s81 :: s82 :: s83 :: s84 :: s85 :: s86 :: s87 :: s88 :: s89 :: s90 :: s91 :: s92 :: s93 :: s94 :: s95 :: s96 :: s97 :: s98 :: s99 :: s100 :: s101 :: s102 :: s103 :: s104 :: s105 :: s106 :: s107 :: s108 :: s109 :: s110 :: s111 :: s112 :: s113 :: s114 :: s115 :: s116 :: s117 :: s118 :: s119 :: s120 :: s121 :: s122 :: s123 :: s124 :: s125 :: s126 :: s127 :: s128 :: s129 :: s130 :: s131 :: s132 :: s133 :: s134 :: s135 :: s136 :: s137 :: s138 :: s139 :: s140 :: s141 :: s142 :: s143 :: s144 :: s145 :: s146 :: s147 :: s148 :: s149 :: s150 :: s151 :: s152 :: s153 :: s154 :: s155 :: s156 :: s157 :: s158 :: s159 :: s160 :: s161 :: s162 :: s163 :: s164 :: s165 :: s166 :: s167 :: s168 :: s169 :: s170 :: s171 :: s172 :: s173 :: s174 :: s175 :: s176 :: s177 :: s178 :: s179 :: s180 :: s181 :: s182 :: s183 :: s184 :: s185 :: s186 :: s187 :: s188 :: s189 :: s190 :: s191 :: s192 :: s193 :: s194 :: s195 :: s196 :: s197 :: s198 :: s199 :: s200 :: s201 :: s202 :: s203 :: s204 :: s205 :: s206 :: s207 :: s208 :: s209 :: s210 :: s211 :: s212 :: s213 :: s214 :: s215 :: s216 :: s217 :: s218 :: s219 :: s220 :: s221 :: s222 :: s223 :: s224 :: s225 :: s226 :: s227 :: s228 :: s229 :: s230 :: s231 :: s232 :: s233 :: s234 :: s235 :: s236 :: s237 :: s238 :: s239 :: []).toArray, defers := [] } W) :
    x.wp Try.prog (Exit.then K1 (Exit.then K2 (bodyPost Try.prog Try.f36 Q0))) { tmps := (.slice a0 n0 c0 :: .slice a1 n1 c1 :: s2 :: s3 :: .slice none 0 0 :: .pointer (some ⟨G + 1, 0, none⟩) :: .func (.func 45) #[] #[.pointer (some ⟨G + 1, 0, none⟩)] :: s7 :: s8 :: s9 :: s10 :: s11 :: s12 :: s13 :: s14 :: s15 :: s16 :: s17 :: s18 :: s19 :: s20 :: s21 :: s22 :: s23 :: s24 :: s25 :: s26 :: s27 :: s28 :: s29 :: s30 :: s31 :: s32 :: s33 :: s34 :: s35 :: s36 :: s37 :: s38 :: s39 :: s40 :: s41 :: s42 :: s43 :: s44 :: s45 :: s46 :: s47 :: s48 :: s49 :: s50 :: s51 :: s52 :: s53 :: s54 :: s55 :: s56 :: s57 :: s58 :: s59 :: s60 :: s61 :: s62 :: s63 :: s64 :: s65 :: s66 :: s67 :: s68 :: s69 :: s70 :: s71 :: s72 :: s73 :: s74 :: s75 :: s76 :: s77 :: s78 :: s79 :: s80 :: s81 :: s82 :: s83 :: s84 :: s85 :: s86 :: s87 :: s88 :: s89 :: s90 :: s91 :: s92 :: s93 :: s94 :: s95 :: s96 :: s97 :: s98 :: s99 :: s100 :: s101 :: s102 :: s103 :: s104 :: s105 :: s106 :: s107 :: s108 :: s109 :: s110 :: s111 :: s112 :: s113 :: s114 :: s115 :: s116 :: s117 :: s118 :: s119 :: s120 :: s121 :: s122 :: s123 :: s124 :: s125 :: s126 :: s127 :: s128 :: s129 :: s130 :: s131 :: s132 :: s133 :: s134 :: s135 :: s136 :: s137 :: s138 :: s139 :: s140 :: s141 :: s142 :: s143 :: s144 :: s145 :: s146 :: s147 :: s148 :: s149 :: s150 :: s151 :: s152 :: s153 :: s154 :: s155 :: s156 :: s157 :: s158 :: s159 :: s160 :: s161 :: s162 :: s163 :: s164 :: s165 :: s166 :: s167 :: s168 :: s169 :: s170 :: s171 :: s172 :: s173 :: s174 :: s175 :: s176 :: s177 :: s178 :: s179 :: s180 :: s181 :: s182 :: s183 :: s184 :: s185 :: s186 :: s187 :: s188 :: s189 :: s190 :: s191 :: s192 :: s193 :: s194 :: s195 :: s196 :: s197 :: s198 :: s199 :: s200 :: s201 :: s202 :: s203 :: s204 :: s205 :: s206 :: s207 :: s208 :: s209 :: s210 :: s211 :: s212 :: s213 :: s214 :: s215 :: s216 :: s217 :: s218 :: s219 :: s220 :: s221 :: s222 :: s223 :: s224 :: s225 :: s226 :: s227 :: s228 :: s229 :: s230 :: s231 :: s232 :: s233 :: s234 :: s235 :: s236 :: s237 :: s238 :: s239 :: []).toArray, defers := [] } Wt := by
  have hcc : Try.f36.body.bind (cutIf3 3) = some (_, _, _) := rfl
  rw [hcc] at hcut
  cases hcut
  clear hcc
  have hln := hl.len
  have hn : n0 ≤ 2000 := by rw [← hln]; exact hg.n
  have HTR := hide (hl.opens ke hln)
  have HLN := hide hln
  have HX := hide hX; have HED := hide hEd
  have HFIN := hide hfin
  clear hl hX hEd hln hg hfin
  go_wp2_with fail
  go_loopw [7] (fun s wr => ∃ (i T : Nat), i ≤ n0 ∧ s = .int .i64 (i : Int) ∧ T ≤ i * 5000 ∧ Hid (EdSt (G + 1 + 1) wr (G + 1) G n0 (SI l i) T) ∧ Hid (Below G w wr)) (fun s _ => n0 - (intOf s).toNat)
  case atStart => exact ⟨0, 0, Nat.zero_le _, rfl, Nat.zero_le _, HED, HX⟩
  case round =>
    obtain ⟨i, T, hi, rfl, hT, HEi, HBi⟩ := hrel
    clear HED HX
    by_cases hlt : i < n0
    · have i0 : (0 : Int) ≤ (i : Int) := by omega
      have i1 : (i : Int) < (n0 : Int) := by omega
      have hw1 : IntKind.i64.wrap ((i : Int) + 1) = (i : Int) + 1 := wrapi (by omega) (by omega)
      obtain ⟨tb, tof, rfl, htb, hli⟩ := unhide HTR (by omega)
      obtain ⟨⟨tk, op, ob, vl⟩, ex⟩ : ∃ X, l.getD i ev0 = X := ⟨_, rfl⟩
      have hat : ∀ W, Below G w W → Lies KE W tb tof l ∧ tb < W.heap.size := fun W hW => ⟨hli.below (hW.mono (Nat.le_refl _)) (Nat.lt_of_lt_of_le htb hwG), Nat.lt_of_lt_of_le htb hW.size⟩
      have HNX : Hid (∀ (t : Int) W, Below G w W → Calls Try.prog 46 #[.slice (some ⟨tb, tof, none⟩) n0 c0, .int .i64 t, .int .i64 (i : Int)] W fun e w' => ∃ r, e = .returned (.int .i64 r) ∧ NextR l t i r ∧ Below W.heap.size W w') := fun t W hW => nextOf_any W tb tof n0 c0 l (hat W hW).1 (hat W hW).2 (unhide HLN) hn t i hlt
      have HCE : Hid (∀ W, Below G w W → W.cell? ⟨tb, tof + i * 4, none⟩ = some (.int .i64 tk) ∧ W.cell? ⟨tb, tof + i * 4 + 1, none⟩ = some (.int .i64 op) ∧ W.cell? ⟨tb, tof + i * 4 + 2, none⟩ = some (.int .i64 ob) ∧ W.cell? ⟨tb, tof + i * 4 + 3, none⟩ = some (.int .i64 vl)) := fun W hW => (hat W hW).1.ev (j := i) (by rw [unhide HLN]; exact hlt) ex
      have HEX := hide ex
      have HAT := hide hat
      have HLT := hide hlt
      obtain ⟨k0, k1, k2, k3⟩ := unhide HCE _ (unhide HBi)
      clear hli hat ex
      go_upto_region 7 with (first
        | (go_at_call 46; (with_reducible refine Calls.mono (unhide HNX tk _ (unhide HBi)) ?_); rintro e w5 ⟨r1, rfl, hr_, hb_⟩; have HRr1 := hide hr_; have HLr1 := hide (show r1 < (n0 : Int) by have h_ := next_lt hr_; rw [unhide HLN] at h_; exact h_); have HBw5 := hide ((unhide HBi).trans (hb_.mono (Nat.le_of_lt (unhide HEi).lt))); have HEw5 := hide ((unhide HEi).below hb_); obtain ⟨z0w5, z1w5, z2w5, z3w5⟩ := unhide HCE _ (unhide HBw5); clear hr_ hb_)
        | (go_at_call 45; (with_reducible refine Calls.mono (edgeAdd_any (G + 1 + 1) _ (G + 1) G n0 (SI l i) T (unhide HEw5) i r1 (unhide HLT) (unhide HLr1) hn (by omega)) ?_); rintro e w6 ⟨rfl, he_, hb_⟩; have HEw6 := hide he_; have HBw6 := hide ((unhide HBw5).trans hb_); obtain ⟨q0w6, q1w6, q2w6, q3w6⟩ := unhide HCE _ (unhide HBw6); clear he_ hb_))
      by_cases h11 : op = 11
      · have x11 : (op == 11) = true := by simpa using h11
        go_upto_region 9 with (first
          | (go_at_call 46; (with_reducible refine Calls.mono (unhide HNX vl _ (unhide HBw6)) ?_); rintro e w7 ⟨r2, rfl, hr_, hb_⟩; have HRr2 := hide hr_; have HLr2 := hide (show r2 < (n0 : Int) by have h_ := next_lt hr_; rw [unhide HLN] at h_; exact h_); have HBw7 := hide ((unhide HBw6).trans (hb_.mono (Nat.le_of_lt (unhide HEw6).lt))); have HEw7 := hide ((unhide HEw6).below hb_); obtain ⟨z0w7, z1w7, z2w7, z3w7⟩ := unhide HCE _ (unhide HBw7); clear hr_ hb_)
          | (go_at_call 45; (with_reducible refine Calls.mono (edgeAdd_any (G + 1 + 1) _ (G + 1) G n0 _ (T + 1) (unhide HEw7) i r2 (unhide HLT) (unhide HLr2) hn (by omega)) ?_); rintro e w8 ⟨rfl, he_, hb_⟩; have HEw8 := hide he_; have HBw8 := hide ((unhide HBw7).trans hb_); obtain ⟨q0w8, q1w8, q2w8, q3w8⟩ := unhide HCE _ (unhide HBw8); clear he_ hb_))
        have HE9 : Hid (EdSt (G + 1 + 1) w8 (G + 1) G n0 (SK l i (i + 1)) (T + 2)) := (unhide HEw8).congr (Nat.le_refl _) (fun a b hab hb => by
          have e1 := sk_begin_go (l := l) (i := i) (r := r1) (r2 := r2) (by rw [unhide HEX]; exact h11) (by rw [unhide HEX]; exact unhide HRr1) (by rw [unhide HEX]; exact unhide HRr2) a b hab (by rw [unhide HLN]; exact hb)
          exact e1)
        have HB9 := HBw8
        go_wp2_with fail
        go_loopw [8] (fun s wr => ∃ (k T2 : Nat), i < k ∧ k ≤ n0 ∧ s = .int .i64 (k : Int) ∧ T2 + 2 * i ≤ i * 5000 + 2 + 2 * k ∧ Hid (EdSt (G + 1 + 1) wr (G + 1) G n0 (SK l i k) T2) ∧ Hid (Below G w wr)) (fun s _ => n0 - (intOf s).toNat)
        case atStart => exact ⟨i + 1, T + 2, by omega, by omega, by go_num, by omega, HE9, HB9⟩
        case round =>
          obtain ⟨k, T2, hik, hk, rfl, hT2, HEk, HBk⟩ := hrel
          clear HE9 HB9
          by_cases hkn : k < n0
          · have p0 : (0 : Int) ≤ (k : Int) := by omega
            have p1 : (k : Int) < (n0 : Int) := by omega
            have hw3 : IntKind.i64.wrap ((k : Int) + 1) = (k : Int) + 1 := wrapi (by omega) (by omega)
            obtain ⟨⟨tk2, op2, ob2, vl2⟩, ex2⟩ : ∃ X, l.getD k ev0 = X := ⟨_, rfl⟩
            have HCK : Hid (∀ W, Below G w W → W.cell? ⟨tb, tof + k * 4, none⟩ = some (.int .i64 tk2) ∧ W.cell? ⟨tb, tof + k * 4 + 1, none⟩ = some (.int .i64 op2) ∧ W.cell? ⟨tb, tof + k * 4 + 2, none⟩ = some (.int .i64 ob2) ∧ W.cell? ⟨tb, tof + k * 4 + 3, none⟩ = some (.int .i64 vl2)) := fun W hW => ((unhide HAT) W hW).1.ev (j := k) (by rw [unhide HLN]; exact hkn) ex2
            have HEL : Hid (EL l i k ↔ (ob = ob2 ∧ op = 18 ∧ op2 = 17 ∧ (vl = 1 ∨ vl2 = 1)) ∨ (ob = ob2 ∧ op = 19 ∧ op2 = 20)) := by show _ ↔ _; unfold EL; rw [unhide HEX, ex2]
            have HKN := hide hkn
            obtain ⟨k0, k1, k2, k3⟩ := unhide HCE _ (unhide HBk)
            obtain ⟨m0, m1, m2, m3⟩ := unhide HCK _ (unhide HBk)
            clear ex2
            have hADD := fun W (hW : EdSt (G + 1 + 1) W (G + 1) G n0 (SK l i k) T2) => edgeAdd_any (G + 1 + 1) W (G + 1) G n0 (SK l i k) T2 hW i (k : Int) (unhide HLT) p1 hn (by omega)
            have HADD := hide hADD
            clear hADD
            by_cases hob : ob2 = ob
            · subst hob
              have xo : (ob2 != ob2) = false := by simp
              by_cases h18 : op = 18
              · exact absurd h18 (by omega)
              · have x18 : (op == 18) = false := by simpa using h18
                by_cases h19 : op = 19
                · exact absurd h19 (by omega)
                · have x19 : (op == 19) = false := by simpa using h19
                  have HQ : Hid (¬ EL l i k) := fun q => by
                    rcases (unhide HEL).1 q with ⟨_, q, _⟩ | ⟨_, q, _⟩
                    · exact h18 q
                    · exact h19 q
                  clear h18 h19
                  go_upto_region 12 with fail
                  go_quiet (fail)
                  have hbd : Below G w (wr.drewN nq) := below_drewN (unhide HBk) _
                  have hed : EdSt (G + 1 + 1) (wr.drewN nq) (G + 1) G n0 (SK l i k) T2 := (unhide HEk).below (below_drewN (Below.refl _ _) _)
                  obtain ⟨W5, e5⟩ : ∃ X, wr.drewN nq = X := ⟨_, rfl⟩
                  rw [e5] at hbd hed ⊢
                  have HB5 := hide hbd; have HE5 := hide hed
                  clear hbd hed e5 k0 k1 k2 k3 m0 m1 m2 m3
                  obtain ⟨k0, k1, k2, k3⟩ := unhide HCE _ (unhide HB5)
                  obtain ⟨m0, m1, m2, m3⟩ := unhide HCK _ (unhide HB5)
                  go_wp2_with fail
                  go_roundw
                  case rel => exact ⟨k + 1, T2, by omega, by omega, by go_num, by omega, hide ((unhide HE5).congr (Nat.le_refl _) (fun a b _ _ => sk_no (unhide HQ) a b)), HB5⟩
                  case measure => simp [intOf]; omega
            · have xo : (ob2 != ob) = true := by simpa using hob
              have HQ : Hid (¬ EL l i k) := fun q => by
                rcases (unhide HEL).1 q with ⟨q, _⟩ | ⟨q, _⟩
                · exact hob q.symm
                · exact hob q.symm
              clear hob
              go_upto_region 12 with fail
              go_quiet (fail)
              have hbd : Below G w (wr.drewN nq) := below_drewN (unhide HBk) _
              have hed : EdSt (G + 1 + 1) (wr.drewN nq) (G + 1) G n0 (SK l i k) T2 := (unhide HEk).below (below_drewN (Below.refl _ _) _)
              obtain ⟨W5, e5⟩ : ∃ X, wr.drewN nq = X := ⟨_, rfl⟩
              rw [e5] at hbd hed ⊢
              have HB5 := hide hbd; have HE5 := hide hed
              clear hbd hed e5 k0 k1 k2 k3 m0 m1 m2 m3
              obtain ⟨k0, k1, k2, k3⟩ := unhide HCE _ (unhide HB5)
              obtain ⟨m0, m1, m2, m3⟩ := unhide HCK _ (unhide HB5)
              go_wp2_with fail
              go_roundw
              case rel => exact ⟨k + 1, T2, by omega, by omega, by go_num, by omega, hide ((unhide HE5).congr (Nat.le_refl _) (fun a b _ _ => sk_no (unhide HQ) a b)), HB5⟩
              case measure => simp [intOf]; omega
          · obtain rfl : k = n0 := by omega
            have p1 : ¬ (k : Int) < (k : Int) := by omega
            go_wp2_with fail
            go_roundw
            case rel => exact ⟨i + 1, T2, by omega, by go_num, by omega, hide ((unhide HEk).congr (Nat.le_refl _) (fun a b hab hb => by rw [← unhide HLN] at hb ⊢; exact sk_end a b hb)), HBk⟩
            case measure => simp [intOf]; omega
      · have x11 : (op == 11) = false := by simpa using h11
        go_upto_region 9 with fail
        have HE9 : Hid (EdSt (G + 1 + 1) w6 (G + 1) G n0 (SK l i (i + 1)) (T + 2)) := (unhide HEw6).congr (by omega) (fun a b hab hb => by
          have e1 := sk_begin_no (l := l) (i := i) (r := r1) (by rw [unhide HEX]; exact h11) (by rw [unhide HEX]; exact unhide HRr1) a b hab (by rw [unhide HLN]; exact hb)
          exact e1)
        have HB9 := HBw6
        go_wp2_with fail
        go_loopw [8] (fun s wr => ∃ (k T2 : Nat), i < k ∧ k ≤ n0 ∧ s = .int .i64 (k : Int) ∧ T2 + 2 * i ≤ i * 5000 + 2 + 2 * k ∧ Hid (EdSt (G + 1 + 1) wr (G + 1) G n0 (SK l i k) T2) ∧ Hid (Below G w wr)) (fun s _ => n0 - (intOf s).toNat)
        case atStart => exact ⟨i + 1, T + 2, by omega, by omega, by go_num, by omega, HE9, HB9⟩
        case round =>
          obtain ⟨k, T2, hik, hk, rfl, hT2, HEk, HBk⟩ := hrel
          clear HE9 HB9
          by_cases hkn : k < n0
          · have p0 : (0 : Int) ≤ (k : Int) := by omega
            have p1 : (k : Int) < (n0 : Int) := by omega
            have hw3 : IntKind.i64.wrap ((k : Int) + 1) = (k : Int) + 1 := wrapi (by omega) (by omega)
            obtain ⟨⟨tk2, op2, ob2, vl2⟩, ex2⟩ : ∃ X, l.getD k ev0 = X := ⟨_, rfl⟩
            have HCK : Hid (∀ W, Below G w W → W.cell? ⟨tb, tof + k * 4, none⟩ = some (.int .i64 tk2) ∧ W.cell? ⟨tb, tof + k * 4 + 1, none⟩ = some (.int .i64 op2) ∧ W.cell? ⟨tb, tof + k * 4 + 2, none⟩ = some (.int .i64 ob2) ∧ W.cell? ⟨tb, tof + k * 4 + 3, none⟩ = some (.int .i64 vl2)) := fun W hW => ((unhide HAT) W hW).1.ev (j := k) (by rw [unhide HLN]; exact hkn) ex2
            have HEL : Hid (EL l i k ↔ (ob = ob2 ∧ op = 18 ∧ op2 = 17 ∧ (vl = 1 ∨ vl2 = 1)) ∨ (ob = ob2 ∧ op = 19 ∧ op2 = 20)) := by show _ ↔ _; unfold EL; rw [unhide HEX, ex2]
            have HKN := hide hkn
            obtain ⟨k0, k1, k2, k3⟩ := unhide HCE _ (unhide HBk)
            obtain ⟨m0, m1, m2, m3⟩ := unhide HCK _ (unhide HBk)
            clear ex2
            have hADD := fun W (hW : EdSt (G + 1 + 1) W (G + 1) G n0 (SK l i k) T2) => edgeAdd_any (G + 1 + 1) W (G + 1) G n0 (SK l i k) T2 hW i (k : Int) (unhide HLT) p1 hn (by omega)
            have HADD := hide hADD
            clear hADD
            by_cases hob : ob2 = ob
            · subst hob
              have xo : (ob2 != ob2) = false := by simp
              by_cases h18 : op = 18
              · have x18 : (op == 18) = true := by simpa using h18
                have x19 : (op == 19) = false := by rw [h18]; rfl
                by_cases h17 : op2 = 17
                · have x17 : (op2 == 17) = true := by simpa using h17
                  by_cases hv1 : vl = 1
                  · have xv : (vl == 1) = true := by simpa using hv1
                    have HQ : Hid (EL l i k) := (unhide HEL).2 (Or.inl ⟨rfl, h18, h17, Or.inl hv1⟩)
                    clear h18 h17 hv1
                    go_upto_region 12 with fail
                    go_quiet (fail)
                    have hbd : Below G w (wr.drewN nq) := below_drewN (unhide HBk) _
                    have hed : EdSt (G + 1 + 1) (wr.drewN nq) (G + 1) G n0 (SK l i k) T2 := (unhide HEk).below (below_drewN (Below.refl _ _) _)
                    obtain ⟨W5, e5⟩ : ∃ X, wr.drewN nq = X := ⟨_, rfl⟩
                    rw [e5] at hbd hed ⊢
                    have HB5 := hide hbd; have HE5 := hide hed
                    clear hbd hed e5 k0 k1 k2 k3 m0 m1 m2 m3
                    obtain ⟨k0, k1, k2, k3⟩ := unhide HCE _ (unhide HB5)
                    obtain ⟨m0, m1, m2, m3⟩ := unhide HCK _ (unhide HB5)
                    go_wp2_with (go_at_call 45; (with_reducible refine Calls.mono (unhide HADD _ (unhide HE5)) ?_); rintro e w6 ⟨rfl, he6, hb6⟩; have HE6 := hide he6; have HB6 := hide ((unhide HB5).trans hb6); obtain ⟨r0, r1, r2, r3⟩ := unhide HCE _ (unhide HB6); obtain ⟨s0, s1, s2, s3⟩ := unhide HCK _ (unhide HB6); clear he6 hb6)
                    go_roundw
                    case rel => exact ⟨k + 1, T2 + 1, by omega, by omega, by go_num, by omega, hide ((unhide HE6).congr (Nat.le_refl _) (fun a b _ _ => sk_yes (unhide HQ) a b)), HB6⟩
                    case measure => simp [intOf]; omega
                  · have xv : (vl == 1) = false := by simpa using hv1
                    by_cases hv2 : vl2 = 1
                    · have xv2 : (vl2 == 1) = true := by simpa using hv2
                      have HQ : Hid (EL l i k) := (unhide HEL).2 (Or.inl ⟨rfl, h18, h17, Or.inr hv2⟩)
                      clear h18 h17 hv1 hv2
                      go_upto_region 12 with fail
                      go_quiet (fail)
                      have hbd : Below G w (wr.drewN nq) := below_drewN (unhide HBk) _
                      have hed : EdSt (G + 1 + 1) (wr.drewN nq) (G + 1) G n0 (SK l i k) T2 := (unhide HEk).below (below_drewN (Below.refl _ _) _)
                      obtain ⟨W5, e5⟩ : ∃ X, wr.drewN nq = X := ⟨_, rfl⟩
                      rw [e5] at hbd hed ⊢
                      have HB5 := hide hbd; have HE5 := hide hed
                      clear hbd hed e5 k0 k1 k2 k3 m0 m1 m2 m3
                      obtain ⟨k0, k1, k2, k3⟩ := unhide HCE _ (unhide HB5)
                      obtain ⟨m0, m1, m2, m3⟩ := unhide HCK _ (unhide HB5)
                      go_wp2_with (go_at_call 45; (with_reducible refine Calls.mono (unhide HADD _ (unhide HE5)) ?_); rintro e w6 ⟨rfl, he6, hb6⟩; have HE6 := hide he6; have HB6 := hide ((unhide HB5).trans hb6); obtain ⟨r0, r1, r2, r3⟩ := unhide HCE _ (unhide HB6); obtain ⟨s0, s1, s2, s3⟩ := unhide HCK _ (unhide HB6); clear he6 hb6)
                      go_roundw
                      case rel => exact ⟨k + 1, T2 + 1, by omega, by omega, by go_num, by omega, hide ((unhide HE6).congr (Nat.le_refl _) (fun a b _ _ => sk_yes (unhide HQ) a b)), HB6⟩
                      case measure => simp [intOf]; omega
                    · have xv2 : (vl2 == 1) = false := by simpa using hv2
                      have HQ : Hid (¬ EL l i k) := fun q => by
                        rcases (unhide HEL).1 q with ⟨_, _, _, q | q⟩ | ⟨_, q, _⟩
                        · exact hv1 q
                        · exact hv2 q
                        · omega
                      clear h18 h17 hv1 hv2
                      go_upto_region 12 with fail
                      go_quiet (fail)
                      have hbd : Below G w (wr.drewN nq) := below_drewN (unhide HBk) _
                      have hed : EdSt (G + 1 + 1) (wr.drewN nq) (G + 1) G n0 (SK l i k) T2 := (unhide HEk).below (below_drewN (Below.refl _ _) _)
                      obtain ⟨W5, e5⟩ : ∃ X, wr.drewN nq = X := ⟨_, rfl⟩
                      rw [e5] at hbd hed ⊢
                      have HB5 := hide hbd; have HE5 := hide hed
                      clear hbd hed e5 k0 k1 k2 k3 m0 m1 m2 m3
                      obtain ⟨k0, k1, k2, k3⟩ := unhide HCE _ (unhide HB5)
                      obtain ⟨m0, m1, m2, m3⟩ := unhide HCK _ (unhide HB5)
                      go_wp2_with fail
                      go_roundw
                      case rel => exact ⟨k + 1, T2, by omega, by omega, by go_num, by omega, hide ((unhide HE5).congr (Nat.le_refl _) (fun a b _ _ => sk_no (unhide HQ) a b)), HB5⟩
                      case measure => simp [intOf]; omega
                · have x17 : (op2 == 17) = false := by simpa using h17
                  have HQ : Hid (¬ EL l i k) := fun q => by
                    rcases (unhide HEL).1 q with ⟨_, _, q, _⟩ | ⟨_, q, _⟩
                    · exact h17 q
                    · omega
                  clear h18 h17
                  go_upto_region 12 with fail
                  go_quiet (fail)
                  have hbd : Below G w (wr.drewN nq) := below_drewN (unhide HBk) _
                  have hed : EdSt (G + 1 + 1) (wr.drewN nq) (G + 1) G n0 (SK l i k) T2 := (unhide HEk).below (below_drewN (Below.refl _ _) _)
                  obtain ⟨W5, e5⟩ : ∃ X, wr.drewN nq = X := ⟨_, rfl⟩
                  rw [e5] at hbd hed ⊢
                  have HB5 := hide hbd; have HE5 := hide hed
                  clear hbd hed e5 k0 k1 k2 k3 m0 m1 m2 m3
                  obtain ⟨k0, k1, k2, k3⟩ := unhide HCE _ (unhide HB5)
                  obtain ⟨m0, m1, m2, m3⟩ := unhide HCK _ (unhide HB5)
                  go_wp2_with fail
                  go_roundw
                  case rel => exact ⟨k + 1, T2, by omega, by omega, by go_num, by omega, hide ((unhide HE5).congr (Nat.le_refl _) (fun a b _ _ => sk_no (unhide HQ) a b)), HB5⟩
                  case measure => simp [intOf]; omega
              · have x18 : (op == 18) = false := by simpa using h18
                by_cases h19 : op = 19
                · have x19 : (op == 19) = true := by simpa using h19
                  by_cases h20 : op2 = 20
                  · have x20 : (op2 == 20) = true := by simpa using h20
                    have HQ : Hid (EL l i k) := (unhide HEL).2 (Or.inr ⟨rfl, h19, h20⟩)
                    clear h18 h19 h20
                    go_upto_region 12 with fail
                    go_quiet (fail)
                    have hbd : Below G w (wr.drewN nq) := below_drewN (unhide HBk) _
                    have hed : EdSt (G + 1 + 1) (wr.drewN nq) (G + 1) G n0 (SK l i k) T2 := (unhide HEk).below (below_drewN (Below.refl _ _) _)
                    obtain ⟨W5, e5⟩ : ∃ X, wr.drewN nq = X := ⟨_, rfl⟩
                    rw [e5] at hbd hed ⊢
                    have HB5 := hide hbd; have HE5 := hide hed
                    clear hbd hed e5 k0 k1 k2 k3 m0 m1 m2 m3
                    obtain ⟨k0, k1, k2, k3⟩ := unhide HCE _ (unhide HB5)
                    obtain ⟨m0, m1, m2, m3⟩ := unhide HCK _ (unhide HB5)
                    go_wp2_with (go_at_call 45; (with_reducible refine Calls.mono (unhide HADD _ (unhide HE5)) ?_); rintro e w6 ⟨rfl, he6, hb6⟩; have HE6 := hide he6; have HB6 := hide ((unhide HB5).trans hb6); obtain ⟨r0, r1, r2, r3⟩ := unhide HCE _ (unhide HB6); obtain ⟨s0, s1, s2, s3⟩ := unhide HCK _ (unhide HB6); clear he6 hb6)
                    go_roundw
                    case rel => exact ⟨k + 1, T2 + 1, by omega, by omega, by go_num, by omega, hide ((unhide HE6).congr (Nat.le_refl _) (fun a b _ _ => sk_yes (unhide HQ) a b)), HB6⟩
                    case measure => simp [intOf]; omega
                  · have x20 : (op2 == 20) = false := by simpa using h20
                    have HQ : Hid (¬ EL l i k) := fun q => by
                      rcases (unhide HEL).1 q with ⟨_, q, _⟩ | ⟨_, _, q⟩
                      · exact h18 q
                      · exact h20 q
                    clear h18 h19 h20
                    go_upto_region 12 with fail
                    go_quiet (fail)
                    have hbd : Below G w (wr.drewN nq) := below_drewN (unhide HBk) _
                    have hed : EdSt (G + 1 + 1) (wr.drewN nq) (G + 1) G n0 (SK l i k) T2 := (unhide HEk).below (below_drewN (Below.refl _ _) _)
                    obtain ⟨W5, e5⟩ : ∃ X, wr.drewN nq = X := ⟨_, rfl⟩
                    rw [e5] at hbd hed ⊢
                    have HB5 := hide hbd; have HE5 := hide hed
                    clear hbd hed e5 k0 k1 k2 k3 m0 m1 m2 m3
                    obtain ⟨k0, k1, k2, k3⟩ := unhide HCE _ (unhide HB5)
                    obtain ⟨m0, m1, m2, m3⟩ := unhide HCK _ (unhide HB5)
                    go_wp2_with fail
                    go_roundw
                    case rel => exact ⟨k + 1, T2, by omega, by omega, by go_num, by omega, hide ((unhide HE5).congr (Nat.le_refl _) (fun a b _ _ => sk_no (unhide HQ) a b)), HB5⟩
                    case measure => simp [intOf]; omega
                · have x19 : (op == 19) = false := by simpa using h19
                  have HQ : Hid (¬ EL l i k) := fun q => by
                    rcases (unhide HEL).1 q with ⟨_, q, _⟩ | ⟨_, q, _⟩
                    · exact h18 q
                    · exact h19 q
                  clear h18 h19
                  go_upto_region 12 with fail
                  go_quiet (fail)
                  have hbd : Below G w (wr.drewN nq) := below_drewN (unhide HBk) _
                  have hed : EdSt (G + 1 + 1) (wr.drewN nq) (G + 1) G n0 (SK l i k) T2 := (unhide HEk).below (below_drewN (Below.refl _ _) _)
                  obtain ⟨W5, e5⟩ : ∃ X, wr.drewN nq = X := ⟨_, rfl⟩
                  rw [e5] at hbd hed ⊢
                  have HB5 := hide hbd; have HE5 := hide hed
                  clear hbd hed e5 k0 k1 k2 k3 m0 m1 m2 m3
                  obtain ⟨k0, k1, k2, k3⟩ := unhide HCE _ (unhide HB5)
                  obtain ⟨m0, m1, m2, m3⟩ := unhide HCK _ (unhide HB5)
                  go_wp2_with fail
                  go_roundw
                  case rel => exact ⟨k + 1, T2, by omega, by omega, by go_num, by omega, hide ((unhide HE5).congr (Nat.le_refl _) (fun a b _ _ => sk_no (unhide HQ) a b)), HB5⟩
                  case measure => simp [intOf]; omega
            · have xo : (ob2 != ob) = true := by simpa using hob
              have HQ : Hid (¬ EL l i k) := fun q => by
                rcases (unhide HEL).1 q with ⟨q, _⟩ | ⟨q, _⟩
                · exact hob q.symm
                · exact hob q.symm
              clear hob
              go_upto_region 12 with fail
              go_quiet (fail)
              have hbd : Below G w (wr.drewN nq) := below_drewN (unhide HBk) _
              have hed : EdSt (G + 1 + 1) (wr.drewN nq) (G + 1) G n0 (SK l i k) T2 := (unhide HEk).below (below_drewN (Below.refl _ _) _)
              obtain ⟨W5, e5⟩ : ∃ X, wr.drewN nq = X := ⟨_, rfl⟩
              rw [e5] at hbd hed ⊢
              have HB5 := hide hbd; have HE5 := hide hed
              clear hbd hed e5 k0 k1 k2 k3 m0 m1 m2 m3
              obtain ⟨k0, k1, k2, k3⟩ := unhide HCE _ (unhide HB5)
              obtain ⟨m0, m1, m2, m3⟩ := unhide HCK _ (unhide HB5)
              go_wp2_with fail
              go_roundw
              case rel => exact ⟨k + 1, T2, by omega, by omega, by go_num, by omega, hide ((unhide HE5).congr (Nat.le_refl _) (fun a b _ _ => sk_no (unhide HQ) a b)), HB5⟩
              case measure => simp [intOf]; omega
          · obtain rfl : k = n0 := by omega
            have p1 : ¬ (k : Int) < (k : Int) := by omega
            go_wp2_with fail
            go_roundw
            case rel => exact ⟨i + 1, T2, by omega, by go_num, by omega, hide ((unhide HEk).congr (Nat.le_refl _) (fun a b hab hb => by rw [← unhide HLN] at hb ⊢; exact sk_end a b hb)), HBk⟩
            case measure => simp [intOf]; omega
    · obtain rfl : i = n0 := by omega
      have i1 : ¬ (i : Int) < (i : Int) := by omega
      go_wp2_with fail
      exact unhide HFIN _ _ _ _ _ _ _ _ _ _ _ _ _ _ _ _ _ _ _ _ _ _ _ _ _ _ _ _ _ _ _ _ _ _ _ _ _ _ _ _ _ _ _ _ _ _ _ _ _ _ _ _ _ _ _ _ _ _ _ _ _ _ _ _ _ _ _ _ _ _ _ _ _ _ _ _ _ _ _ _ _ _ _ _ _ _ _ _ _ _ _ _ _ _ _ _ _ _ _ _ _ _ _ _ _ _ _ _ _ _ _ _ _ _ _ _ _ _ _ _ _ _ _ _ _ _ _ _ _ _ _ _ _ _ _ _ _ _ _ _ _ _ _ _ _ _ _ _ _ _ _ _ _ _ _ _ _ _ _ _ _ _ _ _ _ _ _ _ _ _ _ _ _ _ _ _ _ _ _ _ _ _ _ _ _ _ _ _ _ _ _ _ _ _ _ _ _ _ _ _ _ _ _ _ _ _ _ _ _ _ _ _ _ _ _ _ _ _ _ _ _ _ _ _ _ _ _ _ _ _ _ _ _ _ _ wr T (by omega) (unhide HBi) ((unhide HEi).congr (Nat.le_refl _) (fun a b hab hb => ⟨fun q => q.2, fun q => ⟨by omega, q⟩⟩))
end Go.Proofs.Ytbnmeeabpjmcoaa
