/-
  taskmillref.Edges: a pipe's loop over events.
-/
import Derived.Test.YtbnmeeabpjmcoaaZg
namespace Go.Proofs.Ytbnmeeabpjmcoaa
open Go.RowKit

/-- The for statement that opens with the region n. -/
def forAt (n : Nat) : Code → Option (Code × Code)
  | .seq (.region id ops dr) (.block k b) => bif Nat.beq id n then some (.region id ops dr, .block k b) else forAt n b
  | .seq a b => (forAt n a).or (forAt n b)
  | .block _ b => forAt n b
  | .loop b => forAt n b
  | _ => none
/-- What a variable says of the last shut. -/
def ShIs (z : Int) (sh : Option Nat) : Prop := (sh = none ∧ z = -1) ∨ ∃ x : Nat, sh = some x ∧ z = (x : Int)
theorem EdgesAt.gl {lo : Nat} {w : World} {E G n : Nat} {vf : Nat → Value} {L : Nat → List Int} (h : EdgesAt lo w E G n vf L) : G < lo := h.rows.glo
theorem Tl.glo {lo : Nat} {w : World} {E G n T : Nat} {S : Nat → Nat → Prop} {vs vg : Value} {sl gl : List Int} (h : Tl lo w E G n S T vs sl vg gl) {v : Value} {zs : List Int} (ho : Own KI lo w v zs) (k : Nat) (hk : v.ownBlock = some k) : G < k := by
  obtain ⟨vf, L, h1, _⟩ := h
  exact Nat.lt_of_lt_of_le h1.gl (ho.lt k hk).1

set_option maxRecDepth 100000 in
set_option maxHeartbeats 4000000 in
theorem edges_pl1 (w : World) (a0 : Option Addr) (n0 c0 : Nat) (a1 : Option Addr) (n1 c1 : Nat) (l : List Ev) (hs : List Int) (hl : IsL KE w (.slice a0 n0 c0) l) (hg : GoodT hs l) (Wt : World) (G : Nat) (hwG : w.heap.size ≤ G) (hX : Below G w Wt) (p : Nat) (S : Nat → Nat → Prop) (T : Nat) (hT : T ≤ 90000000) (hTl : Tl (G + 1 + 1) Wt (G + 1) G n0 S T (.slice none 0 0) [] (.slice none 0 0) [])
    {s2 s3 s7 s8 s13 s14 s15 s16 s17 s18 s19 s20 s21 s22 s23 s24 s25 s26 s27 s28 s29 s30 s31 s32 s33 s34 s35 s36 s37 s38 s39 s40 s41 s42 s43 s44 s45 s46 s47 s48 s49 s50 s51 s52 s53 s54 s55 s56 s57 s58 s59 s60 s61 s62 s63 s64 s65 s66 s67 s68 s69 s70 s71 s72 s73 s74 s75 s76 s77 s78 s79 s80 s81 s82 s83 s84 s85 s86 s87 s88 s89 s90 s91 s92 s93 s94 s95 s96 s97 s98 s99 s100 s101 s102 s103 s104 s105 s106 s107 s108 s109 s110 s111 s112 s113 s114 s115 s116 s117 s118 s119 s120 s121 s122 s123 s124 s125 s126 s127 s128 s129 s130 s131 s132 s133 s134 s135 s136 s137 s138 s139 s140 s141 s142 s143 s144 s145 s146 s147 s148 s149 s150 s151 s152 s153 s154 s155 s156 s157 s158 s159 s160 s161 s162 s163 s164 s165 s166 s167 s168 s169 s170 s171 s172 s173 s174 s175 s176 s177 s178 s179 s180 s181 s182 s183 s184 s185 s186 s187 s188 s189 s190 s191 s192 s193 s194 s195 s196 s197 s198 s199 s200 s201 s202 s203 s204 s205 s206 s207 s208 s209 s210 s211 s212 s213 s214 s215 s216 s217 s218 s219 s220 s221 s222 s223 s224 s225 s226 s227 s228 s229 s230 s231 s232 s233 s234 s235 s236 s237 s238 s239 : Value} (K1 : Act → World → Prop) (Q : Exit → Act → World → Prop) (x y : Code) (hK1 : ∀ a w', y.wp Try.prog Q a w' → K1 a w') (hcut : Try.f36.body.bind (forAt 22) = some (x, y))
    (hfin : ∀ (s13 s130 s131 s132 s133 s134 s135 s136 s137 s138 s139 s140 s141 s142 s143 s144 s145 s146 s147 s148 s149 s150 s151 s152 s153 s154 s155 s156 s157 s158 s159 s160 s161 s162 s163 s164 s165 s166 s167 s168 s169 s170 s171 s172 s173 : Value) (a10 : Option Addr) (m10 k10 : Nat) (a11 : Option Addr) (m11 k11 : Nat) (z : Int) (W : World) (T2 : Nat), T2 ≤ T + n0 → (pix l (p : Int) n0).sends.length = m10 → (pix l (p : Int) n0).gets.length = m11 → Tl (G + 1 + 1) W (G + 1) G n0 (SP S l (p : Int) n0) T2 (.slice a10 m10 k10) (ixL (pix l (p : Int) n0).sends) (.slice a11 m11 k11) (ixL (pix l (p : Int) n0).gets) → Below G w W → Q .normal { tmps := (.slice a0 n0 c0 :: .slice a1 n1 c1 :: s2 :: s3 :: .slice none 0 0 :: .pointer (some ⟨G + 1, 0, none⟩) :: .func (.func 45) #[] #[.pointer (some ⟨G + 1, 0, none⟩)] :: s7 :: s8 :: .int .i64 (p : Int) :: .slice a10 m10 k10 :: .slice a11 m11 k11 :: .int .i64 z :: s13 :: s14 :: s15 :: s16 :: s17 :: s18 :: s19 :: s20 :: s21 :: s22 :: s23 :: s24 :: s25 :: s26 :: s27 :: s28 :: s29 :: s30 :: s31 :: s32 :: s33 :: s34 :: s35 :: s36 :: s37 :: s38 :: s39 :: s40 :: s41 :: s42 :: s43 :: s44 :: s45 :: s46 :: s47 :: s48 :: s49 :: s50 :: s51 :: s52 :: s53 :: s54 :: s55 :: s56 :: s57 :: s58 :: s59 :: s60 :: s61 :: s62 :: s63 :: s64 :: s65 :: s66 :: s67 :: s68 :: s69 :: s70 :: s71 :: s72 :: s73 :: s74 :: s75 :: s76 :: s77 :: s78 :: s79 :: s80 :: s81 :: s82 :: s83 :: s84 :: s85 :: s86 :: s87 :: s88 :: s89 :: s90 :: s91 :: s92 :: s93 :: s94 :: s95 :: s96 :: s97 :: s98 :: s99 :: s100 :: s101 :: s102 :: s103 :: s104 :: s105 :: s106 :: s107 :: s108 :: s109 :: s110 :: s111 :: s112 :: s113 :: s114 :: s115 :: s116 :: s117 :: s118 :: s119 :: s120 :: s121 :: s122 :: s123 :: s124 :: s125 :: s126 :: s127 :: s128 :: s129 :: s130 :: s131 :: s132 :: s133 :: s134 :: s135 :: s136 :: s137 :: s138 :: s139 :: s140 :: s141 :: s142 :: s143 :: s144 :: s145 :: s146 :: s147 :: s148 :: s149 :: s150 :: s151 :: s152 :: s153 :: s154 :: s155 :: s156 :: s157 :: s158 :: s159 :: s160 :: s161 :: s162 :: s163 :: s164 :: s165 :: s166 :: s167 :: s168 :: s169 :: s170 :: s171 :: s172 :: s173 :: s174 :: s175 :: s176 :: s177 :: s178 :: s179 :: s180 :: s181 :: s182 :: s183 :: s184 :: s185 :: s186 :: s187 :: s188 :: s189 :: s190 :: s191 :: s192 :: s193 :: s194 :: s195 :: s196 :: s197 :: s198 :: s199 :: s200 :: s201 :: s202 :: s203 :: s204 :: s205 :: s206 :: s207 :: s208 :: s209 :: s210 :: s211 :: s212 :: s213 :: s214 :: s215 :: s216 :: s217 :: s218 :: s219 :: s220 :: s221 :: s222 :: s223 :: s224 :: s225 :: s226 :: s227 :: s228 :: s229 :: s230 :: s231 :: s232 :: s233 :: s234 :: s235 :: s236 :: s237 :: s238 :: s239 :: []).toArray, defers := [] } W) :
    x.wp Try.prog (Exit.then K1 Q) { tmps := (.slice a0 n0 c0 :: .slice a1 n1 c1 :: s2 :: s3 :: .slice none 0 0 :: .pointer (some ⟨G + 1, 0, none⟩) :: .func (.func 45) #[] #[.pointer (some ⟨G + 1, 0, none⟩)] :: s7 :: s8 :: .int .i64 (p : Int) :: .slice none 0 0 :: .slice none 0 0 :: .int .i64 (-1) :: s13 :: s14 :: s15 :: s16 :: s17 :: s18 :: s19 :: s20 :: s21 :: s22 :: s23 :: s24 :: s25 :: s26 :: s27 :: s28 :: s29 :: s30 :: s31 :: s32 :: s33 :: s34 :: s35 :: s36 :: s37 :: s38 :: s39 :: s40 :: s41 :: s42 :: s43 :: s44 :: s45 :: s46 :: s47 :: s48 :: s49 :: s50 :: s51 :: s52 :: s53 :: s54 :: s55 :: s56 :: s57 :: s58 :: s59 :: s60 :: s61 :: s62 :: s63 :: s64 :: s65 :: s66 :: s67 :: s68 :: s69 :: s70 :: s71 :: s72 :: s73 :: s74 :: s75 :: s76 :: s77 :: s78 :: s79 :: s80 :: s81 :: s82 :: s83 :: s84 :: s85 :: s86 :: s87 :: s88 :: s89 :: s90 :: s91 :: s92 :: s93 :: s94 :: s95 :: s96 :: s97 :: s98 :: s99 :: s100 :: s101 :: s102 :: s103 :: s104 :: s105 :: s106 :: s107 :: s108 :: s109 :: s110 :: s111 :: s112 :: s113 :: s114 :: s115 :: s116 :: s117 :: s118 :: s119 :: s120 :: s121 :: s122 :: s123 :: s124 :: s125 :: s126 :: s127 :: s128 :: s129 :: s130 :: s131 :: s132 :: s133 :: s134 :: s135 :: s136 :: s137 :: s138 :: s139 :: s140 :: s141 :: s142 :: s143 :: s144 :: s145 :: s146 :: s147 :: s148 :: s149 :: s150 :: s151 :: s152 :: s153 :: s154 :: s155 :: s156 :: s157 :: s158 :: s159 :: s160 :: s161 :: s162 :: s163 :: s164 :: s165 :: s166 :: s167 :: s168 :: s169 :: s170 :: s171 :: s172 :: s173 :: s174 :: s175 :: s176 :: s177 :: s178 :: s179 :: s180 :: s181 :: s182 :: s183 :: s184 :: s185 :: s186 :: s187 :: s188 :: s189 :: s190 :: s191 :: s192 :: s193 :: s194 :: s195 :: s196 :: s197 :: s198 :: s199 :: s200 :: s201 :: s202 :: s203 :: s204 :: s205 :: s206 :: s207 :: s208 :: s209 :: s210 :: s211 :: s212 :: s213 :: s214 :: s215 :: s216 :: s217 :: s218 :: s219 :: s220 :: s221 :: s222 :: s223 :: s224 :: s225 :: s226 :: s227 :: s228 :: s229 :: s230 :: s231 :: s232 :: s233 :: s234 :: s235 :: s236 :: s237 :: s238 :: s239 :: []).toArray, defers := [] } Wt := by
  have hcc : Try.f36.body.bind (forAt 22) = some (_, _) := rfl
  rw [hcc] at hcut
  cases hcut
  clear hcc
  have hln := hl.len
  have hn : n0 ≤ 2000 := by rw [← hln]; exact hg.n
  have HTR := hide (hl.opens ke hln)
  have HLN := hide hln
  have HX := hide hX
  have HTL : Hid (Tl (G + 1 + 1) Wt (G + 1) G n0 (SP S l (p : Int) 0) T (.slice none 0 0) (ixL (pix l (p : Int) 0).sends) (.slice none 0 0) (ixL (pix l (p : Int) 0).gets)) := hTl.congr (Nat.le_refl _) (fun a b _ _ => sp_zero a b)
  have HFIN := hide hfin
  have HGT := hide hg
  clear hl hX hTl hln hfin hg
  go_wp2_with fail
  go_loopw [10, 11, 12, 13] (fun s10 s11 s12 s13 wr => ∃ (i T2 : Nat) (a10 : Option Addr) (m10 k10 : Nat) (a11 : Option Addr) (m11 k11 : Nat) (z : Int), i ≤ n0 ∧ s13 = .int .i64 (i : Int) ∧ s10 = .slice a10 m10 k10 ∧ s11 = .slice a11 m11 k11 ∧ s12 = .int .i64 z ∧ T2 ≤ T + i ∧ Hid ((pix l (p : Int) i).sends.length = m10) ∧ Hid ((pix l (p : Int) i).gets.length = m11) ∧ Hid (ShIs z (pix l (p : Int) i).shut) ∧ Hid (Tl (G + 1 + 1) wr (G + 1) G n0 (SP S l (p : Int) i) T2 (.slice a10 m10 k10) (ixL (pix l (p : Int) i).sends) (.slice a11 m11 k11) (ixL (pix l (p : Int) i).gets)) ∧ Hid (Below G w wr)) (fun _ _ _ s _ => n0 - (intOf s).toNat)
  case atStart => exact ⟨0, T, none, 0, 0, none, 0, 0, -1, Nat.zero_le _, rfl, rfl, rfl, rfl, Nat.le_refl _, hide rfl, hide rfl, Or.inl ⟨rfl, rfl⟩, HTL, HX⟩
  case round =>
    obtain ⟨i, T2, a10, m10, k10, a11, m11, k11, z, hi, rfl, rfl, rfl, rfl, hT2, HM10, HM11, HSH, HTi, HBi⟩ := hrel
    clear HTL HX
    have hm10 : m10 ≤ i := by rw [← unhide HM10]; exact pix_len_i l _ i
    have hm11 : m11 ≤ m10 := by rw [← unhide HM10, ← unhide HM11]; exact pix_len l _ i
    by_cases hlt : i < n0
    · have i0 : (0 : Int) ≤ (i : Int) := by omega
      have i1 : (i : Int) < (n0 : Int) := by omega
      have hw1 : IntKind.i64.wrap ((i : Int) + 1) = (i : Int) + 1 := wrapi (by omega) (by omega)
      obtain ⟨tb, tof, rfl, htb, hli⟩ := unhide HTR (by omega)
      obtain ⟨⟨tk, op, ob, vl⟩, ex⟩ : ∃ X, l.getD i ev0 = X := ⟨_, rfl⟩
      have hcl : ∀ W, Below G w W → W.cell? ⟨tb, tof + i * 4, none⟩ = some (.int .i64 tk) ∧ W.cell? ⟨tb, tof + i * 4 + 1, none⟩ = some (.int .i64 op) ∧ W.cell? ⟨tb, tof + i * 4 + 2, none⟩ = some (.int .i64 ob) ∧ W.cell? ⟨tb, tof + i * 4 + 3, none⟩ = some (.int .i64 vl) := fun W hW => (hli.below (hW.mono (Nat.le_refl _)) (Nat.lt_of_lt_of_le htb hwG)).ev (j := i) (by rw [unhide HLN]; exact hlt) ex
      obtain ⟨k0, k1, k2, k3⟩ := hcl _ (unhide HBi)
      have HCE := hide hcl
      have HOB := hide (show (l.getD i ev0).obj = ob by rw [ex])
      have HOPX := hide (show (l.getD i ev0).op = op by rw [ex])
      clear hli ex hcl
      have HNO := fun h => (unhide HTi).congr (S' := SP S l (p : Int) (i + 1)) (Nat.le_refl _) (fun a b _ _ => sp_no h a b)
      have HNO := hide HNO
      by_cases ho : ob = (p : Int)
      · subst ho
        have xo : ((p : Int) != (p : Int)) = false := by simp
        by_cases h14 : op = 14
        · subst h14
          have HPX := hide (pix_at_send (unhide HOB) (unhide HOPX))
          have HT1 := hide (unhide HNO (fun q => by have h_ := q.2.1; rw [unhide HOPX] at h_; omega))
          obtain ⟨W6, e6⟩ : ∃ X, wr.alloc (.cells #[.int .i64 (i : Int)] 3) = X := ⟨_, rfl⟩
          have hb6 : Below wr.heap.size wr W6 := by rw [← e6]; exact (Below.refl wr.heap.size wr).alloc (Nat.le_refl _) (.cells #[.int .i64 (i : Int)] 3)
          have HTP := hide ((unhide HT1).below hb6)
          have HBP := hide ((unhide HBi).trans (hb6.mono (Nat.le_of_lt (unhide HTi).lt)))
          have HOP := hide (unhide HTP).sends
          have HIP : Hid (IsL KI W6 (.slice (some ⟨wr.heap.size, 0, none⟩) 1 1) [(i : Int)]) := by rw [← e6]; exact isl_one ki wr (i : Int)
          go_upto_region 28 with fail
          go_wp2_with (first | (rw [e6]; clear hb6 e6; (at_builtin; refine wpList_append2 ki rfl (.tmp 150) (.tmp 152) rfl (G + 1 + 1) _ (ixL (pix l (p : Int) i).sends) rfl (unhide HOP) _ [(i : Int)] rfl (unhide HIP) (m10 + 1) (by rw [ixL_len, unhide HM10]; rfl) (by show (m10 + 1) * 8 ≤ 140737488355328; omega) (unhide HTP).le ?_; intro a7 c7 w7 ho7 hg7 hl7; have HT7 := hide ((unhide HTP).send ho7 hg7 hl7); have HB7 := hide ((unhide HBP).grown hg7 (by have h_ := (unhide HTP).lt; omega) (fun k hk => by have h_ := (unhide HTP).glo (unhide HOP) k hk; omega)); clear ho7 hg7 hl7)) | (at_builtin; refine wpList_append2 ki rfl (.tmp 150) (.tmp 152) rfl (G + 1 + 1) _ (ixL (pix l (p : Int) i).sends) rfl (unhide HOP) _ [(i : Int)] rfl (unhide HIP) (m10 + 1) (by rw [ixL_len, unhide HM10]; rfl) (by show (m10 + 1) * 8 ≤ 140737488355328; omega) (unhide HTP).le ?_; intro a7 c7 w7 ho7 hg7 hl7; have HT7 := hide ((unhide HTP).send ho7 hg7 hl7); have HB7 := hide ((unhide HBP).grown hg7 (by have h_ := (unhide HTP).lt; omega) (fun k hk => by have h_ := (unhide HTP).glo (unhide HOP) k hk; omega)); clear ho7 hg7 hl7))
          go_roundw
          case rel => exact ⟨i + 1, T2, a7, m10 + 1, c7, a11, m11, k11, z, by omega, by go_num, rfl, rfl, rfl, by omega, hide (by rw [unhide HPX]; simp [unhide HM10]), hide (by rw [unhide HPX]; exact unhide HM11), hide (by rw [unhide HPX]; exact unhide HSH), hide (by rw [unhide HPX, ixL_add]; exact unhide HT7), HB7⟩
          case measure => simp [intOf]; omega
        · have x14 : (op == 14) = false := by simpa using h14
          by_cases h16 : op = 16
          · subst h16
            have HPX := hide (pix_at_shut (unhide HOB) (unhide HOPX))
            have HT1 := hide (unhide HNO (fun q => by have h_ := q.2.1; rw [unhide HOPX] at h_; omega))
            go_wp2_with fail
            go_roundw
            case rel => exact ⟨i + 1, T2, a10, m10, k10, a11, m11, k11, (i : Int), by omega, by go_num, rfl, rfl, rfl, by omega, hide (by rw [unhide HPX]; exact unhide HM10), hide (by rw [unhide HPX]; exact unhide HM11), Or.inr ⟨i, by rw [unhide HPX], rfl⟩, hide (by rw [unhide HPX]; exact unhide HT1), HBi⟩
            case measure => simp [intOf]; omega
          · have x16 : (op == 16) = false := by simpa using h16
            by_cases h15 : op = 15
            · subst h15
              by_cases hq : m11 = m10
              · have xq : ((m11 : Int) == (m10 : Int)) = true := by simp [hq]
                have HQ := hide hq
                have HPX := hide (pix_at_got (unhide HOB) (unhide HOPX) (by rw [unhide HM10, unhide HM11]; exact hq))
                clear hq
                rcases unhide HSH with ⟨hs1, rfl⟩ | ⟨y, hs1, rfl⟩
                · have hz : ¬ (0 : Int) ≤ -1 := by decide
                  have HT1 := hide (unhide HNO (fun q => q.2.2.2 hs1))
                  clear hs1
                  go_wp2_with fail
                  go_roundw
                  case rel => exact ⟨i + 1, T2, a10, m10, k10, a11, m11, k11, -1, by omega, by go_num, rfl, rfl, rfl, by omega, hide (by rw [unhide HPX]; exact unhide HM10), hide (by rw [unhide HPX]; exact unhide HM11), hide (by rw [unhide HPX]; exact unhide HSH), hide (by rw [unhide HPX]; exact unhide HT1), HBi⟩
                  case measure => simp [intOf]; omega
                · have hz : (0 : Int) ≤ (y : Int) := by omega
                  have HY := hide hs1
                  have hy : y < n0 := Nat.lt_trans (pix_shut hs1).1 hlt
                  clear hs1
                  go_wp2_with (go_at_call 45; (with_reducible refine Calls.mono (tl_add (unhide HTi) y (i : Int) hy i1 hn (by omega)) ?_); rintro e w6 ⟨rfl, he6, hb6⟩; have HE6 := hide he6; have HB6 := hide ((unhide HBi).trans hb6); obtain ⟨r0, r1, r2, r3⟩ := unhide HCE _ (unhide HB6); clear he6 hb6)
                  go_roundw
                  case rel => exact ⟨i + 1, T2 + 1, a10, m10, k10, a11, m11, k11, (y : Int), by omega, by go_num, rfl, rfl, rfl, by omega, hide (by rw [unhide HPX]; exact unhide HM10), hide (by rw [unhide HPX]; exact unhide HM11), hide (by rw [unhide HPX]; exact unhide HSH), hide (by rw [unhide HPX]; exact (unhide HE6).congr (Nat.le_refl _) (fun a b _ _ => sp_yes (unhide HOB) (unhide HOPX) (by rw [unhide HM10, unhide HM11]; exact unhide HQ) (unhide HY) a b)), HB6⟩
                  case measure => simp [intOf]; omega
              · have xq : ((m11 : Int) == (m10 : Int)) = false := by simp; omega
                have HPX := hide (pix_at_get (unhide HOB) (unhide HOPX) (by rw [unhide HM10, unhide HM11]; exact hq))
                have HT1 := hide (unhide HNO (fun q => by have h_ := q.2.2.1; rw [unhide HM10, unhide HM11] at h_; exact hq h_))
                obtain ⟨W6, e6⟩ : ∃ X, wr.alloc (.cells #[.int .i64 (i : Int)] 3) = X := ⟨_, rfl⟩
                have hb6 : Below wr.heap.size wr W6 := by rw [← e6]; exact (Below.refl wr.heap.size wr).alloc (Nat.le_refl _) (.cells #[.int .i64 (i : Int)] 3)
                have HTP := hide ((unhide HT1).below hb6)
                have HBP := hide ((unhide HBi).trans (hb6.mono (Nat.le_of_lt (unhide HTi).lt)))
                have HOP := hide (unhide HTP).gets
                have HIP : Hid (IsL KI W6 (.slice (some ⟨wr.heap.size, 0, none⟩) 1 1) [(i : Int)]) := by rw [← e6]; exact isl_one ki wr (i : Int)
                clear hq
                go_upto_region 35 with fail
                go_wp2_with (first | (rw [e6]; clear hb6 e6; (at_builtin; refine wpList_append2 ki rfl (.tmp 170) (.tmp 172) rfl (G + 1 + 1) _ (ixL (pix l (p : Int) i).gets) rfl (unhide HOP) _ [(i : Int)] rfl (unhide HIP) (m11 + 1) (by rw [ixL_len, unhide HM11]; rfl) (by show (m11 + 1) * 8 ≤ 140737488355328; omega) (unhide HTP).le ?_; intro a7 c7 w7 ho7 hg7 hl7; have HT7 := hide ((unhide HTP).get ho7 hg7 hl7); have HB7 := hide ((unhide HBP).grown hg7 (by have h_ := (unhide HTP).lt; omega) (fun k hk => by have h_ := (unhide HTP).glo (unhide HOP) k hk; omega)); clear ho7 hg7 hl7)) | (at_builtin; refine wpList_append2 ki rfl (.tmp 170) (.tmp 172) rfl (G + 1 + 1) _ (ixL (pix l (p : Int) i).gets) rfl (unhide HOP) _ [(i : Int)] rfl (unhide HIP) (m11 + 1) (by rw [ixL_len, unhide HM11]; rfl) (by show (m11 + 1) * 8 ≤ 140737488355328; omega) (unhide HTP).le ?_; intro a7 c7 w7 ho7 hg7 hl7; have HT7 := hide ((unhide HTP).get ho7 hg7 hl7); have HB7 := hide ((unhide HBP).grown hg7 (by have h_ := (unhide HTP).lt; omega) (fun k hk => by have h_ := (unhide HTP).glo (unhide HOP) k hk; omega)); clear ho7 hg7 hl7))
                go_roundw
                case rel => exact ⟨i + 1, T2, a10, m10, k10, a7, m11 + 1, c7, z, by omega, by go_num, rfl, rfl, rfl, by omega, hide (by rw [unhide HPX]; exact unhide HM10), hide (by rw [unhide HPX]; simp [unhide HM11]), hide (by rw [unhide HPX]; exact unhide HSH), hide (by rw [unhide HPX, ixL_add]; exact unhide HT7), HB7⟩
                case measure => simp [intOf]; omega
            · have x15 : (op == 15) = false := by simpa using h15
              have HPX := hide (pix_same (p := (p : Int)) (by rw [unhide HOPX]; exact h14) (by rw [unhide HOPX]; exact h15) (by rw [unhide HOPX]; exact h16))
              have HT1 := hide (unhide HNO (fun q => by have h_ := q.2.1; rw [unhide HOPX] at h_; exact h15 h_))
              clear h14 h15 h16
              go_wp2_with fail
              go_roundw
              case rel => exact ⟨i + 1, T2, a10, m10, k10, a11, m11, k11, z, by omega, by go_num, rfl, rfl, rfl, by omega, hide (by rw [unhide HPX]; exact unhide HM10), hide (by rw [unhide HPX]; exact unhide HM11), hide (by rw [unhide HPX]; exact unhide HSH), hide (by rw [unhide HPX]; exact unhide HT1), HBi⟩
              case measure => simp [intOf]; omega
      · have xo : (ob != (p : Int)) = true := by simpa using ho
        have HPX := hide (pix_other (p := (p : Int)) (by rw [unhide HOB]; exact ho))
        have HT1 := hide (unhide HNO (fun q => by have h_ := q.1; rw [unhide HOB] at h_; exact ho h_))
        clear ho
        go_wp2_with fail
        go_roundw
        case rel => exact ⟨i + 1, T2, a10, m10, k10, a11, m11, k11, z, by omega, by go_num, rfl, rfl, rfl, by omega, hide (by rw [unhide HPX]; exact unhide HM10), hide (by rw [unhide HPX]; exact unhide HM11), hide (by rw [unhide HPX]; exact unhide HSH), hide (by rw [unhide HPX]; exact unhide HT1), HBi⟩
        case measure => simp [intOf]; omega
    · obtain rfl : i = n0 := by omega
      have i1 : ¬ (i : Int) < (i : Int) := by omega
      go_wp2_with fail
      exact unhide HFIN _ _ _ _ _ _ _ _ _ _ _ _ _ _ _ _ _ _ _ _ _ _ _ _ _ _ _ _ _ _ _ _ _ _ _ _ _ _ _ _ _ _ _ _ _ a10 m10 k10 a11 m11 k11 z wr T2 hT2 (unhide HM10) (unhide HM11) (unhide HTi) (unhide HBi)
end Go.Proofs.Ytbnmeeabpjmcoaa
