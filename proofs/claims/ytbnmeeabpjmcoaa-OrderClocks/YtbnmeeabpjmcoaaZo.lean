/-
  taskmilllaw.OrderClocks: its loops.
-/
import Derived.Test.YtbnmeeabpjmcoaaZn
namespace Go.Proofs.Ytbnmeeabpjmcoaa
open Go.RowKit

set_option maxRecDepth 100000 in
set_option maxHeartbeats 4000000 in
theorem oc_most (w : World) (a0 : Option Addr) (n0 c0 : Nat) (a1 : Option Addr) (n1 c1 : Nat) (l : List Ev) (_hs : List Int) (hl : IsL KE w (.slice a0 n0 c0) l) (Wt : World) (hX : Below w.heap.size w Wt) (hn : n0 ≤ 2000)
    {s2 s3 s4 s5 s6 s7 s8 s9 s10 s11 s12 s13 s14 s15 s16 s17 s18 s20 s21 s22 s23 s24 s25 s26 s27 s28 s29 s30 s31 s32 s33 s34 s35 s36 s37 s38 s39 s40 s41 s42 s43 s44 s45 s46 s47 s48 s49 s50 s51 s52 s53 s54 s55 s56 s57 s58 s59 s60 s61 s62 s63 s64 s65 s66 s67 s68 s69 s70 s71 s72 s73 s74 s75 s76 s77 s78 s79 s80 s81 s82 s83 s84 s85 s86 s87 s88 s89 s90 s91 s92 s93 s94 s95 s96 s97 s98 s99 s100 s101 s102 s103 s104 s105 s106 s107 s108 s109 s110 s111 s112 s113 s114 s115 s116 s117 s118 s119 s120 s121 s122 s123 s124 s125 s126 s127 s128 s129 s130 s131 s132 s133 s134 s135 s136 s137 s138 s139 s140 s141 s142 s143 s144 s145 s146 s147 s148 s149 s150 s151 s152 s153 s154 s155 s156 s157 s158 s159 s160 s161 s162 s163 s164 s165 s166 s167 s168 s169 s170 s171 s172 s173 s174 s175 s176 s177 s178 s179 s180 s181 s182 s183 s184 s185 s186 s187 s188 s189 s190 s191 s192 s193 s194 s195 s196 s197 s198 s199 s200 s201 s202 s203 s204 s205 s206 s207 s208 s209 s210 s211 s212 s213 s214 s215 s216 s217 s218 s219 s220 s221 s222 s223 s224 s225 s226 s227 s228 s229 s230 s231 s232 s233 s234 s235 s236 s237 s238 s239 s240 s241 s242 s243 s244 s245 : Value} (K1 : Act → World → Prop) (Q : Exit → Act → World → Prop) (x y : Code) (hK1 : ∀ a w', y.wp Try.prog Q a w' → K1 a w') (hcut : Try.f3.body.bind (forAt 23) = some (x, y))
    (hfin : ∀ (s20 s141 s142 s143 s144 s145 s146 s147 s148 s149 s150 s151 s152 s153 s154 s155 s156 s157 s158 s159 s160 s161 s162 s163 s164 s165 s166 s167 s168 s169 s170 s171 s172 s173 s174 s175 s176 s177 s178 : Value) (W : World), Below w.heap.size w W → Below Wt.heap.size Wt W → Q .normal { tmps := (.slice a0 n0 c0 :: .slice a1 n1 c1 :: s2 :: s3 :: s4 :: s5 :: s6 :: s7 :: s8 :: s9 :: s10 :: s11 :: s12 :: s13 :: s14 :: s15 :: s16 :: s17 :: s18 :: .int .i64 (lastL l) :: s20 :: s21 :: s22 :: s23 :: s24 :: s25 :: s26 :: s27 :: s28 :: s29 :: s30 :: s31 :: s32 :: s33 :: s34 :: s35 :: s36 :: s37 :: s38 :: s39 :: s40 :: s41 :: s42 :: s43 :: s44 :: s45 :: s46 :: s47 :: s48 :: s49 :: s50 :: s51 :: s52 :: s53 :: s54 :: s55 :: s56 :: s57 :: s58 :: s59 :: s60 :: s61 :: s62 :: s63 :: s64 :: s65 :: s66 :: s67 :: s68 :: s69 :: s70 :: s71 :: s72 :: s73 :: s74 :: s75 :: s76 :: s77 :: s78 :: s79 :: s80 :: s81 :: s82 :: s83 :: s84 :: s85 :: s86 :: s87 :: s88 :: s89 :: s90 :: s91 :: s92 :: s93 :: s94 :: s95 :: s96 :: s97 :: s98 :: s99 :: s100 :: s101 :: s102 :: s103 :: s104 :: s105 :: s106 :: s107 :: s108 :: s109 :: s110 :: s111 :: s112 :: s113 :: s114 :: s115 :: s116 :: s117 :: s118 :: s119 :: s120 :: s121 :: s122 :: s123 :: s124 :: s125 :: s126 :: s127 :: s128 :: s129 :: s130 :: s131 :: s132 :: s133 :: s134 :: s135 :: s136 :: s137 :: s138 :: s139 :: s140 :: s141 :: s142 :: s143 :: s144 :: s145 :: s146 :: s147 :: s148 :: s149 :: s150 :: s151 :: s152 :: s153 :: s154 :: s155 :: s156 :: s157 :: s158 :: s159 :: s160 :: s161 :: s162 :: s163 :: s164 :: s165 :: s166 :: s167 :: s168 :: s169 :: s170 :: s171 :: s172 :: s173 :: s174 :: s175 :: s176 :: s177 :: s178 :: s179 :: s180 :: s181 :: s182 :: s183 :: s184 :: s185 :: s186 :: s187 :: s188 :: s189 :: s190 :: s191 :: s192 :: s193 :: s194 :: s195 :: s196 :: s197 :: s198 :: s199 :: s200 :: s201 :: s202 :: s203 :: s204 :: s205 :: s206 :: s207 :: s208 :: s209 :: s210 :: s211 :: s212 :: s213 :: s214 :: s215 :: s216 :: s217 :: s218 :: s219 :: s220 :: s221 :: s222 :: s223 :: s224 :: s225 :: s226 :: s227 :: s228 :: s229 :: s230 :: s231 :: s232 :: s233 :: s234 :: s235 :: s236 :: s237 :: s238 :: s239 :: s240 :: s241 :: s242 :: s243 :: s244 :: s245 :: []).toArray, defers := [] } W) :
    x.wp Try.prog (Exit.then K1 Q) { tmps := (.slice a0 n0 c0 :: .slice a1 n1 c1 :: s2 :: s3 :: s4 :: s5 :: s6 :: s7 :: s8 :: s9 :: s10 :: s11 :: s12 :: s13 :: s14 :: s15 :: s16 :: s17 :: s18 :: .int .i64 0 :: s20 :: s21 :: s22 :: s23 :: s24 :: s25 :: s26 :: s27 :: s28 :: s29 :: s30 :: s31 :: s32 :: s33 :: s34 :: s35 :: s36 :: s37 :: s38 :: s39 :: s40 :: s41 :: s42 :: s43 :: s44 :: s45 :: s46 :: s47 :: s48 :: s49 :: s50 :: s51 :: s52 :: s53 :: s54 :: s55 :: s56 :: s57 :: s58 :: s59 :: s60 :: s61 :: s62 :: s63 :: s64 :: s65 :: s66 :: s67 :: s68 :: s69 :: s70 :: s71 :: s72 :: s73 :: s74 :: s75 :: s76 :: s77 :: s78 :: s79 :: s80 :: s81 :: s82 :: s83 :: s84 :: s85 :: s86 :: s87 :: s88 :: s89 :: s90 :: s91 :: s92 :: s93 :: s94 :: s95 :: s96 :: s97 :: s98 :: s99 :: s100 :: s101 :: s102 :: s103 :: s104 :: s105 :: s106 :: s107 :: s108 :: s109 :: s110 :: s111 :: s112 :: s113 :: s114 :: s115 :: s116 :: s117 :: s118 :: s119 :: s120 :: s121 :: s122 :: s123 :: s124 :: s125 :: s126 :: s127 :: s128 :: s129 :: s130 :: s131 :: s132 :: s133 :: s134 :: s135 :: s136 :: s137 :: s138 :: s139 :: s140 :: s141 :: s142 :: s143 :: s144 :: s145 :: s146 :: s147 :: s148 :: s149 :: s150 :: s151 :: s152 :: s153 :: s154 :: s155 :: s156 :: s157 :: s158 :: s159 :: s160 :: s161 :: s162 :: s163 :: s164 :: s165 :: s166 :: s167 :: s168 :: s169 :: s170 :: s171 :: s172 :: s173 :: s174 :: s175 :: s176 :: s177 :: s178 :: s179 :: s180 :: s181 :: s182 :: s183 :: s184 :: s185 :: s186 :: s187 :: s188 :: s189 :: s190 :: s191 :: s192 :: s193 :: s194 :: s195 :: s196 :: s197 :: s198 :: s199 :: s200 :: s201 :: s202 :: s203 :: s204 :: s205 :: s206 :: s207 :: s208 :: s209 :: s210 :: s211 :: s212 :: s213 :: s214 :: s215 :: s216 :: s217 :: s218 :: s219 :: s220 :: s221 :: s222 :: s223 :: s224 :: s225 :: s226 :: s227 :: s228 :: s229 :: s230 :: s231 :: s232 :: s233 :: s234 :: s235 :: s236 :: s237 :: s238 :: s239 :: s240 :: s241 :: s242 :: s243 :: s244 :: s245 :: []).toArray, defers := [] } Wt := by
  have hcc : Try.f3.body.bind (forAt 23) = some (_, _) := rfl
  rw [hcc] at hcut
  cases hcut
  clear hcc
  have hln := hl.len
  have HTR := hide (hl.opens ke hln)
  have HLN := hide hln
  have HX := hide hX
  have HXT := hide (Below.refl Wt.heap.size Wt)
  have HFIN := hide hfin
  clear hl hX hln hfin
  go_wp2_with fail
  go_loopw [19, 20] (fun s19 s20 wr => ∃ (a : Nat) (z : Int), a ≤ n0 ∧ s20 = .int .i64 (a : Int) ∧ s19 = .int .i64 z ∧ Hid (lastL (l.take a) = z) ∧ Hid (Below w.heap.size w wr) ∧ Hid (Below Wt.heap.size Wt wr)) (fun _ s _ => n0 - (intOf s).toNat)
  case atStart => exact ⟨0, 0, Nat.zero_le _, rfl, rfl, by show _ = _; rw [List.take_zero]; rfl, HX, HXT⟩
  case round =>
    obtain ⟨a, z, ha, rfl, rfl, HM, HBa, HBt⟩ := hrel
    clear HX HXT
    by_cases hlt : a < n0
    · have i0 : (0 : Int) ≤ (a : Int) := by omega
      have i1 : (a : Int) < (n0 : Int) := by omega
      have hw1 : IntKind.i64.wrap ((a : Int) + 1) = (a : Int) + 1 := wrapi (by omega) (by omega)
      obtain ⟨tb, tof, rfl, htb, hli⟩ := unhide HTR (by omega)
      obtain ⟨⟨tk, op, ob, vl⟩, ex⟩ : ∃ X, l.getD a ev0 = X := ⟨_, rfl⟩
      obtain ⟨k0, k1, k2, k3⟩ := (hli.below (unhide HBa) htb).ev (j := a) (by rw [unhide HLN]; exact hlt) ex
      have HEX := hide ex
      clear ex hli
      by_cases hz : z < tk
      · by_cases h11 : op = 11
        · have x11 : (op == 11) = true := by simpa using h11
          by_cases hv : tk < vl
          · have HL2 : Hid (lastL (l.take (a + 1)) = vl) := by show _ = _; rw [last_take l (by rw [unhide HLN]; exact hlt), unhide HM, unhide HEX]; unfold lastStep; dsimp only; rw [if_pos h11]; omega
            go_wp2_with fail
            go_roundw
            case rel => exact ⟨a + 1, vl, by omega, by go_num, rfl, HL2, HBa, HBt⟩
            case measure => simp [intOf]; omega
          · have HL2 : Hid (lastL (l.take (a + 1)) = tk) := by show _ = _; rw [last_take l (by rw [unhide HLN]; exact hlt), unhide HM, unhide HEX]; unfold lastStep; dsimp only; rw [if_pos h11]; omega
            go_wp2_with fail
            go_roundw
            case rel => exact ⟨a + 1, tk, by omega, by go_num, rfl, HL2, HBa, HBt⟩
            case measure => simp [intOf]; omega
        · have x11 : (op == 11) = false := by simpa using h11
          have HL2 : Hid (lastL (l.take (a + 1)) = tk) := by show _ = _; rw [last_take l (by rw [unhide HLN]; exact hlt), unhide HM, unhide HEX]; unfold lastStep; dsimp only; rw [if_neg h11]; omega
          go_wp2_with fail
          go_roundw
          case rel => exact ⟨a + 1, tk, by omega, by go_num, rfl, HL2, HBa, HBt⟩
          case measure => simp [intOf]; omega
      · by_cases h11 : op = 11
        · have x11 : (op == 11) = true := by simpa using h11
          by_cases hv : z < vl
          · have HL2 : Hid (lastL (l.take (a + 1)) = vl) := by show _ = _; rw [last_take l (by rw [unhide HLN]; exact hlt), unhide HM, unhide HEX]; unfold lastStep; dsimp only; rw [if_pos h11]; omega
            go_wp2_with fail
            go_roundw
            case rel => exact ⟨a + 1, vl, by omega, by go_num, rfl, HL2, HBa, HBt⟩
            case measure => simp [intOf]; omega
          · have HL2 : Hid (lastL (l.take (a + 1)) = z) := by show _ = _; rw [last_take l (by rw [unhide HLN]; exact hlt), unhide HM, unhide HEX]; unfold lastStep; dsimp only; rw [if_pos h11]; omega
            go_wp2_with fail
            go_roundw
            case rel => exact ⟨a + 1, z, by omega, by go_num, rfl, HL2, HBa, HBt⟩
            case measure => simp [intOf]; omega
        · have x11 : (op == 11) = false := by simpa using h11
          have HL2 : Hid (lastL (l.take (a + 1)) = z) := by show _ = _; rw [last_take l (by rw [unhide HLN]; exact hlt), unhide HM, unhide HEX]; unfold lastStep; dsimp only; rw [if_neg h11]; omega
          go_wp2_with fail
          go_roundw
          case rel => exact ⟨a + 1, z, by omega, by go_num, rfl, HL2, HBa, HBt⟩
          case measure => simp [intOf]; omega
    · obtain rfl : a = n0 := by omega
      have i1 : ¬ (a : Int) < (a : Int) := by omega
      have e : lastL l = z := by have h_ := unhide HM; rwa [List.take_of_length_le (by rw [unhide HLN]; exact Nat.le_refl _)] at h_
      subst e
      go_wp2_with fail
      exact unhide HFIN _ _ _ _ _ _ _ _ _ _ _ _ _ _ _ _ _ _ _ _ _ _ _ _ _ _ _ _ _ _ _ _ _ _ _ _ _ _ _ wr (unhide HBa) (unhide HBt)

set_option maxRecDepth 100000 in
set_option maxHeartbeats 4000000 in
theorem oc_rows (w : World) (a0 : Option Addr) (n0 c0 : Nat) (a1 : Option Addr) (n1 c1 : Nat) (l : List Ev) (hs : List Int) (hl : IsL KE w (.slice a0 n0 c0) l) (hg : GoodT hs l) (Wt : World) (hX : Below w.heap.size w Wt) (m : Nat) (hm : lastL l = (m : Int)) (lo G : Nat) (hR : Rows2 lo Wt G n0 (rowL hs l m) m n0) (R : Nat) (bf : Nat → Nat) (M : Nat → Nat → Bool) (hRB : RowsB Wt R n0 n0 bf M) (hM : Tells n0 M (fun k j => Rch hs l j k))
    {s2 s3 s4 s5 s6 s7 s8 s9 s10 s11 s13 s14 s15 s16 s17 s20 s21 s22 s23 s24 s25 s26 s27 s28 s29 s30 s31 s32 s33 s34 s35 s36 s37 s38 s39 s40 s41 s42 s43 s44 s45 s46 s47 s48 s49 s50 s51 s52 s53 s54 s55 s56 s57 s58 s59 s60 s61 s62 s63 s64 s65 s66 s67 s68 s69 s70 s71 s72 s73 s74 s75 s76 s77 s78 s79 s80 s81 s82 s83 s84 s85 s86 s87 s88 s89 s90 s91 s92 s93 s94 s95 s96 s97 s98 s99 s100 s101 s102 s103 s104 s105 s106 s107 s108 s109 s110 s111 s112 s113 s114 s115 s116 s117 s118 s119 s120 s121 s122 s123 s124 s125 s126 s127 s128 s129 s130 s131 s132 s133 s134 s135 s136 s137 s138 s139 s140 s141 s142 s143 s144 s145 s146 s147 s148 s149 s150 s151 s152 s153 s154 s155 s156 s157 s158 s159 s160 s161 s162 s163 s164 s165 s166 s167 s168 s169 s170 s171 s172 s173 s174 s175 s176 s177 s178 s179 s180 s181 s182 s183 s184 s185 s186 s187 s188 s189 s190 s191 s192 s193 s194 s195 s196 s197 s198 s199 s200 s201 s202 s203 s204 s205 s206 s207 s208 s209 s210 s211 s212 s213 s214 s215 s216 s217 s218 s219 s220 s221 s222 s223 s224 s225 s226 s227 s228 s229 s230 s231 s232 s233 s234 s235 s236 s237 s238 s239 s240 s241 s242 s243 s244 s245 : Value} (K1 : Act → World → Prop) (Q : Exit → Act → World → Prop) (x y : Code) (hK1 : ∀ a w', y.wp Try.prog Q a w' → K1 a w') (hcut : Try.f3.body.bind (forAt 32) = some (x, y))
    (hfin : ∀ (s2 s3 s4 s5 s6 s7 s8 s9 s10 s11 s13 s14 s15 s16 s17 s20 s21 s22 s23 s24 s25 s26 s27 s28 s29 s30 s31 s32 s33 s34 s35 s36 s37 s38 s39 s40 s41 s42 s43 s44 s45 s46 s47 s48 s49 s50 s51 s52 s53 s54 s55 s56 s57 s58 s59 s60 s61 s62 s63 s64 s65 s66 s67 s68 s69 s70 s71 s72 s73 s74 s75 s76 s77 s78 s79 s80 s81 s82 s83 s84 s85 s86 s87 s88 s89 s90 s91 s92 s93 s94 s95 s96 s97 s98 s99 s100 s101 s102 s103 s104 s105 s106 s107 s108 s109 s110 s111 s112 s113 s114 s115 s116 s117 s118 s119 s120 s121 s122 s123 s124 s125 s126 s127 s128 s129 s130 s131 s132 s133 s134 s135 s136 s137 s138 s139 s140 s141 s142 s143 s144 s145 s146 s147 s148 s149 s150 s151 s152 s153 s154 s155 s156 s157 s158 s159 s160 s161 s162 s163 s164 s165 s166 s167 s168 s169 s170 s171 s172 s173 s174 s175 s176 s177 s178 s179 s180 s181 s182 s183 s184 s185 s186 s187 s188 s189 s190 s191 s192 s193 s194 s195 s196 s197 s198 s199 s200 s201 s202 s203 s204 s205 s206 s207 s208 s209 s210 s211 s212 s213 s214 s215 s216 s217 s218 s219 s220 s221 s222 s223 s224 s225 s226 s227 s228 s229 s230 s231 s232 s233 s234 s235 s236 s237 s238 s239 s240 s241 s242 s243 s244 s245 : Value) (W : World), Below w.heap.size w W → Q .normal { tmps := (.slice a0 n0 c0 :: .slice a1 n1 c1 :: s2 :: s3 :: s4 :: s5 :: s6 :: s7 :: s8 :: s9 :: s10 :: s11 :: .slice (some ⟨G, 0, none⟩) n0 n0 :: s13 :: s14 :: s15 :: s16 :: s17 :: .slice (some ⟨R, 0, none⟩) n0 n0 :: .int .i64 (m : Int) :: s20 :: s21 :: s22 :: s23 :: s24 :: s25 :: s26 :: s27 :: s28 :: s29 :: s30 :: s31 :: s32 :: s33 :: s34 :: s35 :: s36 :: s37 :: s38 :: s39 :: s40 :: s41 :: s42 :: s43 :: s44 :: s45 :: s46 :: s47 :: s48 :: s49 :: s50 :: s51 :: s52 :: s53 :: s54 :: s55 :: s56 :: s57 :: s58 :: s59 :: s60 :: s61 :: s62 :: s63 :: s64 :: s65 :: s66 :: s67 :: s68 :: s69 :: s70 :: s71 :: s72 :: s73 :: s74 :: s75 :: s76 :: s77 :: s78 :: s79 :: s80 :: s81 :: s82 :: s83 :: s84 :: s85 :: s86 :: s87 :: s88 :: s89 :: s90 :: s91 :: s92 :: s93 :: s94 :: s95 :: s96 :: s97 :: s98 :: s99 :: s100 :: s101 :: s102 :: s103 :: s104 :: s105 :: s106 :: s107 :: s108 :: s109 :: s110 :: s111 :: s112 :: s113 :: s114 :: s115 :: s116 :: s117 :: s118 :: s119 :: s120 :: s121 :: s122 :: s123 :: s124 :: s125 :: s126 :: s127 :: s128 :: s129 :: s130 :: s131 :: s132 :: s133 :: s134 :: s135 :: s136 :: s137 :: s138 :: s139 :: s140 :: s141 :: s142 :: s143 :: s144 :: s145 :: s146 :: s147 :: s148 :: s149 :: s150 :: s151 :: s152 :: s153 :: s154 :: s155 :: s156 :: s157 :: s158 :: s159 :: s160 :: s161 :: s162 :: s163 :: s164 :: s165 :: s166 :: s167 :: s168 :: s169 :: s170 :: s171 :: s172 :: s173 :: s174 :: s175 :: s176 :: s177 :: s178 :: s179 :: s180 :: s181 :: s182 :: s183 :: s184 :: s185 :: s186 :: s187 :: s188 :: s189 :: s190 :: s191 :: s192 :: s193 :: s194 :: s195 :: s196 :: s197 :: s198 :: s199 :: s200 :: s201 :: s202 :: s203 :: s204 :: s205 :: s206 :: s207 :: s208 :: s209 :: s210 :: s211 :: s212 :: s213 :: s214 :: s215 :: s216 :: s217 :: s218 :: s219 :: s220 :: s221 :: s222 :: s223 :: s224 :: s225 :: s226 :: s227 :: s228 :: s229 :: s230 :: s231 :: s232 :: s233 :: s234 :: s235 :: s236 :: s237 :: s238 :: s239 :: s240 :: s241 :: s242 :: s243 :: s244 :: s245 :: []).toArray, defers := [] } W) :
    x.wp Try.prog (Exit.then K1 Q) { tmps := (.slice a0 n0 c0 :: .slice a1 n1 c1 :: s2 :: s3 :: s4 :: s5 :: s6 :: s7 :: s8 :: s9 :: s10 :: s11 :: .slice (some ⟨G, 0, none⟩) n0 n0 :: s13 :: s14 :: s15 :: s16 :: s17 :: .slice (some ⟨R, 0, none⟩) n0 n0 :: .int .i64 (m : Int) :: s20 :: s21 :: s22 :: s23 :: s24 :: s25 :: s26 :: s27 :: s28 :: s29 :: s30 :: s31 :: s32 :: s33 :: s34 :: s35 :: s36 :: s37 :: s38 :: s39 :: s40 :: s41 :: s42 :: s43 :: s44 :: s45 :: s46 :: s47 :: s48 :: s49 :: s50 :: s51 :: s52 :: s53 :: s54 :: s55 :: s56 :: s57 :: s58 :: s59 :: s60 :: s61 :: s62 :: s63 :: s64 :: s65 :: s66 :: s67 :: s68 :: s69 :: s70 :: s71 :: s72 :: s73 :: s74 :: s75 :: s76 :: s77 :: s78 :: s79 :: s80 :: s81 :: s82 :: s83 :: s84 :: s85 :: s86 :: s87 :: s88 :: s89 :: s90 :: s91 :: s92 :: s93 :: s94 :: s95 :: s96 :: s97 :: s98 :: s99 :: s100 :: s101 :: s102 :: s103 :: s104 :: s105 :: s106 :: s107 :: s108 :: s109 :: s110 :: s111 :: s112 :: s113 :: s114 :: s115 :: s116 :: s117 :: s118 :: s119 :: s120 :: s121 :: s122 :: s123 :: s124 :: s125 :: s126 :: s127 :: s128 :: s129 :: s130 :: s131 :: s132 :: s133 :: s134 :: s135 :: s136 :: s137 :: s138 :: s139 :: s140 :: s141 :: s142 :: s143 :: s144 :: s145 :: s146 :: s147 :: s148 :: s149 :: s150 :: s151 :: s152 :: s153 :: s154 :: s155 :: s156 :: s157 :: s158 :: s159 :: s160 :: s161 :: s162 :: s163 :: s164 :: s165 :: s166 :: s167 :: s168 :: s169 :: s170 :: s171 :: s172 :: s173 :: s174 :: s175 :: s176 :: s177 :: s178 :: s179 :: s180 :: s181 :: s182 :: s183 :: s184 :: s185 :: s186 :: s187 :: s188 :: s189 :: s190 :: s191 :: s192 :: s193 :: s194 :: s195 :: s196 :: s197 :: s198 :: s199 :: s200 :: s201 :: s202 :: s203 :: s204 :: s205 :: s206 :: s207 :: s208 :: s209 :: s210 :: s211 :: s212 :: s213 :: s214 :: s215 :: s216 :: s217 :: s218 :: s219 :: s220 :: s221 :: s222 :: s223 :: s224 :: s225 :: s226 :: s227 :: s228 :: s229 :: s230 :: s231 :: s232 :: s233 :: s234 :: s235 :: s236 :: s237 :: s238 :: s239 :: s240 :: s241 :: s242 :: s243 :: s244 :: s245 :: []).toArray, defers := [] } Wt := by
  have hcc : Try.f3.body.bind (forAt 32) = some (_, _) := rfl
  rw [hcc] at hcut
  cases hcut
  clear hcc
  have hln := hl.len
  have hn : n0 ≤ 2000 := by rw [← hln]; exact hg.n
  have hm64 : m ≤ 64 := by have h_ := (hg.last l.length (Nat.le_refl _)).2; rw [List.take_length, hm] at h_; omega
  obtain ⟨A, hA, hmk⟩ := make_ints m hm64
  have HMK := hide hmk; have HAA := hide hA
  have HTR := hide (hl.opens ke hln)
  have HLN := hide hln
  have HG := hide hg
  have HML := hide hm
  have HX := hide hX; have HXT := hide (Below.refl Wt.heap.size Wt)
  have HR := hide hR; have HRB := hide hRB; have HMT := hide hM
  have HFIN := hide hfin
  clear hl hX hln hfin hg hmk hA hm hR hRB hM
  go_wp2_with fail
  go_loopw [21] (fun s wr => ∃ (a : Nat), a ≤ n0 ∧ s = .int .i64 (a : Int) ∧ Hid (Below w.heap.size w wr) ∧ Hid (Below Wt.heap.size Wt wr)) (fun s _ => n0 - (intOf s).toNat)
  case atStart => exact ⟨0, Nat.zero_le _, rfl, HX, HXT⟩
  case round =>
    obtain ⟨a, ha, rfl, HBa, HBt⟩ := hrel
    obtain ⟨wa, rfl⟩ : ∃ X, X = wr := ⟨_, rfl⟩
    clear HX HXT
    by_cases hlt : a < n0
    · have i0 : (0 : Int) ≤ (a : Int) := by omega
      have i1 : (a : Int) < (n0 : Int) := by omega
      have hw1 : IntKind.i64.wrap ((a : Int) + 1) = (a : Int) + 1 := wrapi (by omega) (by omega)
      obtain ⟨tb, tof, rfl, htb, hli⟩ := unhide HTR (by omega)
      -- the places of events
      have hpl : ∀ j, j < n0 → ((l.getD j ev0).task - 1 = (plOf (l.getD j ev0) : Int)) ∧ plOf (l.getD j ev0) < m := fun j hj => by
        have hjl : j < l.length := by rw [unhide HLN]; exact hj
        have h1 := ((unhide HG).ev hjl).t1
        have h2 := last_task l hjl
        rw [unhide HML] at h2
        unfold plOf
        omega
      have hat : ∀ W, Below wa.heap.size wa W → ∀ j, j < n0 → W.cell? ⟨tb, tof + j * 4, none⟩ = some (.int .i64 (l.getD j ev0).task) := fun W hW j hj =>
        (((hli.below (unhide HBa) htb).below hW (Nat.lt_of_lt_of_le htb (unhide HBa).size)).ev (j := j) (by rw [unhide HLN]; exact hj) (show l.getD j ev0 = ⟨(l.getD j ev0).task, (l.getD j ev0).op, (l.getD j ev0).obj, (l.getD j ev0).val⟩ from rfl)).1
      have HRW := hide ((unhide HR).below (unhide HBt))
      have HRBW := hide ((unhide HRB).below (unhide HBt))
      obtain ⟨pa, epa⟩ : ∃ X, plOf (l.getD a ev0) = X := ⟨_, rfl⟩
      obtain ⟨tka, eta⟩ : ∃ X, (l.getD a ev0).task = X := ⟨_, rfl⟩
      have hpa := hpl a hlt
      rw [epa, eta] at hpa
      have hw2 : IntKind.i64.wrap (tka - 1) = (pa : Int) := by rw [hpa.1]; exact wrapi (by omega) (by omega)
      have i2 : (0 : Int) ≤ (pa : Int) := by omega
      have i3 : (pa : Int) < (m : Int) := by omega
      have HPL := hide hpl; have HAT := hide hat
      have HPA := hide hpa.2; have HLT := hide hlt
      have hmk3 := unhide HMK wa
      have hI5 := ints_made (w := wa) (unhide HAA)
      have hB5 : Below wa.heap.size wa (wa.alloc (.cells A 3)) := (Below.refl _ _).alloc (Nat.le_refl _) _
      obtain ⟨B, eB⟩ : ∃ X, wa.heap.size = X := ⟨_, rfl⟩
      obtain ⟨W5, e5⟩ : ∃ X, wa.alloc (.cells A 3) = X := ⟨_, rfl⟩
      rw [e5, eB] at hmk3 hI5 hB5
      have k0 := hat W5 (by rw [eB]; exact hB5) a hlt
      rw [eta] at k0
      have k1 := hI5.cell pa hpa.2
      have k2 := (hI5.there pa hpa.2).2
      rw [Nat.zero_add] at k2
      have HEB := hide eB
      have HI6 : Hid (IntsAt (W5.setCell ⟨B, pa, none⟩ (.int .i64 1)) B m (wantF M l a 0)) := (hI5.put hpa.2 1).congr (fun p _ => by
        rw [want_zero, epa]
        by_cases e : p = pa
        · rw [if_pos e, if_pos e.symm]
        · rw [if_neg e, if_neg (Ne.symm e)])
      have HB6 : Hid (Below B wa (W5.setCell ⟨B, pa, none⟩ (.int .i64 1))) := hB5.setCell (p := ⟨B, pa, none⟩) (Nat.le_refl B) _
      clear e5 eB hpl hat hpa hI5 hB5 epa eta hli
      go_upto_region 37 with fail
      obtain ⟨W6, e6⟩ : ∃ X, W5.setCell ⟨B, pa, none⟩ (.int .i64 1) = X := ⟨_, rfl⟩
      rw [e6] at HI6 HB6
      rw [e6]
      clear e6 k0 k1 k2 hmk3
      have r0 := ((unhide HRBW).cell a (unhide HLT))
      have HR0 := hide r0
      clear r0
      go_wp2_with fail
      go_loopw [23] (fun s wr => ∃ (b : Nat), b ≤ a ∧ s = .int .i64 (b : Int) ∧ Hid (IntsAt wr B m (wantF M l a b)) ∧ Hid (Below B wa wr)) (fun s _ => a - (intOf s).toNat)
      case atStart => exact ⟨0, Nat.zero_le _, rfl, HI6, HB6⟩
      case round =>
        obtain ⟨b, hb, rfl, HIb, HBb⟩ := hrel
        clear HI6 HB6
        by_cases hba : b < a
        · have j0 : (0 : Int) ≤ (b : Int) := by omega
          have j1 : (b : Int) < (a : Int) := by omega
          have j2 : (b : Int) < (n0 : Int) := by omega
          have hw3 : IntKind.i64.wrap ((b : Int) + 1) = (b : Int) + 1 := wrapi (by omega) (by omega)
          have hbn : b < n0 := by omega
          have hb7 := unhide HBb
          rw [← unhide HEB] at hb7
          have k3 := (unhide HRBW).below hb7
          have k0 := k3.cell a (unhide HLT)
          have k1 := k3.row a (unhide HLT) b hbn
          have kt := unhide HAT wr hb7 b hbn
          have hpb := unhide HPL b hbn
          have hbd := want_bound M l a b (plOf (l.getD b ev0))
          have HWY := fun h => want_yes (M := M) (l := l) (a := a) (b := b) h
          have HWN := fun h => want_no (M := M) (l := l) (a := a) (b := b) h
          obtain ⟨pb, epb⟩ : ∃ X, plOf (l.getD b ev0) = X := ⟨_, rfl⟩
          obtain ⟨tkb, etb⟩ : ∃ X, (l.getD b ev0).task = X := ⟨_, rfl⟩
          rw [epb, etb] at hpb
          rw [epb] at hbd
          rw [epb] at HWY
          rw [etb] at kt
          have HWY := hide HWY; have HWN := hide HWN
          obtain ⟨bM, eM⟩ : ∃ X, M a b = X := ⟨_, rfl⟩
          rw [eM] at k1
          have k5 := (unhide HIb).cell pb hpb.2
          have k6 := ((unhide HIb).there pb hpb.2).2
          rw [Nat.zero_add] at k6
          obtain ⟨f, ef⟩ : ∃ X, wantF M l a b pb = X := ⟨_, rfl⟩
          rw [ef] at k5 hbd
          have hw4 : IntKind.i64.wrap (f + 1) = f + 1 := wrapi (by omega) (by omega)
          have hw5 : IntKind.i64.wrap (tkb - 1) = (pb : Int) := by rw [hpb.1]; exact wrapi (by omega) (by omega)
          have j3 : (0 : Int) ≤ (pb : Int) := by omega
          have j4 : (pb : Int) < (m : Int) := by omega
          have HPB := hide hpb.2
          clear hpb epb etb hb7 k3 hbn
          cases bM
          · have HI7 : Hid (IntsAt wr B m (wantF M l a (b + 1))) := (unhide HIb).congr (fun p _ => (unhide HWN eM p).symm)
            clear eM ef
            go_wp2_with fail
            go_roundw
            case rel => exact ⟨b + 1, by omega, by go_num, HI7, HBb⟩
            case measure => simp [intOf]; omega
          · have HI7 : Hid (IntsAt (wr.setCell ⟨B, pb, none⟩ (.int .i64 (f + 1))) B m (wantF M l a (b + 1))) := ((unhide HIb).put (unhide HPB) (f + 1)).congr (fun p _ => by
              rw [unhide HWY eM p]
              by_cases e : p = pb
              · rw [if_pos e, if_pos e, e, ef]
              · rw [if_neg e, if_neg e])
            have HB7 : Hid (Below B wa (wr.setCell ⟨B, pb, none⟩ (.int .i64 (f + 1)))) := (unhide HBb).setCell (p := ⟨B, pb, none⟩) (Nat.le_refl B) _
            clear eM ef
            go_wp2_with fail
            go_roundw
            case rel => exact ⟨b + 1, by omega, by go_num, HI7, HB7⟩
            case measure => simp [intOf]; omega
        · obtain rfl : b = a := by omega
          have j1 : ¬ (b : Int) < (b : Int) := by omega
          have hb7 := unhide HBb
          rw [← unhide HEB] at hb7
          obtain ⟨bi, ci, g1, _, _, _, g4⟩ := ((unhide HRW).below hb7).row b (unhide HLT)
          have hw7 : (List.range m).map (wantF M l b b) = rowL hs l m b := by
            unfold rowL
            exact List.map_congr_left (fun p _ => want_ck (unhide HG) (unhide HLN) (unhide HMT) (unhide HLT) p)
          have g5 := (unhide HIb).isl
          rw [hw7] at g5
          have HIS := hide (ints_same wr _ _ (rowL hs l m b) g4 g5 (by rw [rowL_len]; unfold maxLen; omega))
          have HB8 := hide hb7
          clear hb7 g4 g5 hw7
          go_wp2_with (go_at_call 17; (with_reducible refine Calls.mono (unhide HIS) ?_); rintro e w8 ⟨rfl, hb8⟩; have HX8 := hide ((unhide HB8).trans (hb8.mono (unhide HB8).size)); clear hb8)
          go_roundw
          case rel => exact ⟨b + 1, by omega, by go_num, hide (Below.next (unhide HBa) (unhide HX8) (Nat.le_refl _)), hide (Below.next (unhide HBt) (unhide HX8) (Nat.le_refl _))⟩
          case measure => simp [intOf]; omega
    · obtain rfl : a = n0 := by omega
      have i1 : ¬ (a : Int) < (a : Int) := by omega
      go_wp2_with fail
      exact unhide HFIN _ _ _ _ _ _ _ _ _ _ _ _ _ _ _ _ _ _ _ _ _ _ _ _ _ _ _ _ _ _ _ _ _ _ _ _ _ _ _ _ _ _ _ _ _ _ _ _ _ _ _ _ _ _ _ _ _ _ _ _ _ _ _ _ _ _ _ _ _ _ _ _ _ _ _ _ _ _ _ _ _ _ _ _ _ _ _ _ _ _ _ _ _ _ _ _ _ _ _ _ _ _ _ _ _ _ _ _ _ _ _ _ _ _ _ _ _ _ _ _ _ _ _ _ _ _ _ _ _ _ _ _ _ _ _ _ _ _ _ _ _ _ _ _ _ _ _ _ _ _ _ _ _ _ _ _ _ _ _ _ _ _ _ _ _ _ _ _ _ _ _ _ _ _ _ _ _ _ _ _ _ _ _ _ _ _ _ _ _ _ _ _ _ _ _ _ _ _ _ _ _ _ _ _ _ _ _ _ _ _ _ _ _ _ _ _ _ _ _ _ _ _ _ _ _ _ _ _ _ _ _ _ _ _ _ _ _ _ _ _ _ wa (unhide HBa)
end Go.Proofs.Ytbnmeeabpjmcoaa
