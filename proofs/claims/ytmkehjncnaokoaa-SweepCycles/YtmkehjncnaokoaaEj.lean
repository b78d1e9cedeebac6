/-
  taskmillref.Marking.act, whatever the act.
-/
import Derived.Test.YtmkehjncnaokoaaEf
import Derived.Test.YtmkehjncnaokoaaEg
import Derived.Test.YtmkehjncnaokoaaEi
namespace Go.Proofs.Ytmkehjncnaokoaa
open Go.RowKit

theorem srcB_in {nr : Nat} {c : Int} (h1 : -1 ≤ c) (h2 : c < (nr : Int)) : hasSrcB nr c = true := by
  unfold hasSrcB hasRB
  by_cases q : c = -1
  · rw [decide_eq_true q]; rfl
  · rw [decide_eq_false q, decide_eq_true (by omega : 0 ≤ c), decide_eq_true h2]; rfl

set_option maxRecDepth 100000 in
set_option maxHeartbeats 4000000 in
theorem act_4 {lo : Nat} {Wt : World} {lab : Nat → Nat} {b : Nat} {oa : Option Addr} {n co : Nat} {ar : Option Addr} {nr cr wb cw : Nat} {vl : Value} {g : Gm} (h : RfL lo Wt lab b oa n co ar nr cr wb cw vl g) (hg : GoodG g) (hnd : NodG g.mm) (AB : Nat) (X : Ac) (z : Int) (A C : Bool) (hA : hasRB nr X.a = A) (hC : hasSrcB nr X.c = C) (hz0 : 0 ≤ z) (hz3 : z ≤ 3) (hAB : Wt.heap[AB]? = some (.cells #[.int .i64 X.op, .int .i64 X.a, .int .i64 X.b, .int .i64 X.c] 47 (0, 0))) (hla : lab AB = 0) (P0 : Ending → World → Prop) (hP : ∀ w', RfX lo w' b (if wrongG g X = 0 then doG z g X else g) → Below lo Wt w' → P0 (.returned (.int .i64 (wrongG g X))) w')
    {s1 s3 s5 s6 s7 s10 s11 s12 s13 s14 s15 s16 s17 s18 s19 s20 s21 s22 s23 s24 s25 s26 s27 s28 s29 s30 s31 s32 s33 s34 s35 s36 s37 s38 s39 s40 s41 s42 s43 s44 s45 s46 s47 s48 s49 s50 s51 s52 s53 s54 s55 s56 s57 s58 s59 s60 s61 s62 s63 s64 s65 s66 s67 s68 s69 s70 s71 s72 s73 s74 s75 s76 s77 s78 s79 s80 s81 s82 s83 s84 s85 s86 s87 s88 s89 s90 s91 s92 s93 s94 s95 s96 s97 s98 s99 s100 s101 s102 s103 s104 s105 s106 s107 s108 s109 s110 s111 s112 s113 s114 s115 s116 s117 s118 s119 s120 s121 s122 s123 s124 s125 s126 s127 s128 s129 s130 s131 s132 s133 s134 s135 s136 s137 s138 s139 s140 s141 s142 s143 s144 s145 s146 s147 s148 s149 s150 s151 s152 s153 s154 s155 s156 s157 s158 s159 s160 s161 s162 s163 s164 s165 s166 s167 s168 s169 s170 s171 s172 s173 s174 s175 s176 s177 s178 s179 s180 s181 s182 s183 s184 s185 s186 s187 s188 s189 s190 s191 s192 s193 s194 s195 s196 s197 s198 s199 s200 s201 s202 s203 s204 s205 s206 s207 s208 s209 s210 s211 s212 s213 s214 s215 s216 s217 s218 s219 s220 s221 s222 s223 s224 s225 s226 s227 s228 s229 s230 s231 s232 s233 s234 s235 s236 s237 s238 s239 s240 s241 s242 s243 s244 s245 s246 s247 s248 s249 s250 s251 s252 s253 s254 s255 s256 s257 s258 s259 s260 s261 s262 s263 s264 s265 s266 s267 s268 s269 s270 : Value} (K1 K2 : Act → World → Prop) (xc y zc : Code) (hK1 : ∀ a w', y.wp Try.prog (Exit.then K2 (bodyPost Try.prog Try.f35 P0)) a w' → K1 a w') (hK2 : ∀ a w', zc.wp Try.prog (bodyPost Try.prog Try.f35 P0) a w' → K2 a w') (hcut : Try.f35.body.bind (cutIfE 4) = some (xc, y, zc)) :
    xc.wp Try.prog (Exit.then K1 (Exit.then K2 (bodyPost Try.prog Try.f35 P0))) { tmps := (.pointer (some ⟨b, 0, none⟩) :: s1 :: .int .i64 z :: s3 :: .pointer (some ⟨AB, 0, none⟩) :: s5 :: s6 :: s7 :: .bool A :: .bool C :: s10 :: s11 :: s12 :: s13 :: s14 :: s15 :: s16 :: s17 :: s18 :: s19 :: s20 :: s21 :: s22 :: s23 :: s24 :: s25 :: s26 :: s27 :: s28 :: s29 :: s30 :: s31 :: s32 :: s33 :: s34 :: s35 :: s36 :: s37 :: s38 :: s39 :: s40 :: s41 :: s42 :: s43 :: s44 :: s45 :: s46 :: s47 :: s48 :: s49 :: s50 :: s51 :: s52 :: s53 :: s54 :: s55 :: s56 :: s57 :: s58 :: s59 :: s60 :: s61 :: s62 :: s63 :: s64 :: s65 :: s66 :: s67 :: s68 :: s69 :: s70 :: s71 :: s72 :: s73 :: s74 :: s75 :: s76 :: s77 :: s78 :: s79 :: s80 :: s81 :: s82 :: s83 :: s84 :: s85 :: s86 :: s87 :: s88 :: s89 :: s90 :: s91 :: s92 :: s93 :: s94 :: s95 :: s96 :: s97 :: s98 :: s99 :: s100 :: s101 :: s102 :: s103 :: s104 :: s105 :: s106 :: s107 :: s108 :: s109 :: s110 :: s111 :: s112 :: s113 :: s114 :: s115 :: s116 :: s117 :: s118 :: s119 :: s120 :: s121 :: s122 :: s123 :: s124 :: s125 :: s126 :: s127 :: s128 :: s129 :: s130 :: s131 :: s132 :: s133 :: s134 :: s135 :: s136 :: s137 :: s138 :: s139 :: s140 :: s141 :: s142 :: s143 :: s144 :: s145 :: s146 :: s147 :: s148 :: s149 :: s150 :: s151 :: s152 :: s153 :: s154 :: s155 :: s156 :: s157 :: s158 :: s159 :: s160 :: s161 :: s162 :: s163 :: s164 :: s165 :: s166 :: s167 :: s168 :: s169 :: s170 :: s171 :: s172 :: s173 :: s174 :: s175 :: s176 :: s177 :: s178 :: s179 :: s180 :: s181 :: s182 :: s183 :: s184 :: s185 :: s186 :: s187 :: s188 :: s189 :: s190 :: s191 :: s192 :: s193 :: s194 :: s195 :: s196 :: s197 :: s198 :: s199 :: s200 :: s201 :: s202 :: s203 :: s204 :: s205 :: s206 :: s207 :: s208 :: s209 :: s210 :: s211 :: s212 :: s213 :: s214 :: s215 :: s216 :: s217 :: s218 :: s219 :: s220 :: s221 :: s222 :: s223 :: s224 :: s225 :: s226 :: s227 :: s228 :: s229 :: s230 :: s231 :: s232 :: s233 :: s234 :: s235 :: s236 :: s237 :: s238 :: s239 :: s240 :: s241 :: s242 :: s243 :: s244 :: s245 :: s246 :: s247 :: s248 :: s249 :: s250 :: s251 :: s252 :: s253 :: s254 :: s255 :: s256 :: s257 :: s258 :: s259 :: s260 :: s261 :: s262 :: s263 :: s264 :: s265 :: s266 :: s267 :: s268 :: s269 :: s270 :: []).toArray, defers := [] } Wt := by
  subst hA hC
  obtain ⟨op, va, vb, vc⟩ := X
  dsimp only at hAB ⊢
  have hr := h.hr
  have hn := h.hn
  by_cases h1 : op = 1
  · subst h1
    by_cases f1 : hasSlB g va vb = true
    · by_cases f2 : hasSrcB nr vc = true
      · rw [f2]
        have e : wrongG g ⟨1, va, vb, vc⟩ = 0 := by unfold wrongG; simp [f1, f2, hr]
        have hv := hg.src (a := vc) (by rw [hr]; exact f2)
        rw [hn] at hv
        obtain ⟨i, f, s, rfl, hi, hq, hf, rfl, hs⟩ := hasSlB_yes hg f1
        have hd : ∀ z', doG z' g ⟨1, (i : Int), (s : Int), vc⟩ = ⟨g.os.set f ((g.os.getD f []).set s (srcG g vc)), g.rs, shB z' g.mm ((g.os.getD f []).getD s 0) (srcG g vc)⟩ := fun z' => by
          unfold doG
          rw [if_pos rfl]
          dsimp only
          rw [rowG_at hq, hq, Int.toNat_natCast, Int.toNat_natCast]
        have hz : z = 0 ∨ z = 1 ∨ z = 2 ∨ z = 3 := by omega
        by_cases hm1 : vc = -1
        · subst hm1
          have hs1 : srcG g (-1) = -1 := rfl
          rw [hs1] at hd
          rcases hz with rfl | rfl | rfl | rfl
          · exact act_wkn0 h hg hnd AB (hasRB nr (i : Int)) i f s _ (by omega) hq (by omega) rfl hs _ rfl hAB hla P0 (fun w' q1 q2 => by have q := hP w' (by rw [if_pos e, hd]; exact q1) q2; rwa [e] at q) K1 K2 xc y zc hK1 hK2 hcut
          · exact act_wkn1 h hg hnd AB (hasRB nr (i : Int)) i f s _ (by omega) hq (by omega) rfl hs _ rfl hAB hla P0 (fun w' q1 q2 => by have q := hP w' (by rw [if_pos e, hd]; exact q1) q2; rwa [e] at q) K1 K2 xc y zc hK1 hK2 hcut
          · exact act_wkn2 h hg hnd AB (hasRB nr (i : Int)) i f s _ (by omega) hq (by omega) rfl hs _ rfl hAB hla P0 (fun w' q1 q2 => by have q := hP w' (by rw [if_pos e, hd]; exact q1) q2; rwa [e] at q) K1 K2 xc y zc hK1 hK2 hcut
          · exact act_wkn3 h hg hnd AB (hasRB nr (i : Int)) i f s _ (by omega) hq (by omega) rfl hs _ rfl hAB hla P0 (fun w' q1 q2 => by have q := hP w' (by rw [if_pos e, hd]; exact q1) q2; rwa [e] at q) K1 K2 xc y zc hK1 hK2 hcut
        · have hb : hasRB nr vc = true := by unfold hasSrcB at f2; rw [decide_eq_false hm1] at f2; exact f2
          obtain ⟨j, rfl, hj⟩ := hasRB_yes hb
          rcases hz with rfl | rfl | rfl | rfl
          · exact act_wkj0 h hg hnd AB (hasRB nr (i : Int)) i f s _ (by omega) hq (by omega) rfl hs j hj _ rfl hv _ rfl hAB hla P0 (fun w' q1 q2 => by have q := hP w' (by rw [if_pos e, hd]; exact q1) q2; rwa [e] at q) K1 K2 xc y zc hK1 hK2 hcut
          · exact act_wkj1 h hg hnd AB (hasRB nr (i : Int)) i f s _ (by omega) hq (by omega) rfl hs j hj _ rfl hv _ rfl hAB hla P0 (fun w' q1 q2 => by have q := hP w' (by rw [if_pos e, hd]; exact q1) q2; rwa [e] at q) K1 K2 xc y zc hK1 hK2 hcut
          · exact act_wkj2 h hg hnd AB (hasRB nr (i : Int)) i f s _ (by omega) hq (by omega) rfl hs j hj _ rfl hv _ rfl hAB hla P0 (fun w' q1 q2 => by have q := hP w' (by rw [if_pos e, hd]; exact q1) q2; rwa [e] at q) K1 K2 xc y zc hK1 hK2 hcut
          · exact act_wkj3 h hg hnd AB (hasRB nr (i : Int)) i f s _ (by omega) hq (by omega) rfl hs j hj _ rfl hv _ rfl hAB hla P0 (fun w' q1 q2 => by have q := hP w' (by rw [if_pos e, hd]; exact q1) q2; rwa [e] at q) K1 K2 xc y zc hK1 hK2 hcut
      · have f2' : hasSrcB nr vc = false := by simpa using f2
        rw [f2']
        have e : wrongG g ⟨1, va, vb, vc⟩ = 3 := by unfold wrongG; simp [f1, f2, hr]
        exact act_w2 h hg hnd AB va vb vc z (hasRB nr va) f1 hAB hla P0 (fun w' q1 q2 => by have q := hP w' (by rw [if_neg (by rw [e]; decide)]; exact q1) q2; rwa [e] at q) K1 K2 xc y zc hK1 hK2 hcut
    · skip
      have e : wrongG g ⟨1, va, vb, vc⟩ = 3 := by unfold wrongG; simp [f1]
      exact act_w1 h hg hnd AB va vb vc z (hasRB nr va) (hasSrcB nr vc) (by simpa using f1) hAB hla P0 (fun w' q1 q2 => by have q := hP w' (by rw [if_neg (by rw [e]; decide)]; exact q1) q2; rwa [e] at q) K1 K2 xc y zc hK1 hK2 hcut
  by_cases h2 : op = 2
  · subst h2
    by_cases f1 : hasRB nr va = true
    · rw [f1]
      by_cases f2 : hasSlB g vc vb = true
      · have e : wrongG g ⟨2, va, vb, vc⟩ = 0 := by unfold wrongG; simp [f1, f2, hr]
        obtain ⟨ta, rfl, hta⟩ := hasRB_yes f1
        obtain ⟨i, f, s, rfl, hi, hq, hf, rfl, hs⟩ := hasSlB_yes hg f2
        have e2 : doG z g ⟨2, (ta : Int), (s : Int), (i : Int)⟩ = ⟨g.os, g.rs.set ta ((g.os.getD f []).getD s 0), g.mm⟩ := by
          unfold doG
          dsimp only
          rw [if_neg (by decide), if_pos rfl, rowG_at hq, Int.toNat_natCast, Int.toNat_natCast]
        exact act_lk h hg hnd AB z (hasSrcB nr (i : Int)) ta hta i f s _ (by omega) hq (by omega) rfl hs _ rfl hAB hla P0 (fun w' q1 q2 => by have q := hP w' (by rw [if_pos e, e2]; exact q1) q2; rwa [e] at q) K1 K2 xc y zc hK1 hK2 hcut
      · skip
        have e : wrongG g ⟨2, va, vb, vc⟩ = 3 := by unfold wrongG; simp [f2]
        exact act_l1 h hg hnd AB va vb vc z true (hasSrcB nr vc) (by simpa using f2) hAB hla P0 (fun w' q1 q2 => by have q := hP w' (by rw [if_neg (by rw [e]; decide)]; exact q1) q2; rwa [e] at q) K1 K2 xc y zc hK1 hK2 hcut
    · have f1' : hasRB nr va = false := by simpa using f1
      rw [f1']
      by_cases f2 : hasSlB g vc vb = true
      · skip
        have e : wrongG g ⟨2, va, vb, vc⟩ = 3 := by unfold wrongG; simp [f1, hr]
        exact act_l2 h hg hnd AB va vb vc z (hasSrcB nr vc) f2 hAB hla P0 (fun w' q1 q2 => by have q := hP w' (by rw [if_neg (by rw [e]; decide)]; exact q1) q2; rwa [e] at q) K1 K2 xc y zc hK1 hK2 hcut
      · skip
        have e : wrongG g ⟨2, va, vb, vc⟩ = 3 := by unfold wrongG; simp [f2]
        exact act_l1 h hg hnd AB va vb vc z false (hasSrcB nr vc) (by simpa using f2) hAB hla P0 (fun w' q1 q2 => by have q := hP w' (by rw [if_neg (by rw [e]; decide)]; exact q1) q2; rwa [e] at q) K1 K2 xc y zc hK1 hK2 hcut
  by_cases h3 : op = 3
  · subst h3
    by_cases f1 : hasRB nr va = true
    · rw [f1]
      by_cases f2 : hasSrcB nr vc = true
      · rw [f2]
        by_cases f3 : vb = 0
        · subst f3
          have e : wrongG g ⟨3, va, 0, vc⟩ = 0 := by unfold wrongG; simp [f1, f2, hr]
          obtain ⟨ta, rfl, hta⟩ := hasRB_yes f1
          have hd : doG z g ⟨3, (ta : Int), 0, vc⟩ = ⟨g.os, g.rs.set ta (srcG g vc), g.mm⟩ := by
            unfold doG
            dsimp only
            rw [if_neg (by decide), if_neg (by decide), if_pos rfl, Int.toNat_natCast]
          by_cases hm1 : vc = -1
          · subst hm1
            have hs1 : srcG g (-1) = -1 := rfl
            rw [hs1] at hd
            exact act_ckn h hg hnd AB z ta hta hAB hla P0 (fun w' q1 q2 => by have q := hP w' (by rw [if_pos e, hd]; exact q1) q2; rwa [e] at q) K1 K2 xc y zc hK1 hK2 hcut
          · have hb : hasRB nr vc = true := by unfold hasSrcB at f2; rw [decide_eq_false hm1] at f2; exact f2
            obtain ⟨j, rfl, hj⟩ := hasRB_yes hb
            have hs1 : srcG g (j : Int) = g.rs.getD j 0 := by unfold srcG; rw [if_neg (by omega), regG_at]
            rw [hs1] at hd
            exact act_ckj h hg hnd AB z ta hta j hj _ rfl hAB hla P0 (fun w' q1 q2 => by have q := hP w' (by rw [if_pos e, hd]; exact q1) q2; rwa [e] at q) K1 K2 xc y zc hK1 hK2 hcut
        · skip
          have e : wrongG g ⟨3, va, vb, vc⟩ = 3 := by unfold wrongG; simp [f1, f2, f3, hr]
          exact act_c3 h hg hnd AB va vb vc z f3 hAB hla P0 (fun w' q1 q2 => by have q := hP w' (by rw [if_neg (by rw [e]; decide)]; exact q1) q2; rwa [e] at q) K1 K2 xc y zc hK1 hK2 hcut
      · have f2' : hasSrcB nr vc = false := by simpa using f2
        rw [f2']
        have e : wrongG g ⟨3, va, vb, vc⟩ = 3 := by unfold wrongG; simp [f1, f2, hr]
        exact act_c2 h hg hnd AB va vb vc z hAB hla P0 (fun w' q1 q2 => by have q := hP w' (by rw [if_neg (by rw [e]; decide)]; exact q1) q2; rwa [e] at q) K1 K2 xc y zc hK1 hK2 hcut
    · have f1' : hasRB nr va = false := by simpa using f1
      rw [f1']
      have e : wrongG g ⟨3, va, vb, vc⟩ = 3 := by unfold wrongG; simp [f1, hr]
      exact act_c1 h hg hnd AB va vb vc z (hasSrcB nr vc) hAB hla P0 (fun w' q1 q2 => by have q := hP w' (by rw [if_neg (by rw [e]; decide)]; exact q1) q2; rwa [e] at q) K1 K2 xc y zc hK1 hK2 hcut
  by_cases h4 : op = 4
  · subst h4
    by_cases f1 : hasRB nr va = true
    · rw [f1]
      by_cases f2 : 0 ≤ vb
      · by_cases f3 : vb ≤ 20
        · by_cases f4 : vc = 0
          · subst f4
            by_cases f5 : n = 500
            · skip
              have e : wrongG g ⟨4, va, vb, 0⟩ = 9 := by unfold wrongG; simp [f1, f2, f3, hr, hn, f5]
              exact act_n5 h hg hnd AB va vb z (hasSrcB nr 0) f2 f3 f5 hAB hla P0 (fun w' q1 q2 => by have q := hP w' (by rw [if_neg (by rw [e]; decide)]; exact q1) q2; rwa [e] at q) K1 K2 xc y zc hK1 hK2 hcut
            · have e : wrongG g ⟨4, va, vb, 0⟩ = 0 := by unfold wrongG; simp [f1, f2, f3, hr, hn, f5]
              obtain ⟨ta, rfl, hta⟩ := hasRB_yes f1
              obtain ⟨k, rfl⟩ : ∃ k : Nat, vb = (k : Int) := ⟨vb.toNat, by omega⟩
              have hd : doG z g ⟨4, (ta : Int), (k : Int), 0⟩ = ⟨g.os ++ [List.replicate k (-1)], g.rs.set ta (n : Int), bornM n g.mm⟩ := by
                unfold doG
                dsimp only
                rw [if_neg (by decide), if_neg (by decide), if_neg (by decide), if_pos rfl, Int.toNat_natCast, Int.toNat_natCast]
                unfold bornG bornM
                dsimp only
                rw [hn]
              exact act_nk h hg hnd AB z (hasSrcB nr 0) ta k hta (by omega) f5 hAB hla P0 (fun w' q1 q2 => by have q := hP w' (by rw [if_pos e, hd]; exact q1) q2; rwa [e] at q) K1 K2 xc y zc hK1 hK2 hcut
          · skip
            have e : wrongG g ⟨4, va, vb, vc⟩ = 3 := by unfold wrongG; simp [f4]
            exact act_n4 h hg hnd AB va vb vc z (hasSrcB nr vc) f2 f3 f4 hAB hla P0 (fun w' q1 q2 => by have q := hP w' (by rw [if_neg (by rw [e]; decide)]; exact q1) q2; rwa [e] at q) K1 K2 xc y zc hK1 hK2 hcut
        · skip
          have e : wrongG g ⟨4, va, vb, vc⟩ = 3 := by unfold wrongG; simp [f3]
          exact act_n3 h hg hnd AB va vb vc z (hasSrcB nr vc) f2 (by omega) hAB hla P0 (fun w' q1 q2 => by have q := hP w' (by rw [if_neg (by rw [e]; decide)]; exact q1) q2; rwa [e] at q) K1 K2 xc y zc hK1 hK2 hcut
      · skip
        have e : wrongG g ⟨4, va, vb, vc⟩ = 3 := by unfold wrongG; simp [f2]
        exact act_n2 h hg hnd AB va vb vc z (hasSrcB nr vc) (by omega) hAB hla P0 (fun w' q1 q2 => by have q := hP w' (by rw [if_neg (by rw [e]; decide)]; exact q1) q2; rwa [e] at q) K1 K2 xc y zc hK1 hK2 hcut
    · have f1' : hasRB nr va = false := by simpa using f1
      rw [f1']
      have e : wrongG g ⟨4, va, vb, vc⟩ = 3 := by unfold wrongG; simp [f1, hr]
      exact act_n1 h hg hnd AB va vb vc z (hasSrcB nr vc) hAB hla P0 (fun w' q1 q2 => by have q := hP w' (by rw [if_neg (by rw [e]; decide)]; exact q1) q2; rwa [e] at q) K1 K2 xc y zc hK1 hK2 hcut
  by_cases h5 : op = 5
  · subst h5
    by_cases f1 : va = 0
    · subst f1
      by_cases f2 : vb = 0
      · subst f2
        by_cases f3 : vc = 0
        · subst f3
          have e : wrongG g ⟨5, 0, 0, 0⟩ = 0 := by unfold wrongG; simp
          have e2 : doG z g ⟨5, 0, 0, 0⟩ = ⟨g.os, g.rs, markM g.os g.mm⟩ := rfl
          exact act_m0 h hg hnd AB z (hasRB nr 0) (hasSrcB nr 0) hAB hla P0 (fun w' q1 q2 => by have q := hP w' (by rw [if_pos e, e2]; exact q1) q2; rwa [e] at q) K1 K2 xc y zc hK1 hK2 hcut
        · skip
          have e : wrongG g ⟨5, 0, 0, vc⟩ = 3 := by unfold wrongG; simp [f3]
          exact act_m3 h hg hnd AB vc z (hasRB nr 0) (hasSrcB nr vc) f3 hAB hla P0 (fun w' q1 q2 => by have q := hP w' (by rw [if_neg (by rw [e]; decide)]; exact q1) q2; rwa [e] at q) K1 K2 xc y zc hK1 hK2 hcut
      · skip
        have e : wrongG g ⟨5, 0, vb, vc⟩ = 3 := by unfold wrongG; simp [f2]
        exact act_m2 h hg hnd AB vb vc z (hasRB nr 0) (hasSrcB nr vc) f2 hAB hla P0 (fun w' q1 q2 => by have q := hP w' (by rw [if_neg (by rw [e]; decide)]; exact q1) q2; rwa [e] at q) K1 K2 xc y zc hK1 hK2 hcut
    · skip
      have e : wrongG g ⟨5, va, vb, vc⟩ = 3 := by unfold wrongG; simp [f1]
      exact act_m1 h hg hnd AB va vb vc z (hasRB nr va) (hasSrcB nr vc) f1 hAB hla P0 (fun w' q1 q2 => by have q := hP w' (by rw [if_neg (by rw [e]; decide)]; exact q1) q2; rwa [e] at q) K1 K2 xc y zc hK1 hK2 hcut
  · skip
    have e : wrongG g ⟨op, va, vb, vc⟩ = 4 := by unfold wrongG; simp [h1, h2, h3, h4, h5]
    exact act_k0 h hg hnd AB op va vb vc z (hasRB nr va) (hasSrcB nr vc) h1 h2 h3 h4 h5 hAB hla P0 (fun w' q1 q2 => by have q := hP w' (by rw [if_neg (by rw [e]; decide)]; exact q1) q2; rwa [e] at q) K1 K2 xc y zc hK1 hK2 hcut

set_option maxRecDepth 100000 in
set_option maxHeartbeats 4000000 in
theorem act_any {lo : Nat} {w : World} {lab : Nat → Nat} {b : Nat} {oa : Option Addr} {n co : Nat} {ar : Option Addr} {nr cr wb cw : Nat} {vl : Value} {g : Gm} (h : RfL lo w lab b oa n co ar nr cr wb cw vl g) (hg : GoodG g) (hnd : NodG g.mm) (X : Ac) (z : Int) (hz0 : 0 ≤ z) (hz3 : z ≤ 3) :
    Calls Try.prog 35 #[.pointer (some ⟨b, 0, none⟩), .agg #[.int .i64 X.op, .int .i64 X.a, .int .i64 X.b, .int .i64 X.c], .int .i64 z] w fun e w' => e = .returned (.int .i64 (wrongG g X)) ∧ RfX lo w' b (if wrongG g X = 0 then doG z g X else g) ∧ Below lo w w' := by
  have h0 := h.fresh (.cells #[.int .i64 X.op, .int .i64 X.a, .int .i64 X.b, .int .i64 X.c] 47)
  have hQ := new_block w (.cells #[.int .i64 X.op, .int .i64 X.a, .int .i64 X.b, .int .i64 X.c] 47)
  have hx : Below w.heap.size w (w.alloc (.cells #[.int .i64 X.op, .int .i64 X.a, .int .i64 X.b, .int .i64 X.c] 47)) := (Below.refl _ _).alloc (Nat.le_refl _) _
  have hlow : lo ≤ w.heap.size := Nat.le_trans h.low.1 (Nat.le_of_lt h.blt)
  obtain ⟨W0, e0⟩ : ∃ X', w.alloc (.cells #[.int .i64 X.op, .int .i64 X.a, .int .i64 X.b, .int .i64 X.c] 47) = X' := ⟨_, rfl⟩
  rw [e0] at h0 hQ hx
  have H0 := hide h0; have HQ := hide hQ; have HX := hide hx; have HE := hide e0; have HLW := hide hlow; have HG := hide hg; have HND := hide hnd
  clear h0 hQ hx e0 h hlow hg hnd
  go_enter Try.func35, Try.ntmps35
  go_upto_region 1 with fail
  rw [unhide HE]
  clear HE
  obtain ⟨⟨q0, q1, q2, q3⟩, -, ql⟩ := block4 (unhide HQ)
  obtain ⟨⟨m0, m1, m2, m3⟩, -, ml⟩ := block4 (unhide H0).blk
  by_cases a1 : 0 ≤ X.a
  · by_cases a2 : X.a < (nr : Int)
    · by_cases c1 : -1 ≤ X.c
      · by_cases c2 : X.c < (nr : Int)
        · skip
          have eA : hasRB nr X.a = true := by unfold hasRB; rw [decide_eq_true a1, decide_eq_true a2]; rfl
          have eC : hasSrcB nr X.c = true := srcB_in c1 c2
          have EA := hide eA; have EC := hide eC
          clear eA eC
          go_upto_region 4 with fail
          exact act_4 (unhide H0) (unhide HG) (unhide HND) w.heap.size X z _ _ (unhide EA) (unhide EC) hz0 hz3 (unhide HQ) (if_pos rfl) (fun e w' => e = .returned (.int .i64 (wrongG g X)) ∧ RfX lo w' b (if wrongG g X = 0 then doG z g X else g) ∧ Below lo w w') (fun w' q1 q2 => ⟨rfl, q1, ((unhide HX).mono (unhide HLW)).trans q2⟩) _ _ _ _ _ (by assumption) (by assumption) (by kernel_rfl)
        · skip
          have eA : hasRB nr X.a = true := by unfold hasRB; rw [decide_eq_true a1, decide_eq_true a2]; rfl
          have eC : hasSrcB nr X.c = false := by unfold hasSrcB hasRB; rw [decide_eq_false (by omega : ¬ X.c = -1), decide_eq_false c2, Bool.and_false]; rfl
          have EA := hide eA; have EC := hide eC
          clear eA eC
          go_upto_region 4 with fail
          exact act_4 (unhide H0) (unhide HG) (unhide HND) w.heap.size X z _ _ (unhide EA) (unhide EC) hz0 hz3 (unhide HQ) (if_pos rfl) (fun e w' => e = .returned (.int .i64 (wrongG g X)) ∧ RfX lo w' b (if wrongG g X = 0 then doG z g X else g) ∧ Below lo w w') (fun w' q1 q2 => ⟨rfl, q1, ((unhide HX).mono (unhide HLW)).trans q2⟩) _ _ _ _ _ (by assumption) (by assumption) (by kernel_rfl)
      · skip
        have eA : hasRB nr X.a = true := by unfold hasRB; rw [decide_eq_true a1, decide_eq_true a2]; rfl
        have eC : hasSrcB nr X.c = false := by unfold hasSrcB hasRB; rw [decide_eq_false (by omega : ¬ X.c = -1), decide_eq_false (by omega : ¬ 0 ≤ X.c)]; rfl
        have EA := hide eA; have EC := hide eC
        clear eA eC
        go_upto_region 4 with fail
        exact act_4 (unhide H0) (unhide HG) (unhide HND) w.heap.size X z _ _ (unhide EA) (unhide EC) hz0 hz3 (unhide HQ) (if_pos rfl) (fun e w' => e = .returned (.int .i64 (wrongG g X)) ∧ RfX lo w' b (if wrongG g X = 0 then doG z g X else g) ∧ Below lo w w') (fun w' q1 q2 => ⟨rfl, q1, ((unhide HX).mono (unhide HLW)).trans q2⟩) _ _ _ _ _ (by assumption) (by assumption) (by kernel_rfl)
    · by_cases c1 : -1 ≤ X.c
      · by_cases c2 : X.c < (nr : Int)
        · skip
          have eA : hasRB nr X.a = false := by unfold hasRB; rw [decide_eq_false a2, Bool.and_false]
          have eC : hasSrcB nr X.c = true := srcB_in c1 c2
          have EA := hide eA; have EC := hide eC
          clear eA eC
          go_upto_region 4 with fail
          exact act_4 (unhide H0) (unhide HG) (unhide HND) w.heap.size X z _ _ (unhide EA) (unhide EC) hz0 hz3 (unhide HQ) (if_pos rfl) (fun e w' => e = .returned (.int .i64 (wrongG g X)) ∧ RfX lo w' b (if wrongG g X = 0 then doG z g X else g) ∧ Below lo w w') (fun w' q1 q2 => ⟨rfl, q1, ((unhide HX).mono (unhide HLW)).trans q2⟩) _ _ _ _ _ (by assumption) (by assumption) (by kernel_rfl)
        · skip
          have eA : hasRB nr X.a = false := by unfold hasRB; rw [decide_eq_false a2, Bool.and_false]
          have eC : hasSrcB nr X.c = false := by unfold hasSrcB hasRB; rw [decide_eq_false (by omega : ¬ X.c = -1), decide_eq_false c2, Bool.and_false]; rfl
          have EA := hide eA; have EC := hide eC
          clear eA eC
          go_upto_region 4 with fail
          exact act_4 (unhide H0) (unhide HG) (unhide HND) w.heap.size X z _ _ (unhide EA) (unhide EC) hz0 hz3 (unhide HQ) (if_pos rfl) (fun e w' => e = .returned (.int .i64 (wrongG g X)) ∧ RfX lo w' b (if wrongG g X = 0 then doG z g X else g) ∧ Below lo w w') (fun w' q1 q2 => ⟨rfl, q1, ((unhide HX).mono (unhide HLW)).trans q2⟩) _ _ _ _ _ (by assumption) (by assumption) (by kernel_rfl)
      · skip
        have eA : hasRB nr X.a = false := by unfold hasRB; rw [decide_eq_false a2, Bool.and_false]
        have eC : hasSrcB nr X.c = false := by unfold hasSrcB hasRB; rw [decide_eq_false (by omega : ¬ X.c = -1), decide_eq_false (by omega : ¬ 0 ≤ X.c)]; rfl
        have EA := hide eA; have EC := hide eC
        clear eA eC
        go_upto_region 4 with fail
        exact act_4 (unhide H0) (unhide HG) (unhide HND) w.heap.size X z _ _ (unhide EA) (unhide EC) hz0 hz3 (unhide HQ) (if_pos rfl) (fun e w' => e = .returned (.int .i64 (wrongG g X)) ∧ RfX lo w' b (if wrongG g X = 0 then doG z g X else g) ∧ Below lo w w') (fun w' q1 q2 => ⟨rfl, q1, ((unhide HX).mono (unhide HLW)).trans q2⟩) _ _ _ _ _ (by assumption) (by assumption) (by kernel_rfl)
  · by_cases c1 : -1 ≤ X.c
    · by_cases c2 : X.c < (nr : Int)
      · skip
        have eA : hasRB nr X.a = false := by unfold hasRB; rw [decide_eq_false a1]; rfl
        have eC : hasSrcB nr X.c = true := srcB_in c1 c2
        have EA := hide eA; have EC := hide eC
        clear eA eC
        go_upto_region 4 with fail
        exact act_4 (unhide H0) (unhide HG) (unhide HND) w.heap.size X z _ _ (unhide EA) (unhide EC) hz0 hz3 (unhide HQ) (if_pos rfl) (fun e w' => e = .returned (.int .i64 (wrongG g X)) ∧ RfX lo w' b (if wrongG g X = 0 then doG z g X else g) ∧ Below lo w w') (fun w' q1 q2 => ⟨rfl, q1, ((unhide HX).mono (unhide HLW)).trans q2⟩) _ _ _ _ _ (by assumption) (by assumption) (by kernel_rfl)
      · skip
        have eA : hasRB nr X.a = false := by unfold hasRB; rw [decide_eq_false a1]; rfl
        have eC : hasSrcB nr X.c = false := by unfold hasSrcB hasRB; rw [decide_eq_false (by omega : ¬ X.c = -1), decide_eq_false c2, Bool.and_false]; rfl
        have EA := hide eA; have EC := hide eC
        clear eA eC
        go_upto_region 4 with fail
        exact act_4 (unhide H0) (unhide HG) (unhide HND) w.heap.size X z _ _ (unhide EA) (unhide EC) hz0 hz3 (unhide HQ) (if_pos rfl) (fun e w' => e = .returned (.int .i64 (wrongG g X)) ∧ RfX lo w' b (if wrongG g X = 0 then doG z g X else g) ∧ Below lo w w') (fun w' q1 q2 => ⟨rfl, q1, ((unhide HX).mono (unhide HLW)).trans q2⟩) _ _ _ _ _ (by assumption) (by assumption) (by kernel_rfl)
    · skip
      have eA : hasRB nr X.a = false := by unfold hasRB; rw [decide_eq_false a1]; rfl
      have eC : hasSrcB nr X.c = false := by unfold hasSrcB hasRB; rw [decide_eq_false (by omega : ¬ X.c = -1), decide_eq_false (by omega : ¬ 0 ≤ X.c)]; rfl
      have EA := hide eA; have EC := hide eC
      clear eA eC
      go_upto_region 4 with fail
      exact act_4 (unhide H0) (unhide HG) (unhide HND) w.heap.size X z _ _ (unhide EA) (unhide EC) hz0 hz3 (unhide HQ) (if_pos rfl) (fun e w' => e = .returned (.int .i64 (wrongG g X)) ∧ RfX lo w' b (if wrongG g X = 0 then doG z g X else g) ∧ Below lo w w') (fun w' q1 q2 => ⟨rfl, q1, ((unhide HX).mono (unhide HLW)).trans q2⟩) _ _ _ _ _ (by assumption) (by assumption) (by kernel_rfl)
end Go.Proofs.Ytmkehjncnaokoaa
