/-
  taskmilllaw.CellMixes: its beginning.
-/
import Derived.Test.YtpgokeogijpmaaaDoorCk
import Derived.Test.YtpgokeogijpmaaaDoorCd
namespace Go.Proofs.YtpgokeogijpmaaaDoor.Mx
open Go.RowKit

set_option maxRecDepth 100000 in
set_option maxHeartbeats 4000000 in
theorem mixes_vast (w : World) (a0 : Option Addr) (m c0 : Nat) (at1 : Option Addr) (n ct : Nat) (ap : Option Addr) (p cp : Nat) (hV : ∀ W, Below w.heap.size w W → Calls Tryd.prog 18 #[.slice at1 n ct] W fun e w' => e = .returned (.bool true) ∧ Below W.heap.size W w') : Calls Tryd.prog 4 #[.slice a0 m c0, .slice at1 n ct, .slice ap p cp] w fun e w' => e = .returned (.bool true) ∧ Below w.heap.size w w' := by
  have HV := hide hV
  clear hV
  go_enter Tryd.func4, Tryd.ntmps4
  go_wp2_with (first | (go_at_call 14; refine (begun_any _).mono ?_; rintro e w2 ⟨rfl, hb2⟩; have HX2 := hide hb2; clear hb2) | (go_at_call 18; refine (unhide HV _ (unhide HX2)).mono ?_; rintro e w3 ⟨rfl, hb3⟩; have HX3 := hide (Below.next (unhide HX2) hb3 (Nat.le_refl _)); clear hb3))
  go_ret
  exact ⟨rfl, unhide HX3⟩


theorem mixes_loop (f0 : Int × Int) (W1 : World) (v0 : Value) (at1 : Option Addr) (n ct : Nat) (ap : Option Addr) (p cp : Nat) (v7 v8 : Value) (R9 R : Nat) (ps : List Int) (hp : p ≤ 100000 ∨ f0.1 ≠ 0) (Wt : World) (hX : Below W1.heap.size W1 Wt) (f : Int × Int) (hR : Wt.heap[R]? = some (.cells #[.int .i64 f0.1, .int .i64 f0.2] 27)) (hw : W1.heap.size ≤ R) (hP : IsL KI W1 (.slice ap p cp) ps) (hf : (f0.1 ≠ 0 ∧ f = f0) ∨ (f0 = (0, 0) ∧ pickF n ps p 0 = f)) (w : World) (hE : ∀ (s3 s4 s5 s6 s11 s12 s13 s14 s15 s16 s17 s18 s19 s20 s21 s22 s23 s24 s25 s26 s27 s28 s29 s30 s31 s32 s33 s34 s35 s36 s37 s38 s39 s40 s41 s42 s43 s44 s45 s46 s47 s48 s49 s50 s51 s52 s53 s54 s55 s56 s57 s58 s59 s60 s61 s62 s63 s64 s65 s66 s67 s68 s69 s70 s71 s72 s73 s74 s75 s76 s77 s78 s79 s80 s81 s82 s83 s84 s85 s86 s87 s88 s89 s90 s91 s92 s93 s94 s95 s96 s97 s98 s99 s100 s101 s102 s103 s104 s105 s106 s107 s108 s109 s110 s111 s112 s113 s114 s115 s116 s117 s118 s119 s120 s121 s122 s123 s124 s125 s126 s127 s128 s129 s130 s131 s132 s133 : Value) (W' : World) (b r : Code), (Tryd.f4.body.bind (loopFor 0)) = some (b, r) → Below W1.heap.size W1 W' → W'.heap[R]? = some (.cells #[.int .i64 f.1, .int .i64 f.2] 27) → r.wp Tryd.prog (bodyPost Tryd.prog Tryd.f4 fun e w' => e = .returned (.bool true) ∧ Below w.heap.size w w') { tmps := (v0 :: .slice at1 n ct :: .slice ap p cp :: s3 :: s4 :: s5 :: s6 :: v7 :: v8 :: .pointer (some ⟨R9, 0, none⟩) :: .pointer (some ⟨R, 0, none⟩) :: s11 :: s12 :: s13 :: s14 :: s15 :: s16 :: s17 :: s18 :: s19 :: s20 :: s21 :: s22 :: s23 :: s24 :: s25 :: s26 :: s27 :: s28 :: s29 :: s30 :: s31 :: s32 :: s33 :: s34 :: s35 :: s36 :: s37 :: s38 :: s39 :: s40 :: s41 :: s42 :: s43 :: s44 :: s45 :: s46 :: s47 :: s48 :: s49 :: s50 :: s51 :: s52 :: s53 :: s54 :: s55 :: s56 :: s57 :: s58 :: s59 :: s60 :: s61 :: s62 :: s63 :: s64 :: s65 :: s66 :: s67 :: s68 :: s69 :: s70 :: s71 :: s72 :: s73 :: s74 :: s75 :: s76 :: s77 :: s78 :: s79 :: s80 :: s81 :: s82 :: s83 :: s84 :: s85 :: s86 :: s87 :: s88 :: s89 :: s90 :: s91 :: s92 :: s93 :: s94 :: s95 :: s96 :: s97 :: s98 :: s99 :: s100 :: s101 :: s102 :: s103 :: s104 :: s105 :: s106 :: s107 :: s108 :: s109 :: s110 :: s111 :: s112 :: s113 :: s114 :: s115 :: s116 :: s117 :: s118 :: s119 :: s120 :: s121 :: s122 :: s123 :: s124 :: s125 :: s126 :: s127 :: s128 :: s129 :: s130 :: s131 :: s132 :: s133 :: []).toArray, defers := [] } W') (K : Act → World → Prop) (b r : Code) (hK : ∀ a w', r.wp Tryd.prog (bodyPost Tryd.prog Tryd.f4 fun e w' => e = .returned (.bool true) ∧ Below w.heap.size w w') a w' → K a w') (hcut : (Tryd.f4.body.bind (loopFor 0)) = some (b, r)) {s3 s4 s5 s6 s12 s13 s14 s15 s16 s17 s18 s19 s20 s21 s22 s23 s24 s25 s26 s27 s28 s29 s30 s31 s32 s33 s34 s35 s36 s37 s38 s39 s40 s41 s42 s43 s44 s45 s46 s47 s48 s49 s50 s51 s52 s53 s54 s55 s56 s57 s58 s59 s60 s61 s62 s63 s64 s65 s66 s67 s68 s69 s70 s71 s72 s73 s74 s75 s76 s77 s78 s79 s80 s81 s82 s83 s84 s85 s86 s87 s88 s89 s90 s91 s92 s93 s94 s95 s96 s97 s98 s99 s100 s101 s102 s103 s104 s105 s106 s107 s108 s109 s110 s111 s112 s113 s114 s115 s116 s117 s118 s119 s120 s121 s122 s123 s124 s125 s126 s127 s128 s129 s130 s131 s132 s133 : Value} :
    (Code.loop b).wp Tryd.prog (Exit.inBlock 0 (Exit.then K (bodyPost Tryd.prog Tryd.f4 fun e w' => e = .returned (.bool true) ∧ Below w.heap.size w w'))) { tmps := (v0 :: .slice at1 n ct :: .slice ap p cp :: s3 :: s4 :: s5 :: s6 :: v7 :: v8 :: .pointer (some ⟨R9, 0, none⟩) :: .pointer (some ⟨R, 0, none⟩) :: .int .i64 0 :: s12 :: s13 :: s14 :: s15 :: s16 :: s17 :: s18 :: s19 :: s20 :: s21 :: s22 :: s23 :: s24 :: s25 :: s26 :: s27 :: s28 :: s29 :: s30 :: s31 :: s32 :: s33 :: s34 :: s35 :: s36 :: s37 :: s38 :: s39 :: s40 :: s41 :: s42 :: s43 :: s44 :: s45 :: s46 :: s47 :: s48 :: s49 :: s50 :: s51 :: s52 :: s53 :: s54 :: s55 :: s56 :: s57 :: s58 :: s59 :: s60 :: s61 :: s62 :: s63 :: s64 :: s65 :: s66 :: s67 :: s68 :: s69 :: s70 :: s71 :: s72 :: s73 :: s74 :: s75 :: s76 :: s77 :: s78 :: s79 :: s80 :: s81 :: s82 :: s83 :: s84 :: s85 :: s86 :: s87 :: s88 :: s89 :: s90 :: s91 :: s92 :: s93 :: s94 :: s95 :: s96 :: s97 :: s98 :: s99 :: s100 :: s101 :: s102 :: s103 :: s104 :: s105 :: s106 :: s107 :: s108 :: s109 :: s110 :: s111 :: s112 :: s113 :: s114 :: s115 :: s116 :: s117 :: s118 :: s119 :: s120 :: s121 :: s122 :: s123 :: s124 :: s125 :: s126 :: s127 :: s128 :: s129 :: s130 :: s131 :: s132 :: s133 :: []).toArray, defers := [] } Wt := by
  have hE2 : NxV W1 v0 at1 n ct ap p cp v7 v8 R9 R f (Exit.inBlock 0 (Exit.then K (bodyPost Tryd.prog Tryd.f4 fun e w' => e = .returned (.bool true) ∧ Below w.heap.size w w'))) := by
    unfold NxV
    intros
    rename_i W' hb' hR'
    exact in_b0 (hK _ _ (hE _ _ _ _ _ _ _ _ _ _ _ _ _ _ _ _ _ _ _ _ _ _ _ _ _ _ _ _ _ _ _ _ _ _ _ _ _ _ _ _ _ _ _ _ _ _ _ _ _ _ _ _ _ _ _ _ _ _ _ _ _ _ _ _ _ _ _ _ _ _ _ _ _ _ _ _ _ _ _ _ _ _ _ _ _ _ _ _ _ _ _ _ _ _ _ _ _ _ _ _ _ _ _ _ _ _ _ _ _ _ _ _ _ _ _ _ _ _ _ _ _ _ _ _ _ _ _ W' b r hcut hb' hR'))
  refine wp_loop_rounds (p + 2) ?_
  rcases hf with ⟨h0, rfl⟩ | ⟨rfl, hf⟩
  · rw [rounds_succ]
    refine pk_stop v0 at1 n ct ap p cp v7 v8 R9 R 0 Wt f hR (Or.inr h0) _ _ b r hcut ?_
    intros
    exact hE2 _ _ _ _ _ _ _ _ _ _ _ _ _ _ _ _ _ _ _ _ _ _ _ _ _ _ _ _ _ _ _ _ _ _ _ _ _ _ _ _ _ _ _ _ _ _ _ _ _ _ _ _ _ _ _ _ _ _ _ _ _ _ _ _ _ _ _ _ _ _ _ _ _ _ _ _ _ _ _ _ _ _ _ _ _ _ _ _ _ _ _ _ _ _ _ _ _ _ _ _ _ _ _ _ _ _ _ _ _ _ _ _ _ _ _ _ _ _ _ _ _ _ _ _ _ _ _ Wt hX hR
  · exact pk_rounds W1 v0 at1 n ct ap p cp v7 v8 R9 R ps (hp.resolve_right (by simp)) Wt hX hR hw hP _ b r hcut f hE2 p 0 (by omega) hf _ _ _ _ _ _ _ _ _ _ _ _ _ _ _ _ _ _ _ _ _ _ _ _ _ _ _ _ _ _ _ _ _ _ _ _ _ _ _ _ _ _ _ _ _ _ _ _ _ _ _ _ _ _ _ _ _ _ _ _ _ _ _ _ _ _ _ _ _ _ _ _ _ _ _ _ _ _ _ _ _ _ _ _ _ _ _ _ _ _ _ _ _ _ _ _ _ _ _ _ _ _ _ _ _ _ _ _ _ _ _ _ _ _ _ _ _ _ _ _ _ _ _ _ _ _

set_option maxRecDepth 100000 in
set_option maxHeartbeats 4000000 in
theorem mixes_n (w : World) (a0 : Option Addr) (m c0 : Nat) (at1 : Option Addr) (n ct : Nat) (ap : Option Addr) (p cp : Nat) (zs ps : List Int) (tss : List (List Op4)) (u v : Int) (Y : World → Value → Value → Prop) (f : Int × Int) (hY : ∀ W W' x7 x8, Y W x7 x8 → Below W.heap.size W W' → Y W' x7 x8) (h1 : 64 < n)
    (hV : ∀ W, Below w.heap.size w W → Calls Tryd.prog 18 #[.slice at1 n ct] W fun e w' => e = .returned (.bool false) ∧ Below W.heap.size W w')
    (hO1 : ∀ W, Below w.heap.size w W → Calls Tryd.prog 9 #[.slice a0 m c0] W fun e w' => ∃ a' c', e = .returned (.slice a' m c') ∧ IsInts w' (.slice a' m c') zs ∧ Below W.heap.size W w')
    (hO2 : ∀ W, Below w.heap.size w W → Calls Tryd.prog 9 #[.slice ap p cp] W fun e w' => ∃ a' c', e = .returned (.slice a' p c') ∧ IsL KI w' (.slice a' p c') ps ∧ Below W.heap.size W w')
    (hS : ∀ W a' c' a'' c'', Below w.heap.size w W → IsInts W (.slice a' m c') zs → IsL KI W (.slice a'' p c'') ps → Calls Tryd.prog 19 #[.slice a' m c', .slice at1 n ct, .slice a'' p c''] W fun e w' => ∃ x7 x8, e = .returned (.tuple #[x7, x8, .agg #[.int .i64 u, .int .i64 v]]) ∧ Y w' x7 x8 ∧ Below W.heap.size W w')
    (hTF : ∀ W, Below w.heap.size w W → Calls Tryd.prog 21 #[.slice a0 m c0, .slice at1 n ct] W fun e w' => e = .returned (.agg #[.int .i64 (tasksF m tss).1, .int .i64 (tasksF m tss).2]) ∧ Below W.heap.size W w')
    (hP : IsL KI w (.slice ap p cp) ps) (hf : (((2 : Int), (0 : Int)).1 ≠ 0 ∧ f = ((2 : Int), (0 : Int))) ∨ (((2 : Int), (0 : Int)) = (0, 0) ∧ pickF n ps p 0 = f))
    (hfin : ∀ (s3 s4 s5 s6 s11 s12 s13 s14 s15 s16 s17 s18 s19 s20 s21 s22 s23 s24 s25 s26 s27 s28 s29 s30 s31 s32 s33 s34 s35 s36 s37 s38 s39 s40 s41 s42 s43 s44 s45 s46 s47 s48 s49 s50 s51 s52 s53 s54 s55 s56 s57 s58 s59 s60 s61 s62 s63 s64 s65 s66 s67 s68 s69 s70 s71 s72 s73 s74 s75 s76 s77 s78 s79 s80 s81 s82 s83 s84 s85 s86 s87 s88 s89 s90 s91 s92 s93 s94 s95 s96 s97 s98 s99 s100 s101 s102 s103 s104 s105 s106 s107 s108 s109 s110 s111 s112 s113 s114 s115 s116 s117 s118 s119 s120 s121 s122 s123 s124 s125 s126 s127 s128 s129 s130 s131 s132 s133 : Value) (x7 x8 : Value) (R9 R : Nat) (W' : World) (b r : Code), (Tryd.f4.body.bind (loopFor 0)) = some (b, r) → Below w.heap.size w W' → W'.heap[R9]? = some (.cells #[.int .i64 u, .int .i64 v] 27) → W'.heap[R]? = some (.cells #[.int .i64 f.1, .int .i64 f.2] 27) → Y W' x7 x8 → r.wp Tryd.prog (bodyPost Tryd.prog Tryd.f4 fun e w' => e = .returned (.bool true) ∧ Below w.heap.size w w') { tmps := (.slice a0 m c0 :: .slice at1 n ct :: .slice ap p cp :: s3 :: s4 :: s5 :: s6 :: x7 :: x8 :: .pointer (some ⟨R9, 0, none⟩) :: .pointer (some ⟨R, 0, none⟩) :: s11 :: s12 :: s13 :: s14 :: s15 :: s16 :: s17 :: s18 :: s19 :: s20 :: s21 :: s22 :: s23 :: s24 :: s25 :: s26 :: s27 :: s28 :: s29 :: s30 :: s31 :: s32 :: s33 :: s34 :: s35 :: s36 :: s37 :: s38 :: s39 :: s40 :: s41 :: s42 :: s43 :: s44 :: s45 :: s46 :: s47 :: s48 :: s49 :: s50 :: s51 :: s52 :: s53 :: s54 :: s55 :: s56 :: s57 :: s58 :: s59 :: s60 :: s61 :: s62 :: s63 :: s64 :: s65 :: s66 :: s67 :: s68 :: s69 :: s70 :: s71 :: s72 :: s73 :: s74 :: s75 :: s76 :: s77 :: s78 :: s79 :: s80 :: s81 :: s82 :: s83 :: s84 :: s85 :: s86 :: s87 :: s88 :: s89 :: s90 :: s91 :: s92 :: s93 :: s94 :: s95 :: s96 :: s97 :: s98 :: s99 :: s100 :: s101 :: s102 :: s103 :: s104 :: s105 :: s106 :: s107 :: s108 :: s109 :: s110 :: s111 :: s112 :: s113 :: s114 :: s115 :: s116 :: s117 :: s118 :: s119 :: s120 :: s121 :: s122 :: s123 :: s124 :: s125 :: s126 :: s127 :: s128 :: s129 :: s130 :: s131 :: s132 :: s133 :: []).toArray, defers := [] } W') :
    Calls Tryd.prog 4 #[.slice a0 m c0, .slice at1 n ct, .slice ap p cp] w fun e w' => e = .returned (.bool true) ∧ Below w.heap.size w w' := by
  have i1 : (64 : Int) < (n : Int) := by omega
  have HV := hide hV; have HO1 := hide hO1; have HO2 := hide hO2; have HS := hide hS; have HTF := hide hTF; have HP := hide hP; have HF := hide hf; have HFIN := hide hfin; have HYY := hide hY
  clear hV hO1 hO2 hS hTF hP hf hfin hY
  go_enter Tryd.func4, Tryd.ntmps4
  go_upto_region 6 with (first | (go_at_call 14; refine (begun_any _).mono ?_; rintro e w2 ⟨rfl, hb2⟩; have HX2 := hide hb2; clear hb2) | (go_at_call 18; refine (unhide HV _ (unhide HX2)).mono ?_; rintro e w3 ⟨rfl, hb3⟩; have HX3 := hide (Below.next (unhide HX2) hb3 (Nat.le_refl _)); clear hb3) | (go_at_call 9; (with_reducible refine Calls.mono (unhide HO1 _ (unhide HX3)) ?_); rintro e w5 ⟨a5, c5, rfl, hi5, hb5⟩; have HX5 := hide (Below.next (unhide HX3) hb5 (Nat.le_refl _)); have HI5 := hide hi5; clear hi5 hb5) | (go_at_call 9; (with_reducible refine Calls.mono (unhide HO2 _ (unhide HX5)) ?_); rintro e w6 ⟨a6, c6, rfl, hp6, hb6⟩; have HX6 := hide (Below.next (unhide HX5) hb6 (Nat.le_refl _)); have HI6 : Hid (IsInts w6 (.slice a5 m c5) zs) := Rd.below (unhide HI5) hb6; have HP6 := hide hp6; clear hp6 hb6) | (go_at_call 19; (with_reducible refine Calls.mono (unhide HS _ _ _ _ _ (unhide HX6) (unhide HI6) (unhide HP6)) ?_); rintro e w7 ⟨x7, x8, rfl, hy7, hb7⟩; have HX7 := hide (Below.next (unhide HX6) hb7 (Nat.le_refl _)); have HY7 := hide hy7; clear hy7 hb7))
  have H98 := hide (new_block w7 (.cells #[.int .i64 u, .int .i64 v] 27))
  have HX8 := hide ((unhide HX7).alloc (unhide HX7).size (.cells #[.int .i64 u, .int .i64 v] 27))
  have HY8 := hide (unhide HYY _ _ _ _ (unhide HY7) ((Below.refl _ _).alloc (Nat.le_refl _) (.cells #[.int .i64 u, .int .i64 v] 27)))
  obtain ⟨W8, eW8⟩ : ∃ X, w7.alloc (.cells #[.int .i64 u, .int .i64 v] 27) = X := ⟨_, rfl⟩
  rw [eW8] at H98 HX8 HY8 ⊢
  clear eW8 HX7 HY7 HX6 HI6 HP6 HX5 HI5 HX3 HX2
  obtain ⟨R9, eR9⟩ : ∃ X, w7.heap.size = X := ⟨_, rfl⟩
  rw [eR9] at H98 ⊢
  clear eR9
  go_upto_region 7 with fail
  have HR9 := hide (new_block W8 (.cells #[.int .i64 0, .int .i64 0] 27))
  have HX9 := hide ((unhide HX8).alloc (unhide HX8).size (.cells #[.int .i64 0, .int .i64 0] 27))
  have HB9 := hide ((Below.refl W8.heap.size W8).alloc (Nat.le_refl _) (.cells #[.int .i64 0, .int .i64 0] 27))
  obtain ⟨W9, eW9⟩ : ∃ X, W8.alloc (.cells #[.int .i64 0, .int .i64 0] 27) = X := ⟨_, rfl⟩
  rw [eW9] at HR9 HX9 HB9 ⊢
  clear eW9
  obtain ⟨z0, z1, zf0, zf1, zl⟩ := block2 (unhide HR9)
  go_wp2_with (go_at_call 20; refine (f_any _ _ _).mono ?_; rintro e w10 ⟨rfl, hb10⟩; clear z0 z1 zf0 zf1 zl; obtain ⟨g0, g1, gf0, gf1, gl⟩ := block2 (keep_below (unhide HR9) hb10); have HR10 := hide (keep_below (unhide HR9) hb10); have HB10 := hide (Below.next (unhide HB9) hb10 (Nat.le_refl _)); clear hb10)
  refine mixes_loop ((2 : Int), (0 : Int)) W8 _ at1 n ct ap p cp x7 x8 R9 W8.heap.size ps (by first | exact Or.inl (by omega) | exact Or.inr (by decide)) _ (put2_below (y0 := .int .i64 2) (y1 := .int .i64 0) (unhide HB10) (Nat.le_refl _)) f (put2_new (unhide HR10)) (Nat.le_refl _) ((unhide HP).below (unhide HX8)) (unhide HF) w ?_ _ _ _ (by assumption) (by kernel_rfl)
  intros
  rename_i W' b' r' hc' hb' hR'
  exact unhide HFIN _ _ _ _ _ _ _ _ _ _ _ _ _ _ _ _ _ _ _ _ _ _ _ _ _ _ _ _ _ _ _ _ _ _ _ _ _ _ _ _ _ _ _ _ _ _ _ _ _ _ _ _ _ _ _ _ _ _ _ _ _ _ _ _ _ _ _ _ _ _ _ _ _ _ _ _ _ _ _ _ _ _ _ _ _ _ _ _ _ _ _ _ _ _ _ _ _ _ _ _ _ _ _ _ _ _ _ _ _ _ _ _ _ _ _ _ _ _ _ _ _ _ _ _ _ _ _ x7 x8 R9 W8.heap.size W' b' r' hc' (Below.next (unhide HX8) hb' (Nat.le_refl _)) (keep_below (unhide H98) hb') hR' (unhide HYY _ _ _ _ (unhide HY8) hb')

set_option maxRecDepth 100000 in
set_option maxHeartbeats 4000000 in
theorem mixes_p (w : World) (a0 : Option Addr) (m c0 : Nat) (at1 : Option Addr) (n ct : Nat) (ap : Option Addr) (p cp : Nat) (zs ps : List Int) (tss : List (List Op4)) (u v : Int) (Y : World → Value → Value → Prop) (f : Int × Int) (hY : ∀ W W' x7 x8, Y W x7 x8 → Below W.heap.size W W' → Y W' x7 x8) (h1 : ¬ 64 < n) (h2 : 5000 < p)
    (hV : ∀ W, Below w.heap.size w W → Calls Tryd.prog 18 #[.slice at1 n ct] W fun e w' => e = .returned (.bool false) ∧ Below W.heap.size W w')
    (hO1 : ∀ W, Below w.heap.size w W → Calls Tryd.prog 9 #[.slice a0 m c0] W fun e w' => ∃ a' c', e = .returned (.slice a' m c') ∧ IsInts w' (.slice a' m c') zs ∧ Below W.heap.size W w')
    (hO2 : ∀ W, Below w.heap.size w W → Calls Tryd.prog 9 #[.slice ap p cp] W fun e w' => ∃ a' c', e = .returned (.slice a' p c') ∧ IsL KI w' (.slice a' p c') ps ∧ Below W.heap.size W w')
    (hS : ∀ W a' c' a'' c'', Below w.heap.size w W → IsInts W (.slice a' m c') zs → IsL KI W (.slice a'' p c'') ps → Calls Tryd.prog 19 #[.slice a' m c', .slice at1 n ct, .slice a'' p c''] W fun e w' => ∃ x7 x8, e = .returned (.tuple #[x7, x8, .agg #[.int .i64 u, .int .i64 v]]) ∧ Y w' x7 x8 ∧ Below W.heap.size W w')
    (hTF : ∀ W, Below w.heap.size w W → Calls Tryd.prog 21 #[.slice a0 m c0, .slice at1 n ct] W fun e w' => e = .returned (.agg #[.int .i64 (tasksF m tss).1, .int .i64 (tasksF m tss).2]) ∧ Below W.heap.size W w')
    (hP : IsL KI w (.slice ap p cp) ps) (hf : (((2 : Int), (0 : Int)).1 ≠ 0 ∧ f = ((2 : Int), (0 : Int))) ∨ (((2 : Int), (0 : Int)) = (0, 0) ∧ pickF n ps p 0 = f))
    (hfin : ∀ (s3 s4 s5 s6 s11 s12 s13 s14 s15 s16 s17 s18 s19 s20 s21 s22 s23 s24 s25 s26 s27 s28 s29 s30 s31 s32 s33 s34 s35 s36 s37 s38 s39 s40 s41 s42 s43 s44 s45 s46 s47 s48 s49 s50 s51 s52 s53 s54 s55 s56 s57 s58 s59 s60 s61 s62 s63 s64 s65 s66 s67 s68 s69 s70 s71 s72 s73 s74 s75 s76 s77 s78 s79 s80 s81 s82 s83 s84 s85 s86 s87 s88 s89 s90 s91 s92 s93 s94 s95 s96 s97 s98 s99 s100 s101 s102 s103 s104 s105 s106 s107 s108 s109 s110 s111 s112 s113 s114 s115 s116 s117 s118 s119 s120 s121 s122 s123 s124 s125 s126 s127 s128 s129 s130 s131 s132 s133 : Value) (x7 x8 : Value) (R9 R : Nat) (W' : World) (b r : Code), (Tryd.f4.body.bind (loopFor 0)) = some (b, r) → Below w.heap.size w W' → W'.heap[R9]? = some (.cells #[.int .i64 u, .int .i64 v] 27) → W'.heap[R]? = some (.cells #[.int .i64 f.1, .int .i64 f.2] 27) → Y W' x7 x8 → r.wp Tryd.prog (bodyPost Tryd.prog Tryd.f4 fun e w' => e = .returned (.bool true) ∧ Below w.heap.size w w') { tmps := (.slice a0 m c0 :: .slice at1 n ct :: .slice ap p cp :: s3 :: s4 :: s5 :: s6 :: x7 :: x8 :: .pointer (some ⟨R9, 0, none⟩) :: .pointer (some ⟨R, 0, none⟩) :: s11 :: s12 :: s13 :: s14 :: s15 :: s16 :: s17 :: s18 :: s19 :: s20 :: s21 :: s22 :: s23 :: s24 :: s25 :: s26 :: s27 :: s28 :: s29 :: s30 :: s31 :: s32 :: s33 :: s34 :: s35 :: s36 :: s37 :: s38 :: s39 :: s40 :: s41 :: s42 :: s43 :: s44 :: s45 :: s46 :: s47 :: s48 :: s49 :: s50 :: s51 :: s52 :: s53 :: s54 :: s55 :: s56 :: s57 :: s58 :: s59 :: s60 :: s61 :: s62 :: s63 :: s64 :: s65 :: s66 :: s67 :: s68 :: s69 :: s70 :: s71 :: s72 :: s73 :: s74 :: s75 :: s76 :: s77 :: s78 :: s79 :: s80 :: s81 :: s82 :: s83 :: s84 :: s85 :: s86 :: s87 :: s88 :: s89 :: s90 :: s91 :: s92 :: s93 :: s94 :: s95 :: s96 :: s97 :: s98 :: s99 :: s100 :: s101 :: s102 :: s103 :: s104 :: s105 :: s106 :: s107 :: s108 :: s109 :: s110 :: s111 :: s112 :: s113 :: s114 :: s115 :: s116 :: s117 :: s118 :: s119 :: s120 :: s121 :: s122 :: s123 :: s124 :: s125 :: s126 :: s127 :: s128 :: s129 :: s130 :: s131 :: s132 :: s133 :: []).toArray, defers := [] } W') :
    Calls Tryd.prog 4 #[.slice a0 m c0, .slice at1 n ct, .slice ap p cp] w fun e w' => e = .returned (.bool true) ∧ Below w.heap.size w w' := by
  have i1 : ¬ (64 : Int) < (n : Int) := by omega
  have i2 : (5000 : Int) < (p : Int) := by omega
  have HV := hide hV; have HO1 := hide hO1; have HO2 := hide hO2; have HS := hide hS; have HTF := hide hTF; have HP := hide hP; have HF := hide hf; have HFIN := hide hfin; have HYY := hide hY
  clear hV hO1 hO2 hS hTF hP hf hfin hY
  go_enter Tryd.func4, Tryd.ntmps4
  go_upto_region 6 with (first | (go_at_call 14; refine (begun_any _).mono ?_; rintro e w2 ⟨rfl, hb2⟩; have HX2 := hide hb2; clear hb2) | (go_at_call 18; refine (unhide HV _ (unhide HX2)).mono ?_; rintro e w3 ⟨rfl, hb3⟩; have HX3 := hide (Below.next (unhide HX2) hb3 (Nat.le_refl _)); clear hb3) | (go_at_call 9; (with_reducible refine Calls.mono (unhide HO1 _ (unhide HX3)) ?_); rintro e w5 ⟨a5, c5, rfl, hi5, hb5⟩; have HX5 := hide (Below.next (unhide HX3) hb5 (Nat.le_refl _)); have HI5 := hide hi5; clear hi5 hb5) | (go_at_call 9; (with_reducible refine Calls.mono (unhide HO2 _ (unhide HX5)) ?_); rintro e w6 ⟨a6, c6, rfl, hp6, hb6⟩; have HX6 := hide (Below.next (unhide HX5) hb6 (Nat.le_refl _)); have HI6 : Hid (IsInts w6 (.slice a5 m c5) zs) := Rd.below (unhide HI5) hb6; have HP6 := hide hp6; clear hp6 hb6) | (go_at_call 19; (with_reducible refine Calls.mono (unhide HS _ _ _ _ _ (unhide HX6) (unhide HI6) (unhide HP6)) ?_); rintro e w7 ⟨x7, x8, rfl, hy7, hb7⟩; have HX7 := hide (Below.next (unhide HX6) hb7 (Nat.le_refl _)); have HY7 := hide hy7; clear hy7 hb7))
  have H98 := hide (new_block w7 (.cells #[.int .i64 u, .int .i64 v] 27))
  have HX8 := hide ((unhide HX7).alloc (unhide HX7).size (.cells #[.int .i64 u, .int .i64 v] 27))
  have HY8 := hide (unhide HYY _ _ _ _ (unhide HY7) ((Below.refl _ _).alloc (Nat.le_refl _) (.cells #[.int .i64 u, .int .i64 v] 27)))
  obtain ⟨W8, eW8⟩ : ∃ X, w7.alloc (.cells #[.int .i64 u, .int .i64 v] 27) = X := ⟨_, rfl⟩
  rw [eW8] at H98 HX8 HY8 ⊢
  clear eW8 HX7 HY7 HX6 HI6 HP6 HX5 HI5 HX3 HX2
  obtain ⟨R9, eR9⟩ : ∃ X, w7.heap.size = X := ⟨_, rfl⟩
  rw [eR9] at H98 ⊢
  clear eR9
  go_upto_region 7 with fail
  have HR9 := hide (new_block W8 (.cells #[.int .i64 0, .int .i64 0] 27))
  have HX9 := hide ((unhide HX8).alloc (unhide HX8).size (.cells #[.int .i64 0, .int .i64 0] 27))
  have HB9 := hide ((Below.refl W8.heap.size W8).alloc (Nat.le_refl _) (.cells #[.int .i64 0, .int .i64 0] 27))
  obtain ⟨W9, eW9⟩ : ∃ X, W8.alloc (.cells #[.int .i64 0, .int .i64 0] 27) = X := ⟨_, rfl⟩
  rw [eW9] at HR9 HX9 HB9 ⊢
  clear eW9
  obtain ⟨z0, z1, zf0, zf1, zl⟩ := block2 (unhide HR9)
  go_wp2_with (go_at_call 20; refine (f_any _ _ _).mono ?_; rintro e w10 ⟨rfl, hb10⟩; clear z0 z1 zf0 zf1 zl; obtain ⟨g0, g1, gf0, gf1, gl⟩ := block2 (keep_below (unhide HR9) hb10); have HR10 := hide (keep_below (unhide HR9) hb10); have HB10 := hide (Below.next (unhide HB9) hb10 (Nat.le_refl _)); clear hb10)
  refine mixes_loop ((2 : Int), (0 : Int)) W8 _ at1 n ct ap p cp x7 x8 R9 W8.heap.size ps (by first | exact Or.inl (by omega) | exact Or.inr (by decide)) _ (put2_below (y0 := .int .i64 2) (y1 := .int .i64 0) (unhide HB10) (Nat.le_refl _)) f (put2_new (unhide HR10)) (Nat.le_refl _) ((unhide HP).below (unhide HX8)) (unhide HF) w ?_ _ _ _ (by assumption) (by kernel_rfl)
  intros
  rename_i W' b' r' hc' hb' hR'
  exact unhide HFIN _ _ _ _ _ _ _ _ _ _ _ _ _ _ _ _ _ _ _ _ _ _ _ _ _ _ _ _ _ _ _ _ _ _ _ _ _ _ _ _ _ _ _ _ _ _ _ _ _ _ _ _ _ _ _ _ _ _ _ _ _ _ _ _ _ _ _ _ _ _ _ _ _ _ _ _ _ _ _ _ _ _ _ _ _ _ _ _ _ _ _ _ _ _ _ _ _ _ _ _ _ _ _ _ _ _ _ _ _ _ _ _ _ _ _ _ _ _ _ _ _ _ _ _ _ _ _ x7 x8 R9 W8.heap.size W' b' r' hc' (Below.next (unhide HX8) hb' (Nat.le_refl _)) (keep_below (unhide H98) hb') hR' (unhide HYY _ _ _ _ (unhide HY8) hb')

set_option maxRecDepth 100000 in
set_option maxHeartbeats 4000000 in
theorem mixes_t (w : World) (a0 : Option Addr) (m c0 : Nat) (at1 : Option Addr) (n ct : Nat) (ap : Option Addr) (p cp : Nat) (zs ps : List Int) (tss : List (List Op4)) (u v : Int) (Y : World → Value → Value → Prop) (f : Int × Int) (hY : ∀ W W' x7 x8, Y W x7 x8 → Below W.heap.size W W' → Y W' x7 x8) (h1 : ¬ 64 < n) (h2 : ¬ 5000 < p)
    (hV : ∀ W, Below w.heap.size w W → Calls Tryd.prog 18 #[.slice at1 n ct] W fun e w' => e = .returned (.bool false) ∧ Below W.heap.size W w')
    (hO1 : ∀ W, Below w.heap.size w W → Calls Tryd.prog 9 #[.slice a0 m c0] W fun e w' => ∃ a' c', e = .returned (.slice a' m c') ∧ IsInts w' (.slice a' m c') zs ∧ Below W.heap.size W w')
    (hO2 : ∀ W, Below w.heap.size w W → Calls Tryd.prog 9 #[.slice ap p cp] W fun e w' => ∃ a' c', e = .returned (.slice a' p c') ∧ IsL KI w' (.slice a' p c') ps ∧ Below W.heap.size W w')
    (hS : ∀ W a' c' a'' c'', Below w.heap.size w W → IsInts W (.slice a' m c') zs → IsL KI W (.slice a'' p c'') ps → Calls Tryd.prog 19 #[.slice a' m c', .slice at1 n ct, .slice a'' p c''] W fun e w' => ∃ x7 x8, e = .returned (.tuple #[x7, x8, .agg #[.int .i64 u, .int .i64 v]]) ∧ Y w' x7 x8 ∧ Below W.heap.size W w')
    (hTF : ∀ W, Below w.heap.size w W → Calls Tryd.prog 21 #[.slice a0 m c0, .slice at1 n ct] W fun e w' => e = .returned (.agg #[.int .i64 (tasksF m tss).1, .int .i64 (tasksF m tss).2]) ∧ Below W.heap.size W w')
    (hP : IsL KI w (.slice ap p cp) ps) (hf : ((tasksF m tss).1 ≠ 0 ∧ f = (tasksF m tss)) ∨ ((tasksF m tss) = (0, 0) ∧ pickF n ps p 0 = f))
    (hfin : ∀ (s3 s4 s5 s6 s11 s12 s13 s14 s15 s16 s17 s18 s19 s20 s21 s22 s23 s24 s25 s26 s27 s28 s29 s30 s31 s32 s33 s34 s35 s36 s37 s38 s39 s40 s41 s42 s43 s44 s45 s46 s47 s48 s49 s50 s51 s52 s53 s54 s55 s56 s57 s58 s59 s60 s61 s62 s63 s64 s65 s66 s67 s68 s69 s70 s71 s72 s73 s74 s75 s76 s77 s78 s79 s80 s81 s82 s83 s84 s85 s86 s87 s88 s89 s90 s91 s92 s93 s94 s95 s96 s97 s98 s99 s100 s101 s102 s103 s104 s105 s106 s107 s108 s109 s110 s111 s112 s113 s114 s115 s116 s117 s118 s119 s120 s121 s122 s123 s124 s125 s126 s127 s128 s129 s130 s131 s132 s133 : Value) (x7 x8 : Value) (R9 R : Nat) (W' : World) (b r : Code), (Tryd.f4.body.bind (loopFor 0)) = some (b, r) → Below w.heap.size w W' → W'.heap[R9]? = some (.cells #[.int .i64 u, .int .i64 v] 27) → W'.heap[R]? = some (.cells #[.int .i64 f.1, .int .i64 f.2] 27) → Y W' x7 x8 → r.wp Tryd.prog (bodyPost Tryd.prog Tryd.f4 fun e w' => e = .returned (.bool true) ∧ Below w.heap.size w w') { tmps := (.slice a0 m c0 :: .slice at1 n ct :: .slice ap p cp :: s3 :: s4 :: s5 :: s6 :: x7 :: x8 :: .pointer (some ⟨R9, 0, none⟩) :: .pointer (some ⟨R, 0, none⟩) :: s11 :: s12 :: s13 :: s14 :: s15 :: s16 :: s17 :: s18 :: s19 :: s20 :: s21 :: s22 :: s23 :: s24 :: s25 :: s26 :: s27 :: s28 :: s29 :: s30 :: s31 :: s32 :: s33 :: s34 :: s35 :: s36 :: s37 :: s38 :: s39 :: s40 :: s41 :: s42 :: s43 :: s44 :: s45 :: s46 :: s47 :: s48 :: s49 :: s50 :: s51 :: s52 :: s53 :: s54 :: s55 :: s56 :: s57 :: s58 :: s59 :: s60 :: s61 :: s62 :: s63 :: s64 :: s65 :: s66 :: s67 :: s68 :: s69 :: s70 :: s71 :: s72 :: s73 :: s74 :: s75 :: s76 :: s77 :: s78 :: s79 :: s80 :: s81 :: s82 :: s83 :: s84 :: s85 :: s86 :: s87 :: s88 :: s89 :: s90 :: s91 :: s92 :: s93 :: s94 :: s95 :: s96 :: s97 :: s98 :: s99 :: s100 :: s101 :: s102 :: s103 :: s104 :: s105 :: s106 :: s107 :: s108 :: s109 :: s110 :: s111 :: s112 :: s113 :: s114 :: s115 :: s116 :: s117 :: s118 :: s119 :: s120 :: s121 :: s122 :: s123 :: s124 :: s125 :: s126 :: s127 :: s128 :: s129 :: s130 :: s131 :: s132 :: s133 :: []).toArray, defers := [] } W') :
    Calls Tryd.prog 4 #[.slice a0 m c0, .slice at1 n ct, .slice ap p cp] w fun e w' => e = .returned (.bool true) ∧ Below w.heap.size w w' := by
  have i1 : ¬ (64 : Int) < (n : Int) := by omega
  have i2 : ¬ (5000 : Int) < (p : Int) := by omega
  have HV := hide hV; have HO1 := hide hO1; have HO2 := hide hO2; have HS := hide hS; have HTF := hide hTF; have HP := hide hP; have HF := hide hf; have HFIN := hide hfin; have HYY := hide hY
  clear hV hO1 hO2 hS hTF hP hf hfin hY
  go_enter Tryd.func4, Tryd.ntmps4
  go_upto_region 6 with (first | (go_at_call 14; refine (begun_any _).mono ?_; rintro e w2 ⟨rfl, hb2⟩; have HX2 := hide hb2; clear hb2) | (go_at_call 18; refine (unhide HV _ (unhide HX2)).mono ?_; rintro e w3 ⟨rfl, hb3⟩; have HX3 := hide (Below.next (unhide HX2) hb3 (Nat.le_refl _)); clear hb3) | (go_at_call 9; (with_reducible refine Calls.mono (unhide HO1 _ (unhide HX3)) ?_); rintro e w5 ⟨a5, c5, rfl, hi5, hb5⟩; have HX5 := hide (Below.next (unhide HX3) hb5 (Nat.le_refl _)); have HI5 := hide hi5; clear hi5 hb5) | (go_at_call 9; (with_reducible refine Calls.mono (unhide HO2 _ (unhide HX5)) ?_); rintro e w6 ⟨a6, c6, rfl, hp6, hb6⟩; have HX6 := hide (Below.next (unhide HX5) hb6 (Nat.le_refl _)); have HI6 : Hid (IsInts w6 (.slice a5 m c5) zs) := Rd.below (unhide HI5) hb6; have HP6 := hide hp6; clear hp6 hb6) | (go_at_call 19; (with_reducible refine Calls.mono (unhide HS _ _ _ _ _ (unhide HX6) (unhide HI6) (unhide HP6)) ?_); rintro e w7 ⟨x7, x8, rfl, hy7, hb7⟩; have HX7 := hide (Below.next (unhide HX6) hb7 (Nat.le_refl _)); have HY7 := hide hy7; clear hy7 hb7))
  have H98 := hide (new_block w7 (.cells #[.int .i64 u, .int .i64 v] 27))
  have HX8 := hide ((unhide HX7).alloc (unhide HX7).size (.cells #[.int .i64 u, .int .i64 v] 27))
  have HY8 := hide (unhide HYY _ _ _ _ (unhide HY7) ((Below.refl _ _).alloc (Nat.le_refl _) (.cells #[.int .i64 u, .int .i64 v] 27)))
  obtain ⟨W8, eW8⟩ : ∃ X, w7.alloc (.cells #[.int .i64 u, .int .i64 v] 27) = X := ⟨_, rfl⟩
  rw [eW8] at H98 HX8 HY8 ⊢
  clear eW8 HX7 HY7 HX6 HI6 HP6 HX5 HI5 HX3 HX2
  obtain ⟨R9, eR9⟩ : ∃ X, w7.heap.size = X := ⟨_, rfl⟩
  rw [eR9] at H98 ⊢
  clear eR9
  go_upto_region 7 with fail
  have HR9 := hide (new_block W8 (.cells #[.int .i64 0, .int .i64 0] 27))
  have HX9 := hide ((unhide HX8).alloc (unhide HX8).size (.cells #[.int .i64 0, .int .i64 0] 27))
  have HB9 := hide ((Below.refl W8.heap.size W8).alloc (Nat.le_refl _) (.cells #[.int .i64 0, .int .i64 0] 27))
  obtain ⟨W9, eW9⟩ : ∃ X, W8.alloc (.cells #[.int .i64 0, .int .i64 0] 27) = X := ⟨_, rfl⟩
  rw [eW9] at HR9 HX9 HB9 ⊢
  clear eW9
  obtain ⟨z0, z1, zf0, zf1, zl⟩ := block2 (unhide HR9)
  go_wp2_with (go_at_call 21; refine (unhide HTF _ (unhide HX9)).mono ?_; rintro e w10 ⟨rfl, hb10⟩; clear z0 z1 zf0 zf1 zl; obtain ⟨g0, g1, gf0, gf1, gl⟩ := block2 (keep_below (unhide HR9) hb10); have HR10 := hide (keep_below (unhide HR9) hb10); have HB10 := hide (Below.next (unhide HB9) hb10 (Nat.le_refl _)); clear hb10)
  refine mixes_loop (tasksF m tss) W8 _ at1 n ct ap p cp x7 x8 R9 W8.heap.size ps (by first | exact Or.inl (by omega) | exact Or.inr (by decide)) _ (put2_below (y0 := .int .i64 (tasksF m tss).1) (y1 := .int .i64 (tasksF m tss).2) (unhide HB10) (Nat.le_refl _)) f (put2_new (unhide HR10)) (Nat.le_refl _) ((unhide HP).below (unhide HX8)) (unhide HF) w ?_ _ _ _ (by assumption) (by kernel_rfl)
  intros
  rename_i W' b' r' hc' hb' hR'
  exact unhide HFIN _ _ _ _ _ _ _ _ _ _ _ _ _ _ _ _ _ _ _ _ _ _ _ _ _ _ _ _ _ _ _ _ _ _ _ _ _ _ _ _ _ _ _ _ _ _ _ _ _ _ _ _ _ _ _ _ _ _ _ _ _ _ _ _ _ _ _ _ _ _ _ _ _ _ _ _ _ _ _ _ _ _ _ _ _ _ _ _ _ _ _ _ _ _ _ _ _ _ _ _ _ _ _ _ _ _ _ _ _ _ _ _ _ _ _ _ _ _ _ _ _ _ _ _ _ _ _ x7 x8 R9 W8.heap.size W' b' r' hc' (Below.next (unhide HX8) hb' (Nat.le_refl _)) (keep_below (unhide H98) hb') hR' (unhide HYY _ _ _ _ (unhide HY8) hb')

end Go.Proofs.YtpgokeogijpmaaaDoor.Mx
