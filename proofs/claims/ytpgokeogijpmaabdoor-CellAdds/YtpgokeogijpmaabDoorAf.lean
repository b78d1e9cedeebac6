/-
  taskmilllaw.CellAdds: from its picks on.
-/
import Derived.Test.YtpgokeogijpmaabDoorAe
namespace Go.Proofs.YtpgokeogijpmaabDoor.Mx
open Go.RowKit

theorem in_ret {K : Act → World → Prop} {Q : Exit → Act → World → Prop} {n : Nat} {a : Act} {w : World} : Exit.inBlock n (Exit.then K Q) .ret a w = Q .ret a w := by simp [Exit.inBlock, Exit.then]
set_option maxRecDepth 100000 in
set_option maxHeartbeats 4000000 in
theorem adds_end (w : World) (a0 : Option Addr) (m c0 : Nat) (a1 : Option Addr) (n c1 : Nat) (ap : Option Addr) (p cp : Nat) (a7 : Option Addr) (c7 : Nat) (a8 : Option Addr) (z c8 g c9 : Nat) (us : List Sl) (ass : List (List Int)) (zs ps : List Int) (hm : 0 < m) (hm2 : m ≤ 32) (hn : n ≤ 20) (hp : p ≤ 1000) (hmem : IsL KI w (.slice a0 m c0) zs) (hP : IsL KI w (.slice ap p cp) ps) (hall : ∀ j, j < n → (ass.getD j []).length ≤ 20) (hps : ∀ x ∈ ps, 0 ≤ x ∧ x < (n : Int)) (Wt : World) (hA : Ad w Wt m n ass (.slice a7 n c7) us (.slice a8 z c8) (ordL ass n) g c9 (ranMem zs (allT m ass n)))
    {s3 s4 s5 s6 s10 s11 s12 s13 s14 s15 s16 s17 s18 s19 s20 s21 s22 s23 s24 s25 s26 s27 s28 s29 s30 s31 s32 s33 s34 s35 s36 s37 s38 s39 s40 s41 s42 s43 s44 s45 s46 s47 s48 s49 s50 s51 s52 s53 s54 s55 s56 s57 s58 s59 s60 s61 s62 s63 s64 s65 s66 s67 s68 s69 s70 s71 s72 s73 s74 s75 s76 s77 s78 s79 s80 s81 s82 s83 s84 s85 s86 s87 s88 s89 s90 s91 s92 s93 s94 s95 s96 s97 s98 s99 s100 s101 s102 s103 s104 s105 s106 s107 s108 s109 s110 s111 s112 s113 s114 s115 s116 s117 s118 s119 s120 s121 s122 s123 s124 s125 s126 s127 s128 s129 s130 s131 s132 s133 s134 s135 s136 s137 s138 : Value} (b r : Code) (hcut : (Tryd.f3.body.bind (loopFor 4)) = some (b, r)) :
    r.wp Tryd.prog (bodyPost Tryd.prog Tryd.f3 fun e w' => e = .returned (.bool true) ∧ Below w.heap.size w w') { tmps := (.slice a0 m c0 :: .slice a1 n c1 :: .slice ap p cp :: s3 :: s4 :: s5 :: s6 :: .slice a7 n c7 :: .slice a8 z c8 :: .slice (some ⟨g, 0, none⟩) m c9 :: s10 :: s11 :: s12 :: s13 :: s14 :: s15 :: s16 :: s17 :: s18 :: s19 :: s20 :: s21 :: s22 :: s23 :: s24 :: s25 :: s26 :: s27 :: s28 :: s29 :: s30 :: s31 :: s32 :: s33 :: s34 :: s35 :: s36 :: s37 :: s38 :: s39 :: s40 :: s41 :: s42 :: s43 :: s44 :: s45 :: s46 :: s47 :: s48 :: s49 :: s50 :: s51 :: s52 :: s53 :: s54 :: s55 :: s56 :: s57 :: s58 :: s59 :: s60 :: s61 :: s62 :: s63 :: s64 :: s65 :: s66 :: s67 :: s68 :: s69 :: s70 :: s71 :: s72 :: s73 :: s74 :: s75 :: s76 :: s77 :: s78 :: s79 :: s80 :: s81 :: s82 :: s83 :: s84 :: s85 :: s86 :: s87 :: s88 :: s89 :: s90 :: s91 :: s92 :: s93 :: s94 :: s95 :: s96 :: s97 :: s98 :: s99 :: s100 :: s101 :: s102 :: s103 :: s104 :: s105 :: s106 :: s107 :: s108 :: s109 :: s110 :: s111 :: s112 :: s113 :: s114 :: s115 :: s116 :: s117 :: s118 :: s119 :: s120 :: s121 :: s122 :: s123 :: s124 :: s125 :: s126 :: s127 :: s128 :: s129 :: s130 :: s131 :: s132 :: s133 :: s134 :: s135 :: s136 :: s137 :: s138 :: []).toArray, defers := [] } Wt := by
  have hcc : (Tryd.f3.body.bind (loopFor 4)) = some (_, _) := rfl
  rw [hcc] at hcut
  cases hcut
  clear hcc
  have hlp := hP.len
  have hlm := hmem.len
  have hlz : (ordL ass n).length = z := IsL.len (a := a8) (c := c8) hA.or.isl
  have hz : z ≤ 400 := by have := ordL_len (ass := ass) n hall; omega
  obtain ⟨wa, ewa⟩ : ∃ X, ranMem zs (allT m ass n) = X := ⟨_, rfl⟩
  have hmx := adds_mix (m := m) (ass := ass) (zs := zs) hps
  rw [ewa] at hmx hA
  have hlw := hA.lw
  obtain ⟨⟨ZF, tF⟩, eM⟩ : ∃ s, mixAll (addTs m ass n) (ps ++ ordL ass n) (zs, List.replicate n []) = s := ⟨_, rfl⟩
  rw [eM] at hmx
  obtain rfl : ZF = wa := hmx
  have hin : ∀ j, j < p + z → 0 ≤ (ps ++ ordL ass n).getD j 0 ∧ (ps ++ ordL ass n).getD j 0 < n := fun j hj => by
    have hlj : j < (ps ++ ordL ass n).length := by rw [List.length_append]; omega
    have hmem' : (ps ++ ordL ass n).getD j 0 ∈ ps ++ ordL ass n := by
      rw [List.getD_eq_getElem?_getD, List.getElem?_eq_getElem hlj]
      exact List.getElem_mem hlj
    rcases List.mem_append.1 hmem' with h1 | h1
    · exact hps _ h1
    · exact ord_in n _ h1
  have HOW : Hid (Calls Tryd.prog 5 #[.slice ap p cp] Wt fun e w' => ∃ a' c', e = .returned (.slice a' p c') ∧ Own KI Wt.heap.size w' (.slice a' p c') ps ∧ Below Wt.heap.size Wt w') := by
    have h1 := isl_ints (hP.below hA.be)
    refine (own_any Wt (.slice ap p cp) ps.length _ h1 (ints_one ps) (by omega)).mono ?_
    rintro e w' ⟨v', rfl, h2, h3⟩
    have h4 := ints_isl h2
    obtain ⟨a', c', rfl⟩ := h4.form
    rw [hlp] at h4 ⊢
    exact ⟨a', c', rfl, h4, h3⟩
  have HMX : Hid (∀ W a' c', Below Wt.heap.size Wt W → IsL KI W (.slice a' (p + z) c') (ps ++ ordL ass n) → Calls Tryd.prog 6 #[.slice a0 m c0, .slice a7 n c7, .slice a' (p + z) c'] W fun e w' => ∃ a9 c9 G, e = .returned (.tuple #[.slice a9 m c9, .slice (some ⟨G, 0, none⟩) n n, .agg #[.int .i64 0, .int .i64 0]]) ∧ IsInts w' (.slice a9 m c9) ZF ∧ Below W.heap.size W w') := fun W a' c' hW hL => by
    have hAW := hA.keep hW
    refine (mix_ok W a0 m c0 a7 n c7 a' (p + z) c' zs us (addTs m ass n) (ps ++ ordL ass n) (by omega) (by omega) (isl_ints (hmem.below hAW.be)) hlm hAW.isTs (by omega) (fun i hi => by rw [addTs_at hi]; exact adds_fault hm hm2 (hall i hi)) hL hin _ _ eM).mono ?_
    rintro e w' ⟨v9, G, B, R, Bm, us', rfl, hM⟩
    obtain ⟨a9, c9', rfl⟩ := hM.mem.form
    have hl := hM.lz
    have h9 := isl_ints hM.mem.isl
    rw [hl] at h9 ⊢
    exact ⟨a9, c9', G, rfl, h9, hM.be⟩
  have HIN : Hid (∀ W a9 c9', IsInts W (.slice a9 m c9') ZF → Below Wt.heap.size Wt W → Calls Tryd.prog 7 #[.slice a9 m c9', .slice (some ⟨g, 0, none⟩) m c9] W fun e w' => e = .returned (.bool true) ∧ Below W.heap.size W w') := fun W a9 c9' h1 hW => ints_same W _ _ ZF h1 (isl_ints (hA.keep hW).wt.isl) (by unfold maxLen; omega)
  have HOR := hide hA.or
  have HX := hide hA.be
  have HLZ : Hid (ps.length + (ordL ass n).length = p + z) := by show _ = _; rw [hlp, hlz]
  clear hA hmem hP hall hps hin hlp hlm hlz hlw eM ewa
  go_upto_region 28 with (first
    | (go_at_call 5; refine (unhide HOW).mono ?_; rintro e w2 ⟨a2, c2, rfl, ho2, hb2⟩; have HO2 := hide ho2; have HB2 := hide hb2; clear ho2 hb2)
    | (at_builtin; refine wpList_append2 ki rfl (.tmp 124) (.tmp 125) rfl Wt.heap.size (.slice a2 p c2) ps rfl (unhide HO2) _ (ordL ass n) rfl ((unhide HOR).below (unhide HB2)).isl (p + z) (unhide HLZ) (by show (p + z) * 8 ≤ 140737488355328; omega) (unhide HB2).size ?_; intro a3 c3 w3 ho3 hg3 hl3; have HO3 := hide ho3; have HB3 := hide ((unhide HB2).grown hg3 (unhide HB2).size (fun k hk => ((unhide HO2).lt k hk).1)); clear ho3 hg3 hl3)
    | (go_at_call 6; refine (unhide HMX _ _ _ (unhide HB3) (unhide HO3).isl).mono ?_; rintro e w5 ⟨a9, c9', G, rfl, hz5, hb5⟩; have HZ5 := hide hz5; have HB5 := hide (Below.next (unhide HB3) hb5 (Nat.le_refl _)); clear hz5 hb5))
  have HX5 := hide (Below.next (unhide HX) (unhide HB5) (Nat.le_refl _))
  have k9 := new_block w5 (.cells #[.int .i64 0, .int .i64 0] 31)
  obtain ⟨f0, f1, ff0, ff1, fl⟩ := block2 k9
  have hb6 : Below w5.heap.size w5 (w5.alloc (.cells #[.int .i64 0, .int .i64 0] 31)) := (Below.refl _ _).alloc (Nat.le_refl _) _
  have HX6 := hide (Below.next (unhide HX5) hb6 (Nat.le_refl _))
  have HB6 := hide (Below.next (unhide HB5) hb6 (Nat.le_refl _))
  have HZ6 : Hid (IsInts (w5.alloc (.cells #[.int .i64 0, .int .i64 0] 31)) (.slice a9 m c9') ZF) := Rd.below (unhide HZ5) hb6
  obtain ⟨W6, eW6⟩ : ∃ X, w5.alloc (.cells #[.int .i64 0, .int .i64 0] 31) = X := ⟨_, rfl⟩
  rw [eW6] at HX6 HB6 HZ6 f0 f1 ff0 ff1 fl ⊢
  clear k9 hb6 eW6 HX5 HB5 HZ5 HB3 HO3 HB2 HO2 HOR HX HMX HOW
  go_wp2_with (go_at_call 7; refine (unhide HIN _ _ _ (unhide HZ6) (unhide HB6)).mono ?_; rintro e w7 ⟨rfl, hb7⟩; have HX7 := hide (Below.next (unhide HX6) hb7 (Nat.le_refl _)); clear hb7)
  go_ret
  exact ⟨rfl, unhide HX7⟩

set_option maxRecDepth 100000 in
set_option maxHeartbeats 4000000 in
theorem ret_any (w : World) (K : Act → World → Prop) (n : Nat) : NxRet w (Exit.inBlock n (Exit.then K (bodyPost Tryd.prog Tryd.f3 fun e w' => e = .returned (.bool true) ∧ Below w.heap.size w w'))) := by
  unfold NxRet
  intros
  rename_i W' hX
  rw [in_ret]
  go_ret
  exact ⟨rfl, hX⟩


def NxA4 (a0 : Option Addr) (m c0 : Nat) (a1 : Option Addr) (n c1 : Nat) (ap : Option Addr) (p cp : Nat) (a7 : Option Addr) (c7 : Nat) (a8 : Option Addr) (z c8 g c9 : Nat) (i : Nat) (W : World) (N : Act → World → Prop) : Prop := ∀ (s3 s4 s5 s6 s10 s11 s12 s13 s15 s16 s17 s18 s19 s20 s21 s22 s23 s24 s25 s26 s27 s28 s29 s30 s31 s32 s33 s34 s35 s36 s37 s38 s39 s40 s41 s42 s43 s44 s45 s46 s47 s48 s49 s50 s51 s52 s53 s54 s55 s56 s57 s58 s59 s60 s61 s62 s63 s64 s65 s66 s67 s68 s69 s70 s71 s72 s73 s74 s75 s76 s77 s78 s79 s80 s81 s82 s83 s84 s85 s86 s87 s88 s89 s90 s91 s92 s93 s94 s95 s96 s97 s98 s99 s100 s101 s102 s103 s104 s105 s106 s107 s108 s109 s110 s111 s112 s113 s114 s115 s116 s117 s118 s119 s120 s121 s122 s123 s124 s125 s126 s127 s128 s129 s130 s131 s132 s133 s134 s135 s136 s137 s138 : Value), N { tmps := (.slice a0 m c0 :: .slice a1 n c1 :: .slice ap p cp :: s3 :: s4 :: s5 :: s6 :: .slice a7 n c7 :: .slice a8 z c8 :: .slice (some ⟨g, 0, none⟩) m c9 :: s10 :: s11 :: s12 :: s13 :: .int .i64 ((i : Int) + 1) :: s15 :: s16 :: s17 :: s18 :: s19 :: s20 :: s21 :: s22 :: s23 :: s24 :: s25 :: s26 :: s27 :: s28 :: s29 :: s30 :: s31 :: s32 :: s33 :: s34 :: s35 :: s36 :: s37 :: s38 :: s39 :: s40 :: s41 :: s42 :: s43 :: s44 :: s45 :: s46 :: s47 :: s48 :: s49 :: s50 :: s51 :: s52 :: s53 :: s54 :: s55 :: s56 :: s57 :: s58 :: s59 :: s60 :: s61 :: s62 :: s63 :: s64 :: s65 :: s66 :: s67 :: s68 :: s69 :: s70 :: s71 :: s72 :: s73 :: s74 :: s75 :: s76 :: s77 :: s78 :: s79 :: s80 :: s81 :: s82 :: s83 :: s84 :: s85 :: s86 :: s87 :: s88 :: s89 :: s90 :: s91 :: s92 :: s93 :: s94 :: s95 :: s96 :: s97 :: s98 :: s99 :: s100 :: s101 :: s102 :: s103 :: s104 :: s105 :: s106 :: s107 :: s108 :: s109 :: s110 :: s111 :: s112 :: s113 :: s114 :: s115 :: s116 :: s117 :: s118 :: s119 :: s120 :: s121 :: s122 :: s123 :: s124 :: s125 :: s126 :: s127 :: s128 :: s129 :: s130 :: s131 :: s132 :: s133 :: s134 :: s135 :: s136 :: s137 :: s138 :: []).toArray, defers := [] } W
def NxE4 (a0 : Option Addr) (m c0 : Nat) (a1 : Option Addr) (n c1 : Nat) (ap : Option Addr) (p cp : Nat) (a7 : Option Addr) (c7 : Nat) (a8 : Option Addr) (z c8 g c9 : Nat) (W : World) (Q0 : Exit → Act → World → Prop) : Prop := ∀ (s3 s4 s5 s6 s10 s11 s12 s13 s15 s16 s17 s18 s19 s20 s21 s22 s23 s24 s25 s26 s27 s28 s29 s30 s31 s32 s33 s34 s35 s36 s37 s38 s39 s40 s41 s42 s43 s44 s45 s46 s47 s48 s49 s50 s51 s52 s53 s54 s55 s56 s57 s58 s59 s60 s61 s62 s63 s64 s65 s66 s67 s68 s69 s70 s71 s72 s73 s74 s75 s76 s77 s78 s79 s80 s81 s82 s83 s84 s85 s86 s87 s88 s89 s90 s91 s92 s93 s94 s95 s96 s97 s98 s99 s100 s101 s102 s103 s104 s105 s106 s107 s108 s109 s110 s111 s112 s113 s114 s115 s116 s117 s118 s119 s120 s121 s122 s123 s124 s125 s126 s127 s128 s129 s130 s131 s132 s133 s134 s135 s136 s137 s138 : Value), Q0 (.exit 4) { tmps := (.slice a0 m c0 :: .slice a1 n c1 :: .slice ap p cp :: s3 :: s4 :: s5 :: s6 :: .slice a7 n c7 :: .slice a8 z c8 :: .slice (some ⟨g, 0, none⟩) m c9 :: s10 :: s11 :: s12 :: s13 :: .int .i64 (p : Int) :: s15 :: s16 :: s17 :: s18 :: s19 :: s20 :: s21 :: s22 :: s23 :: s24 :: s25 :: s26 :: s27 :: s28 :: s29 :: s30 :: s31 :: s32 :: s33 :: s34 :: s35 :: s36 :: s37 :: s38 :: s39 :: s40 :: s41 :: s42 :: s43 :: s44 :: s45 :: s46 :: s47 :: s48 :: s49 :: s50 :: s51 :: s52 :: s53 :: s54 :: s55 :: s56 :: s57 :: s58 :: s59 :: s60 :: s61 :: s62 :: s63 :: s64 :: s65 :: s66 :: s67 :: s68 :: s69 :: s70 :: s71 :: s72 :: s73 :: s74 :: s75 :: s76 :: s77 :: s78 :: s79 :: s80 :: s81 :: s82 :: s83 :: s84 :: s85 :: s86 :: s87 :: s88 :: s89 :: s90 :: s91 :: s92 :: s93 :: s94 :: s95 :: s96 :: s97 :: s98 :: s99 :: s100 :: s101 :: s102 :: s103 :: s104 :: s105 :: s106 :: s107 :: s108 :: s109 :: s110 :: s111 :: s112 :: s113 :: s114 :: s115 :: s116 :: s117 :: s118 :: s119 :: s120 :: s121 :: s122 :: s123 :: s124 :: s125 :: s126 :: s127 :: s128 :: s129 :: s130 :: s131 :: s132 :: s133 :: s134 :: s135 :: s136 :: s137 :: s138 :: []).toArray, defers := [] } W
set_option maxRecDepth 100000 in
set_option maxHeartbeats 4000000 in
theorem p4_go (a0 : Option Addr) (m c0 : Nat) (a1 : Option Addr) (n c1 : Nat) (ap : Option Addr) (p cp : Nat) (a7 : Option Addr) (c7 : Nat) (a8 : Option Addr) (z c8 g c9 : Nat) (ps : List Int) (i : Nat) (hi : i < p) (hq : p ≤ 1000) (Wt : World) (hP : IsL KI Wt (.slice ap p cp) ps) (x : Int) (hx : ps.getD i 0 = x) (h0 : ¬ x < 0) (h1 : ¬ (n : Int) ≤ x)
    {s3 s4 s5 s6 s10 s11 s12 s13 s15 s16 s17 s18 s19 s20 s21 s22 s23 s24 s25 s26 s27 s28 s29 s30 s31 s32 s33 s34 s35 s36 s37 s38 s39 s40 s41 s42 s43 s44 s45 s46 s47 s48 s49 s50 s51 s52 s53 s54 s55 s56 s57 s58 s59 s60 s61 s62 s63 s64 s65 s66 s67 s68 s69 s70 s71 s72 s73 s74 s75 s76 s77 s78 s79 s80 s81 s82 s83 s84 s85 s86 s87 s88 s89 s90 s91 s92 s93 s94 s95 s96 s97 s98 s99 s100 s101 s102 s103 s104 s105 s106 s107 s108 s109 s110 s111 s112 s113 s114 s115 s116 s117 s118 s119 s120 s121 s122 s123 s124 s125 s126 s127 s128 s129 s130 s131 s132 s133 s134 s135 s136 s137 s138 : Value} (N : Act → World → Prop) (Q0 : Exit → Act → World → Prop) (b r : Code) (hcut : (Tryd.f3.body.bind (loopFor 4)) = some (b, r)) (hN : NxA4 a0 m c0 a1 n c1 ap p cp a7 c7 a8 z c8 g c9 i Wt N) :
    b.wp Tryd.prog (Exit.then N Q0) { tmps := (.slice a0 m c0 :: .slice a1 n c1 :: .slice ap p cp :: s3 :: s4 :: s5 :: s6 :: .slice a7 n c7 :: .slice a8 z c8 :: .slice (some ⟨g, 0, none⟩) m c9 :: s10 :: s11 :: s12 :: s13 :: .int .i64 (i : Int) :: s15 :: s16 :: s17 :: s18 :: s19 :: s20 :: s21 :: s22 :: s23 :: s24 :: s25 :: s26 :: s27 :: s28 :: s29 :: s30 :: s31 :: s32 :: s33 :: s34 :: s35 :: s36 :: s37 :: s38 :: s39 :: s40 :: s41 :: s42 :: s43 :: s44 :: s45 :: s46 :: s47 :: s48 :: s49 :: s50 :: s51 :: s52 :: s53 :: s54 :: s55 :: s56 :: s57 :: s58 :: s59 :: s60 :: s61 :: s62 :: s63 :: s64 :: s65 :: s66 :: s67 :: s68 :: s69 :: s70 :: s71 :: s72 :: s73 :: s74 :: s75 :: s76 :: s77 :: s78 :: s79 :: s80 :: s81 :: s82 :: s83 :: s84 :: s85 :: s86 :: s87 :: s88 :: s89 :: s90 :: s91 :: s92 :: s93 :: s94 :: s95 :: s96 :: s97 :: s98 :: s99 :: s100 :: s101 :: s102 :: s103 :: s104 :: s105 :: s106 :: s107 :: s108 :: s109 :: s110 :: s111 :: s112 :: s113 :: s114 :: s115 :: s116 :: s117 :: s118 :: s119 :: s120 :: s121 :: s122 :: s123 :: s124 :: s125 :: s126 :: s127 :: s128 :: s129 :: s130 :: s131 :: s132 :: s133 :: s134 :: s135 :: s136 :: s137 :: s138 :: []).toArray, defers := [] } Wt := by
  have hcc : (Tryd.f3.body.bind (loopFor 4)) = some (_, _) := rfl
  rw [hcc] at hcut
  cases hcut
  clear hcc
  obtain ⟨b0, o0, rfl, hb0, l0⟩ := hP.opens ki hP.len (by omega)
  have cx := l0.ints (j := i) (by rw [hP.len]; exact hi)
  rw [hx] at cx
  have i0 : (0 : Int) ≤ (i : Int) := by omega
  have i1 : (i : Int) < (p : Int) := by omega
  have hwr : IntKind.i64.wrap ((i : Int) + 1) = (i : Int) + 1 := wrapi (by omega) (by omega)
  clear hx
  have HN := hide hN
  clear hN hP l0
  go_wp2_with fail
  exact unhide HN _ _ _ _ _ _ _ _ _ _ _ _ _ _ _ _ _ _ _ _ _ _ _ _ _ _ _ _ _ _ _ _ _ _ _ _ _ _ _ _ _ _ _ _ _ _ _ _ _ _ _ _ _ _ _ _ _ _ _ _ _ _ _ _ _ _ _ _ _ _ _ _ _ _ _ _ _ _ _ _ _ _ _ _ _ _ _ _ _ _ _ _ _ _ _ _ _ _ _ _ _ _ _ _ _ _ _ _ _ _ _ _ _ _ _ _ _ _ _ _ _ _ _ _ _ _ _ _ _ _ _ _
set_option maxRecDepth 100000 in
set_option maxHeartbeats 4000000 in
theorem p4_low (a0 : Option Addr) (m c0 : Nat) (a1 : Option Addr) (n c1 : Nat) (ap : Option Addr) (p cp : Nat) (a7 : Option Addr) (c7 : Nat) (a8 : Option Addr) (z c8 g c9 : Nat) (ps : List Int) (i : Nat) (hi : i < p) (hq : p ≤ 1000) (Wt : World) (hP : IsL KI Wt (.slice ap p cp) ps) (x : Int) (hx : ps.getD i 0 = x) (h0 : x < 0)
    {s3 s4 s5 s6 s10 s11 s12 s13 s15 s16 s17 s18 s19 s20 s21 s22 s23 s24 s25 s26 s27 s28 s29 s30 s31 s32 s33 s34 s35 s36 s37 s38 s39 s40 s41 s42 s43 s44 s45 s46 s47 s48 s49 s50 s51 s52 s53 s54 s55 s56 s57 s58 s59 s60 s61 s62 s63 s64 s65 s66 s67 s68 s69 s70 s71 s72 s73 s74 s75 s76 s77 s78 s79 s80 s81 s82 s83 s84 s85 s86 s87 s88 s89 s90 s91 s92 s93 s94 s95 s96 s97 s98 s99 s100 s101 s102 s103 s104 s105 s106 s107 s108 s109 s110 s111 s112 s113 s114 s115 s116 s117 s118 s119 s120 s121 s122 s123 s124 s125 s126 s127 s128 s129 s130 s131 s132 s133 s134 s135 s136 s137 s138 : Value} (N : Act → World → Prop) (Q0 : Exit → Act → World → Prop) (b r : Code) (hcut : (Tryd.f3.body.bind (loopFor 4)) = some (b, r)) (w : World) (hX : Below w.heap.size w Wt) (hR : NxRet w Q0) :
    b.wp Tryd.prog (Exit.then N Q0) { tmps := (.slice a0 m c0 :: .slice a1 n c1 :: .slice ap p cp :: s3 :: s4 :: s5 :: s6 :: .slice a7 n c7 :: .slice a8 z c8 :: .slice (some ⟨g, 0, none⟩) m c9 :: s10 :: s11 :: s12 :: s13 :: .int .i64 (i : Int) :: s15 :: s16 :: s17 :: s18 :: s19 :: s20 :: s21 :: s22 :: s23 :: s24 :: s25 :: s26 :: s27 :: s28 :: s29 :: s30 :: s31 :: s32 :: s33 :: s34 :: s35 :: s36 :: s37 :: s38 :: s39 :: s40 :: s41 :: s42 :: s43 :: s44 :: s45 :: s46 :: s47 :: s48 :: s49 :: s50 :: s51 :: s52 :: s53 :: s54 :: s55 :: s56 :: s57 :: s58 :: s59 :: s60 :: s61 :: s62 :: s63 :: s64 :: s65 :: s66 :: s67 :: s68 :: s69 :: s70 :: s71 :: s72 :: s73 :: s74 :: s75 :: s76 :: s77 :: s78 :: s79 :: s80 :: s81 :: s82 :: s83 :: s84 :: s85 :: s86 :: s87 :: s88 :: s89 :: s90 :: s91 :: s92 :: s93 :: s94 :: s95 :: s96 :: s97 :: s98 :: s99 :: s100 :: s101 :: s102 :: s103 :: s104 :: s105 :: s106 :: s107 :: s108 :: s109 :: s110 :: s111 :: s112 :: s113 :: s114 :: s115 :: s116 :: s117 :: s118 :: s119 :: s120 :: s121 :: s122 :: s123 :: s124 :: s125 :: s126 :: s127 :: s128 :: s129 :: s130 :: s131 :: s132 :: s133 :: s134 :: s135 :: s136 :: s137 :: s138 :: []).toArray, defers := [] } Wt := by
  have hcc : (Tryd.f3.body.bind (loopFor 4)) = some (_, _) := rfl
  rw [hcc] at hcut
  cases hcut
  clear hcc
  obtain ⟨b0, o0, rfl, hb0, l0⟩ := hP.opens ki hP.len (by omega)
  have cx := l0.ints (j := i) (by rw [hP.len]; exact hi)
  rw [hx] at cx
  have i0 : (0 : Int) ≤ (i : Int) := by omega
  have i1 : (i : Int) < (p : Int) := by omega
  have hwr : IntKind.i64.wrap ((i : Int) + 1) = (i : Int) + 1 := wrapi (by omega) (by omega)
  clear hx
  have HR := hide hR; have HX := hide hX
  clear hR hX hP l0
  go_wp2_with fail
  exact unhide HR _ _ _ _ _ _ _ _ _ _ _ _ _ _ _ _ _ _ _ _ _ _ _ _ _ _ _ _ _ _ _ _ _ _ _ _ _ _ _ _ _ _ _ _ _ _ _ _ _ _ _ _ _ _ _ _ _ _ _ _ _ _ _ _ _ _ _ _ _ _ _ _ _ _ _ _ _ _ _ _ _ _ _ _ _ _ _ _ _ _ _ _ _ _ _ _ _ _ _ _ _ _ _ _ _ _ _ _ _ _ _ _ _ _ _ _ _ _ _ _ _ _ _ _ _ _ _ _ _ _ _ _ _ _ _ _ _ _ _ (unhide HX)
set_option maxRecDepth 100000 in
set_option maxHeartbeats 4000000 in
theorem p4_high (a0 : Option Addr) (m c0 : Nat) (a1 : Option Addr) (n c1 : Nat) (ap : Option Addr) (p cp : Nat) (a7 : Option Addr) (c7 : Nat) (a8 : Option Addr) (z c8 g c9 : Nat) (ps : List Int) (i : Nat) (hi : i < p) (hq : p ≤ 1000) (Wt : World) (hP : IsL KI Wt (.slice ap p cp) ps) (x : Int) (hx : ps.getD i 0 = x) (h0 : ¬ x < 0) (h1 : (n : Int) ≤ x)
    {s3 s4 s5 s6 s10 s11 s12 s13 s15 s16 s17 s18 s19 s20 s21 s22 s23 s24 s25 s26 s27 s28 s29 s30 s31 s32 s33 s34 s35 s36 s37 s38 s39 s40 s41 s42 s43 s44 s45 s46 s47 s48 s49 s50 s51 s52 s53 s54 s55 s56 s57 s58 s59 s60 s61 s62 s63 s64 s65 s66 s67 s68 s69 s70 s71 s72 s73 s74 s75 s76 s77 s78 s79 s80 s81 s82 s83 s84 s85 s86 s87 s88 s89 s90 s91 s92 s93 s94 s95 s96 s97 s98 s99 s100 s101 s102 s103 s104 s105 s106 s107 s108 s109 s110 s111 s112 s113 s114 s115 s116 s117 s118 s119 s120 s121 s122 s123 s124 s125 s126 s127 s128 s129 s130 s131 s132 s133 s134 s135 s136 s137 s138 : Value} (N : Act → World → Prop) (Q0 : Exit → Act → World → Prop) (b r : Code) (hcut : (Tryd.f3.body.bind (loopFor 4)) = some (b, r)) (w : World) (hX : Below w.heap.size w Wt) (hR : NxRet w Q0) :
    b.wp Tryd.prog (Exit.then N Q0) { tmps := (.slice a0 m c0 :: .slice a1 n c1 :: .slice ap p cp :: s3 :: s4 :: s5 :: s6 :: .slice a7 n c7 :: .slice a8 z c8 :: .slice (some ⟨g, 0, none⟩) m c9 :: s10 :: s11 :: s12 :: s13 :: .int .i64 (i : Int) :: s15 :: s16 :: s17 :: s18 :: s19 :: s20 :: s21 :: s22 :: s23 :: s24 :: s25 :: s26 :: s27 :: s28 :: s29 :: s30 :: s31 :: s32 :: s33 :: s34 :: s35 :: s36 :: s37 :: s38 :: s39 :: s40 :: s41 :: s42 :: s43 :: s44 :: s45 :: s46 :: s47 :: s48 :: s49 :: s50 :: s51 :: s52 :: s53 :: s54 :: s55 :: s56 :: s57 :: s58 :: s59 :: s60 :: s61 :: s62 :: s63 :: s64 :: s65 :: s66 :: s67 :: s68 :: s69 :: s70 :: s71 :: s72 :: s73 :: s74 :: s75 :: s76 :: s77 :: s78 :: s79 :: s80 :: s81 :: s82 :: s83 :: s84 :: s85 :: s86 :: s87 :: s88 :: s89 :: s90 :: s91 :: s92 :: s93 :: s94 :: s95 :: s96 :: s97 :: s98 :: s99 :: s100 :: s101 :: s102 :: s103 :: s104 :: s105 :: s106 :: s107 :: s108 :: s109 :: s110 :: s111 :: s112 :: s113 :: s114 :: s115 :: s116 :: s117 :: s118 :: s119 :: s120 :: s121 :: s122 :: s123 :: s124 :: s125 :: s126 :: s127 :: s128 :: s129 :: s130 :: s131 :: s132 :: s133 :: s134 :: s135 :: s136 :: s137 :: s138 :: []).toArray, defers := [] } Wt := by
  have hcc : (Tryd.f3.body.bind (loopFor 4)) = some (_, _) := rfl
  rw [hcc] at hcut
  cases hcut
  clear hcc
  obtain ⟨b0, o0, rfl, hb0, l0⟩ := hP.opens ki hP.len (by omega)
  have cx := l0.ints (j := i) (by rw [hP.len]; exact hi)
  rw [hx] at cx
  have i0 : (0 : Int) ≤ (i : Int) := by omega
  have i1 : (i : Int) < (p : Int) := by omega
  have hwr : IntKind.i64.wrap ((i : Int) + 1) = (i : Int) + 1 := wrapi (by omega) (by omega)
  clear hx
  have HR := hide hR; have HX := hide hX
  clear hR hX hP l0
  go_wp2_with fail
  exact unhide HR _ _ _ _ _ _ _ _ _ _ _ _ _ _ _ _ _ _ _ _ _ _ _ _ _ _ _ _ _ _ _ _ _ _ _ _ _ _ _ _ _ _ _ _ _ _ _ _ _ _ _ _ _ _ _ _ _ _ _ _ _ _ _ _ _ _ _ _ _ _ _ _ _ _ _ _ _ _ _ _ _ _ _ _ _ _ _ _ _ _ _ _ _ _ _ _ _ _ _ _ _ _ _ _ _ _ _ _ _ _ _ _ _ _ _ _ _ _ _ _ _ _ _ _ _ _ _ _ _ _ _ _ _ _ _ _ _ _ _ (unhide HX)
set_option maxRecDepth 100000 in
set_option maxHeartbeats 4000000 in
theorem p4_end (a0 : Option Addr) (m c0 : Nat) (a1 : Option Addr) (n c1 : Nat) (ap : Option Addr) (p cp : Nat) (a7 : Option Addr) (c7 : Nat) (a8 : Option Addr) (z c8 g c9 : Nat) (Wt : World)
    {s3 s4 s5 s6 s10 s11 s12 s13 s15 s16 s17 s18 s19 s20 s21 s22 s23 s24 s25 s26 s27 s28 s29 s30 s31 s32 s33 s34 s35 s36 s37 s38 s39 s40 s41 s42 s43 s44 s45 s46 s47 s48 s49 s50 s51 s52 s53 s54 s55 s56 s57 s58 s59 s60 s61 s62 s63 s64 s65 s66 s67 s68 s69 s70 s71 s72 s73 s74 s75 s76 s77 s78 s79 s80 s81 s82 s83 s84 s85 s86 s87 s88 s89 s90 s91 s92 s93 s94 s95 s96 s97 s98 s99 s100 s101 s102 s103 s104 s105 s106 s107 s108 s109 s110 s111 s112 s113 s114 s115 s116 s117 s118 s119 s120 s121 s122 s123 s124 s125 s126 s127 s128 s129 s130 s131 s132 s133 s134 s135 s136 s137 s138 : Value} (N : Act → World → Prop) (Q0 : Exit → Act → World → Prop) (b r : Code) (hcut : (Tryd.f3.body.bind (loopFor 4)) = some (b, r)) (hE : NxE4 a0 m c0 a1 n c1 ap p cp a7 c7 a8 z c8 g c9 Wt Q0) :
    b.wp Tryd.prog (Exit.then N Q0) { tmps := (.slice a0 m c0 :: .slice a1 n c1 :: .slice ap p cp :: s3 :: s4 :: s5 :: s6 :: .slice a7 n c7 :: .slice a8 z c8 :: .slice (some ⟨g, 0, none⟩) m c9 :: s10 :: s11 :: s12 :: s13 :: .int .i64 (p : Int) :: s15 :: s16 :: s17 :: s18 :: s19 :: s20 :: s21 :: s22 :: s23 :: s24 :: s25 :: s26 :: s27 :: s28 :: s29 :: s30 :: s31 :: s32 :: s33 :: s34 :: s35 :: s36 :: s37 :: s38 :: s39 :: s40 :: s41 :: s42 :: s43 :: s44 :: s45 :: s46 :: s47 :: s48 :: s49 :: s50 :: s51 :: s52 :: s53 :: s54 :: s55 :: s56 :: s57 :: s58 :: s59 :: s60 :: s61 :: s62 :: s63 :: s64 :: s65 :: s66 :: s67 :: s68 :: s69 :: s70 :: s71 :: s72 :: s73 :: s74 :: s75 :: s76 :: s77 :: s78 :: s79 :: s80 :: s81 :: s82 :: s83 :: s84 :: s85 :: s86 :: s87 :: s88 :: s89 :: s90 :: s91 :: s92 :: s93 :: s94 :: s95 :: s96 :: s97 :: s98 :: s99 :: s100 :: s101 :: s102 :: s103 :: s104 :: s105 :: s106 :: s107 :: s108 :: s109 :: s110 :: s111 :: s112 :: s113 :: s114 :: s115 :: s116 :: s117 :: s118 :: s119 :: s120 :: s121 :: s122 :: s123 :: s124 :: s125 :: s126 :: s127 :: s128 :: s129 :: s130 :: s131 :: s132 :: s133 :: s134 :: s135 :: s136 :: s137 :: s138 :: []).toArray, defers := [] } Wt := by
  have hcc : (Tryd.f3.body.bind (loopFor 4)) = some (_, _) := rfl
  rw [hcc] at hcut
  cases hcut
  clear hcc
  have HE := hide hE
  clear hE
  have i1 : ¬ (p : Int) < (p : Int) := by omega
  go_wp2_with fail
  exact unhide HE _ _ _ _ _ _ _ _ _ _ _ _ _ _ _ _ _ _ _ _ _ _ _ _ _ _ _ _ _ _ _ _ _ _ _ _ _ _ _ _ _ _ _ _ _ _ _ _ _ _ _ _ _ _ _ _ _ _ _ _ _ _ _ _ _ _ _ _ _ _ _ _ _ _ _ _ _ _ _ _ _ _ _ _ _ _ _ _ _ _ _ _ _ _ _ _ _ _ _ _ _ _ _ _ _ _ _ _ _ _ _ _ _ _ _ _ _ _ _ _ _ _ _ _ _ _ _ _ _ _ _ _
theorem p4_rounds (w : World) (a0 : Option Addr) (m c0 : Nat) (a1 : Option Addr) (n c1 : Nat) (ap : Option Addr) (p cp : Nat) (a7 : Option Addr) (c7 : Nat) (a8 : Option Addr) (z c8 g c9 : Nat) (ps : List Int) (hq : p ≤ 1000) (Wt : World) (hX : Below w.heap.size w Wt) (hP : IsL KI Wt (.slice ap p cp) ps) (Q0 : Exit → Act → World → Prop) (b r : Code) (hcut : (Tryd.f3.body.bind (loopFor 4)) = some (b, r)) (hE : (∀ i, i < p → 0 ≤ ps.getD i 0 ∧ ps.getD i 0 < n) → NxE4 a0 m c0 a1 n c1 ap p cp a7 c7 a8 z c8 g c9 Wt Q0) (hR : NxRet w Q0) :
    ∀ (k i : Nat), i + k = p → (∀ j, j < i → 0 ≤ ps.getD j 0 ∧ ps.getD j 0 < n) → ∀ (s3 s4 s5 s6 s10 s11 s12 s13 s15 s16 s17 s18 s19 s20 s21 s22 s23 s24 s25 s26 s27 s28 s29 s30 s31 s32 s33 s34 s35 s36 s37 s38 s39 s40 s41 s42 s43 s44 s45 s46 s47 s48 s49 s50 s51 s52 s53 s54 s55 s56 s57 s58 s59 s60 s61 s62 s63 s64 s65 s66 s67 s68 s69 s70 s71 s72 s73 s74 s75 s76 s77 s78 s79 s80 s81 s82 s83 s84 s85 s86 s87 s88 s89 s90 s91 s92 s93 s94 s95 s96 s97 s98 s99 s100 s101 s102 s103 s104 s105 s106 s107 s108 s109 s110 s111 s112 s113 s114 s115 s116 s117 s118 s119 s120 s121 s122 s123 s124 s125 s126 s127 s128 s129 s130 s131 s132 s133 s134 s135 s136 s137 s138 : Value), Code.rounds Tryd.prog b Q0 (k + 1) { tmps := (.slice a0 m c0 :: .slice a1 n c1 :: .slice ap p cp :: s3 :: s4 :: s5 :: s6 :: .slice a7 n c7 :: .slice a8 z c8 :: .slice (some ⟨g, 0, none⟩) m c9 :: s10 :: s11 :: s12 :: s13 :: .int .i64 (i : Int) :: s15 :: s16 :: s17 :: s18 :: s19 :: s20 :: s21 :: s22 :: s23 :: s24 :: s25 :: s26 :: s27 :: s28 :: s29 :: s30 :: s31 :: s32 :: s33 :: s34 :: s35 :: s36 :: s37 :: s38 :: s39 :: s40 :: s41 :: s42 :: s43 :: s44 :: s45 :: s46 :: s47 :: s48 :: s49 :: s50 :: s51 :: s52 :: s53 :: s54 :: s55 :: s56 :: s57 :: s58 :: s59 :: s60 :: s61 :: s62 :: s63 :: s64 :: s65 :: s66 :: s67 :: s68 :: s69 :: s70 :: s71 :: s72 :: s73 :: s74 :: s75 :: s76 :: s77 :: s78 :: s79 :: s80 :: s81 :: s82 :: s83 :: s84 :: s85 :: s86 :: s87 :: s88 :: s89 :: s90 :: s91 :: s92 :: s93 :: s94 :: s95 :: s96 :: s97 :: s98 :: s99 :: s100 :: s101 :: s102 :: s103 :: s104 :: s105 :: s106 :: s107 :: s108 :: s109 :: s110 :: s111 :: s112 :: s113 :: s114 :: s115 :: s116 :: s117 :: s118 :: s119 :: s120 :: s121 :: s122 :: s123 :: s124 :: s125 :: s126 :: s127 :: s128 :: s129 :: s130 :: s131 :: s132 :: s133 :: s134 :: s135 :: s136 :: s137 :: s138 :: []).toArray, defers := [] } Wt := by
  intro k
  induction k with
  | zero =>
    intro i hi hj
    obtain rfl : i = p := by omega
    intros
    exact p4_end a0 m c0 a1 n c1 ap i cp a7 c7 a8 z c8 g c9 Wt _ Q0 b r hcut (hE hj)
  | succ k ih =>
    intro i hi hj
    intros
    by_cases h0 : ps.getD i 0 < 0
    · exact p4_low a0 m c0 a1 n c1 ap p cp a7 c7 a8 z c8 g c9 ps i (by omega) hq Wt hP _ rfl h0 _ Q0 b r hcut w hX hR
    by_cases h1 : (n : Int) ≤ ps.getD i 0
    · exact p4_high a0 m c0 a1 n c1 ap p cp a7 c7 a8 z c8 g c9 ps i (by omega) hq Wt hP _ rfl h0 h1 _ Q0 b r hcut w hX hR
    refine p4_go a0 m c0 a1 n c1 ap p cp a7 c7 a8 z c8 g c9 ps i (by omega) hq Wt hP _ rfl h0 h1 _ Q0 b r hcut ?_
    unfold NxA4
    intros
    exact ih (i + 1) (by omega) (fun j hj' => if e : j = i then by rw [e]; omega else hj j (by omega)) _ _ _ _ _ _ _ _ _ _ _ _ _ _ _ _ _ _ _ _ _ _ _ _ _ _ _ _ _ _ _ _ _ _ _ _ _ _ _ _ _ _ _ _ _ _ _ _ _ _ _ _ _ _ _ _ _ _ _ _ _ _ _ _ _ _ _ _ _ _ _ _ _ _ _ _ _ _ _ _ _ _ _ _ _ _ _ _ _ _ _ _ _ _ _ _ _ _ _ _ _ _ _ _ _ _ _ _ _ _ _ _ _ _ _ _ _ _ _ _ _ _ _ _ _ _ _ _ _ _ _ _
theorem p4_loop (w : World) (a0 : Option Addr) (m c0 : Nat) (a1 : Option Addr) (n c1 : Nat) (ap : Option Addr) (p cp : Nat) (a7 : Option Addr) (c7 : Nat) (a8 : Option Addr) (z c8 g c9 : Nat) (us : List Sl) (ass : List (List Int)) (zs ps : List Int) (hm : 0 < m) (hm2 : m ≤ 32) (hn : n ≤ 20) (hp : p ≤ 1000) (hmem : IsL KI w (.slice a0 m c0) zs) (hP : IsL KI w (.slice ap p cp) ps) (hall : ∀ j, j < n → (ass.getD j []).length ≤ 20) (Wt : World) (hA : Ad w Wt m n ass (.slice a7 n c7) us (.slice a8 z c8) (ordL ass n) g c9 (ranMem zs (allT m ass n)))
    (K : Act → World → Prop) (b r : Code) (hK : ∀ a w', r.wp Tryd.prog (bodyPost Tryd.prog Tryd.f3 fun e w' => e = .returned (.bool true) ∧ Below w.heap.size w w') a w' → K a w') (hcut : (Tryd.f3.body.bind (loopFor 4)) = some (b, r)) {s3 s4 s5 s6 s10 s11 s12 s13 s15 s16 s17 s18 s19 s20 s21 s22 s23 s24 s25 s26 s27 s28 s29 s30 s31 s32 s33 s34 s35 s36 s37 s38 s39 s40 s41 s42 s43 s44 s45 s46 s47 s48 s49 s50 s51 s52 s53 s54 s55 s56 s57 s58 s59 s60 s61 s62 s63 s64 s65 s66 s67 s68 s69 s70 s71 s72 s73 s74 s75 s76 s77 s78 s79 s80 s81 s82 s83 s84 s85 s86 s87 s88 s89 s90 s91 s92 s93 s94 s95 s96 s97 s98 s99 s100 s101 s102 s103 s104 s105 s106 s107 s108 s109 s110 s111 s112 s113 s114 s115 s116 s117 s118 s119 s120 s121 s122 s123 s124 s125 s126 s127 s128 s129 s130 s131 s132 s133 s134 s135 s136 s137 s138 : Value} :
    (Code.loop b).wp Tryd.prog (Exit.inBlock 4 (Exit.then K (bodyPost Tryd.prog Tryd.f3 fun e w' => e = .returned (.bool true) ∧ Below w.heap.size w w'))) { tmps := (.slice a0 m c0 :: .slice a1 n c1 :: .slice ap p cp :: s3 :: s4 :: s5 :: s6 :: .slice a7 n c7 :: .slice a8 z c8 :: .slice (some ⟨g, 0, none⟩) m c9 :: s10 :: s11 :: s12 :: s13 :: .int .i64 0 :: s15 :: s16 :: s17 :: s18 :: s19 :: s20 :: s21 :: s22 :: s23 :: s24 :: s25 :: s26 :: s27 :: s28 :: s29 :: s30 :: s31 :: s32 :: s33 :: s34 :: s35 :: s36 :: s37 :: s38 :: s39 :: s40 :: s41 :: s42 :: s43 :: s44 :: s45 :: s46 :: s47 :: s48 :: s49 :: s50 :: s51 :: s52 :: s53 :: s54 :: s55 :: s56 :: s57 :: s58 :: s59 :: s60 :: s61 :: s62 :: s63 :: s64 :: s65 :: s66 :: s67 :: s68 :: s69 :: s70 :: s71 :: s72 :: s73 :: s74 :: s75 :: s76 :: s77 :: s78 :: s79 :: s80 :: s81 :: s82 :: s83 :: s84 :: s85 :: s86 :: s87 :: s88 :: s89 :: s90 :: s91 :: s92 :: s93 :: s94 :: s95 :: s96 :: s97 :: s98 :: s99 :: s100 :: s101 :: s102 :: s103 :: s104 :: s105 :: s106 :: s107 :: s108 :: s109 :: s110 :: s111 :: s112 :: s113 :: s114 :: s115 :: s116 :: s117 :: s118 :: s119 :: s120 :: s121 :: s122 :: s123 :: s124 :: s125 :: s126 :: s127 :: s128 :: s129 :: s130 :: s131 :: s132 :: s133 :: s134 :: s135 :: s136 :: s137 :: s138 :: []).toArray, defers := [] } Wt := by
  refine wp_loop_rounds (p + 1) ?_
  refine p4_rounds w a0 m c0 a1 n c1 ap p cp a7 c7 a8 z c8 g c9 ps hp Wt hA.be (hP.below hA.be) _ b r hcut ?_ (ret_any w K 4) p 0 (by omega) (fun j hj => by omega) _ _ _ _ _ _ _ _ _ _ _ _ _ _ _ _ _ _ _ _ _ _ _ _ _ _ _ _ _ _ _ _ _ _ _ _ _ _ _ _ _ _ _ _ _ _ _ _ _ _ _ _ _ _ _ _ _ _ _ _ _ _ _ _ _ _ _ _ _ _ _ _ _ _ _ _ _ _ _ _ _ _ _ _ _ _ _ _ _ _ _ _ _ _ _ _ _ _ _ _ _ _ _ _ _ _ _ _ _ _ _ _ _ _ _ _ _ _ _ _ _ _ _ _ _ _ _ _ _ _ _ _
  intro hin
  unfold NxE4
  intros
  have hlp := hP.len
  exact in_b0 (hK _ _ (adds_end w a0 m c0 a1 n c1 ap p cp a7 c7 a8 z c8 g c9 us ass zs ps hm hm2 hn hp hmem hP hall (fun x hx => by
    obtain ⟨j, hj, e⟩ := List.getElem_of_mem hx
    have := hin j (by omega)
    rw [List.getD_eq_getElem?_getD, List.getElem?_eq_getElem hj] at this
    rw [← e]
    exact this) Wt hA b r hcut))

set_option maxRecDepth 100000 in
set_option maxHeartbeats 4000000 in
theorem part22 (w : World) (a0 : Option Addr) (m c0 : Nat) (a1 : Option Addr) (n c1 : Nat) (ap : Option Addr) (p cp : Nat) (a7 : Option Addr) (c7 : Nat) (a8 : Option Addr) (z c8 g c9 : Nat) (us : List Sl) (ass : List (List Int)) (zs ps : List Int) (hm : 0 < m) (hm2 : m ≤ 32) (hn : n ≤ 20) (hp : p ≤ 1000) (hmem : IsL KI w (.slice a0 m c0) zs) (hP : IsL KI w (.slice ap p cp) ps) (hall : ∀ j, j < n → (ass.getD j []).length ≤ 20) (Wt : World) (hA : Ad w Wt m n ass (.slice a7 n c7) us (.slice a8 z c8) (ordL ass n) g c9 (ranMem zs (allT m ass n)))
    {s3 s4 s5 s6 s10 s11 s12 s13 s14 s15 s16 s17 s18 s19 s20 s21 s22 s23 s24 s25 s26 s27 s28 s29 s30 s31 s32 s33 s34 s35 s36 s37 s38 s39 s40 s41 s42 s43 s44 s45 s46 s47 s48 s49 s50 s51 s52 s53 s54 s55 s56 s57 s58 s59 s60 s61 s62 s63 s64 s65 s66 s67 s68 s69 s70 s71 s72 s73 s74 s75 s76 s77 s78 s79 s80 s81 s82 s83 s84 s85 s86 s87 s88 s89 s90 s91 s92 s93 s94 s95 s96 s97 s98 s99 s100 s101 s102 s103 s104 s105 s106 s107 s108 s109 s110 s111 s112 s113 s114 s115 s116 s117 s118 s119 s120 s121 s122 s123 s124 s125 s126 s127 s128 s129 s130 s131 s132 s133 s134 s135 s136 s137 s138 : Value} (b r : Code) (hcut : (Tryd.f3.body.bind (loopFor 0)) = some (b, r)) :
    r.wp Tryd.prog (bodyPost Tryd.prog Tryd.f3 fun e w' => e = .returned (.bool true) ∧ Below w.heap.size w w') { tmps := (.slice a0 m c0 :: .slice a1 n c1 :: .slice ap p cp :: s3 :: s4 :: s5 :: s6 :: .slice a7 n c7 :: .slice a8 z c8 :: .slice (some ⟨g, 0, none⟩) m c9 :: s10 :: s11 :: s12 :: s13 :: s14 :: s15 :: s16 :: s17 :: s18 :: s19 :: s20 :: s21 :: s22 :: s23 :: s24 :: s25 :: s26 :: s27 :: s28 :: s29 :: s30 :: s31 :: s32 :: s33 :: s34 :: s35 :: s36 :: s37 :: s38 :: s39 :: s40 :: s41 :: s42 :: s43 :: s44 :: s45 :: s46 :: s47 :: s48 :: s49 :: s50 :: s51 :: s52 :: s53 :: s54 :: s55 :: s56 :: s57 :: s58 :: s59 :: s60 :: s61 :: s62 :: s63 :: s64 :: s65 :: s66 :: s67 :: s68 :: s69 :: s70 :: s71 :: s72 :: s73 :: s74 :: s75 :: s76 :: s77 :: s78 :: s79 :: s80 :: s81 :: s82 :: s83 :: s84 :: s85 :: s86 :: s87 :: s88 :: s89 :: s90 :: s91 :: s92 :: s93 :: s94 :: s95 :: s96 :: s97 :: s98 :: s99 :: s100 :: s101 :: s102 :: s103 :: s104 :: s105 :: s106 :: s107 :: s108 :: s109 :: s110 :: s111 :: s112 :: s113 :: s114 :: s115 :: s116 :: s117 :: s118 :: s119 :: s120 :: s121 :: s122 :: s123 :: s124 :: s125 :: s126 :: s127 :: s128 :: s129 :: s130 :: s131 :: s132 :: s133 :: s134 :: s135 :: s136 :: s137 :: s138 :: []).toArray, defers := [] } Wt := by
  have hcc : (Tryd.f3.body.bind (loopFor 0)) = some (_, _) := rfl
  rw [hcc] at hcut
  cases hcut
  clear hcc
  have HA := hide hA; have HM := hide hmem; have HP := hide hP; have HAL := hide hall
  clear hA hmem hP hall
  go_wp2_with fail
  exact p4_loop w a0 m c0 a1 n c1 ap p cp a7 c7 a8 z c8 g c9 us ass zs ps hm hm2 hn hp (unhide HM) (unhide HP) (unhide HAL) Wt (unhide HA) _ _ _ (by assumption) (by kernel_rfl)

theorem i_loop (w : World) (a0 : Option Addr) (m c0 : Nat) (a1 : Option Addr) (n c1 : Nat) (ap : Option Addr) (p cp g c9 : Nat) (uas : List Sl) (ass : List (List Int)) (zs ps : List Int) (hm : 0 < m) (hm2 : m ≤ 32) (hn : n ≤ 20) (hp : p ≤ 1000) (hmem : IsL KI w (.slice a0 m c0) zs) (hP : IsL KI w (.slice ap p cp) ps) (hQ : IsAs w (.slice a1 n c1) uas ass) (Wt : World) (hX : Below w.heap.size w Wt) (hO : Own KI w.heap.size Wt (.slice (some ⟨g, 0, none⟩) m c9) zs)
    (K : Act → World → Prop) (b r : Code) (hK : ∀ a w', r.wp Tryd.prog (bodyPost Tryd.prog Tryd.f3 fun e w' => e = .returned (.bool true) ∧ Below w.heap.size w w') a w' → K a w') (hcut : (Tryd.f3.body.bind (loopFor 0)) = some (b, r)) {s3 s4 s5 s6 s11 s12 s13 s14 s15 s16 s17 s18 s19 s20 s21 s22 s23 s24 s25 s26 s27 s28 s29 s30 s31 s32 s33 s34 s35 s36 s37 s38 s39 s40 s41 s42 s43 s44 s45 s46 s47 s48 s49 s50 s51 s52 s53 s54 s55 s56 s57 s58 s59 s60 s61 s62 s63 s64 s65 s66 s67 s68 s69 s70 s71 s72 s73 s74 s75 s76 s77 s78 s79 s80 s81 s82 s83 s84 s85 s86 s87 s88 s89 s90 s91 s92 s93 s94 s95 s96 s97 s98 s99 s100 s101 s102 s103 s104 s105 s106 s107 s108 s109 s110 s111 s112 s113 s114 s115 s116 s117 s118 s119 s120 s121 s122 s123 s124 s125 s126 s127 s128 s129 s130 s131 s132 s133 s134 s135 s136 s137 s138 : Value} :
    (Code.loop b).wp Tryd.prog (Exit.inBlock 0 (Exit.then K (bodyPost Tryd.prog Tryd.f3 fun e w' => e = .returned (.bool true) ∧ Below w.heap.size w w'))) { tmps := (.slice a0 m c0 :: .slice a1 n c1 :: .slice ap p cp :: s3 :: s4 :: s5 :: s6 :: .slice none 0 0 :: .slice none 0 0 :: .slice (some ⟨g, 0, none⟩) m c9 :: .int .i64 0 :: s11 :: s12 :: s13 :: s14 :: s15 :: s16 :: s17 :: s18 :: s19 :: s20 :: s21 :: s22 :: s23 :: s24 :: s25 :: s26 :: s27 :: s28 :: s29 :: s30 :: s31 :: s32 :: s33 :: s34 :: s35 :: s36 :: s37 :: s38 :: s39 :: s40 :: s41 :: s42 :: s43 :: s44 :: s45 :: s46 :: s47 :: s48 :: s49 :: s50 :: s51 :: s52 :: s53 :: s54 :: s55 :: s56 :: s57 :: s58 :: s59 :: s60 :: s61 :: s62 :: s63 :: s64 :: s65 :: s66 :: s67 :: s68 :: s69 :: s70 :: s71 :: s72 :: s73 :: s74 :: s75 :: s76 :: s77 :: s78 :: s79 :: s80 :: s81 :: s82 :: s83 :: s84 :: s85 :: s86 :: s87 :: s88 :: s89 :: s90 :: s91 :: s92 :: s93 :: s94 :: s95 :: s96 :: s97 :: s98 :: s99 :: s100 :: s101 :: s102 :: s103 :: s104 :: s105 :: s106 :: s107 :: s108 :: s109 :: s110 :: s111 :: s112 :: s113 :: s114 :: s115 :: s116 :: s117 :: s118 :: s119 :: s120 :: s121 :: s122 :: s123 :: s124 :: s125 :: s126 :: s127 :: s128 :: s129 :: s130 :: s131 :: s132 :: s133 :: s134 :: s135 :: s136 :: s137 :: s138 :: []).toArray, defers := [] } Wt := by
  refine wp_loop_rounds (n + 1) ?_
  refine i_rounds w a0 m c0 a1 n c1 ap p cp g c9 uas ass zs hm hm2 hn hQ _ b r hcut ?_ (ret_any w K 0) n 0 (by omega) (fun j hj => by omega) _ _ _ _ _ _ _ _ _ _ _ _ _ _ _ _ _ _ _ _ _ _ _ _ _ _ _ _ _ _ _ _ _ _ _ _ _ _ _ _ _ _ _ _ _ _ _ _ _ _ _ _ _ _ _ _ _ _ _ _ _ _ _ _ _ _ _ _ _ _ _ _ _ _ _ _ _ _ _ _ _ _ _ _ _ _ _ _ _ _ _ _ _ _ _ _ _ _ _ _ _ _ _ _ _ _ _ _ _ _ _ _ _ _ _ _ _ _ _ _ _ _ _ _ _ _ _ _ _ _ _ _ (.slice none 0 0) [] (.slice none 0 0) Wt ⟨hX, own_nil _ _, rfl, fun j hj => by omega, own_nil _ _, hO, hmem.len, fun k hk => by cases hk⟩
  intro hall
  unfold NxIE
  intros
  rename_i v7 us v8 W' hA'
  obtain ⟨a7, c7, e7⟩ := hA'.ts.form
  rw [hA'.lu] at e7
  subst e7
  obtain ⟨a8, c8, e8⟩ := hA'.or.form
  subst e8
  exact in_b0 (hK _ _ (part22 w a0 m c0 a1 n c1 ap p cp a7 c7 a8 _ c8 g c9 us ass zs ps hm hm2 hn hp hmem hP hall W' hA' b r hcut))

set_option maxRecDepth 100000 in
set_option maxHeartbeats 4000000 in
theorem adds_all (w : World) (a0 : Option Addr) (m c0 : Nat) (a1 : Option Addr) (n c1 : Nat) (ap : Option Addr) (p cp : Nat) (uas : List Sl) (ass : List (List Int)) (zs ps : List Int) (hmem : IsL KI w (.slice a0 m c0) zs) (hQ : IsAs w (.slice a1 n c1) uas ass) (hP : IsL KI w (.slice ap p cp) ps) : Calls Tryd.prog 3 #[.slice a0 m c0, .slice a1 n c1, .slice ap p cp] w fun e w' => e = .returned (.bool true) ∧ Below w.heap.size w w' := by
  have hnot : ∀ (x : Bool) (w : World), (Op.unary .not (.bool x)).run Tryd.prog w = .ok (.bool (!x)) w := fun _ _ => rfl
  have HM := hide hmem; have HQ := hide hQ; have HP := hide hP
  clear hmem hQ hP
  by_cases h1 : m < 1
  · have x1 : (m : Int) < 1 := by omega
    go_enter Tryd.func3, Tryd.ntmps3
    go_wp2_with (go_at_call 4; refine (begun_any _).mono ?_; rintro e w1 ⟨rfl, hb1⟩; have HX := hide hb1; clear hb1)
    go_ret
    exact ⟨rfl, unhide HX⟩
  by_cases h2 : 32 < m
  · have x1 : ¬ (m : Int) < 1 := by omega
    have x2 : (32 : Int) < (m : Int) := by omega
    go_enter Tryd.func3, Tryd.ntmps3
    go_wp2_with (go_at_call 4; refine (begun_any _).mono ?_; rintro e w1 ⟨rfl, hb1⟩; have HX := hide hb1; clear hb1)
    go_ret
    exact ⟨rfl, unhide HX⟩
  by_cases h3 : 20 < n
  · have x1 : ¬ (m : Int) < 1 := by omega
    have x2 : ¬ (32 : Int) < (m : Int) := by omega
    have x3 : (20 : Int) < (n : Int) := by omega
    go_enter Tryd.func3, Tryd.ntmps3
    go_wp2_with (go_at_call 4; refine (begun_any _).mono ?_; rintro e w1 ⟨rfl, hb1⟩; have HX := hide hb1; clear hb1)
    go_ret
    exact ⟨rfl, unhide HX⟩
  by_cases h4 : 1000 < p
  · have x1 : ¬ (m : Int) < 1 := by omega
    have x2 : ¬ (32 : Int) < (m : Int) := by omega
    have x3 : ¬ (20 : Int) < (n : Int) := by omega
    have x4 : (1000 : Int) < (p : Int) := by omega
    go_enter Tryd.func3, Tryd.ntmps3
    go_wp2_with (go_at_call 4; refine (begun_any _).mono ?_; rintro e w1 ⟨rfl, hb1⟩; have HX := hide hb1; clear hb1)
    go_ret
    exact ⟨rfl, unhide HX⟩
  have x1 : ¬ (m : Int) < 1 := by omega
  have x2 : ¬ (32 : Int) < (m : Int) := by omega
  have x3 : ¬ (20 : Int) < (n : Int) := by omega
  have x4 : ¬ (1000 : Int) < (p : Int) := by omega
  have HOW : Hid (∀ W, Below w.heap.size w W → Calls Tryd.prog 5 #[.slice a0 m c0] W fun e w' => ∃ g c9, e = .returned (.slice (some ⟨g, 0, none⟩) m c9) ∧ Own KI w.heap.size w' (.slice (some ⟨g, 0, none⟩) m c9) zs ∧ Below W.heap.size W w') := fun W hW => by
    have hlm := (unhide HM).len
    have h1 := isl_ints ((unhide HM).below hW)
    refine (own_any W (.slice a0 m c0) zs.length _ h1 (ints_one zs) (by omega)).mono ?_
    rintro e w' ⟨v', rfl, h2, h3⟩
    have h4 := ints_isl h2
    obtain ⟨g, c9, rfl⟩ := own_addr h4 (by omega)
    rw [hlm] at h4 ⊢
    exact ⟨g, c9, rfl, h4.base hW.size, h3⟩
  go_enter Tryd.func3, Tryd.ntmps3
  go_upto_region 8 with (first
    | (go_at_call 4; refine (begun_any _).mono ?_; rintro e w1 ⟨rfl, hb1⟩; have HX := hide hb1; clear hb1)
    | (go_at_call 5; refine (unhide HOW _ (unhide HX)).mono ?_; rintro e w2 ⟨g, c9, rfl, ho2, hb2⟩; have HO2 := hide ho2; have HX2 := hide (Below.next (unhide HX) hb2 (Nat.le_refl _)); clear ho2 hb2))
  go_wp2_with fail
  exact i_loop w a0 m c0 a1 n c1 ap p cp g c9 uas ass zs ps (by omega) (by omega) (by omega) (by omega) (unhide HM) (unhide HP) (unhide HQ) w2 (unhide HX2) (unhide HO2) _ _ _ (by assumption) (by kernel_rfl)

end Go.Proofs.YtpgokeogijpmaabDoor.Mx
