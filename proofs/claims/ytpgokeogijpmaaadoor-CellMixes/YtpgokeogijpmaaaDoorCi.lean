/-
  taskmilllaw.CellMixes: its end.
-/
import Derived.Test.YtpgokeogijpmaaaDoorCh
namespace Go.Proofs.YtpgokeogijpmaaaDoor.Mx
open Go.RowKit

theorem dist_step {wh tt : List Int} {q i : Nat} {ts : List (List Int)} (h1 : wh.length = q) (h2 : tt.length = q) (hi : i < q) : dist (wh.drop i) (tt.drop i) ts = dist (wh.drop (i + 1)) (tt.drop (i + 1)) (ts.set (wh.getD i 0).toNat (ts.getD (wh.getD i 0).toNat [] ++ [tt.getD i 0])) := by
  rw [List.drop_eq_getElem_cons (l := wh) (by omega), List.drop_eq_getElem_cons (l := tt) (by omega)]
  have e1 : wh.getD i 0 = wh[i] := by simp [show i < wh.length by omega]
  have e2 : tt.getD i 0 = tt[i] := by simp [show i < tt.length by omega]
  rw [e1, e2]
  rfl
def NxHE (w W0 : World) (R Bm : Nat) (v7 v8 v14 : Value) (a12 : Option Addr) (c12 : Nat) (a13 : Option Addr) (c13 : Nat) (a15 : Option Addr) (c15 q G n : Nat) (ts : List (List Int)) (Q0 : Exit → Act → World → Prop) : Prop := ∀ (s0 s1 s2 s3 s4 s5 s6 s9 s10 s11 s18 s19 s20 s21 s22 s23 s24 s25 s26 s27 s28 s29 s30 s31 s32 s33 s34 s35 s36 s37 s38 s39 s40 s41 s42 s43 s44 s45 s46 s47 s48 s49 s50 s51 s52 s53 s54 s55 s56 s57 s58 s59 s60 s61 s62 s63 s64 s65 s66 s67 s68 s69 s70 s71 s72 s73 s74 s75 s76 s77 s78 s79 s80 s81 s82 s83 s84 s85 s86 s87 s88 s89 s90 s91 s92 s93 s94 s95 s96 s97 s98 s99 s100 s101 s102 s103 s104 s105 s106 s107 s108 s109 s110 s111 s112 s113 s114 s115 s116 s117 s118 s119 s120 s121 s122 s123 s124 s125 s126 s127 s128 s129 s130 s131 s132 s133 : Value) (us : List Sl) (W' : World), Mi w W' W0.heap.size R Bm G n 0 (.slice none 0 0) [] us ts → Below W0.heap.size W0 W' → Q0 (.exit 2) { tmps := (s0 :: s1 :: s2 :: s3 :: s4 :: s5 :: s6 :: v7 :: v8 :: s9 :: s10 :: s11 :: .slice a12 q c12 :: .slice a13 q c13 :: v14 :: .slice a15 q c15 :: .slice (some ⟨G, 0, none⟩) n n :: .int .i64 (q : Int) :: s18 :: s19 :: s20 :: s21 :: s22 :: s23 :: s24 :: s25 :: s26 :: s27 :: s28 :: s29 :: s30 :: s31 :: s32 :: s33 :: s34 :: s35 :: s36 :: s37 :: s38 :: s39 :: s40 :: s41 :: s42 :: s43 :: s44 :: s45 :: s46 :: s47 :: s48 :: s49 :: s50 :: s51 :: s52 :: s53 :: s54 :: s55 :: s56 :: s57 :: s58 :: s59 :: s60 :: s61 :: s62 :: s63 :: s64 :: s65 :: s66 :: s67 :: s68 :: s69 :: s70 :: s71 :: s72 :: s73 :: s74 :: s75 :: s76 :: s77 :: s78 :: s79 :: s80 :: s81 :: s82 :: s83 :: s84 :: s85 :: s86 :: s87 :: s88 :: s89 :: s90 :: s91 :: s92 :: s93 :: s94 :: s95 :: s96 :: s97 :: s98 :: s99 :: s100 :: s101 :: s102 :: s103 :: s104 :: s105 :: s106 :: s107 :: s108 :: s109 :: s110 :: s111 :: s112 :: s113 :: s114 :: s115 :: s116 :: s117 :: s118 :: s119 :: s120 :: s121 :: s122 :: s123 :: s124 :: s125 :: s126 :: s127 :: s128 :: s129 :: s130 :: s131 :: s132 :: s133 :: []).toArray, defers := [] } W'
set_option maxRecDepth 100000 in
set_option maxHeartbeats 4000000 in
theorem hd_end (w W0 : World) (R Bm : Nat) (v7 v8 v14 : Value) (a12 : Option Addr) (c12 : Nat) (a13 : Option Addr) (c13 : Nat) (a15 : Option Addr) (c15 q G n : Nat) (us : List Sl) (ts : List (List Int)) (Wt : World) (hM : Mi w Wt W0.heap.size R Bm G n 0 (.slice none 0 0) [] us ts) (hB : Below W0.heap.size W0 Wt)
    {s0 s1 s2 s3 s4 s5 s6 s9 s10 s11 s18 s19 s20 s21 s22 s23 s24 s25 s26 s27 s28 s29 s30 s31 s32 s33 s34 s35 s36 s37 s38 s39 s40 s41 s42 s43 s44 s45 s46 s47 s48 s49 s50 s51 s52 s53 s54 s55 s56 s57 s58 s59 s60 s61 s62 s63 s64 s65 s66 s67 s68 s69 s70 s71 s72 s73 s74 s75 s76 s77 s78 s79 s80 s81 s82 s83 s84 s85 s86 s87 s88 s89 s90 s91 s92 s93 s94 s95 s96 s97 s98 s99 s100 s101 s102 s103 s104 s105 s106 s107 s108 s109 s110 s111 s112 s113 s114 s115 s116 s117 s118 s119 s120 s121 s122 s123 s124 s125 s126 s127 s128 s129 s130 s131 s132 s133 : Value} (N : Act → World → Prop) (Q0 : Exit → Act → World → Prop) (b r : Code) (hcut : (Tryd.f4.body.bind (loopFor 2)) = some (b, r)) (hE : NxHE w W0 R Bm v7 v8 v14 a12 c12 a13 c13 a15 c15 q G n ts Q0) :
    b.wp Tryd.prog (Exit.then N Q0) { tmps := (s0 :: s1 :: s2 :: s3 :: s4 :: s5 :: s6 :: v7 :: v8 :: s9 :: s10 :: s11 :: .slice a12 q c12 :: .slice a13 q c13 :: v14 :: .slice a15 q c15 :: .slice (some ⟨G, 0, none⟩) n n :: .int .i64 (q : Int) :: s18 :: s19 :: s20 :: s21 :: s22 :: s23 :: s24 :: s25 :: s26 :: s27 :: s28 :: s29 :: s30 :: s31 :: s32 :: s33 :: s34 :: s35 :: s36 :: s37 :: s38 :: s39 :: s40 :: s41 :: s42 :: s43 :: s44 :: s45 :: s46 :: s47 :: s48 :: s49 :: s50 :: s51 :: s52 :: s53 :: s54 :: s55 :: s56 :: s57 :: s58 :: s59 :: s60 :: s61 :: s62 :: s63 :: s64 :: s65 :: s66 :: s67 :: s68 :: s69 :: s70 :: s71 :: s72 :: s73 :: s74 :: s75 :: s76 :: s77 :: s78 :: s79 :: s80 :: s81 :: s82 :: s83 :: s84 :: s85 :: s86 :: s87 :: s88 :: s89 :: s90 :: s91 :: s92 :: s93 :: s94 :: s95 :: s96 :: s97 :: s98 :: s99 :: s100 :: s101 :: s102 :: s103 :: s104 :: s105 :: s106 :: s107 :: s108 :: s109 :: s110 :: s111 :: s112 :: s113 :: s114 :: s115 :: s116 :: s117 :: s118 :: s119 :: s120 :: s121 :: s122 :: s123 :: s124 :: s125 :: s126 :: s127 :: s128 :: s129 :: s130 :: s131 :: s132 :: s133 :: []).toArray, defers := [] } Wt := by
  have hcc : (Tryd.f4.body.bind (loopFor 2)) = some (_, _) := rfl
  rw [hcc] at hcut
  cases hcut
  clear hcc
  have HE := hide hE; have HM := hide hM; have HB := hide hB
  clear hE hM hB
  have i1 : ¬ (q : Int) < (q : Int) := by omega
  go_wp2_with fail
  exact unhide HE _ _ _ _ _ _ _ _ _ _ _ _ _ _ _ _ _ _ _ _ _ _ _ _ _ _ _ _ _ _ _ _ _ _ _ _ _ _ _ _ _ _ _ _ _ _ _ _ _ _ _ _ _ _ _ _ _ _ _ _ _ _ _ _ _ _ _ _ _ _ _ _ _ _ _ _ _ _ _ _ _ _ _ _ _ _ _ _ _ _ _ _ _ _ _ _ _ _ _ _ _ _ _ _ _ _ _ _ _ _ _ _ _ _ _ _ _ _ _ _ _ _ _ _ _ _ _ _ (unhide HM) (unhide HB)
theorem hd_rounds (w W0 : World) (R Bm : Nat) (v7 v8 v14 : Value) (a12 : Option Addr) (c12 : Nat) (a13 : Option Addr) (c13 : Nat) (a15 : Option Addr) (c15 q G n : Nat) (wh tt : List Int) (hq : q ≤ 5000) (hn : n ≤ 64) (hlw : wh.length = q) (hlt : tt.length = q) (hin : ∀ i, i < q → 0 ≤ wh.getD i 0 ∧ wh.getD i 0 < n) (hW : IsInts W0 (.slice a13 q c13) wh) (hT : IsInts W0 (.slice a15 q c15) tt) (FT : List (List Int)) (Q0 : Exit → Act → World → Prop) (b r : Code) (hcut : (Tryd.f4.body.bind (loopFor 2)) = some (b, r)) (hE : NxHE w W0 R Bm v7 v8 v14 a12 c12 a13 c13 a15 c15 q G n FT Q0) :
    ∀ (k i : Nat), i + k = q → ∀ (s0 s1 s2 s3 s4 s5 s6 s9 s10 s11 s18 s19 s20 s21 s22 s23 s24 s25 s26 s27 s28 s29 s30 s31 s32 s33 s34 s35 s36 s37 s38 s39 s40 s41 s42 s43 s44 s45 s46 s47 s48 s49 s50 s51 s52 s53 s54 s55 s56 s57 s58 s59 s60 s61 s62 s63 s64 s65 s66 s67 s68 s69 s70 s71 s72 s73 s74 s75 s76 s77 s78 s79 s80 s81 s82 s83 s84 s85 s86 s87 s88 s89 s90 s91 s92 s93 s94 s95 s96 s97 s98 s99 s100 s101 s102 s103 s104 s105 s106 s107 s108 s109 s110 s111 s112 s113 s114 s115 s116 s117 s118 s119 s120 s121 s122 s123 s124 s125 s126 s127 s128 s129 s130 s131 s132 s133 : Value) (us : List Sl) (ts : List (List Int)) (Wt : World), dist (wh.drop i) (tt.drop i) ts = FT → (∀ t, t < n → (ts.getD t []).length ≤ i) → Mi w Wt W0.heap.size R Bm G n 0 (.slice none 0 0) [] us ts → Below W0.heap.size W0 Wt → Code.rounds Tryd.prog b Q0 (k + 1) { tmps := (s0 :: s1 :: s2 :: s3 :: s4 :: s5 :: s6 :: v7 :: v8 :: s9 :: s10 :: s11 :: .slice a12 q c12 :: .slice a13 q c13 :: v14 :: .slice a15 q c15 :: .slice (some ⟨G, 0, none⟩) n n :: .int .i64 (i : Int) :: s18 :: s19 :: s20 :: s21 :: s22 :: s23 :: s24 :: s25 :: s26 :: s27 :: s28 :: s29 :: s30 :: s31 :: s32 :: s33 :: s34 :: s35 :: s36 :: s37 :: s38 :: s39 :: s40 :: s41 :: s42 :: s43 :: s44 :: s45 :: s46 :: s47 :: s48 :: s49 :: s50 :: s51 :: s52 :: s53 :: s54 :: s55 :: s56 :: s57 :: s58 :: s59 :: s60 :: s61 :: s62 :: s63 :: s64 :: s65 :: s66 :: s67 :: s68 :: s69 :: s70 :: s71 :: s72 :: s73 :: s74 :: s75 :: s76 :: s77 :: s78 :: s79 :: s80 :: s81 :: s82 :: s83 :: s84 :: s85 :: s86 :: s87 :: s88 :: s89 :: s90 :: s91 :: s92 :: s93 :: s94 :: s95 :: s96 :: s97 :: s98 :: s99 :: s100 :: s101 :: s102 :: s103 :: s104 :: s105 :: s106 :: s107 :: s108 :: s109 :: s110 :: s111 :: s112 :: s113 :: s114 :: s115 :: s116 :: s117 :: s118 :: s119 :: s120 :: s121 :: s122 :: s123 :: s124 :: s125 :: s126 :: s127 :: s128 :: s129 :: s130 :: s131 :: s132 :: s133 :: []).toArray, defers := [] } Wt := by
  intro k
  induction k with
  | zero =>
    intro i hi
    obtain rfl : i = q := by omega
    intros
    rename_i us ts Wt hF hl hM hB
    rw [List.drop_of_length_le (by omega)] at hF
    have hF2 : ts = FT := by unfold dist at hF; exact hF
    subst hF2
    exact hd_end w W0 R Bm v7 v8 v14 a12 c12 a13 c13 a15 c15 i G n us ts Wt hM hB _ Q0 b r hcut hE
  | succ k ih =>
    intro i hi
    intros
    rename_i us ts Wt hF hl hM hB
    obtain ⟨t, et⟩ : ∃ t : Nat, wh.getD i 0 = (t : Int) := ⟨(wh.getD i 0).toNat, by have := (hin i (by omega)).1; omega⟩
    have htn : t < n := by have := (hin i (by omega)).2; omega
    rw [dist_step hlw hlt (by omega)] at hF
    have e1 : (wh.getD i 0).toNat = t := by rw [et]; rfl
    rw [e1] at hF
    have hlt' := hM.lt
    refine hd_round w W0 R Bm v7 v8 v14 a12 c12 a13 c13 a15 c15 q G n i wh tt us ts t _ (by omega) hq hn htn et rfl hlw hlt hW hT Wt hM hB (by have := hl t htn; omega) _ Q0 b r hcut ?_
    unfold NxH
    intros
    rename_i us' W' hM' hB'
    refine ih (i + 1) (by omega) _ _ _ _ _ _ _ _ _ _ _ _ _ _ _ _ _ _ _ _ _ _ _ _ _ _ _ _ _ _ _ _ _ _ _ _ _ _ _ _ _ _ _ _ _ _ _ _ _ _ _ _ _ _ _ _ _ _ _ _ _ _ _ _ _ _ _ _ _ _ _ _ _ _ _ _ _ _ _ _ _ _ _ _ _ _ _ _ _ _ _ _ _ _ _ _ _ _ _ _ _ _ _ _ _ _ _ _ _ _ _ _ _ _ _ _ _ _ _ _ _ _ _ _ _ _ us' _ W' hF (fun u hu => ?_) hM' hB'
    by_cases e : u = t
    · subst e
      rw [List.getD_eq_getElem?_getD, List.getElem?_set_self (by omega)]
      have := hl u hu
      show (ts.getD u [] ++ [_]).length ≤ _
      rw [List.length_append, List.length_singleton]
      omega
    · rw [List.getD_eq_getElem?_getD, List.getElem?_set_ne (by omega), ← List.getD_eq_getElem?_getD]
      have := hl u hu
      omega

theorem lists_of {W : World} {B G n : Nat} {us : List Sl} {ts : List (List Int)} (hr : Own KT B W (.slice (some ⟨G, 0, none⟩) n n) us) (hu : us.length = n) (ht : ts.length = n) (he : ∀ i, i < n → IsL KI W (sl (uAt us i)) (ts.getD i [])) : IsLists W (.slice (some ⟨G, 0, none⟩) n n) ts := by
  refine ⟨fun j => sl (uAt us j), ?_, fun j hj => isl_ints (he j (by omega))⟩
  have h1 : Rd W 1 (.slice (some ⟨G, 0, none⟩) n n) us.length (us.flatMap KT.f) := hr.isl.1
  have e : us.flatMap KT.f = (List.range ts.length).map fun j => sl (uAt us j) := by
    rw [ht, ← hu]
    clear h1 hr hu ht he
    have e2 : us.flatMap KT.f = us.map sl := by
      induction us with
      | nil => rfl
      | cons u r ih => rw [List.flatMap_cons, ih]; rfl
    rw [e2]
    refine List.ext_getElem (by simp) fun j h3 h4 => ?_
    simp only [List.length_map] at h3
    simp [uAt, h3]
  rw [ht] at e ⊢
  rw [← e]
  rw [hu] at h1
  exact h1
set_option maxRecDepth 100000 in
set_option maxHeartbeats 4000000 in
theorem lists_zero (w : World) (a a' : Option Addr) (c c' : Nat) : Calls Tryd.prog 23 #[.slice a 0 c, .slice a' 0 c'] w fun e w' => e = .returned (.bool true) ∧ Below w.heap.size w w' := by
  go_enter Tryd.func23, Tryd.ntmps23
  go_wp2_with fail
  refine wp_loop_rounds 1 ?_
  rw [rounds_succ]
  go_wp2_with fail
  go_ret
  exact ⟨rfl, Below.refl _ _⟩
set_option maxRecDepth 100000 in
set_option maxHeartbeats 4000000 in
theorem mixes_tail (ww W : World) (v7 v8 v14 v16 : Value) (hX : Below ww.heap.size ww W) (h1 : Calls Tryd.prog 15 #[v7, v14] W fun e w' => e = .returned (.bool true) ∧ Below W.heap.size W w') (h2 : ∀ W', Below W.heap.size W W' → Calls Tryd.prog 23 #[v8, v16] W' fun e w' => e = .returned (.bool true) ∧ Below W'.heap.size W' w')
    {s0 s1 s2 s3 s4 s5 s6 s9 s10 s11 s12 s13 s15 s17 s18 s19 s20 s21 s22 s23 s24 s25 s26 s27 s28 s29 s30 s31 s32 s33 s34 s35 s36 s37 s38 s39 s40 s41 s42 s43 s44 s45 s46 s47 s48 s49 s50 s51 s52 s53 s54 s55 s56 s57 s58 s59 s60 s61 s62 s63 s64 s65 s66 s67 s68 s69 s70 s71 s72 s73 s74 s75 s76 s77 s78 s79 s80 s81 s82 s83 s84 s85 s86 s87 s88 s89 s90 s91 s92 s93 s94 s95 s96 s97 s98 s99 s100 s101 s102 s103 s104 s105 s106 s107 s108 s109 s110 s111 s112 s113 s114 s115 s116 s117 s118 s119 s120 s121 s122 s123 s124 s125 s126 s127 s128 s129 s130 s131 s132 s133 : Value} (b r : Code) (hcut : (Tryd.f4.body.bind (loopFor 2)) = some (b, r)) :
    r.wp Tryd.prog (bodyPost Tryd.prog Tryd.f4 fun e w' => e = .returned (.bool true) ∧ Below ww.heap.size ww w') { tmps := (s0 :: s1 :: s2 :: s3 :: s4 :: s5 :: s6 :: v7 :: v8 :: s9 :: s10 :: s11 :: s12 :: s13 :: v14 :: s15 :: v16 :: s17 :: s18 :: s19 :: s20 :: s21 :: s22 :: s23 :: s24 :: s25 :: s26 :: s27 :: s28 :: s29 :: s30 :: s31 :: s32 :: s33 :: s34 :: s35 :: s36 :: s37 :: s38 :: s39 :: s40 :: s41 :: s42 :: s43 :: s44 :: s45 :: s46 :: s47 :: s48 :: s49 :: s50 :: s51 :: s52 :: s53 :: s54 :: s55 :: s56 :: s57 :: s58 :: s59 :: s60 :: s61 :: s62 :: s63 :: s64 :: s65 :: s66 :: s67 :: s68 :: s69 :: s70 :: s71 :: s72 :: s73 :: s74 :: s75 :: s76 :: s77 :: s78 :: s79 :: s80 :: s81 :: s82 :: s83 :: s84 :: s85 :: s86 :: s87 :: s88 :: s89 :: s90 :: s91 :: s92 :: s93 :: s94 :: s95 :: s96 :: s97 :: s98 :: s99 :: s100 :: s101 :: s102 :: s103 :: s104 :: s105 :: s106 :: s107 :: s108 :: s109 :: s110 :: s111 :: s112 :: s113 :: s114 :: s115 :: s116 :: s117 :: s118 :: s119 :: s120 :: s121 :: s122 :: s123 :: s124 :: s125 :: s126 :: s127 :: s128 :: s129 :: s130 :: s131 :: s132 :: s133 :: []).toArray, defers := [] } W := by
  have hcc : (Tryd.f4.body.bind (loopFor 2)) = some (_, _) := rfl
  rw [hcc] at hcut
  cases hcut
  clear hcc
  have H1 := hide h1; have H2 := hide h2; have HX := hide hX
  clear h1 h2 hX
  go_wp2_with (first | (go_at_call 15; refine (unhide H1).mono ?_; rintro e w2 ⟨rfl, hb2⟩; have HB2 := hide hb2; clear hb2) | (go_at_call 23; refine (unhide H2 _ (unhide HB2)).mono ?_; rintro e w3 ⟨rfl, hb3⟩; have HX3 := hide (Below.next (Below.next (unhide HX) (unhide HB2) (Nat.le_refl _)) hb3 (Nat.le_refl _)); clear hb3))
  go_ret
  exact ⟨rfl, unhide HX3⟩

end Go.Proofs.YtpgokeogijpmaaaDoor.Mx
