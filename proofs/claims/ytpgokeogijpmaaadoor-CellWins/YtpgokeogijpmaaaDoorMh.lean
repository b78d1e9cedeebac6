/-
  taskmilllaw.CellWins: its tasks, its picks, its order.
-/
import Derived.Test.YtpgokeogijpmaaaDoorMg
namespace Go.Proofs.YtpgokeogijpmaaaDoor.Mx
open Go.RowKit

/-- The tasks that were made so far: each in a block of its own. -/
structure TsAt (W : World) (h : Int) (ws : List Int) (us : List Sl) (i : Nat) : Prop where
  len : us.length = i
  each : ∀ k, k < i → ∃ b, uAt us k = (some ⟨b, 0, none⟩, 1, 1) ∧ W.heap[b]? = some (.cells #[.int .i64 5, .int .i64 0, .int .i64 h, .int .i64 (ws.getD k 0)] 55 (0, 0))
theorem TsAt.below {W W' : World} {h : Int} {ws : List Int} {us : List Sl} {i : Nat} (hT : TsAt W h ws us i) (hb : Below W.heap.size W W') : TsAt W' h ws us i := ⟨hT.len, fun k hk => by
  obtain ⟨b, e1, e2⟩ := hT.each k hk
  exact ⟨b, e1, keep_below e2 hb⟩⟩
theorem TsAt.isTs {W : World} {h : Int} {ws : List Int} {us : List Sl} {v : Value} (hT : TsAt W h ws us ws.length) (hv : IsL KQ W v us) : IsTs W v us (winT h ws) := by
  refine ⟨hv, by rw [hT.len]; unfold winT; simp, fun i hi => ?_⟩
  have hi' : i < ws.length := by unfold winT at hi; simpa using hi
  obtain ⟨b, e1, e2⟩ := hT.each i hi'
  rw [winT_at hi', e1]
  refine ⟨rfl, Or.inr ⟨⟨b, 0, none⟩, 1, rfl, fun j u hj => ?_⟩⟩
  rw [WideShapes.add_plain]
  simp only [World.cell?, e2]
  match j, hj with
  | 0, hj => exact hj
  | 1, hj => exact hj
  | 2, hj => exact hj
  | 3, hj => exact hj
  | j + 4, hj => simp [opsCells, Op4.cells] at hj
theorem TsAt.more {W w6 : World} {h : Int} {ws : List Int} {us : List Sl} {i B : Nat} {v7 : Value} (hT : TsAt W h ws us i) (hO : Own KQ B W v7 us) (o : Obj) (hg : ((W.alloc (.cells #[.int .i64 5, .int .i64 0, .int .i64 h, .int .i64 (ws.getD i 0)] 55)).alloc o).grownBy w6 v7.ownBlock) :
    TsAt w6 h ws (us ++ [(some ⟨W.heap.size, 0, none⟩, 1, 1)]) (i + 1) := by
  have hk : ∀ b x, W.heap[b]? = some (.cells x 55 (0, 0)) → v7.ownBlock ≠ some b := fun b x hb e => by
    obtain ⟨cur, h1⟩ := own_block hO b e
    rw [hb] at h1
    injection h1 with h1
    injection h1 with _ h1
    exact absurd h1 (by decide)
  refine ⟨by rw [List.length_append, hT.len]; rfl, fun k hk' => ?_⟩
  by_cases hki : k < i
  · obtain ⟨b, e1, e2⟩ := hT.each k hki
    refine ⟨b, ?_, keep_grown (keep_alloc (keep_alloc e2 _) o) hg (fun j hj e => hk b _ e2 (by rw [hj, e]))⟩
    unfold uAt at e1 ⊢
    rw [List.getD_eq_getElem?_getD, List.getElem?_append_left (by rw [hT.len]; exact hki), ← List.getD_eq_getElem?_getD]
    exact e1
  · obtain rfl : k = i := by omega
    refine ⟨W.heap.size, ?_, keep_grown (keep_alloc (new_block W _) o) hg (fun j hj e => ?_)⟩
    · unfold uAt
      rw [List.getD_eq_getElem?_getD, List.getElem?_append_right (by rw [hT.len]; exact Nat.le_refl _), hT.len, Nat.sub_self]
      rfl
    · have := (hO.lt j hj).2
      omega

/-- What follows where the law ends early. -/
def NxRet (w : World) (Q0 : Exit → Act → World → Prop) : Prop := ∀ (s0 s1 s2 s3 s4 s5 s7 s8 s9 s10 s11 s12 s13 s14 s15 s16 s17 s18 s19 s20 s21 s22 s23 s24 s25 s26 s27 s28 s29 s30 s31 s32 s33 s34 s35 s36 s37 s38 s39 s40 s41 s42 s43 s44 s45 s46 s47 s48 s49 s50 s51 s52 s53 s54 s55 s56 s57 s58 s59 s60 s61 s62 s63 s64 s65 s66 s67 s68 s69 s70 s71 s72 s73 s74 s75 s76 s77 s78 s79 s80 s81 s82 s83 s84 s85 s86 s87 s88 s89 s90 s91 s92 s93 s94 s95 s96 s97 s98 s99 s100 s101 s102 s103 s104 s105 s106 s107 s108 s109 s110 s111 s112 s113 s114 s115 s116 s117 s118 s119 s120 s121 s122 s123 s124 s125 s126 s127 s128 s129 s130 s131 s132 s133 s134 s135 s136 s137 s138 s139 s140 s141 s142 s143 s144 s145 s146 s147 s148 s149 s150 s151 s152 s153 s154 s155 s156 s157 s158 s159 s160 s161 : Value) (W' : World), Below w.heap.size w W' → Q0 .ret { tmps := (s0 :: s1 :: s2 :: s3 :: s4 :: s5 :: .bool true :: s7 :: s8 :: s9 :: s10 :: s11 :: s12 :: s13 :: s14 :: s15 :: s16 :: s17 :: s18 :: s19 :: s20 :: s21 :: s22 :: s23 :: s24 :: s25 :: s26 :: s27 :: s28 :: s29 :: s30 :: s31 :: s32 :: s33 :: s34 :: s35 :: s36 :: s37 :: s38 :: s39 :: s40 :: s41 :: s42 :: s43 :: s44 :: s45 :: s46 :: s47 :: s48 :: s49 :: s50 :: s51 :: s52 :: s53 :: s54 :: s55 :: s56 :: s57 :: s58 :: s59 :: s60 :: s61 :: s62 :: s63 :: s64 :: s65 :: s66 :: s67 :: s68 :: s69 :: s70 :: s71 :: s72 :: s73 :: s74 :: s75 :: s76 :: s77 :: s78 :: s79 :: s80 :: s81 :: s82 :: s83 :: s84 :: s85 :: s86 :: s87 :: s88 :: s89 :: s90 :: s91 :: s92 :: s93 :: s94 :: s95 :: s96 :: s97 :: s98 :: s99 :: s100 :: s101 :: s102 :: s103 :: s104 :: s105 :: s106 :: s107 :: s108 :: s109 :: s110 :: s111 :: s112 :: s113 :: s114 :: s115 :: s116 :: s117 :: s118 :: s119 :: s120 :: s121 :: s122 :: s123 :: s124 :: s125 :: s126 :: s127 :: s128 :: s129 :: s130 :: s131 :: s132 :: s133 :: s134 :: s135 :: s136 :: s137 :: s138 :: s139 :: s140 :: s141 :: s142 :: s143 :: s144 :: s145 :: s146 :: s147 :: s148 :: s149 :: s150 :: s151 :: s152 :: s153 :: s154 :: s155 :: s156 :: s157 :: s158 :: s159 :: s160 :: s161 :: []).toArray, defers := [] } W'

def NxA0 (w : World) (h : Int) (a1 : Option Addr) (n c1 : Nat) (ap : Option Addr) (p cp : Nat) (ws : List Int) (i : Nat) (N : Act → World → Prop) : Prop := ∀ (s3 s4 s5 s6 s9 s10 s11 s12 s13 s14 s15 s16 s17 s18 s19 s20 s21 s22 s23 s24 s25 s26 s27 s28 s29 s30 s31 s32 s33 s34 s35 s36 s37 s38 s39 s40 s41 s42 s43 s44 s45 s46 s47 s48 s49 s50 s51 s52 s53 s54 s55 s56 s57 s58 s59 s60 s61 s62 s63 s64 s65 s66 s67 s68 s69 s70 s71 s72 s73 s74 s75 s76 s77 s78 s79 s80 s81 s82 s83 s84 s85 s86 s87 s88 s89 s90 s91 s92 s93 s94 s95 s96 s97 s98 s99 s100 s101 s102 s103 s104 s105 s106 s107 s108 s109 s110 s111 s112 s113 s114 s115 s116 s117 s118 s119 s120 s121 s122 s123 s124 s125 s126 s127 s128 s129 s130 s131 s132 s133 s134 s135 s136 s137 s138 s139 s140 s141 s142 s143 s144 s145 s146 s147 s148 s149 s150 s151 s152 s153 s154 s155 s156 s157 s158 s159 s160 s161 : Value) (v7 : Value) (us : List Sl) (W' : World), Below w.heap.size w W' → Own KQ w.heap.size W' v7 us → TsAt W' h ws us (i + 1) → N { tmps := (.int .i64 h :: .slice a1 n c1 :: .slice ap p cp :: s3 :: s4 :: s5 :: s6 :: v7 :: .int .i64 ((i : Int) + 1) :: s9 :: s10 :: s11 :: s12 :: s13 :: s14 :: s15 :: s16 :: s17 :: s18 :: s19 :: s20 :: s21 :: s22 :: s23 :: s24 :: s25 :: s26 :: s27 :: s28 :: s29 :: s30 :: s31 :: s32 :: s33 :: s34 :: s35 :: s36 :: s37 :: s38 :: s39 :: s40 :: s41 :: s42 :: s43 :: s44 :: s45 :: s46 :: s47 :: s48 :: s49 :: s50 :: s51 :: s52 :: s53 :: s54 :: s55 :: s56 :: s57 :: s58 :: s59 :: s60 :: s61 :: s62 :: s63 :: s64 :: s65 :: s66 :: s67 :: s68 :: s69 :: s70 :: s71 :: s72 :: s73 :: s74 :: s75 :: s76 :: s77 :: s78 :: s79 :: s80 :: s81 :: s82 :: s83 :: s84 :: s85 :: s86 :: s87 :: s88 :: s89 :: s90 :: s91 :: s92 :: s93 :: s94 :: s95 :: s96 :: s97 :: s98 :: s99 :: s100 :: s101 :: s102 :: s103 :: s104 :: s105 :: s106 :: s107 :: s108 :: s109 :: s110 :: s111 :: s112 :: s113 :: s114 :: s115 :: s116 :: s117 :: s118 :: s119 :: s120 :: s121 :: s122 :: s123 :: s124 :: s125 :: s126 :: s127 :: s128 :: s129 :: s130 :: s131 :: s132 :: s133 :: s134 :: s135 :: s136 :: s137 :: s138 :: s139 :: s140 :: s141 :: s142 :: s143 :: s144 :: s145 :: s146 :: s147 :: s148 :: s149 :: s150 :: s151 :: s152 :: s153 :: s154 :: s155 :: s156 :: s157 :: s158 :: s159 :: s160 :: s161 :: []).toArray, defers := [] } W'
def NxE0 (w : World) (h : Int) (a1 : Option Addr) (n c1 : Nat) (ap : Option Addr) (p cp : Nat) (ws : List Int) (Q0 : Exit → Act → World → Prop) : Prop := ∀ (s3 s4 s5 s6 s9 s10 s11 s12 s13 s14 s15 s16 s17 s18 s19 s20 s21 s22 s23 s24 s25 s26 s27 s28 s29 s30 s31 s32 s33 s34 s35 s36 s37 s38 s39 s40 s41 s42 s43 s44 s45 s46 s47 s48 s49 s50 s51 s52 s53 s54 s55 s56 s57 s58 s59 s60 s61 s62 s63 s64 s65 s66 s67 s68 s69 s70 s71 s72 s73 s74 s75 s76 s77 s78 s79 s80 s81 s82 s83 s84 s85 s86 s87 s88 s89 s90 s91 s92 s93 s94 s95 s96 s97 s98 s99 s100 s101 s102 s103 s104 s105 s106 s107 s108 s109 s110 s111 s112 s113 s114 s115 s116 s117 s118 s119 s120 s121 s122 s123 s124 s125 s126 s127 s128 s129 s130 s131 s132 s133 s134 s135 s136 s137 s138 s139 s140 s141 s142 s143 s144 s145 s146 s147 s148 s149 s150 s151 s152 s153 s154 s155 s156 s157 s158 s159 s160 s161 : Value) (v7 : Value) (us : List Sl) (W' : World), Below w.heap.size w W' → Own KQ w.heap.size W' v7 us → TsAt W' h ws us (n) → Q0 (.exit 0) { tmps := (.int .i64 h :: .slice a1 n c1 :: .slice ap p cp :: s3 :: s4 :: s5 :: s6 :: v7 :: .int .i64 (n : Int) :: s9 :: s10 :: s11 :: s12 :: s13 :: s14 :: s15 :: s16 :: s17 :: s18 :: s19 :: s20 :: s21 :: s22 :: s23 :: s24 :: s25 :: s26 :: s27 :: s28 :: s29 :: s30 :: s31 :: s32 :: s33 :: s34 :: s35 :: s36 :: s37 :: s38 :: s39 :: s40 :: s41 :: s42 :: s43 :: s44 :: s45 :: s46 :: s47 :: s48 :: s49 :: s50 :: s51 :: s52 :: s53 :: s54 :: s55 :: s56 :: s57 :: s58 :: s59 :: s60 :: s61 :: s62 :: s63 :: s64 :: s65 :: s66 :: s67 :: s68 :: s69 :: s70 :: s71 :: s72 :: s73 :: s74 :: s75 :: s76 :: s77 :: s78 :: s79 :: s80 :: s81 :: s82 :: s83 :: s84 :: s85 :: s86 :: s87 :: s88 :: s89 :: s90 :: s91 :: s92 :: s93 :: s94 :: s95 :: s96 :: s97 :: s98 :: s99 :: s100 :: s101 :: s102 :: s103 :: s104 :: s105 :: s106 :: s107 :: s108 :: s109 :: s110 :: s111 :: s112 :: s113 :: s114 :: s115 :: s116 :: s117 :: s118 :: s119 :: s120 :: s121 :: s122 :: s123 :: s124 :: s125 :: s126 :: s127 :: s128 :: s129 :: s130 :: s131 :: s132 :: s133 :: s134 :: s135 :: s136 :: s137 :: s138 :: s139 :: s140 :: s141 :: s142 :: s143 :: s144 :: s145 :: s146 :: s147 :: s148 :: s149 :: s150 :: s151 :: s152 :: s153 :: s154 :: s155 :: s156 :: s157 :: s158 :: s159 :: s160 :: s161 :: []).toArray, defers := [] } W'
set_option maxRecDepth 100000 in
set_option maxHeartbeats 4000000 in
theorem l0_go (w : World) (h : Int) (a1 : Option Addr) (n c1 : Nat) (ap : Option Addr) (p cp : Nat) (ws : List Int) (i : Nat) (hi : i < n) (hn : n ≤ 64) (v7 : Value) (us : List Sl) (Wt : World) (hX : Below w.heap.size w Wt) (hO : Own KQ w.heap.size Wt v7 us) (hT : TsAt Wt h ws us i) (hW : IsL KI w (.slice a1 n c1) ws) (hne : ws.getD i 0 ≠ h)
    {s3 s4 s5 s6 s9 s10 s11 s12 s13 s14 s15 s16 s17 s18 s19 s20 s21 s22 s23 s24 s25 s26 s27 s28 s29 s30 s31 s32 s33 s34 s35 s36 s37 s38 s39 s40 s41 s42 s43 s44 s45 s46 s47 s48 s49 s50 s51 s52 s53 s54 s55 s56 s57 s58 s59 s60 s61 s62 s63 s64 s65 s66 s67 s68 s69 s70 s71 s72 s73 s74 s75 s76 s77 s78 s79 s80 s81 s82 s83 s84 s85 s86 s87 s88 s89 s90 s91 s92 s93 s94 s95 s96 s97 s98 s99 s100 s101 s102 s103 s104 s105 s106 s107 s108 s109 s110 s111 s112 s113 s114 s115 s116 s117 s118 s119 s120 s121 s122 s123 s124 s125 s126 s127 s128 s129 s130 s131 s132 s133 s134 s135 s136 s137 s138 s139 s140 s141 s142 s143 s144 s145 s146 s147 s148 s149 s150 s151 s152 s153 s154 s155 s156 s157 s158 s159 s160 s161 : Value} (N : Act → World → Prop) (Q0 : Exit → Act → World → Prop) (b r : Code) (hcut : (Tryd.f8.body.bind (loopFor 0)) = some (b, r)) (hN : NxA0 w h a1 n c1 ap p cp ws i N) :
    b.wp Tryd.prog (Exit.then N Q0) { tmps := (.int .i64 h :: .slice a1 n c1 :: .slice ap p cp :: s3 :: s4 :: s5 :: s6 :: v7 :: .int .i64 (i : Int) :: s9 :: s10 :: s11 :: s12 :: s13 :: s14 :: s15 :: s16 :: s17 :: s18 :: s19 :: s20 :: s21 :: s22 :: s23 :: s24 :: s25 :: s26 :: s27 :: s28 :: s29 :: s30 :: s31 :: s32 :: s33 :: s34 :: s35 :: s36 :: s37 :: s38 :: s39 :: s40 :: s41 :: s42 :: s43 :: s44 :: s45 :: s46 :: s47 :: s48 :: s49 :: s50 :: s51 :: s52 :: s53 :: s54 :: s55 :: s56 :: s57 :: s58 :: s59 :: s60 :: s61 :: s62 :: s63 :: s64 :: s65 :: s66 :: s67 :: s68 :: s69 :: s70 :: s71 :: s72 :: s73 :: s74 :: s75 :: s76 :: s77 :: s78 :: s79 :: s80 :: s81 :: s82 :: s83 :: s84 :: s85 :: s86 :: s87 :: s88 :: s89 :: s90 :: s91 :: s92 :: s93 :: s94 :: s95 :: s96 :: s97 :: s98 :: s99 :: s100 :: s101 :: s102 :: s103 :: s104 :: s105 :: s106 :: s107 :: s108 :: s109 :: s110 :: s111 :: s112 :: s113 :: s114 :: s115 :: s116 :: s117 :: s118 :: s119 :: s120 :: s121 :: s122 :: s123 :: s124 :: s125 :: s126 :: s127 :: s128 :: s129 :: s130 :: s131 :: s132 :: s133 :: s134 :: s135 :: s136 :: s137 :: s138 :: s139 :: s140 :: s141 :: s142 :: s143 :: s144 :: s145 :: s146 :: s147 :: s148 :: s149 :: s150 :: s151 :: s152 :: s153 :: s154 :: s155 :: s156 :: s157 :: s158 :: s159 :: s160 :: s161 :: []).toArray, defers := [] } Wt := by
  have hcc : (Tryd.f8.body.bind (loopFor 0)) = some (_, _) := rfl
  rw [hcc] at hcut
  cases hcut
  clear hcc
  obtain ⟨b0, o0, rfl, hb0, l0⟩ := hW.opens ki hW.len (by omega)
  have cx := (l0.below hX hb0).ints (j := i) (by rw [hW.len]; exact hi)
  obtain ⟨x, ex⟩ : ∃ x, ws.getD i 0 = x := ⟨_, rfl⟩
  rw [ex] at cx hne
  have i0 : (0 : Int) ≤ (i : Int) := by omega
  have i1 : (i : Int) < (n : Int) := by omega
  have x1 : (x == h) = false := by simpa using hne
  have hwr : IntKind.i64.wrap ((i : Int) + 1) = (i : Int) + 1 := wrapi (by omega) (by omega)
  have hlu := hT.len
  obtain ⟨a7, c7, e7⟩ := hO.form
  rw [hlu] at e7
  subst e7
  have HN := hide hN; have HX := hide hX; have HO := hide hO; have HT := hide hT; have HE := hide ex
  have HX1 := hide ((hX.alloc hX.size (.cells #[.int .i64 5, .int .i64 0, .int .i64 h, .int .i64 x] 55)).alloc (Nat.le_trans hX.size (Nat.le_trans (Nat.le_succ _) (Nat.le_of_eq (World.size_alloc _ _).symm))) (.cells #[.slice (some ⟨Wt.heap.size, 0, none⟩) 1 1] 23))
  have HO1 := hide ((hO.below ((Below.refl _ _).alloc (Nat.le_refl _) (.cells #[.int .i64 5, .int .i64 0, .int .i64 h, .int .i64 x] 55))).below ((Below.refl _ _).alloc (Nat.le_refl _) (.cells #[.slice (some ⟨Wt.heap.size, 0, none⟩) 1 1] 23)))
  have HL1 : Hid (IsL KQ ((Wt.alloc (.cells #[.int .i64 5, .int .i64 0, .int .i64 h, .int .i64 x] 55)).alloc (.cells #[.slice (some ⟨Wt.heap.size, 0, none⟩) 1 1] 23)) (.slice (some ⟨Wt.heap.size + 1, 0, none⟩) 1 1) [(some ⟨Wt.heap.size, 0, none⟩, 1, 1)]) := by
    have := isl_one kq (Wt.alloc (.cells #[.int .i64 5, .int .i64 0, .int .i64 h, .int .i64 x] 55)) (some ⟨Wt.heap.size, 0, none⟩, 1, 1)
    rw [World.size_alloc] at this
    exact this
  have HS := hide (unhide HX1).size
  have HLU := hide hlu
  clear hN hX hO hT hW l0 hne ex hlu
  go_wp2_with (at_builtin; refine wpList_append kq rfl (.tmp 44) (.tmp 52) rfl w.heap.size (.slice a7 i c7) us rfl (unhide HO1) _ [(some ⟨Wt.heap.size, 0, none⟩, 1, 1)] rfl (unhide HL1) (i + 1) (by rw [unhide HLU]; rfl) (by show (i + 1) * 24 ≤ 140737488355328; omega) (unhide HS) ?_; intro a8 c8 w8 ho8 hg8; have HO8 := hide ho8; have HT8 := hide ((unhide HT).more (unhide HO) _ (by rw [unhide HE]; exact hg8)); have HX8 := hide ((unhide HX1).grown hg8 (unhide HS) (fun k hk => ((unhide HO).lt k hk).1)); clear ho8 hg8)
  exact unhide HN _ _ _ _ _ _ _ _ _ _ _ _ _ _ _ _ _ _ _ _ _ _ _ _ _ _ _ _ _ _ _ _ _ _ _ _ _ _ _ _ _ _ _ _ _ _ _ _ _ _ _ _ _ _ _ _ _ _ _ _ _ _ _ _ _ _ _ _ _ _ _ _ _ _ _ _ _ _ _ _ _ _ _ _ _ _ _ _ _ _ _ _ _ _ _ _ _ _ _ _ _ _ _ _ _ _ _ _ _ _ _ _ _ _ _ _ _ _ _ _ _ _ _ _ _ _ _ _ _ _ _ _ _ _ _ _ _ _ _ _ _ _ _ _ _ _ _ _ _ _ _ _ _ _ _ _ _ _ _ _ (unhide HX8) (unhide HO8) (unhide HT8)

set_option maxRecDepth 100000 in
set_option maxHeartbeats 4000000 in
theorem l0_ret (w : World) (h : Int) (a1 : Option Addr) (n c1 : Nat) (ap : Option Addr) (p cp : Nat) (ws : List Int) (i : Nat) (hi : i < n) (v7 : Value) (Wt : World) (hX : Below w.heap.size w Wt) (hW : IsL KI w (.slice a1 n c1) ws) (he : ws.getD i 0 = h)
    {s3 s4 s5 s6 s9 s10 s11 s12 s13 s14 s15 s16 s17 s18 s19 s20 s21 s22 s23 s24 s25 s26 s27 s28 s29 s30 s31 s32 s33 s34 s35 s36 s37 s38 s39 s40 s41 s42 s43 s44 s45 s46 s47 s48 s49 s50 s51 s52 s53 s54 s55 s56 s57 s58 s59 s60 s61 s62 s63 s64 s65 s66 s67 s68 s69 s70 s71 s72 s73 s74 s75 s76 s77 s78 s79 s80 s81 s82 s83 s84 s85 s86 s87 s88 s89 s90 s91 s92 s93 s94 s95 s96 s97 s98 s99 s100 s101 s102 s103 s104 s105 s106 s107 s108 s109 s110 s111 s112 s113 s114 s115 s116 s117 s118 s119 s120 s121 s122 s123 s124 s125 s126 s127 s128 s129 s130 s131 s132 s133 s134 s135 s136 s137 s138 s139 s140 s141 s142 s143 s144 s145 s146 s147 s148 s149 s150 s151 s152 s153 s154 s155 s156 s157 s158 s159 s160 s161 : Value} (N : Act → World → Prop) (Q0 : Exit → Act → World → Prop) (b r : Code) (hcut : (Tryd.f8.body.bind (loopFor 0)) = some (b, r)) (hR : NxRet w Q0) :
    b.wp Tryd.prog (Exit.then N Q0) { tmps := (.int .i64 h :: .slice a1 n c1 :: .slice ap p cp :: s3 :: s4 :: s5 :: s6 :: v7 :: .int .i64 (i : Int) :: s9 :: s10 :: s11 :: s12 :: s13 :: s14 :: s15 :: s16 :: s17 :: s18 :: s19 :: s20 :: s21 :: s22 :: s23 :: s24 :: s25 :: s26 :: s27 :: s28 :: s29 :: s30 :: s31 :: s32 :: s33 :: s34 :: s35 :: s36 :: s37 :: s38 :: s39 :: s40 :: s41 :: s42 :: s43 :: s44 :: s45 :: s46 :: s47 :: s48 :: s49 :: s50 :: s51 :: s52 :: s53 :: s54 :: s55 :: s56 :: s57 :: s58 :: s59 :: s60 :: s61 :: s62 :: s63 :: s64 :: s65 :: s66 :: s67 :: s68 :: s69 :: s70 :: s71 :: s72 :: s73 :: s74 :: s75 :: s76 :: s77 :: s78 :: s79 :: s80 :: s81 :: s82 :: s83 :: s84 :: s85 :: s86 :: s87 :: s88 :: s89 :: s90 :: s91 :: s92 :: s93 :: s94 :: s95 :: s96 :: s97 :: s98 :: s99 :: s100 :: s101 :: s102 :: s103 :: s104 :: s105 :: s106 :: s107 :: s108 :: s109 :: s110 :: s111 :: s112 :: s113 :: s114 :: s115 :: s116 :: s117 :: s118 :: s119 :: s120 :: s121 :: s122 :: s123 :: s124 :: s125 :: s126 :: s127 :: s128 :: s129 :: s130 :: s131 :: s132 :: s133 :: s134 :: s135 :: s136 :: s137 :: s138 :: s139 :: s140 :: s141 :: s142 :: s143 :: s144 :: s145 :: s146 :: s147 :: s148 :: s149 :: s150 :: s151 :: s152 :: s153 :: s154 :: s155 :: s156 :: s157 :: s158 :: s159 :: s160 :: s161 :: []).toArray, defers := [] } Wt := by
  have hcc : (Tryd.f8.body.bind (loopFor 0)) = some (_, _) := rfl
  rw [hcc] at hcut
  cases hcut
  clear hcc
  obtain ⟨b0, o0, rfl, hb0, l0⟩ := hW.opens ki hW.len (by omega)
  have cx := (l0.below hX hb0).ints (j := i) (by rw [hW.len]; exact hi)
  rw [he] at cx
  have i0 : (0 : Int) ≤ (i : Int) := by omega
  have i1 : (i : Int) < (n : Int) := by omega
  have HR := hide hR; have HX := hide hX
  clear hR hX hW l0 he
  go_wp2_with fail
  exact unhide HR _ _ _ _ _ _ _ _ _ _ _ _ _ _ _ _ _ _ _ _ _ _ _ _ _ _ _ _ _ _ _ _ _ _ _ _ _ _ _ _ _ _ _ _ _ _ _ _ _ _ _ _ _ _ _ _ _ _ _ _ _ _ _ _ _ _ _ _ _ _ _ _ _ _ _ _ _ _ _ _ _ _ _ _ _ _ _ _ _ _ _ _ _ _ _ _ _ _ _ _ _ _ _ _ _ _ _ _ _ _ _ _ _ _ _ _ _ _ _ _ _ _ _ _ _ _ _ _ _ _ _ _ _ _ _ _ _ _ _ _ _ _ _ _ _ _ _ _ _ _ _ _ _ _ _ _ _ _ _ _ _ _ (unhide HX)

set_option maxRecDepth 100000 in
set_option maxHeartbeats 4000000 in
theorem l0_end (w : World) (h : Int) (a1 : Option Addr) (n c1 : Nat) (ap : Option Addr) (p cp : Nat) (ws : List Int) (v7 : Value) (us : List Sl) (Wt : World) (hX : Below w.heap.size w Wt) (hO : Own KQ w.heap.size Wt v7 us) (hT : TsAt Wt h ws us n)
    {s3 s4 s5 s6 s9 s10 s11 s12 s13 s14 s15 s16 s17 s18 s19 s20 s21 s22 s23 s24 s25 s26 s27 s28 s29 s30 s31 s32 s33 s34 s35 s36 s37 s38 s39 s40 s41 s42 s43 s44 s45 s46 s47 s48 s49 s50 s51 s52 s53 s54 s55 s56 s57 s58 s59 s60 s61 s62 s63 s64 s65 s66 s67 s68 s69 s70 s71 s72 s73 s74 s75 s76 s77 s78 s79 s80 s81 s82 s83 s84 s85 s86 s87 s88 s89 s90 s91 s92 s93 s94 s95 s96 s97 s98 s99 s100 s101 s102 s103 s104 s105 s106 s107 s108 s109 s110 s111 s112 s113 s114 s115 s116 s117 s118 s119 s120 s121 s122 s123 s124 s125 s126 s127 s128 s129 s130 s131 s132 s133 s134 s135 s136 s137 s138 s139 s140 s141 s142 s143 s144 s145 s146 s147 s148 s149 s150 s151 s152 s153 s154 s155 s156 s157 s158 s159 s160 s161 : Value} (N : Act → World → Prop) (Q0 : Exit → Act → World → Prop) (b r : Code) (hcut : (Tryd.f8.body.bind (loopFor 0)) = some (b, r)) (hE : NxE0 w h a1 n c1 ap p cp ws Q0) :
    b.wp Tryd.prog (Exit.then N Q0) { tmps := (.int .i64 h :: .slice a1 n c1 :: .slice ap p cp :: s3 :: s4 :: s5 :: s6 :: v7 :: .int .i64 (n : Int) :: s9 :: s10 :: s11 :: s12 :: s13 :: s14 :: s15 :: s16 :: s17 :: s18 :: s19 :: s20 :: s21 :: s22 :: s23 :: s24 :: s25 :: s26 :: s27 :: s28 :: s29 :: s30 :: s31 :: s32 :: s33 :: s34 :: s35 :: s36 :: s37 :: s38 :: s39 :: s40 :: s41 :: s42 :: s43 :: s44 :: s45 :: s46 :: s47 :: s48 :: s49 :: s50 :: s51 :: s52 :: s53 :: s54 :: s55 :: s56 :: s57 :: s58 :: s59 :: s60 :: s61 :: s62 :: s63 :: s64 :: s65 :: s66 :: s67 :: s68 :: s69 :: s70 :: s71 :: s72 :: s73 :: s74 :: s75 :: s76 :: s77 :: s78 :: s79 :: s80 :: s81 :: s82 :: s83 :: s84 :: s85 :: s86 :: s87 :: s88 :: s89 :: s90 :: s91 :: s92 :: s93 :: s94 :: s95 :: s96 :: s97 :: s98 :: s99 :: s100 :: s101 :: s102 :: s103 :: s104 :: s105 :: s106 :: s107 :: s108 :: s109 :: s110 :: s111 :: s112 :: s113 :: s114 :: s115 :: s116 :: s117 :: s118 :: s119 :: s120 :: s121 :: s122 :: s123 :: s124 :: s125 :: s126 :: s127 :: s128 :: s129 :: s130 :: s131 :: s132 :: s133 :: s134 :: s135 :: s136 :: s137 :: s138 :: s139 :: s140 :: s141 :: s142 :: s143 :: s144 :: s145 :: s146 :: s147 :: s148 :: s149 :: s150 :: s151 :: s152 :: s153 :: s154 :: s155 :: s156 :: s157 :: s158 :: s159 :: s160 :: s161 :: []).toArray, defers := [] } Wt := by
  have hcc : (Tryd.f8.body.bind (loopFor 0)) = some (_, _) := rfl
  rw [hcc] at hcut
  cases hcut
  clear hcc
  have HE := hide hE; have HX := hide hX; have HO := hide hO; have HT := hide hT
  clear hE hX hO hT
  have i1 : ¬ (n : Int) < (n : Int) := by omega
  go_wp2_with fail
  exact unhide HE _ _ _ _ _ _ _ _ _ _ _ _ _ _ _ _ _ _ _ _ _ _ _ _ _ _ _ _ _ _ _ _ _ _ _ _ _ _ _ _ _ _ _ _ _ _ _ _ _ _ _ _ _ _ _ _ _ _ _ _ _ _ _ _ _ _ _ _ _ _ _ _ _ _ _ _ _ _ _ _ _ _ _ _ _ _ _ _ _ _ _ _ _ _ _ _ _ _ _ _ _ _ _ _ _ _ _ _ _ _ _ _ _ _ _ _ _ _ _ _ _ _ _ _ _ _ _ _ _ _ _ _ _ _ _ _ _ _ _ _ _ _ _ _ _ _ _ _ _ _ _ _ _ _ _ _ _ _ _ _ (unhide HX) (unhide HO) (unhide HT)

theorem l0_rounds (w : World) (h : Int) (a1 : Option Addr) (n c1 : Nat) (ap : Option Addr) (p cp : Nat) (ws : List Int) (hn : n ≤ 64) (hW : IsL KI w (.slice a1 n c1) ws) (Q0 : Exit → Act → World → Prop) (b r : Code) (hcut : (Tryd.f8.body.bind (loopFor 0)) = some (b, r)) (hE : (∀ i, i < n → ws.getD i 0 ≠ h) → NxE0 w h a1 n c1 ap p cp ws Q0) (hR : NxRet w Q0) :
    ∀ (k i : Nat), i + k = n → (∀ j, j < i → ws.getD j 0 ≠ h) → ∀ (s3 s4 s5 s6 s9 s10 s11 s12 s13 s14 s15 s16 s17 s18 s19 s20 s21 s22 s23 s24 s25 s26 s27 s28 s29 s30 s31 s32 s33 s34 s35 s36 s37 s38 s39 s40 s41 s42 s43 s44 s45 s46 s47 s48 s49 s50 s51 s52 s53 s54 s55 s56 s57 s58 s59 s60 s61 s62 s63 s64 s65 s66 s67 s68 s69 s70 s71 s72 s73 s74 s75 s76 s77 s78 s79 s80 s81 s82 s83 s84 s85 s86 s87 s88 s89 s90 s91 s92 s93 s94 s95 s96 s97 s98 s99 s100 s101 s102 s103 s104 s105 s106 s107 s108 s109 s110 s111 s112 s113 s114 s115 s116 s117 s118 s119 s120 s121 s122 s123 s124 s125 s126 s127 s128 s129 s130 s131 s132 s133 s134 s135 s136 s137 s138 s139 s140 s141 s142 s143 s144 s145 s146 s147 s148 s149 s150 s151 s152 s153 s154 s155 s156 s157 s158 s159 s160 s161 : Value) (v7 : Value) (us : List Sl) (Wt : World), Below w.heap.size w Wt → Own KQ w.heap.size Wt v7 us → TsAt Wt h ws us (i) → Code.rounds Tryd.prog b Q0 (k + 1) { tmps := (.int .i64 h :: .slice a1 n c1 :: .slice ap p cp :: s3 :: s4 :: s5 :: s6 :: v7 :: .int .i64 (i : Int) :: s9 :: s10 :: s11 :: s12 :: s13 :: s14 :: s15 :: s16 :: s17 :: s18 :: s19 :: s20 :: s21 :: s22 :: s23 :: s24 :: s25 :: s26 :: s27 :: s28 :: s29 :: s30 :: s31 :: s32 :: s33 :: s34 :: s35 :: s36 :: s37 :: s38 :: s39 :: s40 :: s41 :: s42 :: s43 :: s44 :: s45 :: s46 :: s47 :: s48 :: s49 :: s50 :: s51 :: s52 :: s53 :: s54 :: s55 :: s56 :: s57 :: s58 :: s59 :: s60 :: s61 :: s62 :: s63 :: s64 :: s65 :: s66 :: s67 :: s68 :: s69 :: s70 :: s71 :: s72 :: s73 :: s74 :: s75 :: s76 :: s77 :: s78 :: s79 :: s80 :: s81 :: s82 :: s83 :: s84 :: s85 :: s86 :: s87 :: s88 :: s89 :: s90 :: s91 :: s92 :: s93 :: s94 :: s95 :: s96 :: s97 :: s98 :: s99 :: s100 :: s101 :: s102 :: s103 :: s104 :: s105 :: s106 :: s107 :: s108 :: s109 :: s110 :: s111 :: s112 :: s113 :: s114 :: s115 :: s116 :: s117 :: s118 :: s119 :: s120 :: s121 :: s122 :: s123 :: s124 :: s125 :: s126 :: s127 :: s128 :: s129 :: s130 :: s131 :: s132 :: s133 :: s134 :: s135 :: s136 :: s137 :: s138 :: s139 :: s140 :: s141 :: s142 :: s143 :: s144 :: s145 :: s146 :: s147 :: s148 :: s149 :: s150 :: s151 :: s152 :: s153 :: s154 :: s155 :: s156 :: s157 :: s158 :: s159 :: s160 :: s161 :: []).toArray, defers := [] } Wt := by
  intro k
  induction k with
  | zero =>
    intro i hi hj
    obtain rfl : i = n := by omega
    intros
    rename_i v7 us Wt hX hO hT
    exact l0_end w h a1 i c1 ap p cp ws v7 us Wt hX hO hT _ Q0 b r hcut (hE hj)
  | succ k ih =>
    intro i hi hj
    intros
    rename_i v7 us Wt hX hO hT
    by_cases he : ws.getD i 0 = h
    · exact l0_ret w h a1 n c1 ap p cp ws i (by omega) v7 Wt hX hW he _ Q0 b r hcut hR
    · refine l0_go w h a1 n c1 ap p cp ws i (by omega) hn v7 us Wt hX hO hT hW he _ Q0 b r hcut ?_
      unfold NxA0
      intros
      rename_i v7' us' W' hX' hO' hT'
      exact ih (i + 1) (by omega) (fun j hj' => if e : j = i then by rw [e]; exact he else hj j (by omega)) _ _ _ _ _ _ _ _ _ _ _ _ _ _ _ _ _ _ _ _ _ _ _ _ _ _ _ _ _ _ _ _ _ _ _ _ _ _ _ _ _ _ _ _ _ _ _ _ _ _ _ _ _ _ _ _ _ _ _ _ _ _ _ _ _ _ _ _ _ _ _ _ _ _ _ _ _ _ _ _ _ _ _ _ _ _ _ _ _ _ _ _ _ _ _ _ _ _ _ _ _ _ _ _ _ _ _ _ _ _ _ _ _ _ _ _ _ _ _ _ _ _ _ _ _ _ _ _ _ _ _ _ _ _ _ _ _ _ _ _ _ _ _ _ _ _ _ _ _ _ _ _ _ _ _ _ _ v7' us' W' hX' hO' hT'

end Go.Proofs.YtpgokeogijpmaaaDoor.Mx
