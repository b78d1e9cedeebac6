/-
  taskmilllaw.CellAdds: one op is made.
-/
import Derived.Test.YtpgokeogijpmaabDoorAb
namespace Go.Proofs.YtpgokeogijpmaabDoor.Mx
open Go.RowKit

theorem wr64 (x : Int) : IntKind.i64.wrap x = wrap64 x := by unfold wrap64; exact IntKind.wrap_i64 x
/-- The loop n, wherever it stands in a piece of code: its body, what follows it. -/
def inner (n : Nat) : Code → Option (Code × Code)
  | .seq (.block id (.loop b)) r => bif Nat.beq id n then some (b, r) else inner n r
  | .seq (.block _ x) r => (inner n x).orElse fun _ => inner n r
  | .seq (.seq a b) r => (inner n (.seq a b)).orElse fun _ => inner n r
  | .seq _ r => inner n r
  | .block id (.loop b) => bif Nat.beq id n then some (b, .skip) else none
  | .block _ x => inner n x
  | _ => none

def NxK (w : World) (a0 : Option Addr) (m c0 : Nat) (a1 : Option Addr) (n c1 : Nat) (ap : Option Addr) (p cp : Nat) (v7 : Value) (g c9 i : Nat) (ass : List (List Int)) (us : List Sl) (z k : Nat) (ord wa : List Int) (ls : List Op4) (N : Act → World → Prop) : Prop := ∀ (s3 s4 s5 s6 s13 s14 s15 s16 s17 s18 s19 s20 s21 s22 s23 s24 s25 s26 s27 s28 s29 s30 s31 s32 s33 s34 s35 s36 s37 s38 s39 s40 s41 s42 s43 s44 s45 s46 s47 s48 s49 s50 s51 s52 s53 s54 s55 s56 s57 s58 s59 s60 s61 s62 s63 s64 s65 s66 s67 s68 s69 s70 s71 s72 s73 s74 s75 s76 s77 s78 s79 s80 s81 s82 s83 s84 s85 s86 s87 s88 s89 s90 s91 s92 s93 s94 s95 s96 s97 s98 s99 s100 s101 s102 s103 s104 s105 s106 s107 s108 s109 s110 s111 s112 s113 s114 s115 s116 s117 s118 s119 s120 s121 s122 s123 s124 s125 s126 s127 s128 s129 s130 s131 s132 s133 s134 s135 s136 s137 s138 : Value) (a8 : Option Addr) (c8 : Nat) (a11 : Option Addr) (c11 : Nat) (W' : World), Ak w W' m i ass v7 us (.slice a8 (z + 1) c8) ord g c9 wa (.slice a11 (k + 1) c11) ls → N { tmps := (.slice a0 m c0 :: .slice a1 n c1 :: .slice ap p cp :: s3 :: s4 :: s5 :: s6 :: v7 :: .slice a8 (z + 1) c8 :: .slice (some ⟨g, 0, none⟩) m c9 :: .int .i64 (i : Int) :: .slice a11 (k + 1) c11 :: .int .i64 ((k : Int) + 1) :: s13 :: s14 :: s15 :: s16 :: s17 :: s18 :: s19 :: s20 :: s21 :: s22 :: s23 :: s24 :: s25 :: s26 :: s27 :: s28 :: s29 :: s30 :: s31 :: s32 :: s33 :: s34 :: s35 :: s36 :: s37 :: s38 :: s39 :: s40 :: s41 :: s42 :: s43 :: s44 :: s45 :: s46 :: s47 :: s48 :: s49 :: s50 :: s51 :: s52 :: s53 :: s54 :: s55 :: s56 :: s57 :: s58 :: s59 :: s60 :: s61 :: s62 :: s63 :: s64 :: s65 :: s66 :: s67 :: s68 :: s69 :: s70 :: s71 :: s72 :: s73 :: s74 :: s75 :: s76 :: s77 :: s78 :: s79 :: s80 :: s81 :: s82 :: s83 :: s84 :: s85 :: s86 :: s87 :: s88 :: s89 :: s90 :: s91 :: s92 :: s93 :: s94 :: s95 :: s96 :: s97 :: s98 :: s99 :: s100 :: s101 :: s102 :: s103 :: s104 :: s105 :: s106 :: s107 :: s108 :: s109 :: s110 :: s111 :: s112 :: s113 :: s114 :: s115 :: s116 :: s117 :: s118 :: s119 :: s120 :: s121 :: s122 :: s123 :: s124 :: s125 :: s126 :: s127 :: s128 :: s129 :: s130 :: s131 :: s132 :: s133 :: s134 :: s135 :: s136 :: s137 :: s138 :: []).toArray, defers := [] } W'
set_option maxRecDepth 100000 in
set_option maxHeartbeats 4000000 in
theorem k_go (w : World) (a0 : Option Addr) (m c0 : Nat) (a1 : Option Addr) (n c1 : Nat) (ap : Option Addr) (p cp : Nat) (v7 : Value) (g c9 i : Nat) (uas us : List Sl) (ass : List (List Int)) (z k : Nat) (ord wa : List Int) (ls : List Op4) (a8 : Option Addr) (c8 : Nat) (a11 : Option Addr) (c11 : Nat) (hm : 0 < m) (hm2 : m ≤ 32) (hi : i < n) (_hn : n ≤ 20) (hz : z ≤ 400) (hk : k < (ass.getD i []).length) (hk2 : (ass.getD i []).length ≤ 20) (hlo : ord.length = z) (hll : ls.length = k) (hQ : IsAs w (.slice a1 n c1) uas ass) (Wt : World) (hA : Ak w Wt m i ass v7 us (.slice a8 z c8) ord g c9 wa (.slice a11 k c11) ls)
    {s3 s4 s5 s6 s13 s14 s15 s16 s17 s18 s19 s20 s21 s22 s23 s24 s25 s26 s27 s28 s29 s30 s31 s32 s33 s34 s35 s36 s37 s38 s39 s40 s41 s42 s43 s44 s45 s46 s47 s48 s49 s50 s51 s52 s53 s54 s55 s56 s57 s58 s59 s60 s61 s62 s63 s64 s65 s66 s67 s68 s69 s70 s71 s72 s73 s74 s75 s76 s77 s78 s79 s80 s81 s82 s83 s84 s85 s86 s87 s88 s89 s90 s91 s92 s93 s94 s95 s96 s97 s98 s99 s100 s101 s102 s103 s104 s105 s106 s107 s108 s109 s110 s111 s112 s113 s114 s115 s116 s117 s118 s119 s120 s121 s122 s123 s124 s125 s126 s127 s128 s129 s130 s131 s132 s133 s134 s135 s136 s137 s138 : Value} (N : Act → World → Prop) (Q0 : Exit → Act → World → Prop) (b r : Code) (hcut : (((Tryd.f3.body.bind (loopFor 0)).map Prod.fst).bind (inner 2)) = some (b, r)) (hN : NxK w a0 m c0 a1 n c1 ap p cp v7 g c9 i ass us z k (ord ++ [(i : Int)]) (stepMem wa (addOp m (ass.getD i []) k)) (ls ++ [addOp m (ass.getD i []) k]) N) :
    b.wp Tryd.prog (Exit.then N Q0) { tmps := (.slice a0 m c0 :: .slice a1 n c1 :: .slice ap p cp :: s3 :: s4 :: s5 :: s6 :: v7 :: .slice a8 z c8 :: .slice (some ⟨g, 0, none⟩) m c9 :: .int .i64 (i : Int) :: .slice a11 k c11 :: .int .i64 (k : Int) :: s13 :: s14 :: s15 :: s16 :: s17 :: s18 :: s19 :: s20 :: s21 :: s22 :: s23 :: s24 :: s25 :: s26 :: s27 :: s28 :: s29 :: s30 :: s31 :: s32 :: s33 :: s34 :: s35 :: s36 :: s37 :: s38 :: s39 :: s40 :: s41 :: s42 :: s43 :: s44 :: s45 :: s46 :: s47 :: s48 :: s49 :: s50 :: s51 :: s52 :: s53 :: s54 :: s55 :: s56 :: s57 :: s58 :: s59 :: s60 :: s61 :: s62 :: s63 :: s64 :: s65 :: s66 :: s67 :: s68 :: s69 :: s70 :: s71 :: s72 :: s73 :: s74 :: s75 :: s76 :: s77 :: s78 :: s79 :: s80 :: s81 :: s82 :: s83 :: s84 :: s85 :: s86 :: s87 :: s88 :: s89 :: s90 :: s91 :: s92 :: s93 :: s94 :: s95 :: s96 :: s97 :: s98 :: s99 :: s100 :: s101 :: s102 :: s103 :: s104 :: s105 :: s106 :: s107 :: s108 :: s109 :: s110 :: s111 :: s112 :: s113 :: s114 :: s115 :: s116 :: s117 :: s118 :: s119 :: s120 :: s121 :: s122 :: s123 :: s124 :: s125 :: s126 :: s127 :: s128 :: s129 :: s130 :: s131 :: s132 :: s133 :: s134 :: s135 :: s136 :: s137 :: s138 :: []).toArray, defers := [] } Wt := by
  have hcc : (((Tryd.f3.body.bind (loopFor 0)).map Prod.fst).bind (inner 2)) = some (_, _) := rfl
  rw [hcc] at hcut
  cases hcut
  clear hcc
  obtain ⟨b1, o1, ua, un, uc, rfl, hun, hc1, hc2⟩ := hQ.at hi
  obtain ⟨b2, o2, rfl, hc3⟩ := hc2 (by omega)
  obtain ⟨x, ex⟩ : ∃ x, (ass.getD i []).getD k 0 = x := ⟨_, rfl⟩
  obtain ⟨q, eq⟩ : ∃ q, k % m = q := ⟨_, rfl⟩
  have hqm : q < m := by rw [← eq]; exact Nat.mod_lt _ hm
  have eop : addOp m (ass.getD i []) k = ⟨3, (q : Int), x, 0⟩ := by unfold addOp; rw [ex, eq]
  have esm : stepMem wa ⟨3, (q : Int), x, 0⟩ = wa.set q (wrap64 (wa.getD q 0 + x)) := stepMem_add (o := ⟨3, (q : Int), x, 0⟩) rfl
  obtain ⟨y, ey⟩ : ∃ y, wa.getD q 0 = y := ⟨_, rfl⟩
  have HEY := hide ey
  rw [eop, esm, ey] at hN
  have HC : Hid (∀ W, Below w.heap.size w W → W.cell? ⟨b1, o1 + i, none⟩ = some (.slice (some ⟨b2, o2, none⟩) un uc) ∧ W.cell? ⟨b2, o2 + k, none⟩ = some (.int .i64 x)) := fun W hW => ⟨hc1 W hW, by rw [← ex]; exact hc3 W hW k (by omega)⟩
  have hk20 : k < 20 := by omega
  have hrem : Int.tmod (k : Int) (m : Int) = (q : Int) := by rw [← eq, ← Int.ofNat_tmod]
  have i0 : (0 : Int) ≤ (i : Int) := by omega
  have i1 : (i : Int) < (n : Int) := by omega
  have j0 : (0 : Int) ≤ (k : Int) := by omega
  have j1 : (k : Int) < (un : Int) := by omega
  have q0 : (0 : Int) ≤ (q : Int) := by omega
  have q1 : (q : Int) < (m : Int) := by omega
  have m0 : ((m : Int) == 0) = false := by simp; omega
  have m1 : ¬ (m : Int) = 0 := by omega
  have hwq : IntKind.i64.wrap (q : Int) = (q : Int) := wrapi (by omega) (by omega)
  have hwr : IntKind.i64.wrap ((k : Int) + 1) = (k : Int) + 1 := wrapi (by omega) (by omega)
  obtain ⟨d1, d2⟩ := unhide HC Wt hA.ad.be
  have HN := hide hN; have HA := hide hA
  have HO1 := hide (hA.ll.below ((Below.refl _ _).alloc (Nat.le_refl _) (.cells #[.int .i64 3, .int .i64 (q : Int), .int .i64 x, .int .i64 0] 29)))
  have HS1 := hide (hA.size (.cells #[.int .i64 3, .int .i64 (q : Int), .int .i64 x, .int .i64 0] 29))
  have HLL : Hid (ls.length + [(⟨3, (q : Int), x, 0⟩ : Op4)].length = k + 1) := by show _ = _; rw [hll]; rfl
  have HLO : Hid (ord.length + [(i : Int)].length = z + 1) := by show _ = _; rw [hlo]; rfl
  clear hN hA hQ hc1 hc2 hc3 hun hk hk2 eop esm ey ex eq hll hlo
  go_upto_region 18 with fail
  go_upto_region 19 with (at_builtin; refine wpList_append2 ko rfl (.tmp 65) (.tmp 75) rfl w.heap.size (.slice a11 k c11) ls rfl (unhide HO1) _ [⟨3, (q : Int), x, 0⟩] rfl (isl_one ko Wt ⟨3, (q : Int), x, 0⟩) (k + 1) (unhide HLL) (by show (k + 1) * 32 ≤ 140737488355328; omega) (unhide HS1) ?_; intro a12 c12 w8 ho8 hg8 hl8; have HA8 := hide ((unhide HA).grewL _ hg8 ho8 hl8); clear ho8 hg8 hl8)
  clear d1 d2 HO1 HS1 HA HLL
  obtain ⟨d1, d2⟩ := unhide HC w8 (unhide HA8).ad.be
  obtain ⟨f1, f2⟩ := own_inti (unhide HA8).ad.wt (j := q) (by rw [(unhide HA8).ad.lw]; exact hqm)
  rw [unhide HEY] at f1
  refine wp_norm ?_
  go_region_law (fail)
  all_goals
    show Exit.then _ _ Exit.normal _ _
    have HA9 : Hid (Ak w (w8.setCell ⟨g, q, none⟩ (.int .i64 (IntKind.i64.wrap (y + x)))).drew m i ass v7 us (.slice a8 z c8) ord g c9 (wa.set q (wrap64 (y + x))) (.slice a12 (k + 1) c12) (ls ++ [⟨3, (q : Int), x, 0⟩])) := (by have h9 := ((unhide HA8).put q (wrap64 (y + x))).keep (Below.refl _ _).drew; rw [wr64]; exact h9)
    obtain ⟨W9, e9⟩ : ∃ X, (w8.setCell ⟨g, q, none⟩ (.int .i64 (IntKind.i64.wrap (y + x)))).drew = X := ⟨_, rfl⟩
    rw [e9] at HA9 ⊢
    clear e9 d1 d2 f1 f2 HA8
    have HO2 := hide ((unhide HA9).ad.or.below ((Below.refl _ _).alloc (Nat.le_refl _) (.cells #[.int .i64 (i : Int)] 3)))
    have HS2 := hide ((unhide HA9).size (.cells #[.int .i64 (i : Int)] 3))
    go_wp2_with (at_builtin; refine wpList_append2 ki rfl (.tmp 92) (.tmp 94) rfl w.heap.size (.slice a8 z c8) ord rfl (unhide HO2) _ [(i : Int)] rfl (isl_one ki W9 (i : Int)) (z + 1) (unhide HLO) (by show (z + 1) * 8 ≤ 140737488355328; omega) (unhide HS2) ?_; intro a13 c13 w9 ho9 hg9 hl9; have HA10 := hide ((unhide HA9).grewO _ hg9 ho9 hl9); clear ho9 hg9 hl9)
    exact unhide HN _ _ _ _ _ _ _ _ _ _ _ _ _ _ _ _ _ _ _ _ _ _ _ _ _ _ _ _ _ _ _ _ _ _ _ _ _ _ _ _ _ _ _ _ _ _ _ _ _ _ _ _ _ _ _ _ _ _ _ _ _ _ _ _ _ _ _ _ _ _ _ _ _ _ _ _ _ _ _ _ _ _ _ _ _ _ _ _ _ _ _ _ _ _ _ _ _ _ _ _ _ _ _ _ _ _ _ _ _ _ _ _ _ _ _ _ _ _ _ _ _ _ _ _ _ _ _ _ _ _ _ _ _ _ _ (unhide HA10)

end Go.Proofs.YtpgokeogijpmaabDoor.Mx
