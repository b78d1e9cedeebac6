/-
  taskmillref.Cycled: a marking is made.
  taskmillref.Cycled: a row more.
-/
import Derived.Test.YtmkehjncnaokoaaEj
namespace Go.Proofs.Ytmkehjncnaokoaa
open Go.RowKit

set_option maxRecDepth 100000 in
set_option maxHeartbeats 4000000 in
theorem cycled_1 (Wt : World) (H : Nat) (ao : Option Addr) (no co : Nat) (ar : Option Addr) (nr cr : Nat) (z : Int) (va : Value) (rs : List Int) (hC : Wt.heap[H]? = some (.cells #[.slice ao no co, .slice ar nr cr] 25 (0, 0))) (hR : IsL KI Wt (.slice ar nr cr) rs) (hnr : nr ≤ 16) (A : Array Value) (hmk : ∀ w : World, (Instr.makeSlice 37 (.int .i64 (no : Int)) (.int .i64 (no : Int))).run Try.prog w = .ok (.slice (some ⟨w.heap.size, 0, none⟩) no no) (w.alloc (.cells A 4)))
    {s4 s5 s6 s7 s8 s9 s10 s11 s12 s13 s14 s15 s16 s17 s18 s19 s20 s21 s22 s23 s24 s25 s26 s27 s28 s29 s30 s31 s32 s33 s34 s35 s36 s37 s38 s39 s40 s41 s42 s43 s44 s45 s46 s47 s48 s49 s50 s51 s52 s53 s54 s55 s56 s57 s58 s59 s60 s61 s62 s63 s64 s65 s66 s67 s68 s69 s70 s71 s72 s73 s74 s75 s76 s77 s78 s79 s80 s81 s82 s83 s84 s85 s86 s87 s88 s89 s90 s91 s92 s93 s94 s95 s96 s97 : Value} (K : Act → World → Prop) (R : Exit → Act → World → Prop) (x : Code) (hcut : (Try.f21.body.bind (cutAt 1)).map Prod.fst = some x)
    (hK : ∀ (s13 s14 s15 s16 s17 s18 s19 s20 s21 s22 : Value) (b wb : Nat) (a' : Option Addr) (c' : Nat) (W' : World), Below Wt.heap.size Wt W' → Wt.heap.size ≤ b → Wt.heap.size ≤ wb → b ≠ wb → (∀ k, (Value.slice a' nr c').ownBlock = some k → k ≠ b ∧ k ≠ wb) → W'.heap[b]? = some (.cells #[.slice none 0 0, .slice a' nr c', .slice (some ⟨wb, 0, none⟩) no no, .slice none 0 0] 65 (0, 0)) → W'.heap[wb]? = some (.cells A 4 (0, 0)) → Own KI Wt.heap.size W' (.slice a' nr c') rs → Exit.then K R Exit.normal { tmps := (.agg #[.slice ao no co, .slice ar nr cr] :: .int .i64 z :: va :: .pointer (some ⟨H, 0, none⟩) :: s4 :: s5 :: s6 :: s7 :: s8 :: .pointer (some ⟨b, 0, none⟩) :: s10 :: s11 :: s12 :: s13 :: s14 :: s15 :: s16 :: s17 :: s18 :: s19 :: s20 :: s21 :: s22 :: s23 :: s24 :: s25 :: s26 :: s27 :: s28 :: s29 :: s30 :: s31 :: s32 :: s33 :: s34 :: s35 :: s36 :: s37 :: s38 :: s39 :: s40 :: s41 :: s42 :: s43 :: s44 :: s45 :: s46 :: s47 :: s48 :: s49 :: s50 :: s51 :: s52 :: s53 :: s54 :: s55 :: s56 :: s57 :: s58 :: s59 :: s60 :: s61 :: s62 :: s63 :: s64 :: s65 :: s66 :: s67 :: s68 :: s69 :: s70 :: s71 :: s72 :: s73 :: s74 :: s75 :: s76 :: s77 :: s78 :: s79 :: s80 :: s81 :: s82 :: s83 :: s84 :: s85 :: s86 :: s87 :: s88 :: s89 :: s90 :: s91 :: s92 :: s93 :: s94 :: s95 :: s96 :: s97 :: []).toArray, defers := [] } W') :
    x.wp Try.prog (Exit.then K R) { tmps := (.agg #[.slice ao no co, .slice ar nr cr] :: .int .i64 z :: va :: .pointer (some ⟨H, 0, none⟩) :: s4 :: s5 :: s6 :: s7 :: s8 :: s9 :: s10 :: s11 :: s12 :: s13 :: s14 :: s15 :: s16 :: s17 :: s18 :: s19 :: s20 :: s21 :: s22 :: s23 :: s24 :: s25 :: s26 :: s27 :: s28 :: s29 :: s30 :: s31 :: s32 :: s33 :: s34 :: s35 :: s36 :: s37 :: s38 :: s39 :: s40 :: s41 :: s42 :: s43 :: s44 :: s45 :: s46 :: s47 :: s48 :: s49 :: s50 :: s51 :: s52 :: s53 :: s54 :: s55 :: s56 :: s57 :: s58 :: s59 :: s60 :: s61 :: s62 :: s63 :: s64 :: s65 :: s66 :: s67 :: s68 :: s69 :: s70 :: s71 :: s72 :: s73 :: s74 :: s75 :: s76 :: s77 :: s78 :: s79 :: s80 :: s81 :: s82 :: s83 :: s84 :: s85 :: s86 :: s87 :: s88 :: s89 :: s90 :: s91 :: s92 :: s93 :: s94 :: s95 :: s96 :: s97 :: []).toArray, defers := [] } Wt := by
  have hcc : (Try.f21.body.bind (cutAt 1)).map Prod.fst = some (.region _ _ _) := rfl
  rw [hcc] at hcut
  cases hcut
  clear hcc
  have hrn := hR.len
  have HC := hide hC; have HK := hide hK
  have HRI : Hid (∀ W, Below Wt.heap.size Wt W → IsL KI W (.slice ar nr cr) rs) := fun W hW => hR.below hW
  have HNN : Hid (([] : List Int).length + rs.length = nr) := by rw [hrn]; exact Nat.zero_add _
  clear hC hK hR hrn
  have HSS : Hid (∀ W, Below Wt.heap.size Wt W → (W.cell? ⟨H, 0, none⟩ = some (.slice ao no co) ∧ W.cell? ⟨H, 1, none⟩ = some (.slice ar nr cr)) ∧ Below Wt.heap.size Wt W) := fun W hW => ⟨⟨(block2 (keep_below (unhide HC) hW)).1, (block2 (keep_below (unhide HC) hW)).2.1⟩, hW⟩
  go_region_held3 (fun W => (W.cell? ⟨H, 0, none⟩ = some (.slice ao no co) ∧ W.cell? ⟨H, 1, none⟩ = some (.slice ar nr cr)) ∧ Below Wt.heap.size Wt W)
    (first | with_reducible exact unhide HSS _ (Below.refl _ _) | with_reducible exact unhide HSS _ (unhide HY7) | (refine unhide HSS _ ?_; repeat (first | with_reducible exact Below.refl _ _ | with_reducible exact unhide HY7 | with_reducible refine drew_b ?_ | with_reducible refine alloc_b ?_)))
    (first | (refine step_append ki rfl (.const (.slice none 0 0)) (.tmp 14) rfl _ _ [] rfl (own_nil _ _) _ rs rfl (unhide HRI _ (by go_split_ands; assumption)) nr (unhide HNN) (by show nr * 8 ≤ _; omega) (Nat.le_refl _) ?_; intro a5 c5 w5 ho5 hg5; have HO5 := hide (own_nil_append ho5); have HB5 := hide ((Below.refl _ _).grown hg5 (Nat.le_refl _) (fun k hk => by cases hk)); have HY7 : Hid (Below Wt.heap.size Wt w5) := Below.next (by go_split_ands; assumption) (unhide HB5) (Nat.le_refl _); clear ho5 hg5))
  · obtain ⟨W9, e9, hB9, k8, k9⟩ := two_new w5 (.cells A 4) (.cells #[.slice none 0 0, .slice a5 nr c5, .slice (some ⟨w5.heap.size, 0, none⟩) no no, .slice none 0 0] 65)
    rw [e9]
    exact unhide HK _ _ _ _ _ _ _ _ _ _ (w5.heap.size + 1) w5.heap.size a5 c5 W9 (Below.next (unhide HY7) hB9 (Nat.le_refl _)) (Nat.le_trans (unhide HY7).size (Nat.le_succ _)) (unhide HY7).size (by omega) (fun k hk => by have h_ := ((unhide HO5).lt k hk).2; constructor <;> omega) k9 k8 (((unhide HO5).base (Nat.le_refl _)).below hB9)
  · have hz : (Wt.alloc (.cells A 4)).drew.heap.size = Wt.heap.size + 1 := by show (Wt.alloc (.cells A 4)).heap.size = _; rw [World.size_alloc]
    have q1 : w5.heap[Wt.heap.size]? = some (.cells A 4 (0, 0)) := keep_below (show (Wt.alloc (.cells A 4)).drew.heap[Wt.heap.size]? = _ from new_block Wt (.cells A 4)) (unhide HB5)
    have hb1 := size_of q1
    exact unhide HK _ _ _ _ _ _ _ _ _ _ w5.heap.size Wt.heap.size a5 c5 _ (alloc_b (unhide HY7)) (unhide HY7).size (Nat.le_refl _) (by omega) (fun k hk => by have h_ := ((unhide HO5).lt k hk); rw [hz] at h_; constructor <;> omega) (new_block _ _) (keep_alloc q1 _) (((unhide HO5).base (by rw [hz]; omega)).below ((Below.refl _ _).alloc (Nat.le_refl _) _))


/-- A region of a code, wherever it stands. -/
def regN (n : Nat) : Code → Option Code
  | .region id ops dr => bif Nat.beq id n then some (.region id ops dr) else none
  | .seq a c => match regN n a with | some x => some x | none => regN n c
  | .block _ a => regN n a
  | .loop a => regN n a
  | .cond _ a c => match regN n a with | some x => some x | none => regN n c
  | _ => none
theorem bs_rowA (w : World) (a : Option Addr) (m c : Nat) : (Instr.buildSlice 22 1 #[(0, .slice a m c)]).run Try.prog w = .ok (.slice (some ⟨w.heap.size, 0, none⟩) 1 1) (w.alloc (.cells #[.slice a m c] 23)) := by kernel_rfl
/-- One element more at the end of a slice, none among them, as a step of a region that draws. -/
theorem step_pushA {ops : Array Oper} {o : Oper} {a : Act} {w : World} {Kn : Act → World → Prop} {Q : Exit → Act → World → Prop} {E : Prop} (hgd : o.guard = none) (s x : Operand) (t e : TypeId) (z : Value) (bytes : Nat) (b : Nat)
    (hop : o.op = Op.call { callee := Callee.builtin Builtin.append, args := #[s, x], argTypes := #[t, t] }) (h1 : Try.prog.underlying t = some (.slice e)) (hinf : (Try.prog.info? e).map (fun i => (i.zero, i.size, i.bytes)) = some (some z, 1, bytes)) (hz : z.cells.size = 1)
    (oa : Option Addr) (n cap : Nat) (olds : List Value) (hs : a.eval s = .slice oa n cap) (hlo : olds.length = n) (hob : (oa = none ∧ n = 0 ∧ cap = 0) ∨ ∃ g, oa = some ⟨g, 0, none⟩ ∧ w.there g 0 cap ∧ n ≤ cap ∧ g < w.heap.size) (holds : ∀ g, oa = some ⟨g, 0, none⟩ → ∀ j u, olds[j]? = some u → w.cell? ⟨g, j, none⟩ = some u)
    (S : Nat) (y : Value) (hx : a.eval x = .slice (some ⟨S, 0, none⟩) 1 1) (hS : w.cell? ⟨S, 0, none⟩ = some y) (hy : y.oneCell' = true) (hb : n + 1 ≤ 1000000) (hby : bytes ≤ 1000)
    (hK : ∀ g' cap' w', PA w w' b oa n g' cap' (olds ++ [y]) → Kn (a.put o.dst (.slice (some ⟨g', 0, none⟩) (n + 1) cap')) w') :
    if Region.wanted o (yielded ops a.tmps) = true then Oper.wp Try.prog o a w Kn Q else E := by
  rcases hob with ⟨rfl, rfl, rfl⟩ | ⟨g, rfl, hth, hle, hlt⟩
  · obtain ⟨i0, hi, h0, h2, h3⟩ := info_parts hinf
    have hnews : ∀ j u, [y][j]? = some u → w.cell? ((⟨S, 0, none⟩ : Addr).add j) = some u := fun j u hu => by
      have hj : j = 0 := by have := (List.getElem?_eq_some_iff.1 hu).1; simpa using this
      subst hj
      simp at hu
      subst hu
      exact hS
    have h1c : ∀ u ∈ [y], u.oneCell' = true := fun u hu => by rw [List.mem_singleton.1 hu]; exact hy
    refine step_append_grows hgd s x t hop e i0 z 1 bytes h1 hi h0 h2 h3 hz (by decide) none 0 0 olds hs (fun _ => ⟨rfl, rfl⟩) (by omega) (fun b hb => by cases hb) ⟨S, 0, none⟩ 1 1 [y] hx rfl hnews h1c (by omega) (by decide) (by omega) (fun v' w' r1 r2 => ?_)
    rcases r1 with ⟨hl, ⟨_, q⟩ | ⟨g', cap', cur, rfl, hg, hh, q2, _, q4, q5⟩⟩
    · omega
    · have hb' := (Below.refl w.heap.size w).grown r2 (Nat.le_refl _) (fun k hk => by cases hk)
      refine hK g' cap' w' ⟨fun j u hu => ?_, there_block hh (by omega), q2, size_of hh, Or.inr hg, fun k hk _ _ => hb'.block k hk, hb'.size, fun lo _ _ hl2 => hb'.mono hl2⟩
      have hj : j < 0 + 1 := by have := (List.getElem?_eq_some_iff.1 hu).1; rw [List.length_append, hlo] at this; simpa using this
      have h6 : (cur.toList.take ((0 + 1) * 1))[j]? = (olds ++ [y])[j]? := by rw [q5]
      rw [List.getElem?_take, if_pos (by omega), hu] at h6
      simp only [World.cell?, hh]
      rw [← Array.getElem?_toList]
      exact h6
  · exact step_push hgd s x t e z bytes hop h1 hinf hz g n cap olds hs hlo (holds g rfl) hth hle hlt S y hx hS hy hb hby (fun g' cap' w' hp => hK g' cap' w' ⟨hp.cells, hp.th, hp.le, hp.lt, hp.src.imp (fun q => by rw [q]) id, fun k k1 _ k3 => hp.keep k k1 (k3 g rfl), (hp.below 0 (Nat.zero_le _) (Nat.zero_le _)).size, fun lo _ l2 l3 => hp.below lo (l2 g rfl) l3⟩)
/-- What a row more leaves. -/
structure RowA (w w' : World) (b : Nat) (oa : Option Addr) (i : Nat) (a : Option Addr) (m c g4 c4 : Nat) (vR vW vL : Value) (olds : List Value) (row : List Int) : Prop where
  pa : PA w w' b oa i g4 c4 (olds ++ [.slice a m c])
  blk : w'.heap[b]? = some (.cells #[.slice (some ⟨g4, 0, none⟩) (i + 1) c4, vR, vW, vL] 65 (0, 0))
  own : OwnO w.heap.size w' (.slice a m c) row
  ne : ∀ k, (Value.slice a m c).ownBlock = some k → k ≠ g4

set_option maxRecDepth 100000 in
set_option maxHeartbeats 4000000 in
theorem row_5 (Wt : World) (H hb ho no co i b : Nat) (ab : Option Addr) (m cb : Nat) (hr0 : Value) (oa : Option Addr) (co' : Nat) (vR vW vL : Value) (olds : List Value) (row : List Int) (lo : Nat) (hH : Wt.heap[H]? = some (.cells #[.slice (some ⟨hb, ho, none⟩) no co, hr0] 25 (0, 0))) (hrow : Wt.cell? ⟨hb, ho + i, none⟩ = some (.slice ab m cb)) (hrl : IsL KI Wt (.slice ab m cb) row) (hm : row.length = m) (hm2 : m ≤ 1000000) (hi : i < no) (hM : Wt.heap[b]? = some (.cells #[.slice oa i co', vR, vW, vL] 65 (0, 0))) (hob : (oa = none ∧ i = 0 ∧ co' = 0) ∨ ∃ g, oa = some ⟨g, 0, none⟩ ∧ Wt.there g 0 co' ∧ i ≤ co' ∧ g < Wt.heap.size) (hol : olds.length = i) (holds : ∀ g, oa = some ⟨g, 0, none⟩ → ∀ j u, olds[j]? = some u → Wt.cell? ⟨g, j, none⟩ = some u) (hlb : lo ≤ b) (hlg : ∀ g, oa = some ⟨g, 0, none⟩ → lo ≤ g) (hbg : ∀ g, oa = some ⟨g, 0, none⟩ → b ≠ g) (hHl : H < lo) (hhl : hb < lo) (hhz : hb < Wt.heap.size) (hn5 : i + 1 ≤ 1000000)
    {v0 v1 v2 s4 s5 s6 s7 s8 s11 s12 s13 s14 s15 s16 s17 s18 s19 s20 s21 s22 s23 s24 s25 s26 s27 s28 s29 s30 s31 s32 s33 s34 s35 s36 s37 s38 s39 s40 s41 s42 s43 s44 s45 s46 s47 s48 s49 s50 s51 s52 s53 s54 s55 s56 s57 s58 s59 s60 s61 s62 s63 s64 s65 s66 s67 s68 s69 s70 s71 s72 s73 s74 s75 s76 s77 s78 s79 s80 s81 s82 s83 s84 s85 s86 s87 s88 s89 s90 s91 s92 s93 s94 s95 s96 s97 : Value} (Q : Exit → Act → World → Prop) (x : Code) (hcut : Try.f21.body.bind (regN 5) = some x)
    (hK : ∀ (s30 s31 s32 s33 s34 s35 s36 s37 s38 s39 s40 s41 s42 s43 s44 s45 s46 : Value) (a5 : Option Addr) (c5 g4 c4 : Nat) (W' : World), RowA Wt W' b oa i a5 m c5 g4 c4 vR vW vL olds row → Q Exit.normal { tmps := (v0 :: v1 :: v2 :: .pointer (some ⟨H, 0, none⟩) :: s4 :: s5 :: s6 :: s7 :: s8 :: .pointer (some ⟨b, 0, none⟩) :: .int .i64 (i : Int) :: s11 :: s12 :: s13 :: s14 :: s15 :: s16 :: s17 :: s18 :: s19 :: s20 :: s21 :: s22 :: s23 :: s24 :: s25 :: s26 :: s27 :: s28 :: s29 :: s30 :: s31 :: s32 :: s33 :: s34 :: s35 :: s36 :: s37 :: s38 :: s39 :: s40 :: s41 :: s42 :: s43 :: s44 :: s45 :: s46 :: s47 :: s48 :: s49 :: s50 :: s51 :: s52 :: s53 :: s54 :: s55 :: s56 :: s57 :: s58 :: s59 :: s60 :: s61 :: s62 :: s63 :: s64 :: s65 :: s66 :: s67 :: s68 :: s69 :: s70 :: s71 :: s72 :: s73 :: s74 :: s75 :: s76 :: s77 :: s78 :: s79 :: s80 :: s81 :: s82 :: s83 :: s84 :: s85 :: s86 :: s87 :: s88 :: s89 :: s90 :: s91 :: s92 :: s93 :: s94 :: s95 :: s96 :: s97 :: []).toArray, defers := [] } W') :
    x.wp Try.prog Q { tmps := (v0 :: v1 :: v2 :: .pointer (some ⟨H, 0, none⟩) :: s4 :: s5 :: s6 :: s7 :: s8 :: .pointer (some ⟨b, 0, none⟩) :: .int .i64 (i : Int) :: s11 :: s12 :: s13 :: s14 :: s15 :: s16 :: s17 :: s18 :: s19 :: s20 :: s21 :: s22 :: s23 :: s24 :: s25 :: s26 :: s27 :: s28 :: s29 :: s30 :: s31 :: s32 :: s33 :: s34 :: s35 :: s36 :: s37 :: s38 :: s39 :: s40 :: s41 :: s42 :: s43 :: s44 :: s45 :: s46 :: s47 :: s48 :: s49 :: s50 :: s51 :: s52 :: s53 :: s54 :: s55 :: s56 :: s57 :: s58 :: s59 :: s60 :: s61 :: s62 :: s63 :: s64 :: s65 :: s66 :: s67 :: s68 :: s69 :: s70 :: s71 :: s72 :: s73 :: s74 :: s75 :: s76 :: s77 :: s78 :: s79 :: s80 :: s81 :: s82 :: s83 :: s84 :: s85 :: s86 :: s87 :: s88 :: s89 :: s90 :: s91 :: s92 :: s93 :: s94 :: s95 :: s96 :: s97 :: []).toArray, defers := [] } Wt := by
  have hcc : Try.f21.body.bind (regN 5) = some (.region _ _ _) := rfl
  rw [hcc] at hcut
  cases hcut
  clear hcc
  have HK := hide hK
  have i6 : (0 : Int) ≤ (i : Int) := by omega
  have i7 : (i : Int) < (no : Int) := by omega
  have HFN : Hid (∀ (w1 V3 w4 : World) (a5 : Option Addr) (c5 g4 c4 : Nat), w1.alloc (.cells #[.slice a5 m c5] 23) = V3 → Below Wt.heap.size Wt w1 → Own KI Wt.drew.heap.size w1 (.slice a5 m c5) row → PA V3 w4 V3.heap.size oa i g4 c4 (olds ++ [.slice a5 m c5]) → (w4.cell? ⟨H, 0, none⟩ = some (.slice (some ⟨hb, ho, none⟩) no co) ∧ w4.cell? ⟨hb, ho + i, none⟩ = some (.slice ab m cb)) ∧ ((w4.setCell ⟨b, 0, none⟩ (.slice (some ⟨g4, 0, none⟩) (i + 1) c4)).cell? ⟨H, 0, none⟩ = some (.slice (some ⟨hb, ho, none⟩) no co) ∧ (w4.setCell ⟨b, 0, none⟩ (.slice (some ⟨g4, 0, none⟩) (i + 1) c4)).cell? ⟨hb, ho + i, none⟩ = some (.slice ab m cb)) ∧ (∃ x, w4.cell? ⟨b, 0, none⟩ = some x ∧ w4.frozen? ⟨b, 0, none⟩ = false) ∧ RowA Wt (w4.setCell ⟨b, 0, none⟩ (.slice (some ⟨g4, 0, none⟩) (i + 1) c4)) b oa i a5 m c5 g4 c4 vR vW vL olds row) := fun w1 V3 w4 a5 c5 g4 c4 e3 h1 h2 hp => by
    have hb13 : Below w1.heap.size w1 V3 := by rw [← e3]; exact (Below.refl _ _).alloc (Nat.le_refl _) _
    have hb3 : Below Wt.heap.size Wt V3 := Below.next h1 hb13 (Nat.le_refl _)
    have hz3 := hb3.size; have hz13 := hb13.size
    have hHz := size_of hH; have hbz := size_of hM
    have hk : ∀ k, k < Wt.heap.size → k < lo → w4.heap[k]? = Wt.heap[k]? := fun k k1 k2 => (hp.keep k (by omega) (by omega) (fun g e e2 => by have := hlg g e; omega)).trans (hb3.block k k1)
    have hm4 := hp.at (Nat.le_refl _) hb3 hM hbg
    have c1 := (block2 ((hk H hHz hHl).trans hH)).1
    have c2 := cell_of hrow (hk hb hhz hhl)
    have hown : ∀ k, (Value.slice a5 m c5).ownBlock = some k → Wt.heap.size ≤ k ∧ k < w1.heap.size ∧ k ≠ g4 := fun k e => by
      have r1 : Wt.heap.size ≤ k ∧ k < w1.heap.size := h2.lt k e
      refine ⟨r1.1, r1.2, fun e2 => ?_⟩
      rcases hp.src with q | q
      · rcases hob with ⟨q1, _⟩ | ⟨g, q1, _, _, q2⟩
        · rw [q1] at q; cases q
        · rw [q1] at q; cases q; omega
      · omega
    have hgz : ∀ g, oa = some ⟨g, 0, none⟩ → g < Wt.heap.size := fun g e => by
      rcases hob with ⟨q1, _⟩ | ⟨g', q1, _, _, q2⟩
      · rw [q1] at e; cases e
      · rw [q1] at e; cases e; exact q2
    refine ⟨⟨c1, c2⟩, ⟨cell_other c1 (Or.inl (by omega)) _, cell_other c2 (Or.inl (by omega)) _⟩, ⟨_, (block4 hm4).1.1, (block4 hm4).2.1.1⟩, (hp.rebase (b := b) (Nat.le_refl _)).after hb3 hbz hbg, mk_set0 hm4, ?_, fun k e => (hown k e).2.2⟩
    have h3 : Own KI Wt.heap.size w1 (.slice a5 m c5) row := h2
    refine h3.o.keep (by rw [size_set]; exact Nat.le_trans hz13 hp.size) (fun k e => ?_)
    have r := hown k e
    exact (Below.heap_setCell _ _ _ _ (fun e2 => by have e3 : k = b := e2; omega)).trans ((hp.keep k (by omega) (by omega) (fun g q1 q2 => by have := hgz g q1; omega)).trans (hb13.block k r.2.1))
  have HSS : Hid (∀ W : World, Below Wt.heap.size Wt W → W.cell? ⟨H, 0, none⟩ = some (.slice (some ⟨hb, ho, none⟩) no co) ∧ W.cell? ⟨hb, ho + i, none⟩ = some (.slice ab m cb)) := fun W hW => ⟨(block2 (keep_below hH hW)).1, cell_of hrow (hW.block hb hhz)⟩
  have HPP : Hid (∀ W : World, Below Wt.heap.size Wt W → W.cell? ⟨b, 0, none⟩ = some (.slice oa i co')) := fun W hW => (block4 (keep_below hM hW)).1.1
  have HOB : Hid (∀ W : World, Below Wt.heap.size Wt W → (oa = none ∧ i = 0 ∧ co' = 0) ∨ ∃ g, oa = some ⟨g, 0, none⟩ ∧ W.there g 0 co' ∧ i ≤ co' ∧ g < W.heap.size) := fun W hW => by
    rcases hob with q | ⟨g, q1, q2, q3, q4⟩
    · exact Or.inl q
    · exact Or.inr ⟨g, q1, there_keep q2 (hW.block g q4), q3, Nat.lt_of_lt_of_le q4 hW.size⟩
  have HHO : Hid (∀ W : World, Below Wt.heap.size Wt W → ∀ g, oa = some ⟨g, 0, none⟩ → ∀ j u, olds[j]? = some u → W.cell? ⟨g, j, none⟩ = some u) := fun W hW g e j u hu => by
    rcases hob with ⟨q1, _⟩ | ⟨g', q1, _, _, q4⟩
    · rw [q1] at e; cases e
    · rw [q1] at e; cases e; exact cell_of (holds _ q1 j u hu) (hW.block _ q4)
  have HRW : Hid (IsL KI Wt.drew (.slice ab m cb) row) := hrl.below (Below.refl _ _).drew
  have HNN : Hid (([] : List Int).length + row.length = m) := by rw [hm]; exact Nat.zero_add _
  have HS0 : Hid ((fun W : World => W.cell? ⟨H, 0, none⟩ = some (.slice (some ⟨hb, ho, none⟩) no co) ∧ W.cell? ⟨hb, ho + i, none⟩ = some (.slice ab m cb)) Wt.drew) := unhide HSS _ (Below.refl _ _).drew
  have p0 := unhide HPP Wt.drew (Below.refl _ _).drew
  clear hK hH hrow hrl hm hi hM hob holds hlb hlg hbg hHl hhl hhz
  refine wp_region_noPanic ?_
  refine wp_region_held_drew (S := fun W => W.cell? ⟨H, 0, none⟩ = some (.slice (some ⟨hb, ho, none⟩) no co) ∧ W.cell? ⟨hb, ho + i, none⟩ = some (.slice ab m cb)) (by kernel_rfl) (unhide HS0) (fun hHeld => ?_)
  refine wpAnyH_take (i := 0) (oi := { dst := some 30, op := Op.move (Operand.tmp 9), type := 63, pos := "sweep.go:166", after := #[], guard := none }) (v := ?v0) rfl (by kernel_rfl) (by kernel_rfl) (by kernel_rfl) (fun _ _ _ h => h) (Or.inl ⟨by rfl, ?y0⟩) (by assumption) ?r0
  case y0 => (intro w hSw; (try dsimp only at hSw); go_simp; try with_reducible rfl)
  try simp only [Act.put, List.setIfInBounds_toArray, List.set_cons_zero, List.set_cons_succ]
  refine wpAnyH_take (i := 1) (oi := { dst := some 31, op := Op.move (Operand.tmp 9), type := 63, pos := "sweep.go:166", after := #[], guard := none }) (v := ?v1) rfl (by kernel_rfl) (by kernel_rfl) (by kernel_rfl) (fun _ _ _ h => h) (Or.inl ⟨by rfl, ?y1⟩) (by assumption) ?r1
  case y1 => (intro w hSw; (try dsimp only at hSw); go_simp; try with_reducible rfl)
  try simp only [Act.put, List.setIfInBounds_toArray, List.set_cons_zero, List.set_cons_succ]
  refine wpAnyH_take (i := 2) (oi := { dst := some 32, op := Op.nilCheck (Operand.tmp 31), type := 0, pos := "sweep.go:166", after := #[{ on := 1, ground := Ground.data }], guard := none }) (v := ?v2) rfl (by kernel_rfl) (by kernel_rfl) (by kernel_rfl) (fun _ _ _ h => h) (Or.inl ⟨by rfl, ?y2⟩) (by assumption) ?r2
  case y2 => (intro w hSw; (try dsimp only at hSw); go_simp; try with_reducible rfl)
  try simp only [Act.put, List.setIfInBounds_toArray, List.set_cons_zero, List.set_cons_succ]
  refine wpAnyH_take (i := 3) (oi := { dst := some 33, op := Op.fieldAddr 65 (Operand.tmp 32) 0, type := 0, pos := "sweep.go:166", after := #[{ on := 2, ground := Ground.data }], guard := none }) (v := ?v3) rfl (by kernel_rfl) (by kernel_rfl) (by kernel_rfl) (fun _ _ _ h => h) (Or.inl ⟨by rfl, ?y3⟩) (by assumption) ?r3
  case y3 => (intro w hSw; (try dsimp only at hSw); go_simp; try with_reducible rfl)
  try simp only [Act.put, List.setIfInBounds_toArray, List.set_cons_zero, List.set_cons_succ]
  refine wpAnyH_take (i := 4) (oi := { dst := some 34, op := Op.fieldAddr 25 (Operand.tmp 33) 0, type := 0, pos := "sweep.go:166", after := #[{ on := 3, ground := Ground.data }], guard := none }) (v := ?v4) rfl (by kernel_rfl) (by kernel_rfl) (by kernel_rfl) (fun _ _ _ h => h) (Or.inl ⟨by rfl, ?y4⟩) (by assumption) ?r4
  case y4 => (intro w hSw; (try dsimp only at hSw); go_simp; try with_reducible rfl)
  try simp only [Act.put, List.setIfInBounds_toArray, List.set_cons_zero, List.set_cons_succ]
  refine wpAnyH_take (i := 6) (oi := { dst := some 36, op := Op.fieldAddr 25 (Operand.tmp 3) 0, type := 0, pos := "sweep.go:166", after := #[], guard := none }) (v := ?v6) rfl (by kernel_rfl) (by kernel_rfl) (by kernel_rfl) (fun _ _ _ h => h) (Or.inl ⟨by rfl, ?y6⟩) (by assumption) ?r6
  case y6 => (intro w hSw; (try dsimp only at hSw); go_simp; try with_reducible rfl)
  try simp only [Act.put, List.setIfInBounds_toArray, List.set_cons_zero, List.set_cons_succ]
  refine wpAnyH_take (i := 7) (oi := { dst := some 37, op := Op.load 22 (Operand.tmp 36), type := 22, pos := "sweep.go:166", after := #[{ on := 6, ground := Ground.data }], guard := none }) (v := ?v7) rfl (by kernel_rfl) (by kernel_rfl) (by kernel_rfl) (fun _ _ _ h => h) (Or.inl ⟨by rfl, ?y7⟩) (by assumption) ?r7
  case y7 => (intro w hSw; (try dsimp only at hSw); go_simp; try with_reducible rfl)
  try simp only [Act.put, List.setIfInBounds_toArray, List.set_cons_zero, List.set_cons_succ]
  refine wpAnyH_take (i := 8) (oi := { dst := some 38, op := Op.move (Operand.tmp 10), type := 3, pos := "sweep.go:166", after := #[], guard := none }) (v := ?v8) rfl (by kernel_rfl) (by kernel_rfl) (by kernel_rfl) (fun _ _ _ h => h) (Or.inl ⟨by rfl, ?y8⟩) (by assumption) ?r8
  case y8 => (intro w hSw; (try dsimp only at hSw); go_simp; try with_reducible rfl)
  try simp only [Act.put, List.setIfInBounds_toArray, List.set_cons_zero, List.set_cons_succ]
  refine wpAnyH_take (i := 9) (oi := { dst := some 39, op := Op.indexAddr 22 (Operand.tmp 37) (Operand.tmp 38), type := 0, pos := "sweep.go:166", after := #[{ on := 7, ground := Ground.data }, { on := 8, ground := Ground.data }], guard := none }) (v := ?v9) rfl (by kernel_rfl) (by kernel_rfl) (by kernel_rfl) (fun _ _ _ h => h) (Or.inl ⟨by rfl, ?y9⟩) (by assumption) ?r9
  case y9 => (intro w hSw; (try dsimp only at hSw); go_simp; try with_reducible rfl)
  try simp only [Act.put, List.setIfInBounds_toArray, List.set_cons_zero, List.set_cons_succ]
  refine wpAnyH_take (i := 10) (oi := { dst := some 40, op := Op.load 23 (Operand.tmp 39), type := 23, pos := "sweep.go:166", after := #[{ on := 9, ground := Ground.data }], guard := none }) (v := ?v10) rfl (by kernel_rfl) (by kernel_rfl) (by kernel_rfl) (fun _ _ _ h => h) (Or.inl ⟨by rfl, ?y10⟩) (by assumption) ?r10
  case y10 => (intro w hSw; (try dsimp only at hSw); go_simp; try with_reducible rfl)
  try simp only [Act.put, List.setIfInBounds_toArray, List.set_cons_zero, List.set_cons_succ]
  refine wpAnyH_ready (rs := [5, 11]) (by kernel_rfl) (by simp) ?_
  refine AllReadyH.cons (o := { dst := some 35, op := Op.load 22 (Operand.tmp 34), type := 22, pos := "sweep.go:166", after := #[{ on := 4, ground := Ground.data }], guard := none }) rfl (fun K hK => ?_) (AllReadyH.cons (o := { dst := some 41, op := Op.call { callee := Callee.builtin Builtin.append, args := #[Operand.const (Value.slice none 0 0), Operand.tmp 40], argTypes := #[23, 23] }, type := 23, pos := "sweep.go:166", after := #[{ on := 10, ground := Ground.data }], guard := none }) rfl (fun K hK => ?_) AllReadyH.nil)
  · go_simp
    refine hK.out _ _ (unhide HS0) (fun hHeld => ?_)
    clear hK K
    try simp only [Act.put, List.setIfInBounds_toArray, List.set_cons_zero, List.set_cons_succ]
    refine wpAnyH_ready (rs := [11]) (by kernel_rfl) (by simp) ?_
    refine AllReadyH.cons (o := { dst := some 41, op := Op.call { callee := Callee.builtin Builtin.append, args := #[Operand.const (Value.slice none 0 0), Operand.tmp 40], argTypes := #[23, 23] }, type := 23, pos := "sweep.go:166", after := #[{ on := 10, ground := Ground.data }], guard := none }) rfl (fun K hK => ?_) AllReadyH.nil
    (refine step_append ki rfl (.const (.slice none 0 0)) (.tmp 40) rfl _ _ [] rfl (own_nil _ _) _ row rfl (unhide HRW) m (unhide HNN) (by show m * 8 ≤ _; omega) (Nat.le_refl _) ?_; intro a5 c5 w1 ho5 hg5; have HO1 := hide (own_nil_append ho5); have hB1 := (Below.refl Wt.drew.heap.size Wt.drew).grown hg5 (Nat.le_refl _) (fun k hk => by cases hk); have HB1 : Hid (Below Wt.heap.size Wt w1) := (Below.refl _ _).drew.trans hB1; obtain ⟨V3, e3⟩ : ∃ X, w1.alloc (.cells #[.slice a5 m c5] 23) = X := ⟨_, rfl⟩; have HBS3 : Hid ((Instr.buildSlice 22 1 #[(0, .slice a5 m c5)]).run Try.prog w1 = .ok (.slice (some ⟨w1.heap.size, 0, none⟩) 1 1) V3) := (by rw [← e3]; exact bs_rowA w1 a5 m c5); have hY3 : Below Wt.heap.size Wt V3 := (by rw [← e3]; exact (unhide HB1).alloc (unhide HB1).size _); have HY3 := hide hY3; have HS1 := hide (unhide HSS w1 (unhide HB1)); have HS3 := hide (unhide HSS V3 hY3); have p1 := unhide HPP w1 (unhide HB1); have p3 := unhide HPP V3 hY3; have HN3 : Hid (V3.cell? ⟨w1.heap.size, 0, none⟩ = some (.slice a5 m c5)) := (by rw [← e3]; exact (block1 (new_block w1 _)).1); have HE3 := hide e3; clear ho5 hg5 hB1 hY3 e3)
    refine hK.out _ _ (unhide HS1) (fun hHeld => ?_)
    clear hK K
    try simp only [Act.put, List.setIfInBounds_toArray, List.set_cons_zero, List.set_cons_succ]
    refine wpAnyH_ready (rs := [12]) (by kernel_rfl) (by simp) ?_
    refine AllReadyH.cons (o := { dst := some 42, op := Op.buildSlice 22 1 #[(0, Operand.tmp 41)], type := 22, pos := "sweep.go:166", after := #[{ on := 11, ground := Ground.data }], guard := none }) rfl (fun K hK => ?_) AllReadyH.nil
    refine step_run rfl (val_run (by simp only [List.map_toArray, List.map_cons, List.map_nil]; exact unhide HBS3)) ?_
    refine hK.out _ _ (unhide HS3) (fun hHeld => ?_)
    clear hK K
    try simp only [Act.put, List.setIfInBounds_toArray, List.set_cons_zero, List.set_cons_succ]
    refine wpAnyH_ready (rs := [13]) (by kernel_rfl) (by simp) ?_
    refine AllReadyH.cons (o := { dst := some 43, op := Op.call { callee := Callee.builtin Builtin.append, args := #[Operand.tmp 35, Operand.tmp 42], argTypes := #[22, 22] }, type := 22, pos := "sweep.go:166", after := #[{ on := 5, ground := Ground.data }, { on := 12, ground := Ground.data }, { on := 11, ground := Ground.chain }], guard := none }) rfl (fun K hK => ?_) AllReadyH.nil
    (refine step_pushA rfl (.tmp 35) (.tmp 42) 22 23 (.slice none 0 0) 24 V3.heap.size rfl Try.underlying22 infoKL rfl oa i co' olds rfl hol (unhide HOB V3 (unhide HY3)) (unhide HHO V3 (unhide HY3)) w1.heap.size (.slice a5 m c5) rfl (unhide HN3) rfl hn5 (by decide) ?_; intro g4 c4 w4 hp4; have hfin := unhide HFN w1 V3 w4 a5 c5 g4 c4 (unhide HE3) (unhide HB1) (unhide HO1) hp4; have HS4 := hide hfin.1; have HS5 := hide hfin.2.1; obtain ⟨x4, q4, f4⟩ := hfin.2.2.1; have HBN := hide hfin.2.2.2; clear hfin hp4)
    refine hK.out _ _ (unhide HS4) (fun hHeld => ?_)
    clear hK K
    try simp only [Act.put, List.setIfInBounds_toArray, List.set_cons_zero, List.set_cons_succ]
    refine wpAnyH_take (i := 14) (oi := { dst := some 44, op := Op.nilCheck (Operand.tmp 30), type := 0, pos := "sweep.go:166", after := #[{ on := 0, ground := Ground.data }, { on := 0, ground := Ground.phase }, { on := 1, ground := Ground.phase }, { on := 2, ground := Ground.phase }, { on := 3, ground := Ground.phase }, { on := 4, ground := Ground.phase }, { on := 5, ground := Ground.phase }, { on := 6, ground := Ground.phase }, { on := 7, ground := Ground.phase }, { on := 8, ground := Ground.phase }, { on := 9, ground := Ground.phase }, { on := 10, ground := Ground.phase }, { on := 11, ground := Ground.phase }, { on := 12, ground := Ground.phase }, { on := 13, ground := Ground.phase }], guard := none }) (v := ?v14a) rfl (by kernel_rfl) (by kernel_rfl) (by kernel_rfl) (fun _ _ _ h => h) (Or.inl ⟨by rfl, ?y14a⟩) (by assumption) ?r14a
    case y14a => (intro w hSw; (try dsimp only at hSw); go_simp; try with_reducible rfl)
    try simp only [Act.put, List.setIfInBounds_toArray, List.set_cons_zero, List.set_cons_succ]
    refine wpAnyH_take (i := 15) (oi := { dst := some 45, op := Op.fieldAddr 65 (Operand.tmp 44) 0, type := 0, pos := "sweep.go:166", after := #[{ on := 14, ground := Ground.data }, { on := 0, ground := Ground.phase }, { on := 1, ground := Ground.phase }, { on := 2, ground := Ground.phase }, { on := 3, ground := Ground.phase }, { on := 4, ground := Ground.phase }, { on := 5, ground := Ground.phase }, { on := 6, ground := Ground.phase }, { on := 7, ground := Ground.phase }, { on := 8, ground := Ground.phase }, { on := 9, ground := Ground.phase }, { on := 10, ground := Ground.phase }, { on := 11, ground := Ground.phase }, { on := 12, ground := Ground.phase }, { on := 13, ground := Ground.phase }], guard := none }) (v := ?v15a) rfl (by kernel_rfl) (by kernel_rfl) (by kernel_rfl) (fun _ _ _ h => h) (Or.inl ⟨by rfl, ?y15a⟩) (by assumption) ?r15a
    case y15a => (intro w hSw; (try dsimp only at hSw); go_simp; try with_reducible rfl)
    try simp only [Act.put, List.setIfInBounds_toArray, List.set_cons_zero, List.set_cons_succ]
    refine wpAnyH_take (i := 16) (oi := { dst := some 46, op := Op.fieldAddr 25 (Operand.tmp 45) 0, type := 0, pos := "sweep.go:166", after := #[{ on := 15, ground := Ground.data }, { on := 0, ground := Ground.phase }, { on := 1, ground := Ground.phase }, { on := 2, ground := Ground.phase }, { on := 3, ground := Ground.phase }, { on := 4, ground := Ground.phase }, { on := 5, ground := Ground.phase }, { on := 6, ground := Ground.phase }, { on := 7, ground := Ground.phase }, { on := 8, ground := Ground.phase }, { on := 9, ground := Ground.phase }, { on := 10, ground := Ground.phase }, { on := 11, ground := Ground.phase }, { on := 12, ground := Ground.phase }, { on := 13, ground := Ground.phase }], guard := none }) (v := ?v16a) rfl (by kernel_rfl) (by kernel_rfl) (by kernel_rfl) (fun _ _ _ h => h) (Or.inl ⟨by rfl, ?y16a⟩) (by assumption) ?r16a
    case y16a => (intro w hSw; (try dsimp only at hSw); go_simp; try with_reducible rfl)
    try simp only [Act.put, List.setIfInBounds_toArray, List.set_cons_zero, List.set_cons_succ]
    refine wpAnyH_ready (rs := [17]) (by kernel_rfl) (by simp) ?_
    refine AllReadyH.cons (o := { dst := none, op := Op.store 22 (Operand.tmp 46) (Operand.tmp 43), type := 0, pos := "sweep.go:166", after := #[{ on := 16, ground := Ground.data }, { on := 13, ground := Ground.data }, { on := 13, ground := Ground.chain }, { on := 0, ground := Ground.phase }, { on := 1, ground := Ground.phase }, { on := 2, ground := Ground.phase }, { on := 3, ground := Ground.phase }, { on := 4, ground := Ground.phase }, { on := 5, ground := Ground.phase }, { on := 6, ground := Ground.phase }, { on := 7, ground := Ground.phase }, { on := 8, ground := Ground.phase }, { on := 9, ground := Ground.phase }, { on := 10, ground := Ground.phase }, { on := 11, ground := Ground.phase }, { on := 12, ground := Ground.phase }, { on := 13, ground := Ground.phase }], guard := none }) rfl (fun K hK => ?_) AllReadyH.nil
    go_simp
    refine hK.out _ _ (unhide HS5) (fun hHeld => ?_)
    clear hK K
    try simp only [Act.put, List.setIfInBounds_toArray, List.set_cons_zero, List.set_cons_succ]
    refine wpAnyH_done (by kernel_rfl) ?_ _
    refine NoPanic.normal ?_
    exact unhide HK _ _ _ _ _ _ _ _ _ _ _ _ _ _ _ _ _ a5 c5 g4 c4 _ (unhide HBN)
  · (refine step_append ki rfl (.const (.slice none 0 0)) (.tmp 40) rfl _ _ [] rfl (own_nil _ _) _ row rfl (unhide HRW) m (unhide HNN) (by show m * 8 ≤ _; omega) (Nat.le_refl _) ?_; intro a5 c5 w1 ho5 hg5; have HO1 := hide (own_nil_append ho5); have hB1 := (Below.refl Wt.drew.heap.size Wt.drew).grown hg5 (Nat.le_refl _) (fun k hk => by cases hk); have HB1 : Hid (Below Wt.heap.size Wt w1) := (Below.refl _ _).drew.trans hB1; obtain ⟨V3, e3⟩ : ∃ X, w1.alloc (.cells #[.slice a5 m c5] 23) = X := ⟨_, rfl⟩; have HBS3 : Hid ((Instr.buildSlice 22 1 #[(0, .slice a5 m c5)]).run Try.prog w1 = .ok (.slice (some ⟨w1.heap.size, 0, none⟩) 1 1) V3) := (by rw [← e3]; exact bs_rowA w1 a5 m c5); have hY3 : Below Wt.heap.size Wt V3 := (by rw [← e3]; exact (unhide HB1).alloc (unhide HB1).size _); have HY3 := hide hY3; have HS1 := hide (unhide HSS w1 (unhide HB1)); have HS3 := hide (unhide HSS V3 hY3); have p1 := unhide HPP w1 (unhide HB1); have p3 := unhide HPP V3 hY3; have HN3 : Hid (V3.cell? ⟨w1.heap.size, 0, none⟩ = some (.slice a5 m c5)) := (by rw [← e3]; exact (block1 (new_block w1 _)).1); have HE3 := hide e3; clear ho5 hg5 hB1 hY3 e3)
    refine hK.out _ _ (unhide HS1) (fun hHeld => ?_)
    clear hK K
    try simp only [Act.put, List.setIfInBounds_toArray, List.set_cons_zero, List.set_cons_succ]
    refine wpAnyH_ready (rs := [5, 12]) (by kernel_rfl) (by simp) ?_
    refine AllReadyH.cons (o := { dst := some 35, op := Op.load 22 (Operand.tmp 34), type := 22, pos := "sweep.go:166", after := #[{ on := 4, ground := Ground.data }], guard := none }) rfl (fun K hK => ?_) (AllReadyH.cons (o := { dst := some 42, op := Op.buildSlice 22 1 #[(0, Operand.tmp 41)], type := 22, pos := "sweep.go:166", after := #[{ on := 11, ground := Ground.data }], guard := none }) rfl (fun K hK => ?_) AllReadyH.nil)
    · go_simp
      refine hK.out _ _ (unhide HS1) (fun hHeld => ?_)
      clear hK K
      try simp only [Act.put, List.setIfInBounds_toArray, List.set_cons_zero, List.set_cons_succ]
      refine wpAnyH_ready (rs := [12]) (by kernel_rfl) (by simp) ?_
      refine AllReadyH.cons (o := { dst := some 42, op := Op.buildSlice 22 1 #[(0, Operand.tmp 41)], type := 22, pos := "sweep.go:166", after := #[{ on := 11, ground := Ground.data }], guard := none }) rfl (fun K hK => ?_) AllReadyH.nil
      refine step_run rfl (val_run (by simp only [List.map_toArray, List.map_cons, List.map_nil]; exact unhide HBS3)) ?_
      refine hK.out _ _ (unhide HS3) (fun hHeld => ?_)
      clear hK K
      try simp only [Act.put, List.setIfInBounds_toArray, List.set_cons_zero, List.set_cons_succ]
      refine wpAnyH_ready (rs := [13]) (by kernel_rfl) (by simp) ?_
      refine AllReadyH.cons (o := { dst := some 43, op := Op.call { callee := Callee.builtin Builtin.append, args := #[Operand.tmp 35, Operand.tmp 42], argTypes := #[22, 22] }, type := 22, pos := "sweep.go:166", after := #[{ on := 5, ground := Ground.data }, { on := 12, ground := Ground.data }, { on := 11, ground := Ground.chain }], guard := none }) rfl (fun K hK => ?_) AllReadyH.nil
      (refine step_pushA rfl (.tmp 35) (.tmp 42) 22 23 (.slice none 0 0) 24 V3.heap.size rfl Try.underlying22 infoKL rfl oa i co' olds rfl hol (unhide HOB V3 (unhide HY3)) (unhide HHO V3 (unhide HY3)) w1.heap.size (.slice a5 m c5) rfl (unhide HN3) rfl hn5 (by decide) ?_; intro g4 c4 w4 hp4; have hfin := unhide HFN w1 V3 w4 a5 c5 g4 c4 (unhide HE3) (unhide HB1) (unhide HO1) hp4; have HS4 := hide hfin.1; have HS5 := hide hfin.2.1; obtain ⟨x4, q4, f4⟩ := hfin.2.2.1; have HBN := hide hfin.2.2.2; clear hfin hp4)
      refine hK.out _ _ (unhide HS4) (fun hHeld => ?_)
      clear hK K
      try simp only [Act.put, List.setIfInBounds_toArray, List.set_cons_zero, List.set_cons_succ]
      refine wpAnyH_take (i := 14) (oi := { dst := some 44, op := Op.nilCheck (Operand.tmp 30), type := 0, pos := "sweep.go:166", after := #[{ on := 0, ground := Ground.data }, { on := 0, ground := Ground.phase }, { on := 1, ground := Ground.phase }, { on := 2, ground := Ground.phase }, { on := 3, ground := Ground.phase }, { on := 4, ground := Ground.phase }, { on := 5, ground := Ground.phase }, { on := 6, ground := Ground.phase }, { on := 7, ground := Ground.phase }, { on := 8, ground := Ground.phase }, { on := 9, ground := Ground.phase }, { on := 10, ground := Ground.phase }, { on := 11, ground := Ground.phase }, { on := 12, ground := Ground.phase }, { on := 13, ground := Ground.phase }], guard := none }) (v := ?v14b) rfl (by kernel_rfl) (by kernel_rfl) (by kernel_rfl) (fun _ _ _ h => h) (Or.inl ⟨by rfl, ?y14b⟩) (by assumption) ?r14b
      case y14b => (intro w hSw; (try dsimp only at hSw); go_simp; try with_reducible rfl)
      try simp only [Act.put, List.setIfInBounds_toArray, List.set_cons_zero, List.set_cons_succ]
      refine wpAnyH_take (i := 15) (oi := { dst := some 45, op := Op.fieldAddr 65 (Operand.tmp 44) 0, type := 0, pos := "sweep.go:166", after := #[{ on := 14, ground := Ground.data }, { on := 0, ground := Ground.phase }, { on := 1, ground := Ground.phase }, { on := 2, ground := Ground.phase }, { on := 3, ground := Ground.phase }, { on := 4, ground := Ground.phase }, { on := 5, ground := Ground.phase }, { on := 6, ground := Ground.phase }, { on := 7, ground := Ground.phase }, { on := 8, ground := Ground.phase }, { on := 9, ground := Ground.phase }, { on := 10, ground := Ground.phase }, { on := 11, ground := Ground.phase }, { on := 12, ground := Ground.phase }, { on := 13, ground := Ground.phase }], guard := none }) (v := ?v15b) rfl (by kernel_rfl) (by kernel_rfl) (by kernel_rfl) (fun _ _ _ h => h) (Or.inl ⟨by rfl, ?y15b⟩) (by assumption) ?r15b
      case y15b => (intro w hSw; (try dsimp only at hSw); go_simp; try with_reducible rfl)
      try simp only [Act.put, List.setIfInBounds_toArray, List.set_cons_zero, List.set_cons_succ]
      refine wpAnyH_take (i := 16) (oi := { dst := some 46, op := Op.fieldAddr 25 (Operand.tmp 45) 0, type := 0, pos := "sweep.go:166", after := #[{ on := 15, ground := Ground.data }, { on := 0, ground := Ground.phase }, { on := 1, ground := Ground.phase }, { on := 2, ground := Ground.phase }, { on := 3, ground := Ground.phase }, { on := 4, ground := Ground.phase }, { on := 5, ground := Ground.phase }, { on := 6, ground := Ground.phase }, { on := 7, ground := Ground.phase }, { on := 8, ground := Ground.phase }, { on := 9, ground := Ground.phase }, { on := 10, ground := Ground.phase }, { on := 11, ground := Ground.phase }, { on := 12, ground := Ground.phase }, { on := 13, ground := Ground.phase }], guard := none }) (v := ?v16b) rfl (by kernel_rfl) (by kernel_rfl) (by kernel_rfl) (fun _ _ _ h => h) (Or.inl ⟨by rfl, ?y16b⟩) (by assumption) ?r16b
      case y16b => (intro w hSw; (try dsimp only at hSw); go_simp; try with_reducible rfl)
      try simp only [Act.put, List.setIfInBounds_toArray, List.set_cons_zero, List.set_cons_succ]
      refine wpAnyH_ready (rs := [17]) (by kernel_rfl) (by simp) ?_
      refine AllReadyH.cons (o := { dst := none, op := Op.store 22 (Operand.tmp 46) (Operand.tmp 43), type := 0, pos := "sweep.go:166", after := #[{ on := 16, ground := Ground.data }, { on := 13, ground := Ground.data }, { on := 13, ground := Ground.chain }, { on := 0, ground := Ground.phase }, { on := 1, ground := Ground.phase }, { on := 2, ground := Ground.phase }, { on := 3, ground := Ground.phase }, { on := 4, ground := Ground.phase }, { on := 5, ground := Ground.phase }, { on := 6, ground := Ground.phase }, { on := 7, ground := Ground.phase }, { on := 8, ground := Ground.phase }, { on := 9, ground := Ground.phase }, { on := 10, ground := Ground.phase }, { on := 11, ground := Ground.phase }, { on := 12, ground := Ground.phase }, { on := 13, ground := Ground.phase }], guard := none }) rfl (fun K hK => ?_) AllReadyH.nil
      go_simp
      refine hK.out _ _ (unhide HS5) (fun hHeld => ?_)
      clear hK K
      try simp only [Act.put, List.setIfInBounds_toArray, List.set_cons_zero, List.set_cons_succ]
      refine wpAnyH_done (by kernel_rfl) ?_ _
      refine NoPanic.normal ?_
      exact unhide HK _ _ _ _ _ _ _ _ _ _ _ _ _ _ _ _ _ a5 c5 g4 c4 _ (unhide HBN)
    · refine step_run rfl (val_run (by simp only [List.map_toArray, List.map_cons, List.map_nil]; exact unhide HBS3)) ?_
      refine hK.out _ _ (unhide HS3) (fun hHeld => ?_)
      clear hK K
      try simp only [Act.put, List.setIfInBounds_toArray, List.set_cons_zero, List.set_cons_succ]
      refine wpAnyH_ready (rs := [5]) (by kernel_rfl) (by simp) ?_
      refine AllReadyH.cons (o := { dst := some 35, op := Op.load 22 (Operand.tmp 34), type := 22, pos := "sweep.go:166", after := #[{ on := 4, ground := Ground.data }], guard := none }) rfl (fun K hK => ?_) AllReadyH.nil
      go_simp
      refine hK.out _ _ (unhide HS3) (fun hHeld => ?_)
      clear hK K
      try simp only [Act.put, List.setIfInBounds_toArray, List.set_cons_zero, List.set_cons_succ]
      refine wpAnyH_ready (rs := [13]) (by kernel_rfl) (by simp) ?_
      refine AllReadyH.cons (o := { dst := some 43, op := Op.call { callee := Callee.builtin Builtin.append, args := #[Operand.tmp 35, Operand.tmp 42], argTypes := #[22, 22] }, type := 22, pos := "sweep.go:166", after := #[{ on := 5, ground := Ground.data }, { on := 12, ground := Ground.data }, { on := 11, ground := Ground.chain }], guard := none }) rfl (fun K hK => ?_) AllReadyH.nil
      (refine step_pushA rfl (.tmp 35) (.tmp 42) 22 23 (.slice none 0 0) 24 V3.heap.size rfl Try.underlying22 infoKL rfl oa i co' olds rfl hol (unhide HOB V3 (unhide HY3)) (unhide HHO V3 (unhide HY3)) w1.heap.size (.slice a5 m c5) rfl (unhide HN3) rfl hn5 (by decide) ?_; intro g4 c4 w4 hp4; have hfin := unhide HFN w1 V3 w4 a5 c5 g4 c4 (unhide HE3) (unhide HB1) (unhide HO1) hp4; have HS4 := hide hfin.1; have HS5 := hide hfin.2.1; obtain ⟨x4, q4, f4⟩ := hfin.2.2.1; have HBN := hide hfin.2.2.2; clear hfin hp4)
      refine hK.out _ _ (unhide HS4) (fun hHeld => ?_)
      clear hK K
      try simp only [Act.put, List.setIfInBounds_toArray, List.set_cons_zero, List.set_cons_succ]
      refine wpAnyH_take (i := 14) (oi := { dst := some 44, op := Op.nilCheck (Operand.tmp 30), type := 0, pos := "sweep.go:166", after := #[{ on := 0, ground := Ground.data }, { on := 0, ground := Ground.phase }, { on := 1, ground := Ground.phase }, { on := 2, ground := Ground.phase }, { on := 3, ground := Ground.phase }, { on := 4, ground := Ground.phase }, { on := 5, ground := Ground.phase }, { on := 6, ground := Ground.phase }, { on := 7, ground := Ground.phase }, { on := 8, ground := Ground.phase }, { on := 9, ground := Ground.phase }, { on := 10, ground := Ground.phase }, { on := 11, ground := Ground.phase }, { on := 12, ground := Ground.phase }, { on := 13, ground := Ground.phase }], guard := none }) (v := ?v14c) rfl (by kernel_rfl) (by kernel_rfl) (by kernel_rfl) (fun _ _ _ h => h) (Or.inl ⟨by rfl, ?y14c⟩) (by assumption) ?r14c
      case y14c => (intro w hSw; (try dsimp only at hSw); go_simp; try with_reducible rfl)
      try simp only [Act.put, List.setIfInBounds_toArray, List.set_cons_zero, List.set_cons_succ]
      refine wpAnyH_take (i := 15) (oi := { dst := some 45, op := Op.fieldAddr 65 (Operand.tmp 44) 0, type := 0, pos := "sweep.go:166", after := #[{ on := 14, ground := Ground.data }, { on := 0, ground := Ground.phase }, { on := 1, ground := Ground.phase }, { on := 2, ground := Ground.phase }, { on := 3, ground := Ground.phase }, { on := 4, ground := Ground.phase }, { on := 5, ground := Ground.phase }, { on := 6, ground := Ground.phase }, { on := 7, ground := Ground.phase }, { on := 8, ground := Ground.phase }, { on := 9, ground := Ground.phase }, { on := 10, ground := Ground.phase }, { on := 11, ground := Ground.phase }, { on := 12, ground := Ground.phase }, { on := 13, ground := Ground.phase }], guard := none }) (v := ?v15c) rfl (by kernel_rfl) (by kernel_rfl) (by kernel_rfl) (fun _ _ _ h => h) (Or.inl ⟨by rfl, ?y15c⟩) (by assumption) ?r15c
      case y15c => (intro w hSw; (try dsimp only at hSw); go_simp; try with_reducible rfl)
      try simp only [Act.put, List.setIfInBounds_toArray, List.set_cons_zero, List.set_cons_succ]
      refine wpAnyH_take (i := 16) (oi := { dst := some 46, op := Op.fieldAddr 25 (Operand.tmp 45) 0, type := 0, pos := "sweep.go:166", after := #[{ on := 15, ground := Ground.data }, { on := 0, ground := Ground.phase }, { on := 1, ground := Ground.phase }, { on := 2, ground := Ground.phase }, { on := 3, ground := Ground.phase }, { on := 4, ground := Ground.phase }, { on := 5, ground := Ground.phase }, { on := 6, ground := Ground.phase }, { on := 7, ground := Ground.phase }, { on := 8, ground := Ground.phase }, { on := 9, ground := Ground.phase }, { on := 10, ground := Ground.phase }, { on := 11, ground := Ground.phase }, { on := 12, ground := Ground.phase }, { on := 13, ground := Ground.phase }], guard := none }) (v := ?v16c) rfl (by kernel_rfl) (by kernel_rfl) (by kernel_rfl) (fun _ _ _ h => h) (Or.inl ⟨by rfl, ?y16c⟩) (by assumption) ?r16c
      case y16c => (intro w hSw; (try dsimp only at hSw); go_simp; try with_reducible rfl)
      try simp only [Act.put, List.setIfInBounds_toArray, List.set_cons_zero, List.set_cons_succ]
      refine wpAnyH_ready (rs := [17]) (by kernel_rfl) (by simp) ?_
      refine AllReadyH.cons (o := { dst := none, op := Op.store 22 (Operand.tmp 46) (Operand.tmp 43), type := 0, pos := "sweep.go:166", after := #[{ on := 16, ground := Ground.data }, { on := 13, ground := Ground.data }, { on := 13, ground := Ground.chain }, { on := 0, ground := Ground.phase }, { on := 1, ground := Ground.phase }, { on := 2, ground := Ground.phase }, { on := 3, ground := Ground.phase }, { on := 4, ground := Ground.phase }, { on := 5, ground := Ground.phase }, { on := 6, ground := Ground.phase }, { on := 7, ground := Ground.phase }, { on := 8, ground := Ground.phase }, { on := 9, ground := Ground.phase }, { on := 10, ground := Ground.phase }, { on := 11, ground := Ground.phase }, { on := 12, ground := Ground.phase }, { on := 13, ground := Ground.phase }], guard := none }) rfl (fun K hK => ?_) AllReadyH.nil
      go_simp
      refine hK.out _ _ (unhide HS5) (fun hHeld => ?_)
      clear hK K
      try simp only [Act.put, List.setIfInBounds_toArray, List.set_cons_zero, List.set_cons_succ]
      refine wpAnyH_done (by kernel_rfl) ?_ _
      refine NoPanic.normal ?_
      exact unhide HK _ _ _ _ _ _ _ _ _ _ _ _ _ _ _ _ _ a5 c5 g4 c4 _ (unhide HBN)
end Go.Proofs.Ytmkehjncnaokoaa
