/-
  taskmillref.Order.
-/
import Derived.Test.YtpgokeogijpmaaaDoorCd
namespace Go.Proofs.YtpgokeogijpmaaaDoor.Mx
open Go.RowKit

def KO : Kind Op4 := ⟨fun o => o.cells, 4, 55, 23, 32, Op4.zero⟩
theorem ko : KO.Ok := by
  refine ⟨fun _ => rfl, fun x u hu => ?_, by decide, by decide, Tryd.underlying23, ?_⟩
  · simp only [KO, Op4.cells, List.mem_cons, List.not_mem_nil, or_false] at hu
    rcases hu with rfl | rfl | rfl | rfl <;> rfl
  · obtain ⟨i0, hi, h0, h1, h2⟩ := info_parts Tryd.info55
    exact ⟨i0, _, hi, h0, h1, h2, rfl⟩
/-- The rows of taskmillref.Order. -/
structure Oi (w W : World) (A n q : Nat) (ats : List Int) (a7 : Option Addr) (c7 : Nat) (os : List Op4) (a8 : Option Addr) (c8 : Nat) (wh : List Int) : Prop where
  be : Below w.heap.size w W
  at' : Own KI w.heap.size W (.slice (some ⟨A, 0, none⟩) n n) ats
  la : ats.length = n
  ops : Own KO w.heap.size W (.slice a7 q c7) os
  who : Own KI w.heap.size W (.slice a8 q c8) wh
  ap : ∀ k, (Value.slice a8 q c8).ownBlock = some k → k ≠ A
theorem Oi.keep {w W W' : World} {A n q : Nat} {ats : List Int} {a7 : Option Addr} {c7 : Nat} {os : List Op4} {a8 : Option Addr} {c8 : Nat} {wh : List Int} (h : Oi w W A n q ats a7 c7 os a8 c8 wh) (hb : Below W.heap.size W W') : Oi w W' A n q ats a7 c7 os a8 c8 wh :=
  ⟨Below.next h.be hb (Nat.le_refl _), h.at'.below hb, h.la, h.ops.below hb, h.who.below hb, h.ap⟩
theorem own_type {α β : Type} {K : Kind α} {L : Kind β} {B B' : Nat} {w : World} {v v' : Value} {xs : List α} {ys : List β} (h : Own K B w v xs) (h' : Own L B' w v' ys) (hne : K.e ≠ L.e) : ∀ k, v.ownBlock = some k → v'.ownBlock ≠ some k := fun k hk hk' => by
  obtain ⟨c1, h1⟩ := own_block h k hk
  obtain ⟨c2, h2⟩ := own_block h' k hk'
  rw [h1] at h2
  injection h2 with h2
  injection h2 with _ h2
  exact hne h2
theorem own_grown {α β : Type} {K : Kind α} {L : Kind β} {B B' : Nat} {w w' : World} {v v' : Value} {xs : List α} {ys : List β} (h : Own K B w v xs) (_h' : Own L B' w v' ys) (hne : ∀ k, v.ownBlock = some k → v'.ownBlock ≠ some k) (o : Obj) (hg : (w.alloc o).grownBy w' v'.ownBlock) : Own K B w' v xs := h.keep fun k hk => (hg.block k (by have := (h.lt k hk).2; rw [World.size_alloc]; omega) (fun e => hne k hk e.symm)).trans (Below.heap_alloc _ _ _ (h.lt k hk).2)

def ordStep (tss : List (List Op4)) (s : List Int × List Op4 × List Int) (t : Nat) : List Int × List Op4 × List Int :=
  if s.1.getD t 0 < ((tss.getD t []).length : Int) then (s.1.set t (s.1.getD t 0 + 1), s.2.1 ++ [opAtD (tss.getD t []) (s.1.getD t 0).toNat], s.2.2 ++ [(t : Int)]) else s
def ordAll (tss : List (List Op4)) : List Int → List Int × List Op4 × List Int → List Int × List Op4 × List Int
  | [], s => s
  | t :: r, s => ordAll tss r (ordStep tss s t.toNat)

def NxO (w : World) (at1 : Option Addr) (n ct : Nat) (ap : Option Addr) (p cp A : Nat) (j : Nat) (q2 : Nat) (ats : List Int) (os : List Op4) (wh : List Int) (N : Act → World → Prop) : Prop := ∀ (s2 s3 s4 s5 s10 s11 s12 s13 s14 s15 s16 s17 s18 s19 s20 s21 s22 s23 s24 s25 s26 s27 s28 s29 s30 s31 s32 s33 s34 s35 s36 s37 s38 s39 s40 s41 s42 s43 s44 s45 s46 s47 s48 s49 s50 s51 s52 s53 s54 s55 s56 s57 s58 : Value) (a7 : Option Addr) (c7 : Nat) (a8 : Option Addr) (c8 : Nat) (W' : World), Oi w W' A n q2 ats a7 c7 os a8 c8 wh → N { tmps := (.slice at1 n ct :: .slice ap p cp :: s2 :: s3 :: s4 :: s5 :: .slice (some ⟨A, 0, none⟩) n n :: .slice a7 q2 c7 :: .slice a8 q2 c8 :: .int .i64 ((j : Int) + 1) :: s10 :: s11 :: s12 :: s13 :: s14 :: s15 :: s16 :: s17 :: s18 :: s19 :: s20 :: s21 :: s22 :: s23 :: s24 :: s25 :: s26 :: s27 :: s28 :: s29 :: s30 :: s31 :: s32 :: s33 :: s34 :: s35 :: s36 :: s37 :: s38 :: s39 :: s40 :: s41 :: s42 :: s43 :: s44 :: s45 :: s46 :: s47 :: s48 :: s49 :: s50 :: s51 :: s52 :: s53 :: s54 :: s55 :: s56 :: s57 :: s58 :: []).toArray, defers := [] } W'

set_option maxRecDepth 100000 in
set_option maxHeartbeats 4000000 in
theorem ord_skip (w : World) (at1 : Option Addr) (n ct : Nat) (ap : Option Addr) (p cp A : Nat) (j : Nat) (ps : List Int) (uts : List Sl) (tss : List (List Op4)) (q : Nat) (ats : List Int) (a7 : Option Addr) (c7 : Nat) (os : List Op4) (a8 : Option Addr) (c8 : Nat) (wh : List Int) (t : Nat) (hj : j < p) (hp : p ≤ 100000) (_hqq : q ≤ 100000) (_hlo : os.length = q) (_hlw : wh.length = q) (ht : ps.getD j 0 = (t : Int)) (htn : t < n) (hn : n ≤ 100000) (Wt : World) (hM : Oi w Wt A n q ats a7 c7 os a8 c8 wh) (hP : IsL KI Wt (.slice ap p cp) ps) (hT : IsTs Wt (.slice at1 n ct) uts tss) (_hlen : (tss.getD t []).length ≤ 100000) (d : Nat) (hd0 : ats.getD t 0 = (d : Int)) (hd : ¬ d < (tss.getD t []).length)
    {s2 s3 s4 s5 s10 s11 s12 s13 s14 s15 s16 s17 s18 s19 s20 s21 s22 s23 s24 s25 s26 s27 s28 s29 s30 s31 s32 s33 s34 s35 s36 s37 s38 s39 s40 s41 s42 s43 s44 s45 s46 s47 s48 s49 s50 s51 s52 s53 s54 s55 s56 s57 s58 : Value} (N : Act → World → Prop) (Q0 : Exit → Act → World → Prop) (b r : Code) (hcut : (Tryd.f22.body.bind (loopFor 0)) = some (b, r)) (hN : NxO w at1 n ct ap p cp A j q ats os wh N) :
    b.wp Tryd.prog (Exit.then N Q0) { tmps := (.slice at1 n ct :: .slice ap p cp :: s2 :: s3 :: s4 :: s5 :: .slice (some ⟨A, 0, none⟩) n n :: .slice a7 q c7 :: .slice a8 q c8 :: .int .i64 (j : Int) :: s10 :: s11 :: s12 :: s13 :: s14 :: s15 :: s16 :: s17 :: s18 :: s19 :: s20 :: s21 :: s22 :: s23 :: s24 :: s25 :: s26 :: s27 :: s28 :: s29 :: s30 :: s31 :: s32 :: s33 :: s34 :: s35 :: s36 :: s37 :: s38 :: s39 :: s40 :: s41 :: s42 :: s43 :: s44 :: s45 :: s46 :: s47 :: s48 :: s49 :: s50 :: s51 :: s52 :: s53 :: s54 :: s55 :: s56 :: s57 :: s58 :: []).toArray, defers := [] } Wt := by
  have hcc : (Tryd.f22.body.bind (loopFor 0)) = some (_, _) := rfl
  rw [hcc] at hcut
  cases hcut
  clear hcc
  have hlp := hP.len
  obtain ⟨b0, o0, rfl, hb0, l0⟩ := hP.opens ki hlp (by omega)
  have c1 := l0.ints (j := j) (by omega)
  rw [ht] at c1
  have hlt := hT.row.len
  have hlu := hT.len
  obtain ⟨b1, o1, rfl, hb1, l1⟩ := hT.row.opens kq hlt (by omega)
  have c2 := l1.sls (j := t) (by omega)
  have hops := hT.each t (by omega)
  obtain ⟨⟨ua, un, uc⟩, eu⟩ : ∃ u, uAt uts t = u := ⟨_, rfl⟩
  rw [eu] at c2 hops
  have hun : un = (tss.getD t []).length := by
    obtain ⟨a', c', e⟩ := Rd.form hops
    unfold sl at e
    injection e
  obtain ⟨c3, f3⟩ := own_inti hM.at' (j := t) (by rw [hM.la]; exact htn)
  rw [hd0] at c3
  have c2' : Wt.cell? ⟨b1, o1 + t, none⟩ = some (.slice ua un uc) := c2
  clear c2
  have i0 : (0 : Int) ≤ (j : Int) := by omega
  have i1 : (j : Int) < (p : Int) := by omega
  have j0 : (0 : Int) ≤ (t : Int) := by omega
  have j1 : (t : Int) < (n : Int) := by omega
  have hwr : IntKind.i64.wrap ((j : Int) + 1) = (j : Int) + 1 := wrapi (by omega) (by omega)
  have HN := hide hN; have HM := hide hM
  have hAl := (hM.at'.lt A rfl).2
  have x1 : ¬ (d : Int) < (un : Int) := by omega
  clear hN hM hP hT l0 l1 hops hlp hlt hlu eu hun hd ht hd0 _hlo _hlw
  go_upto_region 8 with fail
  go_quiet (fail)
  go_wp2_with fail
  exact unhide HN _ _ _ _ _ _ _ _ _ _ _ _ _ _ _ _ _ _ _ _ _ _ _ _ _ _ _ _ _ _ _ _ _ _ _ _ _ _ _ _ _ _ _ _ _ _ _ _ _ _ _ _ _ _ _ _ _ _ ((unhide HM).keep (below_drewN (Below.refl _ _) _))

set_option maxRecDepth 100000 in
set_option maxHeartbeats 4000000 in
theorem ord_go (w : World) (at1 : Option Addr) (n ct : Nat) (ap : Option Addr) (p cp A : Nat) (j : Nat) (ps : List Int) (uts : List Sl) (tss : List (List Op4)) (q : Nat) (ats : List Int) (a7 : Option Addr) (c7 : Nat) (os : List Op4) (a8 : Option Addr) (c8 : Nat) (wh : List Int) (t : Nat) (hj : j < p) (hp : p ≤ 100000) (hqq : q ≤ 100000) (hlo : os.length = q) (hlw : wh.length = q) (ht : ps.getD j 0 = (t : Int)) (htn : t < n) (hn : n ≤ 100000) (Wt : World) (hM : Oi w Wt A n q ats a7 c7 os a8 c8 wh) (hP : IsL KI Wt (.slice ap p cp) ps) (hT : IsTs Wt (.slice at1 n ct) uts tss) (hlen : (tss.getD t []).length ≤ 100000) (d : Nat) (hd0 : ats.getD t 0 = (d : Int)) (hd : d < (tss.getD t []).length)
    {s2 s3 s4 s5 s10 s11 s12 s13 s14 s15 s16 s17 s18 s19 s20 s21 s22 s23 s24 s25 s26 s27 s28 s29 s30 s31 s32 s33 s34 s35 s36 s37 s38 s39 s40 s41 s42 s43 s44 s45 s46 s47 s48 s49 s50 s51 s52 s53 s54 s55 s56 s57 s58 : Value} (N : Act → World → Prop) (Q0 : Exit → Act → World → Prop) (b r : Code) (hcut : (Tryd.f22.body.bind (loopFor 0)) = some (b, r)) (hN : NxO w at1 n ct ap p cp A j (q + 1) (ats.set t ((d : Int) + 1)) (os ++ [opAtD (tss.getD t []) d]) (wh ++ [(t : Int)]) N) :
    b.wp Tryd.prog (Exit.then N Q0) { tmps := (.slice at1 n ct :: .slice ap p cp :: s2 :: s3 :: s4 :: s5 :: .slice (some ⟨A, 0, none⟩) n n :: .slice a7 q c7 :: .slice a8 q c8 :: .int .i64 (j : Int) :: s10 :: s11 :: s12 :: s13 :: s14 :: s15 :: s16 :: s17 :: s18 :: s19 :: s20 :: s21 :: s22 :: s23 :: s24 :: s25 :: s26 :: s27 :: s28 :: s29 :: s30 :: s31 :: s32 :: s33 :: s34 :: s35 :: s36 :: s37 :: s38 :: s39 :: s40 :: s41 :: s42 :: s43 :: s44 :: s45 :: s46 :: s47 :: s48 :: s49 :: s50 :: s51 :: s52 :: s53 :: s54 :: s55 :: s56 :: s57 :: s58 :: []).toArray, defers := [] } Wt := by
  have hcc : (Tryd.f22.body.bind (loopFor 0)) = some (_, _) := rfl
  rw [hcc] at hcut
  cases hcut
  clear hcc
  have hlp := hP.len
  obtain ⟨b0, o0, rfl, hb0, l0⟩ := hP.opens ki hlp (by omega)
  have c1 := l0.ints (j := j) (by omega)
  rw [ht] at c1
  have hlt := hT.row.len
  have hlu := hT.len
  obtain ⟨b1, o1, rfl, hb1, l1⟩ := hT.row.opens kq hlt (by omega)
  have c2 := l1.sls (j := t) (by omega)
  have hops := hT.each t (by omega)
  obtain ⟨⟨ua, un, uc⟩, eu⟩ : ∃ u, uAt uts t = u := ⟨_, rfl⟩
  rw [eu] at c2 hops
  have hun : un = (tss.getD t []).length := by
    obtain ⟨a', c', e⟩ := Rd.form hops
    unfold sl at e
    injection e
  obtain ⟨c3, f3⟩ := own_inti hM.at' (j := t) (by rw [hM.la]; exact htn)
  rw [hd0] at c3
  have c2' : Wt.cell? ⟨b1, o1 + t, none⟩ = some (.slice ua un uc) := c2
  clear c2
  have i0 : (0 : Int) ≤ (j : Int) := by omega
  have i1 : (j : Int) < (p : Int) := by omega
  have j0 : (0 : Int) ≤ (t : Int) := by omega
  have j1 : (t : Int) < (n : Int) := by omega
  have hwr : IntKind.i64.wrap ((j : Int) + 1) = (j : Int) + 1 := wrapi (by omega) (by omega)
  have HN := hide hN; have HM := hide hM
  have hAl := (hM.at'.lt A rfl).2
  have x1 : (d : Int) < (un : Int) := by omega
  have x2 : (0 : Int) ≤ (d : Int) := by omega
  have hwd : IntKind.i64.wrap ((d : Int) + 1) = (d : Int) + 1 := wrapi (by omega) (by omega)
  obtain ⟨b2, o2, c2q, e2, hb2, d0, d1, d2, d3⟩ := IsOps.at hops (by omega)
  unfold sl at e2
  injection e2 with e2 e2n e2c
  simp only at e2 e2n e2c
  clear e2n e2c
  subst e2
  have q0 := d0 d hd
  have q1 := d1 d hd
  have q2 := d2 d hd
  have q3 := d3 d hd
  obtain ⟨⟨k4, p4, a4, b4⟩, eo⟩ : ∃ o, opAtD (tss.getD t []) d = o := ⟨_, rfl⟩
  rw [eo] at q0 q1 q2 q3 HN
  simp only at q0 q1 q2 q3
  have HQ : Hid (∀ W', Below Wt.heap.size Wt W' → (W'.cell? ⟨b1, o1 + t, none⟩ = some (.slice (some ⟨b2, o2, none⟩) un uc) ∧ W'.cell? ⟨A, t, none⟩ = some (.int .i64 (d : Int))) ∧ W'.cell? ⟨b2, o2 + d * 4, none⟩ = some (.int .i64 k4) ∧ W'.cell? ⟨b2, o2 + d * 4 + 1, none⟩ = some (.int .i64 p4) ∧ W'.cell? ⟨b2, o2 + d * 4 + 2, none⟩ = some (.int .i64 a4) ∧ W'.cell? ⟨b2, o2 + d * 4 + 3, none⟩ = some (.int .i64 b4)) := fun W' hb => by
    have hc : ∀ g k x, g < Wt.heap.size → Wt.cell? ⟨g, k, none⟩ = some x → W'.cell? ⟨g, k, none⟩ = some x := fun g k x hg hx => by rw [World.cell?_of_block (w := Wt) (a := ⟨g, k, none⟩) (hb.block g hg)]; exact hx
    exact ⟨⟨hc _ _ _ hb1 c2', hc _ _ _ hAl c3⟩, hc _ _ _ hb2 q0, hc _ _ _ hb2 q1, hc _ _ _ hb2 q2, hc _ _ _ hb2 q3⟩
  have HD0 := hide hd0
  have HLO : Hid (os.length + [(⟨k4, p4, a4, b4⟩ : Op4)].length = q + 1) := by show _ = _; rw [hlo]; rfl
  have HLW : Hid (wh.length + [(t : Int)].length = q + 1) := by show _ = _; rw [hlw]; rfl
  clear hN hM hP hT l0 l1 hops hlp hlt hlu eu hun hd ht hd0 hlo hlw d0 d1 d2 d3 eo
  go_upto_region 8 with fail
  go_quiet (fail)
  clear c1 c2' c3 f3 q0 q1 q2 q3
  have hbd : Below Wt.heap.size Wt (Wt.drewN nq) := below_drewN (Below.refl _ _) _
  have HM1 := hide ((unhide HM).keep hbd)
  have hbs := hbd.size
  obtain ⟨⟨q4, q5⟩, q0, q1, q2, q3⟩ := unhide HQ _ hbd
  obtain ⟨W1, eW1⟩ : ∃ X, Wt.drewN nq = X := ⟨_, rfl⟩
  rw [eW1] at HM1 q0 q1 q2 q3 q4 q5 hbs ⊢
  clear eW1 hbd HM
  go_upto_region 9 with fail
  refine wp_norm ?_
  have HO1 := hide ((unhide HM1).ops.below ((Below.refl _ _).drew.alloc (Nat.le_refl _) (.cells #[.int .i64 k4, .int .i64 p4, .int .i64 a4, .int .i64 b4] 55)))
  have HS1 : Hid (w.heap.size ≤ (W1.drew.alloc (.cells #[.int .i64 k4, .int .i64 p4, .int .i64 a4, .int .i64 b4] 55)).heap.size) := by
    show _ ≤ _
    rw [World.size_alloc]
    exact Nat.le_succ_of_le (unhide HM1).be.size
  go_region_law (refine step_append ko rfl (.tmp 34) (.tmp 45) rfl w.heap.size (.slice a7 q c7) os rfl (unhide HO1) _ [⟨k4, p4, a4, b4⟩] rfl (isl_one ko W1.drew ⟨k4, p4, a4, b4⟩) (q + 1) (unhide HLO) (by show (q + 1) * 32 ≤ 140737488355328; omega) (unhide HS1) ?_; intro a6 c6 w6 ho6 hg6; have HO6 := hide ho6; have HG6 := hide hg6; clear ho6 hg6)
  all_goals
    have hMd : Oi w W1.drew A n q ats a7 c7 os a8 c8 wh := (unhide HM1).keep (Below.refl _ _).drew
    have HA6 := hide (own_grown hMd.at' hMd.ops (own_type hMd.at' hMd.ops (by decide)) _ (unhide HG6))
    have HW6 := hide (own_grown hMd.who hMd.ops (own_type hMd.who hMd.ops (by decide)) _ (unhide HG6))
    have HB6 := hide ((hMd.be.alloc hMd.be.size _).grown (unhide HG6) (unhide HS1) (fun k hk => (hMd.ops.lt k hk).1))
    have hap := hMd.ap
    have hla := hMd.la
    have HAP := hide hap
    clear hMd HM1 HG6 HO1 HS1 q0 q1 q2 q3 q4 q5 hap
    show Exit.then _ _ Exit.normal _ _
    have HW7 := hide ((unhide HW6).below ((Below.refl _ _).alloc (Nat.le_refl _) (.cells #[.int .i64 (t : Int)] 3)))
    have HS7 : Hid (w.heap.size ≤ (w6.alloc (.cells #[.int .i64 (t : Int)] 3)).heap.size) := (by show _ ≤ _; rw [World.size_alloc]; exact Nat.le_succ_of_le (unhide HB6).size)
    go_upto_region 11 with (at_builtin; refine wpList_append2 ki rfl (.tmp 47) (.tmp 49) rfl w.heap.size (.slice a8 q c8) wh rfl (unhide HW7) _ [(t : Int)] rfl (isl_one ki w6 (t : Int)) (q + 1) (unhide HLW) (by show (q + 1) * 8 ≤ 140737488355328; omega) (unhide HS7) ?_; intro a9 c9 w9 ho9 hg9 hl9; have HO9 := hide ho9; have HG9 := hide hg9; have HL9 := hide hl9; clear ho9 hg9 hl9)
    have HA9 := hide (own_grown (unhide HA6) (unhide HW6) (fun k hk e => by cases hk; exact unhide HAP A e rfl) _ (unhide HG9))
    have HP9 := hide (own_grown (unhide HO6) (unhide HW6) (own_type (unhide HO6) (unhide HW6) (by decide)) _ (unhide HG9))
    have HB9 := hide (((unhide HB6).alloc (unhide HB6).size _).grown (unhide HG9) (unhide HS7) (fun k hk => ((unhide HW6).lt k hk).1))
    have HAP9 : Hid (∀ k, (Value.slice a9 (q + 1) c9).ownBlock = some k → k ≠ A) := fun k hk e => by
      rcases unhide HL9 k hk with h1 | h1
      · exact unhide HAP k h1 e
      · have := ((unhide HA6).lt A rfl).2
        rw [World.size_alloc] at h1
        omega
    obtain ⟨g5, g6⟩ := own_inti (unhide HA9) (j := t) (by omega)
    rw [unhide HD0] at g5
    have hAl9 := ((unhide HA9).lt A rfl).2
    clear HG9 HL9 HA6 HW6 HB6 HO6 HW7 HS7 HAP
    have HOI : Hid (Oi w (w9.setCell ⟨A, t, none⟩ (.int .i64 ((d : Int) + 1))) A n (q + 1) (ats.set t ((d : Int) + 1)) a6 c6 (os ++ [⟨k4, p4, a4, b4⟩]) a9 c9 (wh ++ [(t : Int)])) :=
      ⟨below_set (unhide HB9) ((unhide HA9).lt A rfl).1 _, own_seti (unhide HA9) hla t _, by rw [List.length_set]; exact hla, (unhide HP9).keep fun k hk => Below.heap_setCell _ _ _ _ (by have := own_type (unhide HP9) (unhide HA9) (by decide) k hk; intro e; simp only at e; exact this (by rw [e]; rfl)), (unhide HO9).keep fun k hk => Below.heap_setCell _ _ _ _ (by have := unhide HAP9 k hk; simpa using this), unhide HAP9⟩
    go_wp2_with fail
    exact unhide HN _ _ _ _ _ _ _ _ _ _ _ _ _ _ _ _ _ _ _ _ _ _ _ _ _ _ _ _ _ _ _ _ _ _ _ _ _ _ _ _ _ _ _ _ _ _ _ _ _ _ _ _ _ _ _ _ _ _ (unhide HOI)
end Go.Proofs.YtpgokeogijpmaaaDoor.Mx
