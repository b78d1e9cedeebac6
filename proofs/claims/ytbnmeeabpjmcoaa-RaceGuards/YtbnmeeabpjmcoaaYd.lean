/-
  race.watch.access; race.watch.add whatever the event.
-/
import Derived.Test.YtbnmeeabpjmcoaaYc
namespace Go.Proofs.Ytbnmeeabpjmcoaa
open Go.RowKit

/-- Things lie from 0 to 20. -/
def Objs (l : List Ev) : Prop := ∀ i, i < l.length → 0 ≤ (l.getD i ev0).obj ∧ (l.getD i ev0).obj ≤ 20
theorem hold_out {l : List Ev} (hl : Objs l) (t : Int) {o : Int} (ho : ¬ (0 ≤ o ∧ o ≤ 20)) : ∀ n, n ≤ l.length → holdN l n t o = 0
  | 0, _ => rfl
  | n + 1, hn => by
    show holdS t o (holdN l n t o) _ = 0
    have h := hl n (by omega)
    unfold holdS
    rw [if_neg (fun q => ho (by rw [← q.2]; exact h)), hold_out hl t ho n (by omega)]
/-- What is held at an access, of the first j locks. -/
def dfJ (l : List Ev) (n : Nat) (tk ob : Int) (j : Nat) : Int × Int → Int := fun p => heldN l n p.1 p.2 + if p.1 = ob ∧ 0 ≤ p.2 ∧ p.2 < (j : Int) ∧ 0 < holdN l n tk p.2 then 1 else 0
theorem dfJ_zero (l : List Ev) (n : Nat) (tk ob : Int) : dfJ l n tk ob 0 = heldF l n := by
  funext p
  unfold dfJ heldF
  rw [if_neg (by omega)]
  omega
theorem dfJ_no {l : List Ev} {n : Nat} {tk ob : Int} {j : Nat} (h : ¬ 0 < holdN l n tk (j : Int)) : dfJ l n tk ob (j + 1) = dfJ l n tk ob j := by
  funext p
  unfold dfJ
  by_cases e : p.2 = (j : Int)
  · rw [if_neg (fun q => h (by rw [← e]; exact q.2.2.2)), if_neg (by omega)]
  · have : (p.1 = ob ∧ 0 ≤ p.2 ∧ p.2 < ((j + 1 : Nat) : Int) ∧ 0 < holdN l n tk p.2) ↔ (p.1 = ob ∧ 0 ≤ p.2 ∧ p.2 < (j : Int) ∧ 0 < holdN l n tk p.2) := by omega
    simp only [this]
theorem dfJ_yes {l : List Ev} {n : Nat} {tk ob : Int} {j : Nat} (h : 0 < holdN l n tk (j : Int)) : dfJ l n tk ob (j + 1) = updP (dfJ l n tk ob j) (ob, (j : Int)) (dfJ l n tk ob j (ob, (j : Int)) + 1) := by
  funext p
  unfold updP dfJ
  by_cases e : p = (ob, (j : Int))
  · subst e
    rw [if_pos rfl, if_pos (by dsimp only; omega), if_neg (by dsimp only; omega)]
    dsimp only
    omega
  · rw [if_neg e]
    have : (p.1 = ob ∧ 0 ≤ p.2 ∧ p.2 < ((j + 1 : Nat) : Int) ∧ 0 < holdN l n tk p.2) ↔ (p.1 = ob ∧ 0 ≤ p.2 ∧ p.2 < (j : Int) ∧ 0 < holdN l n tk p.2) := by
      constructor
      · rintro ⟨a, b, c, d⟩
        have : p.2 ≠ (j : Int) := fun q => e (Prod.ext a q)
        exact ⟨a, b, by omega, d⟩
      · rintro ⟨a, b, c, d⟩
        exact ⟨a, b, by omega, d⟩
    simp only [this]
theorem dfJ_all {l : List Ev} {n : Nat} {tk ob : Int} (hl : Objs l) (hn : n < l.length) (ha : isAcc (l.getD n ev0) = true) (ht : (l.getD n ev0).task = tk) (ho : (l.getD n ev0).obj = ob) : dfJ l n tk ob 21 = heldF l (n + 1) := by
  funext p
  show _ = heldN l n p.1 p.2 + _
  unfold dfJ onCell
  rw [ha, ht, ho]
  by_cases h : 0 < holdN l n tk p.2
  · have hr : 0 ≤ p.2 ∧ p.2 ≤ 20 := by
      by_cases q : 0 ≤ p.2 ∧ p.2 ≤ 20
      · exact q
      · rw [hold_out hl tk q n (by omega)] at h; omega
    by_cases e : ob = p.1
    · rw [if_pos ⟨e.symm, hr.1, by omega, h⟩, if_pos (by simp [e, h])]
    · rw [if_neg (fun q => e q.1.symm), if_neg (by simp [e])]
  · rw [if_neg (fun q => h q.2.2.2), if_neg (by simp [h])]
theorem dfJ_nn {l : List Ev} {n : Nat} {tk ob : Int} {j : Nat} (p : Int × Int) : 0 ≤ dfJ l n tk ob j p ∧ dfJ l n tk ob j p ≤ (n : Int) + 1 := by
  have := heldN_nn l n p.1 p.2
  unfold dfJ
  split <;> omega

set_option maxRecDepth 100000 in
set_option maxHeartbeats 4000000 in
theorem watAccess_any (lo : Nat) (w : World) (P H A D : Nat) (l : List Ev) (n : Nat) (hw : WatAt lo w P H A D l n) (tk ob : Int) (ha : isAcc (l.getD n ev0) = true) (ht : (l.getD n ev0).task = tk) (ho : (l.getD n ev0).obj = ob) (hobs : Objs l) (hn : n < l.length) (hn2 : n ≤ 100000) (hop : ¬ ((l.getD n ev0).op = 17) ∧ ¬ ((l.getD n ev0).op = 18)) :
    Calls Try.prog 49 #[.pointer (some ⟨P, 0, none⟩), .int .i64 tk, .int .i64 ob] w fun e w' => e = .returned (.tuple #[]) ∧ WatAt lo w' P H A D l (n + 1) ∧ Below lo w w' := by
  have hlo : lo ≤ w.heap.size := Nat.le_trans hw.lp (Nat.le_of_lt (size_of hw.blk))
  have hob := hobs n hn
  rw [ho] at hob
  obtain ⟨⟨p0, p1, p2, p3⟩, ⟨pf0, pf1, pf2, pf3⟩, pl_⟩ := block4 hw.blk
  obtain ⟨cs, hcs⟩ : ∃ X, cellsN l n = X := ⟨_, rfl⟩
  obtain ⟨z, hz⟩ : ∃ X, max cs (ob + 1) = X := ⟨_, rfl⟩
  have hcs2 : cellsN l (n + 1) = z := by
    show (if isAcc (l.getD n ev0) then _ else _) = z
    rw [if_pos ha, ho, hcs, hz]
  have hac2 : accN l (n + 1) = fun c => if c = ob then accN l n ob + 1 else accN l n c := by
    funext c
    show accN l n c + _ = _
    unfold onCell
    rw [ha, ho]
    by_cases e : c = ob
    · subst e; simp
    · rw [if_neg (by simp [Ne.symm e]), if_neg e]; omega
  have hho2 : holdF l (n + 1) = holdF l n := by
    funext p
    show holdS p.1 p.2 (holdN l n p.1 p.2) _ = holdN l n p.1 p.2
    unfold holdS
    rw [if_neg hop.1, if_neg hop.2]
    split <;> rfl
  have hst1 := hw.blk
  have hW1 : WatF lo (w.setCell ⟨P, 3, none⟩ (.int .i64 z)) P H A D (holdF l n) (accN l n) (heldF l n) z := by
    obtain ⟨ks1, h1⟩ := hw.h
    obtain ⟨ks2, h2, h3, h4⟩ := hw.a
    obtain ⟨ks3, h5⟩ := hw.d
    have hk : ∀ k, k ≠ P → (w.setCell ⟨P, 3, none⟩ (.int .i64 z)).heap[k]? = w.heap[k]? := fun k hk => Below.heap_setCell _ _ _ _ (by simpa using hk)
    refine ⟨?_, ⟨ks1, h1.keep (hk H (Ne.symm hw.ne.1))⟩, ⟨ks2, (hk A (Ne.symm hw.ne.2.1)).trans h2, h3, h4⟩, ⟨ks3, h5.keep (hk D (Ne.symm hw.ne.2.2))⟩, hw.ha, hw.hd, hw.ad, hw.lp, hw.lh, hw.la, hw.ld⟩
    simp [World.setCell, Array.getElem?_modify, hw.blk]
  have hmx : ∀ (w : World) (ts : Array TypeId) (t : TypeId), (Builtin.max_ ts t #[.int .i64 cs, .int .i64 (ob + 1)]).run Try.prog w = .ok (.int .i64 z) w := fun w ts t => by rw [← hz]; exact run_max2w w ts t cs (ob + 1)
  have hb1 : Below lo w (w.setCell ⟨P, 3, none⟩ (.int .i64 z)) := (Below.refl lo w).setCell hw.lp _
  have wo : IntKind.i64.wrap (ob + 1) = ob + 1 := wrapi (by omega) (by omega)
  obtain ⟨ksa, ha1, ha2, ha3⟩ := hW1.a
  have hlka := ms_look (t := 74) (e := 3) Try.underlying74 (z := .int .i64 0) (fun w => by kernel_rfl) (w.setCell ⟨P, 3, none⟩ (.int .i64 z)) A ksa (fun c => .int .i64 (accN l n c)) ha1 (fun c hc => by rw [ha3 c hc]) ob
  obtain ⟨v, hv⟩ : ∃ X, accN l n ob = X := ⟨_, rfl⟩
  have hvn := accN_nn l n ob
  obtain ⟨ksa2, hnd2, hmm2, hup2⟩ := ms_upd (t := 74) (e := 3) Try.underlying74 ksa (fun c => .int .i64 (accN l n c)) ha2 ob (.int .i64 (v + 1))
  have hua := hup2 _ A ha1
  have haf : updI (fun c => (Value.int .i64 (accN l n c))) ob (.int .i64 (v + 1)) = fun c => .int .i64 (accN l (n + 1) c) := by
    funext c
    rw [hac2]
    unfold updI
    by_cases e : c = ob
    · subst e; simp [hv]
    · simp [e]
  rw [haf] at hua
  have hW2 : WatF lo (putObj (w.setCell ⟨P, 3, none⟩ (.int .i64 z)) A (.map (msEnts ksa2 (fun c => .int .i64 (accN l (n + 1) c))) ksa2.length)) P H A D (holdF l n) (accN l (n + 1)) (dfJ l n tk ob 0) z := by
    rw [dfJ_zero]
    refine hW1.setA (heap_putObj_same (size_of ha1)) hnd2 (fun c hc => ?_) (fun k hk => heap_putObj k hk)
    have h1 : c ∉ ksa ∧ c ≠ ob := ⟨fun q => hc ((hmm2 c).2 (Or.inl q)), fun q => hc ((hmm2 c).2 (Or.inr q))⟩
    rw [hac2]
    simp [h1.2, ha3 c h1.1]
  have hb2 : Below lo w (putObj (w.setCell ⟨P, 3, none⟩ (.int .i64 z)) A (.map (msEnts ksa2 (fun c => .int .i64 (accN l (n + 1) c))) ksa2.length)) := below_putObj hb1 hw.la
  obtain ⟨⟨s0, s1, s2, s3⟩, ⟨sf0, sf1, sf2, sf3⟩, sl⟩ := block4 hW1.blk
  obtain ⟨W1, e1⟩ : ∃ X, w.setCell ⟨P, 3, none⟩ (.int .i64 z) = X := ⟨_, rfl⟩
  rw [e1] at hlka hua hW2 hb2 s0 s1 s2 s3 sf0 sf1 sf2 sf3 sl
  obtain ⟨W2, e2⟩ : ∃ X, putObj W1 A (.map (msEnts ksa2 (fun c => .int .i64 (accN l (n + 1) c))) ksa2.length) = X := ⟨_, rfl⟩
  rw [e2] at hua hW2 hb2
  rw [hv] at hlka hvn
  rw [hcs] at p3
  have wv : IntKind.i64.wrap (v + 1) = v + 1 := wrapi (by omega) (by omega)
  have HW2 := hide hW2; have HB2 := hide hb2; have HE1 := hide e1
  have HLO := hide hlo
  have HDA := hide (dfJ_all hobs hn ha ht ho)
  have HCS := hide hcs2; have HHO := hide hho2
  clear hW2 hb2 e1 e2 hw hW1 hst1 hb1 ha1 ha2 ha3 hup2 hmm2 hnd2 haf hac2 hz hcs hcs2 hho2 hv hlo hobs ha ht ho hop hvn
  go_enter Try.func49, Try.ntmps49
  go_upto_region 1 with fail
  rw [unhide HE1]
  clear HE1 p0 p1 p2 p3 pf0 pf1 pf2 pf3 pl_
  go_wp2_with fail
  clear s0 s1 s2 s3 sf0 sf1 sf2 sf3 sl hlka hua hmx
  go_loopw [24] (fun i wr => ∃ j : Nat, j ≤ 21 ∧ i = .int .i64 (j : Int) ∧ Hid (WatF lo wr P H A D (holdF l n) (accN l (n + 1)) (dfJ l n tk ob j) z) ∧ Hid (Below lo w wr)) (fun i _ => 21 - (intOf i).toNat)
  case atStart => exact ⟨0, Nat.zero_le _, rfl, HW2, HB2⟩
  case round =>
    obtain ⟨j, hj, rfl, HWj, HBj⟩ := hrel
    by_cases hlt : j < 21
    · have i0 : (0 : Int) ≤ (j : Int) := by omega
      have i1 : (j : Int) < 21 := by omega
      have hw1 : IntKind.i64.wrap ((j : Int) + 1) = (j : Int) + 1 := wrapi (by omega) (by omega)
      obtain ⟨⟨s0, s1, s2, s3⟩, ⟨sf0, sf1, sf2, sf3⟩, sl⟩ := block4 (unhide HWj).blk
      obtain ⟨ks, hg⟩ := (unhide HWj).h
      have hlk := g_look hold_two Try.underlying73 hg (tk, (j : Int))
      obtain ⟨y, hy⟩ : ∃ X, holdF l n (tk, (j : Int)) = X := ⟨_, rfl⟩
      have HY := hide (show holdN l n tk (j : Int) = y from hy)
      rw [hy] at hlk
      unfold kv2 at hlk
      clear hg hy
      by_cases hy0 : 0 < y
      · have HDJ := hide (dfJ_yes (l := l) (n := n) (tk := tk) (ob := ob) (j := j) (by rw [unhide HY]; exact hy0))
        obtain ⟨ksd, hd⟩ := (unhide HWj).d
        obtain ⟨x, hx⟩ : ∃ X, dfJ l n tk ob j (ob, (j : Int)) = X := ⟨_, rfl⟩
        have hxn := dfJ_nn (l := l) (n := n) (tk := tk) (ob := ob) (j := j) (ob, (j : Int))
        obtain ⟨ks', s, hE⟩ := g_entry guard_two Try.underlying75 hd.nd hd.zero (ob, (j : Int)) (x + 1)
        obtain ⟨hme, hgm, hes⟩ := hE wr.drew D hd.map
        have hlkd := g_look guard_two Try.underlying75 (hd.keep (drew_at wr D)) (ob, (j : Int))
        have hlkd1 := g_look guard_two Try.underlying75 hgm (ob, (j : Int))
        obtain ⟨W3, e3⟩ : ∃ X, putObj wr.drew D (.map (gEnts ks' (dfJ l n tk ob j)) ks'.length) = X := ⟨_, rfl⟩
        rw [e3] at hme hgm hlkd1
        obtain ⟨hst, hg2⟩ := hes W3 hgm.map
        have hW4 := (unhide HWj).setD hg2 (fun k hk => by rw [heap_putObj k hk, ← e3, heap_putObj k hk]; rfl)
        have hb4 : Below lo w (putObj W3 D (.map (gEnts ks' (updP (dfJ l n tk ob j) (ob, (j : Int)) (x + 1))) ks'.length)) := below_putObj (by rw [← e3]; exact below_putObj (unhide HBj).drew (unhide HWj).ld) (unhide HWj).ld
        rw [show x + 1 = dfJ l n tk ob j (ob, (j : Int)) + 1 by rw [hx], ← unhide HDJ] at hst hW4 hb4
        obtain ⟨W4, e4⟩ : ∃ X, putObj W3 D (.map (gEnts ks' (dfJ l n tk ob (j + 1))) ks'.length) = X := ⟨_, rfl⟩
        rw [e4] at hst hW4 hb4
        rw [hx] at hst hlkd hlkd1 hme hxn
        have HW4 := hide hW4; have HB4 := hide hb4
        have wx : IntKind.i64.wrap (x + 1) = x + 1 := wrapi (by omega) (by omega)
        unfold kv2 at hme hlkd hlkd1
        clear hd hE hgm hes hg2 hW4 hb4 e3 e4 hx HW2 HB2
        go_upto_region 6 with fail
        go_region_law (fail)
        all_goals
          go_wp2_with fail
          go_roundw
          case rel => exact ⟨j + 1, by omega, by go_num, HW4, HB4⟩
          case measure => simp [intOf]; omega
      · have HDJ := hide (dfJ_no (l := l) (n := n) (tk := tk) (ob := ob) (j := j) (by rw [unhide HY]; exact hy0))
        go_wp2_with fail
        go_roundw
        case rel => exact ⟨j + 1, by omega, by go_num, hide (by rw [unhide HDJ]; exact unhide HWj), HBj⟩
        case measure => simp [intOf]; omega
    · obtain rfl : j = 21 := by omega
      have i1 : ¬ ((21 : Nat) : Int) < 21 := by omega
      go_wp2_with fail
      refine bodyPost_end (v := .tuple #[]) (by simp [results, Try.results49]) rfl ⟨rfl, ?_, unhide HBj⟩
      exact (unhide HWj).congr (unhide HHO).symm rfl (unhide HDA) (unhide HCS).symm
end Go.Proofs.Ytbnmeeabpjmcoaa
