/-
  race.watch.add: an event is gone through.
-/
import Derived.Test.YtbnmeeabpjmcoaaYb
namespace Go.Proofs.Ytbnmeeabpjmcoaa
open Go.RowKit

theorem no_acc {l : List Ev} {n : Nat} (h : isAcc (l.getD n ev0) = false) : accN l (n + 1) = accN l n ∧ heldF l (n + 1) = heldF l n ∧ cellsN l (n + 1) = cellsN l n := by
  have hc : ∀ c, onCell l c n = false := fun c => by unfold onCell; rw [h]; rfl
  refine ⟨?_, ?_, ?_⟩
  · funext c
    show accN l n c + _ = _
    rw [hc c]
    simp
  · funext p
    show heldN l n p.1 p.2 + _ = _
    rw [hc p.1]
    simp [heldF]
  · show (if isAcc (l.getD n ev0) then _ else _) = _
    rw [h]
    rfl
theorem below_lo {lo : Nat} {w w' : World} (h : Below w.heap.size w w') (hl : lo ≤ w.heap.size) : Below lo w w' := h.mono hl

set_option maxRecDepth 100000 in
set_option maxHeartbeats 4000000 in
theorem watAdd_lock (lo : Nat) (w : World) (P H A D : Nat) (l : List Ev) (n : Nat) (hw : WatAt lo w P H A D l n) (tk op ob vl : Int) (ex : l.getD n ev0 = ⟨tk, op, ob, vl⟩) (hn : n ≤ 100000) (hop : op = 17) :
    Calls Try.prog 40 #[.pointer (some ⟨P, 0, none⟩), .agg #[.int .i64 tk, .int .i64 op, .int .i64 ob, .int .i64 vl]] w fun e w' => e = .returned (.tuple #[]) ∧ WatAt lo w' P H A D l (n + 1) ∧ Below lo w w' := by
  subst hop
  have hlo : lo ≤ w.heap.size := Nat.le_trans hw.lp (Nat.le_of_lt (size_of hw.blk))
  obtain ⟨W0, e0, hB, k0, k1⟩ := two_new w (.cells #[.int .i64 tk, .int .i64 17, .int .i64 ob, .int .i64 vl] 41 (0, 0)) (.cells #[.int .i64 tk, .int .i64 ob] 92 (0, 0))
  have hW0 := hw.below hB
  obtain ⟨⟨p0, p1, p2, p3⟩, ⟨pf0, pf1, pf2, pf3⟩, pl_⟩ := block4 hW0.blk
  obtain ⟨⟨q0, q1, q2, q3⟩, ⟨f0, f1, f2, f3⟩, ql⟩ := block4 k0
  obtain ⟨n0, n1, nf0, nf1, nl⟩ := block2 k1
  obtain ⟨⟨r0, r1, r2, r3⟩, ⟨g0, g1, g2, g3⟩, rl⟩ := block4 (new_block w (.cells #[.int .i64 tk, .int .i64 17, .int .i64 ob, .int .i64 vl] 41 (0, 0)))
  have HE := hide e0
  obtain ⟨ks, hg⟩ := hW0.h
  obtain ⟨ks', s, hE⟩ := g_entry hold_two Try.underlying73 hg.nd hg.zero (tk, ob) (holdF l n (tk, ob) + 1)
  obtain ⟨hme, hgm, hes⟩ := hE W0.drew H hg.map
  have hlk := g_look hold_two Try.underlying73 (hg.keep (drew_at W0 H)) (tk, ob)
  have hlk1 := g_look hold_two Try.underlying73 hgm (tk, ob)
  obtain ⟨W1, e1⟩ : ∃ X, putObj W0.drew H (.map (gEnts ks' (holdF l n)) ks'.length) = X := ⟨_, rfl⟩
  rw [e1] at hme hgm hlk1
  obtain ⟨hst, hg2⟩ := hes W1 hgm.map
  have hW2 : WatAt lo (putObj W1 H (.map (gEnts ks' (updP (holdF l n) (tk, ob) (holdF l n (tk, ob) + 1))) ks'.length)) P H A D l (n + 1) := by
    have h0 := hW0.setH hg2 (fun k hk => by rw [heap_putObj k hk, ← e1, heap_putObj k hk]; rfl)
    refine h0.congr ?_ ?_ ?_ ?_
    · funext p
      show updP _ _ _ p = holdS p.1 p.2 (holdN l n p.1 p.2) (l.getD n ev0)
      rw [ex]
      unfold updP holdS
      dsimp only
      by_cases e : p = (tk, ob)
      · subst e; simp [holdF]
      · rw [if_neg e, if_neg (fun q => e (by rw [q.1, q.2]))]
        rfl
    all_goals exact (by first | exact (no_acc (l := l) (n := n) (by unfold isAcc; rw [ex]; rfl)).1.symm | exact (no_acc (l := l) (n := n) (by unfold isAcc; rw [ex]; rfl)).2.1.symm | exact (no_acc (l := l) (n := n) (by unfold isAcc; rw [ex]; rfl)).2.2.symm)
  have hb2 : Below lo w (putObj W1 H (.map (gEnts ks' (updP (holdF l n) (tk, ob) (holdF l n (tk, ob) + 1))) ks'.length)) := below_putObj (by rw [← e1]; exact below_putObj (hB.mono hlo).drew hw.lh) hw.lh
  obtain ⟨W2, e2⟩ : ∃ X, putObj W1 H (.map (gEnts ks' (updP (holdF l n) (tk, ob) (holdF l n (tk, ob) + 1))) ks'.length) = X := ⟨_, rfl⟩
  rw [e2] at hst hW2 hb2
  have HW2 := hide hW2; have HB2 := hide hb2
  have hnn := holdN_nn l n tk ob
  obtain ⟨v, hv⟩ : ∃ X, holdF l n (tk, ob) = X := ⟨_, rfl⟩
  have hv' : holdN l n tk ob = v := hv
  rw [hv'] at hnn
  rw [hv] at hst hlk hlk1 hme
  have wv : IntKind.i64.wrap (v + 1) = v + 1 := wrapi (by omega) (by omega)
  unfold kv2 at hme hlk hlk1
  clear e0 hw hW0 hB k0 k1 hg hE hgm hes hg2 hW2 hb2 e1 e2 ex hv hv' hlo
  go_enter Try.func40, Try.ntmps40
  go_upto_region 2 with fail
  rw [unhide HE]
  clear HE r0 r1 r2 r3 g0 g1 g2 g3 rl
  go_upto_region 3 with fail
  go_region_law (fail)
  all_goals
    go_wp2_with fail
    exact bodyPost_end (v := .tuple #[]) (by simp [results, Try.results40]) rfl ⟨rfl, unhide HW2, unhide HB2⟩

set_option maxRecDepth 100000 in
set_option maxHeartbeats 4000000 in
theorem watAdd_unlock (lo : Nat) (w : World) (P H A D : Nat) (l : List Ev) (n : Nat) (hw : WatAt lo w P H A D l n) (tk op ob vl : Int) (ex : l.getD n ev0 = ⟨tk, op, ob, vl⟩) (hn : n ≤ 100000) (hop : op = 18) :
    Calls Try.prog 40 #[.pointer (some ⟨P, 0, none⟩), .agg #[.int .i64 tk, .int .i64 op, .int .i64 ob, .int .i64 vl]] w fun e w' => e = .returned (.tuple #[]) ∧ WatAt lo w' P H A D l (n + 1) ∧ Below lo w w' := by
  subst hop
  have hlo : lo ≤ w.heap.size := Nat.le_trans hw.lp (Nat.le_of_lt (size_of hw.blk))
  obtain ⟨W0, e0, hB, k0, k1⟩ := two_new w (.cells #[.int .i64 tk, .int .i64 18, .int .i64 ob, .int .i64 vl] 41 (0, 0)) (.cells #[.int .i64 tk, .int .i64 ob] 92 (0, 0))
  have hW0 := hw.below hB
  obtain ⟨⟨p0, p1, p2, p3⟩, ⟨pf0, pf1, pf2, pf3⟩, pl_⟩ := block4 hW0.blk
  obtain ⟨⟨q0, q1, q2, q3⟩, ⟨f0, f1, f2, f3⟩, ql⟩ := block4 k0
  obtain ⟨n0, n1, nf0, nf1, nl⟩ := block2 k1
  obtain ⟨⟨r0, r1, r2, r3⟩, ⟨g0, g1, g2, g3⟩, rl⟩ := block4 (new_block w (.cells #[.int .i64 tk, .int .i64 18, .int .i64 ob, .int .i64 vl] 41 (0, 0)))
  have HE := hide e0
  obtain ⟨ks, hg⟩ := hW0.h
  obtain ⟨z, hz⟩ : ∃ X, max 0 (holdF l n (tk, ob) - 1) = X := ⟨_, rfl⟩
  obtain ⟨ks', hE⟩ := g_upd hold_two Try.underlying73 hg.nd hg.zero (tk, ob) z
  obtain ⟨hst, hg2⟩ := hE W0.drew H hg.map
  have hlk := g_look hold_two Try.underlying73 (hg.keep (drew_at W0 H)) (tk, ob)
  have hW2 : WatAt lo (putObj W0.drew H (.map (gEnts ks' (updP (holdF l n) (tk, ob) z)) ks'.length)) P H A D l (n + 1) := by
    have h0 := hW0.setH hg2 (fun k hk => by rw [heap_putObj k hk]; rfl)
    refine h0.congr ?_ ?_ ?_ ?_
    · funext p
      show updP _ _ _ p = holdS p.1 p.2 (holdN l n p.1 p.2) (l.getD n ev0)
      rw [ex]
      unfold updP holdS
      dsimp only
      by_cases e : p = (tk, ob)
      · subst e; simp [← hz, holdF]
      · rw [if_neg e, if_neg (fun q => e (by rw [q.1, q.2]))]
        rfl
    all_goals exact (by first | exact (no_acc (l := l) (n := n) (by unfold isAcc; rw [ex]; rfl)).1.symm | exact (no_acc (l := l) (n := n) (by unfold isAcc; rw [ex]; rfl)).2.1.symm | exact (no_acc (l := l) (n := n) (by unfold isAcc; rw [ex]; rfl)).2.2.symm)
  have hb2 : Below lo w (putObj W0.drew H (.map (gEnts ks' (updP (holdF l n) (tk, ob) z)) ks'.length)) := below_putObj (hB.mono hlo).drew hw.lh
  obtain ⟨W2, e2⟩ : ∃ X, putObj W0.drew H (.map (gEnts ks' (updP (holdF l n) (tk, ob) z)) ks'.length) = X := ⟨_, rfl⟩
  rw [e2] at hst hW2 hb2
  have HW2 := hide hW2; have HB2 := hide hb2
  have hnn := holdN_nn l n tk ob
  obtain ⟨v, hv⟩ : ∃ X, holdF l n (tk, ob) = X := ⟨_, rfl⟩
  have hv' : holdN l n tk ob = v := hv
  rw [hv'] at hnn
  rw [hv] at hlk hz
  have wv : IntKind.i64.wrap (v - 1) = v - 1 := wrapi (by omega) (by omega)
  have hmx : ∀ (w : World) (ts : Array TypeId) (t : TypeId), (Builtin.max_ ts t #[.int .i64 0, .int .i64 (v - 1)]).run Try.prog w = .ok (.int .i64 z) w := fun w ts t => by rw [← hz]; exact run_max2w w ts t 0 (v - 1)
  unfold kv2 at hst hlk
  clear e0 hw hW0 hB k0 k1 hg hE hg2 hW2 hb2 e2 ex hv hv' hlo hz
  go_enter Try.func40, Try.ntmps40
  go_upto_region 2 with fail
  rw [unhide HE]
  clear HE r0 r1 r2 r3 g0 g1 g2 g3 rl
  go_upto_region 5 with fail
  go_region_law (fail)
  all_goals
    go_wp2_with fail
    exact bodyPost_end (v := .tuple #[]) (by simp [results, Try.results40]) rfl ⟨rfl, unhide HW2, unhide HB2⟩

end Go.Proofs.Ytbnmeeabpjmcoaa
