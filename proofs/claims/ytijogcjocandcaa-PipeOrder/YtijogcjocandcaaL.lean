/-
  pipe.checkTask, taskmilllaw.taskFault.
-/
import Derived.Test.YtijogcjocandcaaK
namespace Go.Proofs.Ytijogcjocandcaa
open Go.RowKit

/-- What is wrong with a pipe and a task that comes. -/
def taskF (P : Pp) (x : Int) : Int × Int :=
  if (pipeF P).1 ≠ 0 then pipeF P else if x < 1 then (3, -1) else if waitsL P x = true then (10, -1) else if countP P = 5000 then (9, 0) else (0, 0)
theorem pipeF_zero {P : Pp} (h : (pipeF P).1 = 0) : pipeF P = (0, 0) := by
  unfold pipeF at h ⊢
  split
  · rename_i h1; rw [if_pos h1] at h; exact absurd h h1
  · rename_i h1
    rw [if_neg h1] at h
    split
    · rename_i h2; rw [if_pos h2] at h; exact absurd h h2
    · rename_i h2
      rw [if_neg h2] at h
      split
      · rename_i h3; rw [if_pos h3] at h; exact absurd h h3
      · rename_i h3
        rw [if_neg h3] at h
        split
        · rename_i h4; rw [if_pos h4] at h; cases h
        · rfl
theorem set2_block {w : World} {R : Nat} {x y x' y' : Value} {t : TypeId} (h : w.heap[R]? = some (.cells #[x, y] t (0, 0))) : ((w.setCell ⟨R, 0, none⟩ x').setCell ⟨R, 1, none⟩ y').heap[R]? = some (.cells #[x', y'] t (0, 0)) := by
  simp [World.setCell, Array.getElem?_modify, h]

set_option maxRecDepth 100000 in
set_option maxHeartbeats 1000000 in
theorem checkTask_any (w : World) (v : Value) (P : Pp) (x : Int) (h : IsPipe w v P) (hs : Short P) :
    Calls Try.prog 37 #[v, .int .i64 x] w fun e w' => e = .returned (faultV (taskF P x)) ∧ Below w.heap.size w w' := by
  obtain ⟨F0, F1, hF⟩ : ∃ a b, pipeF P = (a, b) := ⟨_, _, rfl⟩
  have HCK : Hid (∀ W, Below w.heap.size w W → Calls Try.prog 12 #[v] W fun e w' => e = .returned (.agg #[.int .i64 F0, .int .i64 F1]) ∧ Below W.heap.size W w') := fun W hW => by
    have := check_any W v P (h.below hW) hs
    rw [hF] at this
    exact this
  obtain ⟨q, hq⟩ : ∃ q, waitsL P x = q := ⟨_, rfl⟩
  have HWT : Hid (∀ W, Below w.heap.size w W → Calls Try.prog 44 #[v, .int .i64 x] W fun e w' => e = .returned (.bool q) ∧ Below W.heap.size W w') := fun W hW => by
    have := waits_any W v P x (h.below hW) hs
    rw [hq] at this
    exact this
  have HCN : Hid (∀ W, Below w.heap.size w W → Calls Try.prog 47 #[v] W fun e w' => e = .returned (.int .i64 (countP P : Nat)) ∧ Below W.heap.size W w') := fun W hW => count_any W v P (h.below hW) hs
  unfold taskF
  rw [hF, hq]
  have hz : F0 = 0 → F1 = 0 := fun h0 => by
    have := pipeF_zero (P := P) (by rw [hF]; exact h0)
    rw [hF] at this
    exact congrArg Prod.snd this
  obtain ⟨cap, items, closed, ss, gs⟩ := P
  have hcn : countP ⟨cap, items, closed, ss, gs⟩ = items.length + ss.length + gs.length := rfl
  rw [hcn] at HCN ⊢
  obtain ⟨a1, c1, a2, c2, a3, c3, rfl, -, -, -⟩ := h.form
  obtain ⟨h1, h2, h3⟩ := hs
  simp only at h1 h2 h3 h HCK HWT HCN ⊢
  generalize items.length = n1 at *
  generalize ss.length = n2 at *
  generalize gs.length = n3 at *
  clear h hF hq hcn items ss gs
  have wl1 : IntKind.i64.wrap ((n1 : Int) + n2) = (n1 : Int) + n2 := wrapi (by omega) (by omega)
  have wl2 : IntKind.i64.wrap ((n1 : Int) + n2 + n3) = (n1 : Int) + n2 + n3 := wrapi (by omega) (by omega)
  obtain ⟨n, hn⟩ : ∃ n, n1 + n2 + n3 = n := ⟨_, rfl⟩
  have HNN := hide hn
  rw [hn] at HCN ⊢
  clear hn
  obtain ⟨R, hR⟩ : ∃ R, (if F0 ≠ 0 then (F0, F1) else if x < 1 then ((3, -1) : Int × Int) else if q = true then (10, -1) else if n = 5000 then (9, 0) else (0, 0)) = R := ⟨_, rfl⟩
  rw [hR]
  have HRR := hide hR
  clear hR
  have HB := hide ((Below.refl w.heap.size w).alloc (Nat.le_refl _) (.cells #[.int .i64 cap, .slice a1 n1 c1, .bool closed, .slice a2 n2 c2, .slice a3 n3 c3] 25) |>.alloc (by simp) (.cells #[.int .i64 0, .int .i64 0] 30))
  have HQ := hide (keep_alloc (new_block w (.cells #[.int .i64 cap, .slice a1 n1 c1, .bool closed, .slice a2 n2 c2, .slice a3 n3 c3] 25)) (.cells #[.int .i64 0, .int .i64 0] 30))
  have HR := hide (new_block (w.alloc (.cells #[.int .i64 cap, .slice a1 n1 c1, .bool closed, .slice a2 n2 c2, .slice a3 n3 c3] 25)) (.cells #[.int .i64 0, .int .i64 0] 30))
  rw [World.size_alloc] at HR
  by_cases z0 : F0 ≠ 0
  · skip
    have hR := unhide HRR
    rw [if_pos z0] at hR
    subst hR
    have y0 : (F0 != 0) = true := by simpa using z0
    clear hz
    clear z0
    go_enter Try.func37, Try.ntmps37
    go_upto_region 1 with fail
    obtain ⟨W0, eW⟩ : ∃ W, (w.alloc (.cells #[.int .i64 cap, .slice a1 n1 c1, .bool closed, .slice a2 n2 c2, .slice a3 n3 c3] 25)).alloc (.cells #[.int .i64 0, .int .i64 0] 30) = W := ⟨_, rfl⟩
    rw [eW] at HB HQ HR ⊢
    clear eW
    obtain ⟨⟨p0, p1, p2, p3, p4⟩, -, pl⟩ := block5 (unhide HQ)
    obtain ⟨r0, r1, f0, f1, rl⟩ := block2 (unhide HR)
    go_upto_region 2 with (go_at_call 12; refine (unhide HCK _ (unhide HB)).mono ?_; rintro e w1 ⟨rfl, hb1⟩; have HB1 := hide (Below.next (unhide HB) hb1 (Nat.le_refl _)); have HQ1 := hide (keep_below (unhide HQ) hb1); have HR1 := hide (keep_below (unhide HR) hb1); clear p0 p1 p2 p3 p4 pl r0 r1 f0 f1 rl hb1)
    have HB2 := hide ((unhide HB1).alloc (unhide HB1).size (.cells #[.int .i64 F0, .int .i64 F1] 30)); have HQ2 := hide (keep_alloc (unhide HQ1) (.cells #[.int .i64 F0, .int .i64 F1] 30)); have HR2 := hide (keep_alloc (unhide HR1) (.cells #[.int .i64 F0, .int .i64 F1] 30)); have HT2 := hide (new_block w1 (.cells #[.int .i64 F0, .int .i64 F1] 30))
    have HG1 := hide (Nat.ne_of_lt (block2 (unhide HR1)).2.2.2.2); have HG2 := hide (unhide HB1).size
    obtain ⟨T, eT⟩ : ∃ T, w1.heap.size = T := ⟨_, rfl⟩
    obtain ⟨W2, eW2⟩ : ∃ W, w1.alloc (.cells #[.int .i64 F0, .int .i64 F1] 30) = W := ⟨_, rfl⟩
    rw [eT, eW2] at HT2; rw [eW2] at HB2 HQ2 HR2; rw [eT] at HG1 HG2; rw [eT, eW2]
    clear eT eW2 HB1 HQ1 HR1 HB HQ HR
    obtain ⟨⟨p0, p1, p2, p3, p4⟩, -, pl⟩ := block5 (unhide HQ2); obtain ⟨r0, r1, f0, f1, rl⟩ := block2 (unhide HR2)
    obtain ⟨t0, t1, g0, g1, tl⟩ := block2 (unhide HT2)
    have n0 := unhide HG1
    have n1' : T ≠ w.heap.size + 1 := Ne.symm n0
    go_wp2_with fail
    exact bodyPost_ret (v := .agg #[.int .i64 F0, .int .i64 F1]) (by simp [results, Try.results37, go_sem, r0, r1]) rfl ⟨rfl, below_set2 (unhide HB2) (Nat.le_succ _) _ _⟩
  · have z1 : F0 = 0 := by simpa using z0
    have z9 := hz z1
    subst z1 z9
    clear hz
    by_cases z2 : x < 1
    · skip
      have hR := unhide HRR
      rw [if_neg z0, if_pos z2] at hR
      subst hR
      clear z0
      go_enter Try.func37, Try.ntmps37
      go_upto_region 1 with fail
      obtain ⟨W0, eW⟩ : ∃ W, (w.alloc (.cells #[.int .i64 cap, .slice a1 n1 c1, .bool closed, .slice a2 n2 c2, .slice a3 n3 c3] 25)).alloc (.cells #[.int .i64 0, .int .i64 0] 30) = W := ⟨_, rfl⟩
      rw [eW] at HB HQ HR ⊢
      clear eW
      obtain ⟨⟨p0, p1, p2, p3, p4⟩, -, pl⟩ := block5 (unhide HQ)
      obtain ⟨r0, r1, f0, f1, rl⟩ := block2 (unhide HR)
      go_upto_region 2 with (go_at_call 12; refine (unhide HCK _ (unhide HB)).mono ?_; rintro e w1 ⟨rfl, hb1⟩; have HB1 := hide (Below.next (unhide HB) hb1 (Nat.le_refl _)); have HQ1 := hide (keep_below (unhide HQ) hb1); have HR1 := hide (keep_below (unhide HR) hb1); clear p0 p1 p2 p3 p4 pl r0 r1 f0 f1 rl hb1)
      have HB2 := hide ((unhide HB1).alloc (unhide HB1).size (.cells #[.int .i64 0, .int .i64 0] 30)); have HQ2 := hide (keep_alloc (unhide HQ1) (.cells #[.int .i64 0, .int .i64 0] 30)); have HR2 := hide (keep_alloc (unhide HR1) (.cells #[.int .i64 0, .int .i64 0] 30)); have HT2 := hide (new_block w1 (.cells #[.int .i64 0, .int .i64 0] 30))
      have HG1 := hide (Nat.ne_of_lt (block2 (unhide HR1)).2.2.2.2); have HG2 := hide (unhide HB1).size
      obtain ⟨T, eT⟩ : ∃ T, w1.heap.size = T := ⟨_, rfl⟩
      obtain ⟨W2, eW2⟩ : ∃ W, w1.alloc (.cells #[.int .i64 0, .int .i64 0] 30) = W := ⟨_, rfl⟩
      rw [eT, eW2] at HT2; rw [eW2] at HB2 HQ2 HR2; rw [eT] at HG1 HG2; rw [eT, eW2]
      clear eT eW2 HB1 HQ1 HR1 HB HQ HR
      obtain ⟨⟨p0, p1, p2, p3, p4⟩, -, pl⟩ := block5 (unhide HQ2); obtain ⟨r0, r1, f0, f1, rl⟩ := block2 (unhide HR2)
      obtain ⟨t0, t1, g0, g1, tl⟩ := block2 (unhide HT2)
      have n0 := unhide HG1
      have n1' : T ≠ w.heap.size + 1 := Ne.symm n0
      go_wp2_with fail
      exact bodyPost_ret (v := .agg #[.int .i64 3, .int .i64 (-1)]) (by simp [results, Try.results37, go_sem, r0, r1]) rfl ⟨rfl, below_set2 (unhide HB2) (Nat.le_succ _) _ _⟩
    · cases q with
      | true =>
        have hR := unhide HRR
        rw [if_neg z0, if_neg z2, if_pos rfl] at hR
        subst hR
        clear z0
        go_enter Try.func37, Try.ntmps37
        go_upto_region 1 with fail
        obtain ⟨W0, eW⟩ : ∃ W, (w.alloc (.cells #[.int .i64 cap, .slice a1 n1 c1, .bool closed, .slice a2 n2 c2, .slice a3 n3 c3] 25)).alloc (.cells #[.int .i64 0, .int .i64 0] 30) = W := ⟨_, rfl⟩
        rw [eW] at HB HQ HR ⊢
        clear eW
        obtain ⟨⟨p0, p1, p2, p3, p4⟩, -, pl⟩ := block5 (unhide HQ)
        obtain ⟨r0, r1, f0, f1, rl⟩ := block2 (unhide HR)
        go_upto_region 2 with (go_at_call 12; refine (unhide HCK _ (unhide HB)).mono ?_; rintro e w1 ⟨rfl, hb1⟩; have HB1 := hide (Below.next (unhide HB) hb1 (Nat.le_refl _)); have HQ1 := hide (keep_below (unhide HQ) hb1); have HR1 := hide (keep_below (unhide HR) hb1); clear p0 p1 p2 p3 p4 pl r0 r1 f0 f1 rl hb1)
        have HB2 := hide ((unhide HB1).alloc (unhide HB1).size (.cells #[.int .i64 0, .int .i64 0] 30)); have HQ2 := hide (keep_alloc (unhide HQ1) (.cells #[.int .i64 0, .int .i64 0] 30)); have HR2 := hide (keep_alloc (unhide HR1) (.cells #[.int .i64 0, .int .i64 0] 30)); have HT2 := hide (new_block w1 (.cells #[.int .i64 0, .int .i64 0] 30))
        have HG1 := hide (Nat.ne_of_lt (block2 (unhide HR1)).2.2.2.2); have HG2 := hide (unhide HB1).size
        obtain ⟨T, eT⟩ : ∃ T, w1.heap.size = T := ⟨_, rfl⟩
        obtain ⟨W2, eW2⟩ : ∃ W, w1.alloc (.cells #[.int .i64 0, .int .i64 0] 30) = W := ⟨_, rfl⟩
        rw [eT, eW2] at HT2; rw [eW2] at HB2 HQ2 HR2; rw [eT] at HG1 HG2; rw [eT, eW2]
        clear eT eW2 HB1 HQ1 HR1 HB HQ HR
        obtain ⟨⟨p0, p1, p2, p3, p4⟩, -, pl⟩ := block5 (unhide HQ2); obtain ⟨r0, r1, f0, f1, rl⟩ := block2 (unhide HR2)
        obtain ⟨t0, t1, g0, g1, tl⟩ := block2 (unhide HT2)
        have n0 := unhide HG1
        have n1' : T ≠ w.heap.size + 1 := Ne.symm n0
        go_wp2_with (first
          | (go_at_call 44; refine (unhide HWT _ (unhide HB2)).mono ?_; rintro e w3 ⟨rfl, hb3⟩; have HB3 := hide (Below.next (unhide HB2) hb3 (Nat.le_refl _)); have HQ3 := hide (keep_below (unhide HQ2) hb3); have HR3 := hide (keep_below (unhide HR2) hb3); have HT3 := hide (keep_below (unhide HT2) hb3); clear p0 p1 p2 p3 p4 pl r0 r1 f0 f1 rl t0 t1 g0 g1 tl hb3; obtain ⟨⟨p0, p1, p2, p3, p4⟩, -, pl⟩ := block5 (unhide HQ3); obtain ⟨r0, r1, f0, f1, rl⟩ := block2 (unhide HR3); obtain ⟨t0, t1, g0, g1, tl⟩ := block2 (unhide HT3))
          )
        exact bodyPost_ret (v := .agg #[.int .i64 10, .int .i64 (-1)]) (by simp [results, Try.results37, go_sem, r0, r1]) rfl ⟨rfl, below_set2 (unhide HB3) (Nat.le_succ _) _ _⟩
      | false =>
        by_cases z3 : n = 5000
        · skip
          have hR := unhide HRR
          rw [if_neg z0, if_neg z2, if_neg (by simp), if_pos z3] at hR
          subst hR
          clear z0
          subst z3
          go_enter Try.func37, Try.ntmps37
          go_upto_region 1 with fail
          obtain ⟨W0, eW⟩ : ∃ W, (w.alloc (.cells #[.int .i64 cap, .slice a1 n1 c1, .bool closed, .slice a2 n2 c2, .slice a3 n3 c3] 25)).alloc (.cells #[.int .i64 0, .int .i64 0] 30) = W := ⟨_, rfl⟩
          rw [eW] at HB HQ HR ⊢
          clear eW
          obtain ⟨⟨p0, p1, p2, p3, p4⟩, -, pl⟩ := block5 (unhide HQ)
          obtain ⟨r0, r1, f0, f1, rl⟩ := block2 (unhide HR)
          go_upto_region 2 with (go_at_call 12; refine (unhide HCK _ (unhide HB)).mono ?_; rintro e w1 ⟨rfl, hb1⟩; have HB1 := hide (Below.next (unhide HB) hb1 (Nat.le_refl _)); have HQ1 := hide (keep_below (unhide HQ) hb1); have HR1 := hide (keep_below (unhide HR) hb1); clear p0 p1 p2 p3 p4 pl r0 r1 f0 f1 rl hb1)
          have HB2 := hide ((unhide HB1).alloc (unhide HB1).size (.cells #[.int .i64 0, .int .i64 0] 30)); have HQ2 := hide (keep_alloc (unhide HQ1) (.cells #[.int .i64 0, .int .i64 0] 30)); have HR2 := hide (keep_alloc (unhide HR1) (.cells #[.int .i64 0, .int .i64 0] 30)); have HT2 := hide (new_block w1 (.cells #[.int .i64 0, .int .i64 0] 30))
          have HG1 := hide (Nat.ne_of_lt (block2 (unhide HR1)).2.2.2.2); have HG2 := hide (unhide HB1).size
          obtain ⟨T, eT⟩ : ∃ T, w1.heap.size = T := ⟨_, rfl⟩
          obtain ⟨W2, eW2⟩ : ∃ W, w1.alloc (.cells #[.int .i64 0, .int .i64 0] 30) = W := ⟨_, rfl⟩
          rw [eT, eW2] at HT2; rw [eW2] at HB2 HQ2 HR2; rw [eT] at HG1 HG2; rw [eT, eW2]
          clear eT eW2 HB1 HQ1 HR1 HB HQ HR
          obtain ⟨⟨p0, p1, p2, p3, p4⟩, -, pl⟩ := block5 (unhide HQ2); obtain ⟨r0, r1, f0, f1, rl⟩ := block2 (unhide HR2)
          obtain ⟨t0, t1, g0, g1, tl⟩ := block2 (unhide HT2)
          have n0 := unhide HG1
          have n1' : T ≠ w.heap.size + 1 := Ne.symm n0
          go_wp2_with (first
            | (go_at_call 44; refine (unhide HWT _ (unhide HB2)).mono ?_; rintro e w3 ⟨rfl, hb3⟩; have HB3 := hide (Below.next (unhide HB2) hb3 (Nat.le_refl _)); have HQ3 := hide (keep_below (unhide HQ2) hb3); have HR3 := hide (keep_below (unhide HR2) hb3); have HT3 := hide (keep_below (unhide HT2) hb3); clear p0 p1 p2 p3 p4 pl r0 r1 f0 f1 rl t0 t1 g0 g1 tl hb3; obtain ⟨⟨p0, p1, p2, p3, p4⟩, -, pl⟩ := block5 (unhide HQ3); obtain ⟨r0, r1, f0, f1, rl⟩ := block2 (unhide HR3); obtain ⟨t0, t1, g0, g1, tl⟩ := block2 (unhide HT3))
            | (go_at_call 47; refine (unhide HCN _ (unhide HB3)).mono ?_; rintro e w4 ⟨rfl, hb4⟩; have HB4 := hide (Below.next (unhide HB3) hb4 (Nat.le_refl _)); have HQ4 := hide (keep_below (unhide HQ3) hb4); have HR4 := hide (keep_below (unhide HR3) hb4); have HT4 := hide (keep_below (unhide HT3) hb4); clear p0 p1 p2 p3 p4 pl r0 r1 f0 f1 rl t0 t1 g0 g1 tl hb4; obtain ⟨⟨p0, p1, p2, p3, p4⟩, -, pl⟩ := block5 (unhide HQ4); obtain ⟨r0, r1, f0, f1, rl⟩ := block2 (unhide HR4); obtain ⟨t0, t1, g0, g1, tl⟩ := block2 (unhide HT4))
            )
          exact bodyPost_ret (v := .agg #[.int .i64 9, .int .i64 0]) (by simp [results, Try.results37, go_sem, r0, r1]) rfl ⟨rfl, below_set2 (unhide HB4) (Nat.le_succ _) _ _⟩
        · skip
          have hR := unhide HRR
          rw [if_neg z0, if_neg z2, if_neg (by simp), if_neg z3] at hR
          subst hR
          clear z0
          have y3 : ((n : Int) == 5000) = false := by simp; omega
          clear z3
          go_enter Try.func37, Try.ntmps37
          go_upto_region 1 with fail
          obtain ⟨W0, eW⟩ : ∃ W, (w.alloc (.cells #[.int .i64 cap, .slice a1 n1 c1, .bool closed, .slice a2 n2 c2, .slice a3 n3 c3] 25)).alloc (.cells #[.int .i64 0, .int .i64 0] 30) = W := ⟨_, rfl⟩
          rw [eW] at HB HQ HR ⊢
          clear eW
          obtain ⟨⟨p0, p1, p2, p3, p4⟩, -, pl⟩ := block5 (unhide HQ)
          obtain ⟨r0, r1, f0, f1, rl⟩ := block2 (unhide HR)
          go_upto_region 2 with (go_at_call 12; refine (unhide HCK _ (unhide HB)).mono ?_; rintro e w1 ⟨rfl, hb1⟩; have HB1 := hide (Below.next (unhide HB) hb1 (Nat.le_refl _)); have HQ1 := hide (keep_below (unhide HQ) hb1); have HR1 := hide (keep_below (unhide HR) hb1); clear p0 p1 p2 p3 p4 pl r0 r1 f0 f1 rl hb1)
          have HB2 := hide ((unhide HB1).alloc (unhide HB1).size (.cells #[.int .i64 0, .int .i64 0] 30)); have HQ2 := hide (keep_alloc (unhide HQ1) (.cells #[.int .i64 0, .int .i64 0] 30)); have HR2 := hide (keep_alloc (unhide HR1) (.cells #[.int .i64 0, .int .i64 0] 30)); have HT2 := hide (new_block w1 (.cells #[.int .i64 0, .int .i64 0] 30))
          have HG1 := hide (Nat.ne_of_lt (block2 (unhide HR1)).2.2.2.2); have HG2 := hide (unhide HB1).size
          obtain ⟨T, eT⟩ : ∃ T, w1.heap.size = T := ⟨_, rfl⟩
          obtain ⟨W2, eW2⟩ : ∃ W, w1.alloc (.cells #[.int .i64 0, .int .i64 0] 30) = W := ⟨_, rfl⟩
          rw [eT, eW2] at HT2; rw [eW2] at HB2 HQ2 HR2; rw [eT] at HG1 HG2; rw [eT, eW2]
          clear eT eW2 HB1 HQ1 HR1 HB HQ HR
          obtain ⟨⟨p0, p1, p2, p3, p4⟩, -, pl⟩ := block5 (unhide HQ2); obtain ⟨r0, r1, f0, f1, rl⟩ := block2 (unhide HR2)
          obtain ⟨t0, t1, g0, g1, tl⟩ := block2 (unhide HT2)
          have n0 := unhide HG1
          have n1' : T ≠ w.heap.size + 1 := Ne.symm n0
          go_wp2_with (first
            | (go_at_call 44; refine (unhide HWT _ (unhide HB2)).mono ?_; rintro e w3 ⟨rfl, hb3⟩; have HB3 := hide (Below.next (unhide HB2) hb3 (Nat.le_refl _)); have HQ3 := hide (keep_below (unhide HQ2) hb3); have HR3 := hide (keep_below (unhide HR2) hb3); have HT3 := hide (keep_below (unhide HT2) hb3); clear p0 p1 p2 p3 p4 pl r0 r1 f0 f1 rl t0 t1 g0 g1 tl hb3; obtain ⟨⟨p0, p1, p2, p3, p4⟩, -, pl⟩ := block5 (unhide HQ3); obtain ⟨r0, r1, f0, f1, rl⟩ := block2 (unhide HR3); obtain ⟨t0, t1, g0, g1, tl⟩ := block2 (unhide HT3))
            | (go_at_call 47; refine (unhide HCN _ (unhide HB3)).mono ?_; rintro e w4 ⟨rfl, hb4⟩; have HB4 := hide (Below.next (unhide HB3) hb4 (Nat.le_refl _)); have HQ4 := hide (keep_below (unhide HQ3) hb4); have HR4 := hide (keep_below (unhide HR3) hb4); have HT4 := hide (keep_below (unhide HT3) hb4); clear p0 p1 p2 p3 p4 pl r0 r1 f0 f1 rl t0 t1 g0 g1 tl hb4; obtain ⟨⟨p0, p1, p2, p3, p4⟩, -, pl⟩ := block5 (unhide HQ4); obtain ⟨r0, r1, f0, f1, rl⟩ := block2 (unhide HR4); obtain ⟨t0, t1, g0, g1, tl⟩ := block2 (unhide HT4))
            )
          exact bodyPost_ret (v := .agg #[.int .i64 0, .int .i64 0]) (by simp [results, Try.results37, go_sem, r0, r1]) rfl ⟨rfl, below_set2 (unhide HB4) (Nat.le_succ _) _ _⟩

set_option maxRecDepth 100000 in
set_option maxHeartbeats 1000000 in
theorem taskFault_any (w : World) (v : Value) (P : Pp) (x : Int) (h : IsPipe w v P) (hs : Short P) :
    Calls Try.prog 19 #[v, .int .i64 x] w fun e w' => e = .returned (faultV (taskF P x)) ∧ Below w.heap.size w w' := by
  obtain ⟨F0, F1, hF⟩ : ∃ a b, pipeF P = (a, b) := ⟨_, _, rfl⟩
  have HCK : Hid (∀ W, Below w.heap.size w W → Calls Try.prog 14 #[v] W fun e w' => e = .returned (.agg #[.int .i64 F0, .int .i64 F1]) ∧ Below W.heap.size W w') := fun W hW => by
    have := pfault_any W v P (h.below hW) hs
    rw [hF] at this
    exact this
  obtain ⟨q, hq⟩ : ∃ q, waitsL P x = q := ⟨_, rfl⟩
  have HWT : Hid (∀ W, Below w.heap.size w W → Calls Try.prog 25 #[v, .int .i64 x] W fun e w' => e = .returned (.bool q) ∧ Below W.heap.size W w') := fun W hW => by
    have := waitsAt_any W v P x (h.below hW) hs
    rw [hq] at this
    exact this
  have HCN : Hid (∀ W, Below w.heap.size w W → Calls Try.prog 47 #[v] W fun e w' => e = .returned (.int .i64 (countP P : Nat)) ∧ Below W.heap.size W w') := fun W hW => count_any W v P (h.below hW) hs
  unfold taskF
  rw [hF, hq]
  have hz : F0 = 0 → F1 = 0 := fun h0 => by
    have := pipeF_zero (P := P) (by rw [hF]; exact h0)
    rw [hF] at this
    exact congrArg Prod.snd this
  obtain ⟨cap, items, closed, ss, gs⟩ := P
  have hcn : countP ⟨cap, items, closed, ss, gs⟩ = items.length + ss.length + gs.length := rfl
  rw [hcn] at HCN ⊢
  obtain ⟨a1, c1, a2, c2, a3, c3, rfl, -, -, -⟩ := h.form
  obtain ⟨h1, h2, h3⟩ := hs
  simp only at h1 h2 h3 h HCK HWT HCN ⊢
  generalize items.length = n1 at *
  generalize ss.length = n2 at *
  generalize gs.length = n3 at *
  clear h hF hq hcn items ss gs
  have wl1 : IntKind.i64.wrap ((n1 : Int) + n2) = (n1 : Int) + n2 := wrapi (by omega) (by omega)
  have wl2 : IntKind.i64.wrap ((n1 : Int) + n2 + n3) = (n1 : Int) + n2 + n3 := wrapi (by omega) (by omega)
  obtain ⟨n, hn⟩ : ∃ n, n1 + n2 + n3 = n := ⟨_, rfl⟩
  have HNN := hide hn
  rw [hn] at HCN ⊢
  clear hn
  obtain ⟨R, hR⟩ : ∃ R, (if F0 ≠ 0 then (F0, F1) else if x < 1 then ((3, -1) : Int × Int) else if q = true then (10, -1) else if n = 5000 then (9, 0) else (0, 0)) = R := ⟨_, rfl⟩
  rw [hR]
  have HRR := hide hR
  clear hR
  have HB := hide ((Below.refl w.heap.size w).alloc (Nat.le_refl _) (.cells #[.int .i64 cap, .slice a1 n1 c1, .bool closed, .slice a2 n2 c2, .slice a3 n3 c3] 25) |>.alloc (by simp) (.cells #[.int .i64 0, .int .i64 0] 30))
  have HQ := hide (keep_alloc (new_block w (.cells #[.int .i64 cap, .slice a1 n1 c1, .bool closed, .slice a2 n2 c2, .slice a3 n3 c3] 25)) (.cells #[.int .i64 0, .int .i64 0] 30))
  have HR := hide (new_block (w.alloc (.cells #[.int .i64 cap, .slice a1 n1 c1, .bool closed, .slice a2 n2 c2, .slice a3 n3 c3] 25)) (.cells #[.int .i64 0, .int .i64 0] 30))
  rw [World.size_alloc] at HR
  by_cases z0 : F0 ≠ 0
  · skip
    have hR := unhide HRR
    rw [if_pos z0] at hR
    subst hR
    have y0 : (F0 == 0) = false := by simpa using z0
    clear hz
    clear z0
    go_enter Try.func19, Try.ntmps19
    go_upto_region 1 with fail
    obtain ⟨W0, eW⟩ : ∃ W, (w.alloc (.cells #[.int .i64 cap, .slice a1 n1 c1, .bool closed, .slice a2 n2 c2, .slice a3 n3 c3] 25)).alloc (.cells #[.int .i64 0, .int .i64 0] 30) = W := ⟨_, rfl⟩
    rw [eW] at HB HQ HR ⊢
    clear eW
    obtain ⟨⟨p0, p1, p2, p3, p4⟩, -, pl⟩ := block5 (unhide HQ)
    obtain ⟨r0, r1, f0, f1, rl⟩ := block2 (unhide HR)
    go_upto_region 2 with (go_at_call 14; refine (unhide HCK _ (unhide HB)).mono ?_; rintro e w1 ⟨rfl, hb1⟩; have HB1 := hide (Below.next (unhide HB) hb1 (Nat.le_refl _)); have HQ1 := hide (keep_below (unhide HQ) hb1); have HR1 := hide (keep_below (unhide HR) hb1); clear p0 p1 p2 p3 p4 pl r0 r1 f0 f1 rl hb1)
    have HB2 := hide ((unhide HB1).alloc (unhide HB1).size (.cells #[.int .i64 F0, .int .i64 F1] 30)); have HQ2 := hide (keep_alloc (unhide HQ1) (.cells #[.int .i64 F0, .int .i64 F1] 30)); have HR2 := hide (keep_alloc (unhide HR1) (.cells #[.int .i64 F0, .int .i64 F1] 30)); have HT2 := hide (new_block w1 (.cells #[.int .i64 F0, .int .i64 F1] 30))
    have HG1 := hide (Nat.ne_of_lt (block2 (unhide HR1)).2.2.2.2); have HG2 := hide (unhide HB1).size
    obtain ⟨T, eT⟩ : ∃ T, w1.heap.size = T := ⟨_, rfl⟩
    obtain ⟨W2, eW2⟩ : ∃ W, w1.alloc (.cells #[.int .i64 F0, .int .i64 F1] 30) = W := ⟨_, rfl⟩
    rw [eT, eW2] at HT2; rw [eW2] at HB2 HQ2 HR2; rw [eT] at HG1 HG2; rw [eT, eW2]
    clear eT eW2 HB1 HQ1 HR1 HB HQ HR
    obtain ⟨⟨p0, p1, p2, p3, p4⟩, -, pl⟩ := block5 (unhide HQ2); obtain ⟨r0, r1, f0, f1, rl⟩ := block2 (unhide HR2)
    obtain ⟨t0, t1, g0, g1, tl⟩ := block2 (unhide HT2)
    have n0 := unhide HG1
    have n1' : T ≠ w.heap.size + 1 := Ne.symm n0
    go_wp2_with fail
    exact bodyPost_ret (v := .agg #[.int .i64 F0, .int .i64 F1]) (by simp [results, Try.results19, go_sem, r0, r1]) rfl ⟨rfl, below_set2 (unhide HB2) (Nat.le_succ _) _ _⟩
  · have z1 : F0 = 0 := by simpa using z0
    have z9 := hz z1
    subst z1 z9
    clear hz
    by_cases z2 : x < 1
    · skip
      have hR := unhide HRR
      rw [if_neg z0, if_pos z2] at hR
      subst hR
      clear z0
      go_enter Try.func19, Try.ntmps19
      go_upto_region 1 with fail
      obtain ⟨W0, eW⟩ : ∃ W, (w.alloc (.cells #[.int .i64 cap, .slice a1 n1 c1, .bool closed, .slice a2 n2 c2, .slice a3 n3 c3] 25)).alloc (.cells #[.int .i64 0, .int .i64 0] 30) = W := ⟨_, rfl⟩
      rw [eW] at HB HQ HR ⊢
      clear eW
      obtain ⟨⟨p0, p1, p2, p3, p4⟩, -, pl⟩ := block5 (unhide HQ)
      obtain ⟨r0, r1, f0, f1, rl⟩ := block2 (unhide HR)
      go_upto_region 2 with (go_at_call 14; refine (unhide HCK _ (unhide HB)).mono ?_; rintro e w1 ⟨rfl, hb1⟩; have HB1 := hide (Below.next (unhide HB) hb1 (Nat.le_refl _)); have HQ1 := hide (keep_below (unhide HQ) hb1); have HR1 := hide (keep_below (unhide HR) hb1); clear p0 p1 p2 p3 p4 pl r0 r1 f0 f1 rl hb1)
      have HB2 := hide ((unhide HB1).alloc (unhide HB1).size (.cells #[.int .i64 0, .int .i64 0] 30)); have HQ2 := hide (keep_alloc (unhide HQ1) (.cells #[.int .i64 0, .int .i64 0] 30)); have HR2 := hide (keep_alloc (unhide HR1) (.cells #[.int .i64 0, .int .i64 0] 30)); have HT2 := hide (new_block w1 (.cells #[.int .i64 0, .int .i64 0] 30))
      have HG1 := hide (Nat.ne_of_lt (block2 (unhide HR1)).2.2.2.2); have HG2 := hide (unhide HB1).size
      obtain ⟨T, eT⟩ : ∃ T, w1.heap.size = T := ⟨_, rfl⟩
      obtain ⟨W2, eW2⟩ : ∃ W, w1.alloc (.cells #[.int .i64 0, .int .i64 0] 30) = W := ⟨_, rfl⟩
      rw [eT, eW2] at HT2; rw [eW2] at HB2 HQ2 HR2; rw [eT] at HG1 HG2; rw [eT, eW2]
      clear eT eW2 HB1 HQ1 HR1 HB HQ HR
      obtain ⟨⟨p0, p1, p2, p3, p4⟩, -, pl⟩ := block5 (unhide HQ2); obtain ⟨r0, r1, f0, f1, rl⟩ := block2 (unhide HR2)
      obtain ⟨t0, t1, g0, g1, tl⟩ := block2 (unhide HT2)
      have n0 := unhide HG1
      have n1' : T ≠ w.heap.size + 1 := Ne.symm n0
      go_wp2_with (first
        | (go_at_call 26; refine (f_any _ _ _).mono ?_; rintro e w3 ⟨rfl, hb3⟩; have HB3 := hide (Below.next (unhide HB2) hb3 (Nat.le_refl _)); have HQ3 := hide (keep_below (unhide HQ2) hb3); have HR3 := hide (keep_below (unhide HR2) hb3); have HT3 := hide (keep_below (unhide HT2) hb3); clear p0 p1 p2 p3 p4 pl r0 r1 f0 f1 rl t0 t1 g0 g1 tl hb3; obtain ⟨⟨p0, p1, p2, p3, p4⟩, -, pl⟩ := block5 (unhide HQ3); obtain ⟨r0, r1, f0, f1, rl⟩ := block2 (unhide HR3); obtain ⟨t0, t1, g0, g1, tl⟩ := block2 (unhide HT3))
        )
      exact bodyPost_ret (v := .agg #[.int .i64 3, .int .i64 (-1)]) (by simp [results, Try.results19, go_sem, r0, r1]) rfl ⟨rfl, below_set2 (below_set2 (unhide HB3) (unhide HG2) _ _) (Nat.le_succ _) _ _⟩
    · cases q with
      | true =>
        have hR := unhide HRR
        rw [if_neg z0, if_neg z2, if_pos rfl] at hR
        subst hR
        clear z0
        go_enter Try.func19, Try.ntmps19
        go_upto_region 1 with fail
        obtain ⟨W0, eW⟩ : ∃ W, (w.alloc (.cells #[.int .i64 cap, .slice a1 n1 c1, .bool closed, .slice a2 n2 c2, .slice a3 n3 c3] 25)).alloc (.cells #[.int .i64 0, .int .i64 0] 30) = W := ⟨_, rfl⟩
        rw [eW] at HB HQ HR ⊢
        clear eW
        obtain ⟨⟨p0, p1, p2, p3, p4⟩, -, pl⟩ := block5 (unhide HQ)
        obtain ⟨r0, r1, f0, f1, rl⟩ := block2 (unhide HR)
        go_upto_region 2 with (go_at_call 14; refine (unhide HCK _ (unhide HB)).mono ?_; rintro e w1 ⟨rfl, hb1⟩; have HB1 := hide (Below.next (unhide HB) hb1 (Nat.le_refl _)); have HQ1 := hide (keep_below (unhide HQ) hb1); have HR1 := hide (keep_below (unhide HR) hb1); clear p0 p1 p2 p3 p4 pl r0 r1 f0 f1 rl hb1)
        have HB2 := hide ((unhide HB1).alloc (unhide HB1).size (.cells #[.int .i64 0, .int .i64 0] 30)); have HQ2 := hide (keep_alloc (unhide HQ1) (.cells #[.int .i64 0, .int .i64 0] 30)); have HR2 := hide (keep_alloc (unhide HR1) (.cells #[.int .i64 0, .int .i64 0] 30)); have HT2 := hide (new_block w1 (.cells #[.int .i64 0, .int .i64 0] 30))
        have HG1 := hide (Nat.ne_of_lt (block2 (unhide HR1)).2.2.2.2); have HG2 := hide (unhide HB1).size
        obtain ⟨T, eT⟩ : ∃ T, w1.heap.size = T := ⟨_, rfl⟩
        obtain ⟨W2, eW2⟩ : ∃ W, w1.alloc (.cells #[.int .i64 0, .int .i64 0] 30) = W := ⟨_, rfl⟩
        rw [eT, eW2] at HT2; rw [eW2] at HB2 HQ2 HR2; rw [eT] at HG1 HG2; rw [eT, eW2]
        clear eT eW2 HB1 HQ1 HR1 HB HQ HR
        obtain ⟨⟨p0, p1, p2, p3, p4⟩, -, pl⟩ := block5 (unhide HQ2); obtain ⟨r0, r1, f0, f1, rl⟩ := block2 (unhide HR2)
        obtain ⟨t0, t1, g0, g1, tl⟩ := block2 (unhide HT2)
        have n0 := unhide HG1
        have n1' : T ≠ w.heap.size + 1 := Ne.symm n0
        go_wp2_with (first
          | (go_at_call 25; refine (unhide HWT _ (unhide HB2)).mono ?_; rintro e w3 ⟨rfl, hb3⟩; have HB3 := hide (Below.next (unhide HB2) hb3 (Nat.le_refl _)); have HQ3 := hide (keep_below (unhide HQ2) hb3); have HR3 := hide (keep_below (unhide HR2) hb3); have HT3 := hide (keep_below (unhide HT2) hb3); clear p0 p1 p2 p3 p4 pl r0 r1 f0 f1 rl t0 t1 g0 g1 tl hb3; obtain ⟨⟨p0, p1, p2, p3, p4⟩, -, pl⟩ := block5 (unhide HQ3); obtain ⟨r0, r1, f0, f1, rl⟩ := block2 (unhide HR3); obtain ⟨t0, t1, g0, g1, tl⟩ := block2 (unhide HT3))
          | (go_at_call 26; refine (f_any _ _ _).mono ?_; rintro e w4 ⟨rfl, hb4⟩; have HB4 := hide (Below.next (unhide HB3) hb4 (Nat.le_refl _)); have HQ4 := hide (keep_below (unhide HQ3) hb4); have HR4 := hide (keep_below (unhide HR3) hb4); have HT4 := hide (keep_below (unhide HT3) hb4); clear p0 p1 p2 p3 p4 pl r0 r1 f0 f1 rl t0 t1 g0 g1 tl hb4; obtain ⟨⟨p0, p1, p2, p3, p4⟩, -, pl⟩ := block5 (unhide HQ4); obtain ⟨r0, r1, f0, f1, rl⟩ := block2 (unhide HR4); obtain ⟨t0, t1, g0, g1, tl⟩ := block2 (unhide HT4))
          )
        exact bodyPost_ret (v := .agg #[.int .i64 10, .int .i64 (-1)]) (by simp [results, Try.results19, go_sem, r0, r1]) rfl ⟨rfl, below_set2 (below_set2 (unhide HB4) (unhide HG2) _ _) (Nat.le_succ _) _ _⟩
      | false =>
        by_cases z3 : n = 5000
        · skip
          have hR := unhide HRR
          rw [if_neg z0, if_neg z2, if_neg (by simp), if_pos z3] at hR
          subst hR
          have y3 : ((n1 : Int) + n2 + n3 == 5000) = true := by have := unhide HNN; simp; omega
          clear z0 z3
          go_enter Try.func19, Try.ntmps19
          go_upto_region 1 with fail
          obtain ⟨W0, eW⟩ : ∃ W, (w.alloc (.cells #[.int .i64 cap, .slice a1 n1 c1, .bool closed, .slice a2 n2 c2, .slice a3 n3 c3] 25)).alloc (.cells #[.int .i64 0, .int .i64 0] 30) = W := ⟨_, rfl⟩
          rw [eW] at HB HQ HR ⊢
          clear eW
          obtain ⟨⟨p0, p1, p2, p3, p4⟩, -, pl⟩ := block5 (unhide HQ)
          obtain ⟨r0, r1, f0, f1, rl⟩ := block2 (unhide HR)
          go_upto_region 2 with (go_at_call 14; refine (unhide HCK _ (unhide HB)).mono ?_; rintro e w1 ⟨rfl, hb1⟩; have HB1 := hide (Below.next (unhide HB) hb1 (Nat.le_refl _)); have HQ1 := hide (keep_below (unhide HQ) hb1); have HR1 := hide (keep_below (unhide HR) hb1); clear p0 p1 p2 p3 p4 pl r0 r1 f0 f1 rl hb1)
          have HB2 := hide ((unhide HB1).alloc (unhide HB1).size (.cells #[.int .i64 0, .int .i64 0] 30)); have HQ2 := hide (keep_alloc (unhide HQ1) (.cells #[.int .i64 0, .int .i64 0] 30)); have HR2 := hide (keep_alloc (unhide HR1) (.cells #[.int .i64 0, .int .i64 0] 30)); have HT2 := hide (new_block w1 (.cells #[.int .i64 0, .int .i64 0] 30))
          have HG1 := hide (Nat.ne_of_lt (block2 (unhide HR1)).2.2.2.2); have HG2 := hide (unhide HB1).size
          obtain ⟨T, eT⟩ : ∃ T, w1.heap.size = T := ⟨_, rfl⟩
          obtain ⟨W2, eW2⟩ : ∃ W, w1.alloc (.cells #[.int .i64 0, .int .i64 0] 30) = W := ⟨_, rfl⟩
          rw [eT, eW2] at HT2; rw [eW2] at HB2 HQ2 HR2; rw [eT] at HG1 HG2; rw [eT, eW2]
          clear eT eW2 HB1 HQ1 HR1 HB HQ HR
          obtain ⟨⟨p0, p1, p2, p3, p4⟩, -, pl⟩ := block5 (unhide HQ2); obtain ⟨r0, r1, f0, f1, rl⟩ := block2 (unhide HR2)
          obtain ⟨t0, t1, g0, g1, tl⟩ := block2 (unhide HT2)
          have n0 := unhide HG1
          have n1' : T ≠ w.heap.size + 1 := Ne.symm n0
          go_wp2_with (first
            | (go_at_call 25; refine (unhide HWT _ (unhide HB2)).mono ?_; rintro e w3 ⟨rfl, hb3⟩; have HB3 := hide (Below.next (unhide HB2) hb3 (Nat.le_refl _)); have HQ3 := hide (keep_below (unhide HQ2) hb3); have HR3 := hide (keep_below (unhide HR2) hb3); have HT3 := hide (keep_below (unhide HT2) hb3); clear p0 p1 p2 p3 p4 pl r0 r1 f0 f1 rl t0 t1 g0 g1 tl hb3; obtain ⟨⟨p0, p1, p2, p3, p4⟩, -, pl⟩ := block5 (unhide HQ3); obtain ⟨r0, r1, f0, f1, rl⟩ := block2 (unhide HR3); obtain ⟨t0, t1, g0, g1, tl⟩ := block2 (unhide HT3))
            | (go_at_call 26; refine (f_any _ _ _).mono ?_; rintro e w4 ⟨rfl, hb4⟩; have HB4 := hide (Below.next (unhide HB3) hb4 (Nat.le_refl _)); have HQ4 := hide (keep_below (unhide HQ3) hb4); have HR4 := hide (keep_below (unhide HR3) hb4); have HT4 := hide (keep_below (unhide HT3) hb4); clear p0 p1 p2 p3 p4 pl r0 r1 f0 f1 rl t0 t1 g0 g1 tl hb4; obtain ⟨⟨p0, p1, p2, p3, p4⟩, -, pl⟩ := block5 (unhide HQ4); obtain ⟨r0, r1, f0, f1, rl⟩ := block2 (unhide HR4); obtain ⟨t0, t1, g0, g1, tl⟩ := block2 (unhide HT4))
            )
          exact bodyPost_ret (v := .agg #[.int .i64 9, .int .i64 0]) (by simp [results, Try.results19, go_sem, r0, r1]) rfl ⟨rfl, below_set2 (below_set2 (unhide HB4) (unhide HG2) _ _) (Nat.le_succ _) _ _⟩
        · skip
          have hR := unhide HRR
          rw [if_neg z0, if_neg z2, if_neg (by simp), if_neg z3] at hR
          subst hR
          have y3 : ((n1 : Int) + n2 + n3 == 5000) = false := by have := unhide HNN; simp; omega
          clear z0 z3
          go_enter Try.func19, Try.ntmps19
          go_upto_region 1 with fail
          obtain ⟨W0, eW⟩ : ∃ W, (w.alloc (.cells #[.int .i64 cap, .slice a1 n1 c1, .bool closed, .slice a2 n2 c2, .slice a3 n3 c3] 25)).alloc (.cells #[.int .i64 0, .int .i64 0] 30) = W := ⟨_, rfl⟩
          rw [eW] at HB HQ HR ⊢
          clear eW
          obtain ⟨⟨p0, p1, p2, p3, p4⟩, -, pl⟩ := block5 (unhide HQ)
          obtain ⟨r0, r1, f0, f1, rl⟩ := block2 (unhide HR)
          go_upto_region 2 with (go_at_call 14; refine (unhide HCK _ (unhide HB)).mono ?_; rintro e w1 ⟨rfl, hb1⟩; have HB1 := hide (Below.next (unhide HB) hb1 (Nat.le_refl _)); have HQ1 := hide (keep_below (unhide HQ) hb1); have HR1 := hide (keep_below (unhide HR) hb1); clear p0 p1 p2 p3 p4 pl r0 r1 f0 f1 rl hb1)
          have HB2 := hide ((unhide HB1).alloc (unhide HB1).size (.cells #[.int .i64 0, .int .i64 0] 30)); have HQ2 := hide (keep_alloc (unhide HQ1) (.cells #[.int .i64 0, .int .i64 0] 30)); have HR2 := hide (keep_alloc (unhide HR1) (.cells #[.int .i64 0, .int .i64 0] 30)); have HT2 := hide (new_block w1 (.cells #[.int .i64 0, .int .i64 0] 30))
          have HG1 := hide (Nat.ne_of_lt (block2 (unhide HR1)).2.2.2.2); have HG2 := hide (unhide HB1).size
          obtain ⟨T, eT⟩ : ∃ T, w1.heap.size = T := ⟨_, rfl⟩
          obtain ⟨W2, eW2⟩ : ∃ W, w1.alloc (.cells #[.int .i64 0, .int .i64 0] 30) = W := ⟨_, rfl⟩
          rw [eT, eW2] at HT2; rw [eW2] at HB2 HQ2 HR2; rw [eT] at HG1 HG2; rw [eT, eW2]
          clear eT eW2 HB1 HQ1 HR1 HB HQ HR
          obtain ⟨⟨p0, p1, p2, p3, p4⟩, -, pl⟩ := block5 (unhide HQ2); obtain ⟨r0, r1, f0, f1, rl⟩ := block2 (unhide HR2)
          obtain ⟨t0, t1, g0, g1, tl⟩ := block2 (unhide HT2)
          have n0 := unhide HG1
          have n1' : T ≠ w.heap.size + 1 := Ne.symm n0
          go_wp2_with (first
            | (go_at_call 25; refine (unhide HWT _ (unhide HB2)).mono ?_; rintro e w3 ⟨rfl, hb3⟩; have HB3 := hide (Below.next (unhide HB2) hb3 (Nat.le_refl _)); have HQ3 := hide (keep_below (unhide HQ2) hb3); have HR3 := hide (keep_below (unhide HR2) hb3); have HT3 := hide (keep_below (unhide HT2) hb3); clear p0 p1 p2 p3 p4 pl r0 r1 f0 f1 rl t0 t1 g0 g1 tl hb3; obtain ⟨⟨p0, p1, p2, p3, p4⟩, -, pl⟩ := block5 (unhide HQ3); obtain ⟨r0, r1, f0, f1, rl⟩ := block2 (unhide HR3); obtain ⟨t0, t1, g0, g1, tl⟩ := block2 (unhide HT3))
            )
          exact bodyPost_ret (v := .agg #[.int .i64 0, .int .i64 0]) (by simp [results, Try.results19, go_sem, r0, r1]) rfl ⟨rfl, below_set2 (unhide HB3) (Nat.le_succ _) _ _⟩

end Go.Proofs.Ytijogcjocandcaa
