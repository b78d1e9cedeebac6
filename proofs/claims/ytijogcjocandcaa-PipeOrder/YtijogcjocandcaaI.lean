/-
  taskmillref.F and taskmillref.PipeFault.
-/
import Derived.Test.YtijogcjocandcaaH
namespace Go.Proofs.Ytijogcjocandcaa
open Go.RowKit

theorem f_any (w : World) (a b : Int) :
    Calls Try.prog 26 #[.int .i64 a, .int .i64 b] w fun e w' => e = .returned (.agg #[.int .i64 a, .int .i64 b]) ∧ Below w.heap.size w w' := by
  go_enter Try.func26, Try.ntmps26
  go_wp2
  exact bodyPost_ret (v := .agg #[.int .i64 a, .int .i64 b]) (by simp [results, Try.results26, go_sem]) rfl ⟨rfl, ((Below.refl _ _).alloc (Nat.le_refl _) _)⟩

def atOf (ns i : Nat) : Int := if i < ns then 1 else 2
/-- The first post that is wrong, and at which place. -/
def postsP (ns : Nat) (i : Nat) (pre : List Int) : List Po → Int × Int
  | [] => (0, 0)
  | p :: r => if p.1 < 1 ∨ p.2.1 < 0 then (3, atOf ns i) else if pre.contains p.1 = true then (10, atOf ns i) else postsP ns (i + 1) (pre ++ [p.1]) r

theorem postsP_right {ns : Nat} : ∀ (gs : List Po) (i : Nat) (pre : List Int), ns ≤ i → postsP ns i pre gs = if postsC pre gs ≠ 0 then (postsC pre gs, 2) else (0, 0)
  | [], _, _, _ => by simp [postsP, postsC]
  | p :: r, i, pre, h => by
    rw [postsP, postsC]
    have ha : atOf ns i = 2 := by unfold atOf; rw [if_neg (by omega)]
    rw [ha]
    by_cases h1 : p.1 < 1 ∨ p.2.1 < 0
    · rw [if_pos h1, if_pos h1, if_pos (by decide)]
    · rw [if_neg h1, if_neg h1]
      by_cases h2 : pre.contains p.1 = true
      · rw [if_pos h2, if_pos h2, if_pos (by decide)]
      · rw [if_neg h2, if_neg h2]
        exact postsP_right r (i + 1) _ (by omega)
theorem postsP_left {ns : Nat} {gs : List Po} : ∀ (ss : List Po) (i : Nat) (pre : List Int), i + ss.length = ns → postsP ns i pre (ss ++ gs) = if postsC pre ss ≠ 0 then (postsC pre ss, 1) else postsP ns ns (pre ++ tasks ss) gs
  | [], i, pre, h => by
    have : i = ns := by simpa using h
    subst this
    simp [postsC, tasks]
  | p :: r, i, pre, h => by
    rw [List.length_cons] at h
    rw [List.cons_append, postsP, postsC]
    have ha : atOf ns i = 1 := by unfold atOf; rw [if_pos (by omega)]
    rw [ha]
    by_cases h1 : p.1 < 1 ∨ p.2.1 < 0
    · rw [if_pos h1, if_pos h1, if_pos (by decide)]
    · rw [if_neg h1, if_neg h1]
      by_cases h2 : pre.contains p.1 = true
      · rw [if_pos h2, if_pos h2, if_pos (by decide)]
      · rw [if_neg h2, if_neg h2, postsP_left r (i + 1) _ (by omega)]
        simp [tasks]
theorem pipeF_eq {P : Pp} (h : wholeC P.cap P.items.length P.ss.length P.gs.length P.closed = 0) : pipeF P = if (postsP P.ss.length 0 [] (P.ss ++ P.gs)).1 ≠ 0 then postsP P.ss.length 0 [] (P.ss ++ P.gs) else if P.gs.any valuedP = true then (5, 2) else (0, 0) := by
  rw [postsP_left P.ss 0 [] (by simp), postsP_right P.gs _ _ (Nat.le_refl _)]
  unfold pipeF
  rw [if_neg (by simpa using h)]
  by_cases h1 : postsC [] P.ss ≠ 0
  · rw [if_pos h1, if_pos h1, if_pos h1]
  · rw [if_neg h1, if_neg h1, List.nil_append]
    by_cases h2 : postsC (tasks P.ss) P.gs ≠ 0
    · rw [if_pos h2, if_pos h2, if_pos h2]
    · rw [if_neg h2, if_neg h2]
      exact (if_neg (c := ((0, 0) : Int × Int).1 ≠ 0) (by simp)).symm

theorem of_whole {cap : Int} {m s g : Nat} {closed : Bool} (h : wholeC cap m s g closed = 0) : m + s + g ≤ 5000 ∧ 0 ≤ cap ∧ cap ≤ 1000 ∧ (m : Int) ≤ cap ∧ (0 < s → closed = false ∧ (m : Int) = cap ∧ g = 0) ∧ (0 < g → closed = false ∧ m = 0) := by
  unfold wholeC at h
  split at h
  · cases h
  · rename_i h1
    split at h
    · cases h
    · rename_i h2
      split at h
      · cases h
      · rename_i h3
        split at h
        · cases h
        · rename_i h4
          split at h
          · cases h
          · rename_i h5
            refine ⟨by omega, by omega, by omega, by omega, fun hs => ?_, fun hg => ?_⟩
            · cases closed with
              | true => exact absurd ⟨hs, Or.inl rfl⟩ h4
              | false => exact ⟨rfl, by have := fun k => h4 ⟨hs, Or.inr (Or.inl k)⟩; omega, by have := fun k => h4 ⟨hs, Or.inr (Or.inr k)⟩; omega⟩
            · cases closed with
              | true => exact absurd ⟨hg, Or.inl rfl⟩ h5
              | false => exact ⟨rfl, by have := fun k => h5 ⟨hg, Or.inr k⟩; omega⟩

set_option maxRecDepth 100000 in
set_option maxHeartbeats 1000000 in
theorem pf_whole (w : World) (v : Value) (P : Pp) (h : IsPipe w v P) (hs : Short P) (hw : wholeC P.cap P.items.length P.ss.length P.gs.length P.closed ≠ 0) :
    Calls Try.prog 14 #[v] w fun e w' => e = .returned (faultV (wholeC P.cap P.items.length P.ss.length P.gs.length P.closed, 0)) ∧ Below w.heap.size w w' := by
  obtain ⟨cap, items, closed, ss, gs⟩ := P
  obtain ⟨a1, c1, a2, c2, a3, c3, rfl, -, -, -⟩ := h.form
  obtain ⟨h1, h2, h3⟩ := hs
  simp only at h1 h2 h3 h hw ⊢
  generalize items.length = n1 at *
  generalize ss.length = n2 at *
  generalize gs.length = n3 at *
  clear h items ss gs
  have wl1 : IntKind.i64.wrap ((n1 : Int) + n2) = (n1 : Int) + n2 := wrapi (by omega) (by omega)
  have wl2 : IntKind.i64.wrap ((n1 : Int) + n2 + n3) = (n1 : Int) + n2 + n3 := wrapi (by omega) (by omega)
  obtain ⟨r, hr⟩ : ∃ r, wholeC cap n1 n2 n3 closed = r := ⟨_, rfl⟩
  rw [hr] at hw ⊢
  have HRR := hide hr
  clear hr
  by_cases q1 : 5000 < n1 + n2 + n3
  · have p1 : (5000 : Int) < (n1 : Int) + n2 + n3 := by omega
    have hr2 := unhide HRR
    rw [wholeC, if_pos q1] at hr2
    subst hr2
    clear HRR hw
    have HB := hide ((Below.refl w.heap.size w).alloc (Nat.le_refl _) (.cells #[.int .i64 cap, .slice a1 n1 c1, .bool closed, .slice a2 n2 c2, .slice a3 n3 c3] 25) |>.alloc (by simp) (.cells #[.int .i64 0, .int .i64 0] 30))
    have HQ := hide (keep_alloc (new_block w (.cells #[.int .i64 cap, .slice a1 n1 c1, .bool closed, .slice a2 n2 c2, .slice a3 n3 c3] 25)) (.cells #[.int .i64 0, .int .i64 0] 30))
    have HR := hide (new_block (w.alloc (.cells #[.int .i64 cap, .slice a1 n1 c1, .bool closed, .slice a2 n2 c2, .slice a3 n3 c3] 25)) (.cells #[.int .i64 0, .int .i64 0] 30))
    rw [World.size_alloc] at HR
    obtain ⟨⟨p0, p1, p2, p3, p4⟩, -, pl⟩ := block5 (unhide HQ)
    obtain ⟨r0, r1, f0, f1, rl⟩ := block2 (unhide HR)
    go_enter Try.func14, Try.ntmps14
    go_upto_region 1 with fail
    obtain ⟨W0, eW⟩ : ∃ W, (w.alloc (.cells #[.int .i64 cap, .slice a1 n1 c1, .bool closed, .slice a2 n2 c2, .slice a3 n3 c3] 25)).alloc (.cells #[.int .i64 0, .int .i64 0] 30) = W := ⟨_, rfl⟩
    rw [eW] at HB HQ HR p0 p1 p2 p3 p4 pl r0 r1 f0 f1 rl ⊢
    clear eW
    go_wp2_with (go_at_call 26; refine (f_any _ _ _).mono ?_; rintro e w9 ⟨rfl, hb9⟩; have HB9 := hide (Below.next (unhide HB) hb9 (Nat.le_refl _)); have HR9 := hide (keep_below (unhide HR) hb9); clear r0 r1 f0 f1 rl hb9; obtain ⟨r0, r1, f0, f1, rl⟩ := block2 (unhide HR9))
    exact bodyPost_ret (v := .agg #[.int .i64 2, .int .i64 0]) (by simp [results, Try.results14, go_sem, r0, r1]) rfl ⟨rfl, below_set2 (unhide HB9) (Nat.le_succ _) _ _⟩
  · have p1 : ¬ (5000 : Int) < (n1 : Int) + n2 + n3 := by omega
    by_cases q2 : cap < 0
    · skip
      have hr2 := unhide HRR
      rw [wholeC, if_neg q1, if_pos (Or.inl q2)] at hr2
      subst hr2
      clear HRR hw
      have HB := hide ((Below.refl w.heap.size w).alloc (Nat.le_refl _) (.cells #[.int .i64 cap, .slice a1 n1 c1, .bool closed, .slice a2 n2 c2, .slice a3 n3 c3] 25) |>.alloc (by simp) (.cells #[.int .i64 0, .int .i64 0] 30))
      have HQ := hide (keep_alloc (new_block w (.cells #[.int .i64 cap, .slice a1 n1 c1, .bool closed, .slice a2 n2 c2, .slice a3 n3 c3] 25)) (.cells #[.int .i64 0, .int .i64 0] 30))
      have HR := hide (new_block (w.alloc (.cells #[.int .i64 cap, .slice a1 n1 c1, .bool closed, .slice a2 n2 c2, .slice a3 n3 c3] 25)) (.cells #[.int .i64 0, .int .i64 0] 30))
      rw [World.size_alloc] at HR
      obtain ⟨⟨p0, p1, p2, p3, p4⟩, -, pl⟩ := block5 (unhide HQ)
      obtain ⟨r0, r1, f0, f1, rl⟩ := block2 (unhide HR)
      go_enter Try.func14, Try.ntmps14
      go_upto_region 1 with fail
      obtain ⟨W0, eW⟩ : ∃ W, (w.alloc (.cells #[.int .i64 cap, .slice a1 n1 c1, .bool closed, .slice a2 n2 c2, .slice a3 n3 c3] 25)).alloc (.cells #[.int .i64 0, .int .i64 0] 30) = W := ⟨_, rfl⟩
      rw [eW] at HB HQ HR p0 p1 p2 p3 p4 pl r0 r1 f0 f1 rl ⊢
      clear eW
      go_wp2_with (go_at_call 26; refine (f_any _ _ _).mono ?_; rintro e w9 ⟨rfl, hb9⟩; have HB9 := hide (Below.next (unhide HB) hb9 (Nat.le_refl _)); have HR9 := hide (keep_below (unhide HR) hb9); clear r0 r1 f0 f1 rl hb9; obtain ⟨r0, r1, f0, f1, rl⟩ := block2 (unhide HR9))
      exact bodyPost_ret (v := .agg #[.int .i64 3, .int .i64 0]) (by simp [results, Try.results14, go_sem, r0, r1]) rfl ⟨rfl, below_set2 (unhide HB9) (Nat.le_succ _) _ _⟩
    · skip
      by_cases q3 : 1000 < cap
      · skip
        have hr2 := unhide HRR
        rw [wholeC, if_neg q1, if_pos (Or.inr q3)] at hr2
        subst hr2
        clear HRR hw
        have HB := hide ((Below.refl w.heap.size w).alloc (Nat.le_refl _) (.cells #[.int .i64 cap, .slice a1 n1 c1, .bool closed, .slice a2 n2 c2, .slice a3 n3 c3] 25) |>.alloc (by simp) (.cells #[.int .i64 0, .int .i64 0] 30))
        have HQ := hide (keep_alloc (new_block w (.cells #[.int .i64 cap, .slice a1 n1 c1, .bool closed, .slice a2 n2 c2, .slice a3 n3 c3] 25)) (.cells #[.int .i64 0, .int .i64 0] 30))
        have HR := hide (new_block (w.alloc (.cells #[.int .i64 cap, .slice a1 n1 c1, .bool closed, .slice a2 n2 c2, .slice a3 n3 c3] 25)) (.cells #[.int .i64 0, .int .i64 0] 30))
        rw [World.size_alloc] at HR
        obtain ⟨⟨p0, p1, p2, p3, p4⟩, -, pl⟩ := block5 (unhide HQ)
        obtain ⟨r0, r1, f0, f1, rl⟩ := block2 (unhide HR)
        go_enter Try.func14, Try.ntmps14
        go_upto_region 1 with fail
        obtain ⟨W0, eW⟩ : ∃ W, (w.alloc (.cells #[.int .i64 cap, .slice a1 n1 c1, .bool closed, .slice a2 n2 c2, .slice a3 n3 c3] 25)).alloc (.cells #[.int .i64 0, .int .i64 0] 30) = W := ⟨_, rfl⟩
        rw [eW] at HB HQ HR p0 p1 p2 p3 p4 pl r0 r1 f0 f1 rl ⊢
        clear eW
        go_wp2_with (go_at_call 26; refine (f_any _ _ _).mono ?_; rintro e w9 ⟨rfl, hb9⟩; have HB9 := hide (Below.next (unhide HB) hb9 (Nat.le_refl _)); have HR9 := hide (keep_below (unhide HR) hb9); clear r0 r1 f0 f1 rl hb9; obtain ⟨r0, r1, f0, f1, rl⟩ := block2 (unhide HR9))
        exact bodyPost_ret (v := .agg #[.int .i64 3, .int .i64 0]) (by simp [results, Try.results14, go_sem, r0, r1]) rfl ⟨rfl, below_set2 (unhide HB9) (Nat.le_succ _) _ _⟩
      · skip
        by_cases q4 : cap < (n1 : Int)
        · skip
          have hr2 := unhide HRR
          rw [wholeC, if_neg q1, if_neg (fun h => h.elim q2 q3), if_pos q4] at hr2
          subst hr2
          clear HRR hw
          have HB := hide ((Below.refl w.heap.size w).alloc (Nat.le_refl _) (.cells #[.int .i64 cap, .slice a1 n1 c1, .bool closed, .slice a2 n2 c2, .slice a3 n3 c3] 25) |>.alloc (by simp) (.cells #[.int .i64 0, .int .i64 0] 30))
          have HQ := hide (keep_alloc (new_block w (.cells #[.int .i64 cap, .slice a1 n1 c1, .bool closed, .slice a2 n2 c2, .slice a3 n3 c3] 25)) (.cells #[.int .i64 0, .int .i64 0] 30))
          have HR := hide (new_block (w.alloc (.cells #[.int .i64 cap, .slice a1 n1 c1, .bool closed, .slice a2 n2 c2, .slice a3 n3 c3] 25)) (.cells #[.int .i64 0, .int .i64 0] 30))
          rw [World.size_alloc] at HR
          obtain ⟨⟨p0, p1, p2, p3, p4⟩, -, pl⟩ := block5 (unhide HQ)
          obtain ⟨r0, r1, f0, f1, rl⟩ := block2 (unhide HR)
          go_enter Try.func14, Try.ntmps14
          go_upto_region 1 with fail
          obtain ⟨W0, eW⟩ : ∃ W, (w.alloc (.cells #[.int .i64 cap, .slice a1 n1 c1, .bool closed, .slice a2 n2 c2, .slice a3 n3 c3] 25)).alloc (.cells #[.int .i64 0, .int .i64 0] 30) = W := ⟨_, rfl⟩
          rw [eW] at HB HQ HR p0 p1 p2 p3 p4 pl r0 r1 f0 f1 rl ⊢
          clear eW
          go_wp2_with (go_at_call 26; refine (f_any _ _ _).mono ?_; rintro e w9 ⟨rfl, hb9⟩; have HB9 := hide (Below.next (unhide HB) hb9 (Nat.le_refl _)); have HR9 := hide (keep_below (unhide HR) hb9); clear r0 r1 f0 f1 rl hb9; obtain ⟨r0, r1, f0, f1, rl⟩ := block2 (unhide HR9))
          exact bodyPost_ret (v := .agg #[.int .i64 8, .int .i64 0]) (by simp [results, Try.results14, go_sem, r0, r1]) rfl ⟨rfl, below_set2 (unhide HB9) (Nat.le_succ _) _ _⟩
        · skip
          by_cases h5 : 0 < n2
          · have g5 : (0 : Int) < (n2 : Int) := by omega
            cases closed with
            | true =>
              have hr2 := unhide HRR
              rw [wholeC, if_neg q1, if_neg (fun h => h.elim q2 q3), if_neg q4, if_pos ⟨h5, Or.inl rfl⟩] at hr2
              subst hr2
              clear HRR hw
              have HB := hide ((Below.refl w.heap.size w).alloc (Nat.le_refl _) (.cells #[.int .i64 cap, .slice a1 n1 c1, .bool true, .slice a2 n2 c2, .slice a3 n3 c3] 25) |>.alloc (by simp) (.cells #[.int .i64 0, .int .i64 0] 30))
              have HQ := hide (keep_alloc (new_block w (.cells #[.int .i64 cap, .slice a1 n1 c1, .bool true, .slice a2 n2 c2, .slice a3 n3 c3] 25)) (.cells #[.int .i64 0, .int .i64 0] 30))
              have HR := hide (new_block (w.alloc (.cells #[.int .i64 cap, .slice a1 n1 c1, .bool true, .slice a2 n2 c2, .slice a3 n3 c3] 25)) (.cells #[.int .i64 0, .int .i64 0] 30))
              rw [World.size_alloc] at HR
              obtain ⟨⟨p0, p1, p2, p3, p4⟩, -, pl⟩ := block5 (unhide HQ)
              obtain ⟨r0, r1, f0, f1, rl⟩ := block2 (unhide HR)
              go_enter Try.func14, Try.ntmps14
              go_upto_region 1 with fail
              obtain ⟨W0, eW⟩ : ∃ W, (w.alloc (.cells #[.int .i64 cap, .slice a1 n1 c1, .bool true, .slice a2 n2 c2, .slice a3 n3 c3] 25)).alloc (.cells #[.int .i64 0, .int .i64 0] 30) = W := ⟨_, rfl⟩
              rw [eW] at HB HQ HR p0 p1 p2 p3 p4 pl r0 r1 f0 f1 rl ⊢
              clear eW
              go_wp2_with (go_at_call 26; refine (f_any _ _ _).mono ?_; rintro e w9 ⟨rfl, hb9⟩; have HB9 := hide (Below.next (unhide HB) hb9 (Nat.le_refl _)); have HR9 := hide (keep_below (unhide HR) hb9); clear r0 r1 f0 f1 rl hb9; obtain ⟨r0, r1, f0, f1, rl⟩ := block2 (unhide HR9))
              exact bodyPost_ret (v := .agg #[.int .i64 5, .int .i64 0]) (by simp [results, Try.results14, go_sem, r0, r1]) rfl ⟨rfl, below_set2 (unhide HB9) (Nat.le_succ _) _ _⟩
            | false =>
              by_cases h7 : (n1 : Int) < cap
              · have g7 : ((n1 : Int) != cap) = true := by simp; omega
                have hr2 := unhide HRR
                rw [wholeC, if_neg q1, if_neg (fun h => h.elim q2 q3), if_neg q4, if_pos ⟨h5, Or.inr (Or.inl h7)⟩] at hr2
                subst hr2
                clear HRR hw
                have HB := hide ((Below.refl w.heap.size w).alloc (Nat.le_refl _) (.cells #[.int .i64 cap, .slice a1 n1 c1, .bool false, .slice a2 n2 c2, .slice a3 n3 c3] 25) |>.alloc (by simp) (.cells #[.int .i64 0, .int .i64 0] 30))
                have HQ := hide (keep_alloc (new_block w (.cells #[.int .i64 cap, .slice a1 n1 c1, .bool false, .slice a2 n2 c2, .slice a3 n3 c3] 25)) (.cells #[.int .i64 0, .int .i64 0] 30))
                have HR := hide (new_block (w.alloc (.cells #[.int .i64 cap, .slice a1 n1 c1, .bool false, .slice a2 n2 c2, .slice a3 n3 c3] 25)) (.cells #[.int .i64 0, .int .i64 0] 30))
                rw [World.size_alloc] at HR
                obtain ⟨⟨p0, p1, p2, p3, p4⟩, -, pl⟩ := block5 (unhide HQ)
                obtain ⟨r0, r1, f0, f1, rl⟩ := block2 (unhide HR)
                go_enter Try.func14, Try.ntmps14
                go_upto_region 1 with fail
                obtain ⟨W0, eW⟩ : ∃ W, (w.alloc (.cells #[.int .i64 cap, .slice a1 n1 c1, .bool false, .slice a2 n2 c2, .slice a3 n3 c3] 25)).alloc (.cells #[.int .i64 0, .int .i64 0] 30) = W := ⟨_, rfl⟩
                rw [eW] at HB HQ HR p0 p1 p2 p3 p4 pl r0 r1 f0 f1 rl ⊢
                clear eW
                go_wp2_with (go_at_call 26; refine (f_any _ _ _).mono ?_; rintro e w9 ⟨rfl, hb9⟩; have HB9 := hide (Below.next (unhide HB) hb9 (Nat.le_refl _)); have HR9 := hide (keep_below (unhide HR) hb9); clear r0 r1 f0 f1 rl hb9; obtain ⟨r0, r1, f0, f1, rl⟩ := block2 (unhide HR9))
                exact bodyPost_ret (v := .agg #[.int .i64 5, .int .i64 0]) (by simp [results, Try.results14, go_sem, r0, r1]) rfl ⟨rfl, below_set2 (unhide HB9) (Nat.le_succ _) _ _⟩
              · have g7 : ((n1 : Int) != cap) = false := by simp; omega
                by_cases h8 : 0 < n3
                · have g8 : (0 : Int) < (n3 : Int) := by omega
                  have hr2 := unhide HRR
                  rw [wholeC, if_neg q1, if_neg (fun h => h.elim q2 q3), if_neg q4, if_pos ⟨h5, Or.inr (Or.inr h8)⟩] at hr2
                  subst hr2
                  clear HRR hw
                  have HB := hide ((Below.refl w.heap.size w).alloc (Nat.le_refl _) (.cells #[.int .i64 cap, .slice a1 n1 c1, .bool false, .slice a2 n2 c2, .slice a3 n3 c3] 25) |>.alloc (by simp) (.cells #[.int .i64 0, .int .i64 0] 30))
                  have HQ := hide (keep_alloc (new_block w (.cells #[.int .i64 cap, .slice a1 n1 c1, .bool false, .slice a2 n2 c2, .slice a3 n3 c3] 25)) (.cells #[.int .i64 0, .int .i64 0] 30))
                  have HR := hide (new_block (w.alloc (.cells #[.int .i64 cap, .slice a1 n1 c1, .bool false, .slice a2 n2 c2, .slice a3 n3 c3] 25)) (.cells #[.int .i64 0, .int .i64 0] 30))
                  rw [World.size_alloc] at HR
                  obtain ⟨⟨p0, p1, p2, p3, p4⟩, -, pl⟩ := block5 (unhide HQ)
                  obtain ⟨r0, r1, f0, f1, rl⟩ := block2 (unhide HR)
                  go_enter Try.func14, Try.ntmps14
                  go_upto_region 1 with fail
                  obtain ⟨W0, eW⟩ : ∃ W, (w.alloc (.cells #[.int .i64 cap, .slice a1 n1 c1, .bool false, .slice a2 n2 c2, .slice a3 n3 c3] 25)).alloc (.cells #[.int .i64 0, .int .i64 0] 30) = W := ⟨_, rfl⟩
                  rw [eW] at HB HQ HR p0 p1 p2 p3 p4 pl r0 r1 f0 f1 rl ⊢
                  clear eW
                  go_wp2_with (go_at_call 26; refine (f_any _ _ _).mono ?_; rintro e w9 ⟨rfl, hb9⟩; have HB9 := hide (Below.next (unhide HB) hb9 (Nat.le_refl _)); have HR9 := hide (keep_below (unhide HR) hb9); clear r0 r1 f0 f1 rl hb9; obtain ⟨r0, r1, f0, f1, rl⟩ := block2 (unhide HR9))
                  exact bodyPost_ret (v := .agg #[.int .i64 5, .int .i64 0]) (by simp [results, Try.results14, go_sem, r0, r1]) rfl ⟨rfl, below_set2 (unhide HB9) (Nat.le_succ _) _ _⟩
                · skip
                  exact absurd (by have hr2 := unhide HRR; rw [wholeC, if_neg q1, if_neg (fun h => h.elim q2 q3), if_neg q4, if_neg (fun h => h.2.elim (fun h => by cases h) (fun h => h.elim h7 h8)), if_neg (fun h => h8 h.1)] at hr2; exact hr2.symm) hw
          · have g5 : ¬ (0 : Int) < (n2 : Int) := by omega
            by_cases h8 : 0 < n3
            · have g8 : (0 : Int) < (n3 : Int) := by omega
              cases closed with
              | true =>
                have hr2 := unhide HRR
                rw [wholeC, if_neg q1, if_neg (fun h => h.elim q2 q3), if_neg q4, if_neg (fun h => h5 h.1), if_pos ⟨h8, Or.inl rfl⟩] at hr2
                subst hr2
                clear HRR hw
                have HB := hide ((Below.refl w.heap.size w).alloc (Nat.le_refl _) (.cells #[.int .i64 cap, .slice a1 n1 c1, .bool true, .slice a2 n2 c2, .slice a3 n3 c3] 25) |>.alloc (by simp) (.cells #[.int .i64 0, .int .i64 0] 30))
                have HQ := hide (keep_alloc (new_block w (.cells #[.int .i64 cap, .slice a1 n1 c1, .bool true, .slice a2 n2 c2, .slice a3 n3 c3] 25)) (.cells #[.int .i64 0, .int .i64 0] 30))
                have HR := hide (new_block (w.alloc (.cells #[.int .i64 cap, .slice a1 n1 c1, .bool true, .slice a2 n2 c2, .slice a3 n3 c3] 25)) (.cells #[.int .i64 0, .int .i64 0] 30))
                rw [World.size_alloc] at HR
                obtain ⟨⟨p0, p1, p2, p3, p4⟩, -, pl⟩ := block5 (unhide HQ)
                obtain ⟨r0, r1, f0, f1, rl⟩ := block2 (unhide HR)
                go_enter Try.func14, Try.ntmps14
                go_upto_region 1 with fail
                obtain ⟨W0, eW⟩ : ∃ W, (w.alloc (.cells #[.int .i64 cap, .slice a1 n1 c1, .bool true, .slice a2 n2 c2, .slice a3 n3 c3] 25)).alloc (.cells #[.int .i64 0, .int .i64 0] 30) = W := ⟨_, rfl⟩
                rw [eW] at HB HQ HR p0 p1 p2 p3 p4 pl r0 r1 f0 f1 rl ⊢
                clear eW
                go_wp2_with (go_at_call 26; refine (f_any _ _ _).mono ?_; rintro e w9 ⟨rfl, hb9⟩; have HB9 := hide (Below.next (unhide HB) hb9 (Nat.le_refl _)); have HR9 := hide (keep_below (unhide HR) hb9); clear r0 r1 f0 f1 rl hb9; obtain ⟨r0, r1, f0, f1, rl⟩ := block2 (unhide HR9))
                exact bodyPost_ret (v := .agg #[.int .i64 5, .int .i64 0]) (by simp [results, Try.results14, go_sem, r0, r1]) rfl ⟨rfl, below_set2 (unhide HB9) (Nat.le_succ _) _ _⟩
              | false =>
                by_cases h9 : 0 < n1
                · have g9 : (0 : Int) < (n1 : Int) := by omega
                  have hr2 := unhide HRR
                  rw [wholeC, if_neg q1, if_neg (fun h => h.elim q2 q3), if_neg q4, if_neg (fun h => h5 h.1), if_pos ⟨h8, Or.inr h9⟩] at hr2
                  subst hr2
                  clear HRR hw
                  have HB := hide ((Below.refl w.heap.size w).alloc (Nat.le_refl _) (.cells #[.int .i64 cap, .slice a1 n1 c1, .bool false, .slice a2 n2 c2, .slice a3 n3 c3] 25) |>.alloc (by simp) (.cells #[.int .i64 0, .int .i64 0] 30))
                  have HQ := hide (keep_alloc (new_block w (.cells #[.int .i64 cap, .slice a1 n1 c1, .bool false, .slice a2 n2 c2, .slice a3 n3 c3] 25)) (.cells #[.int .i64 0, .int .i64 0] 30))
                  have HR := hide (new_block (w.alloc (.cells #[.int .i64 cap, .slice a1 n1 c1, .bool false, .slice a2 n2 c2, .slice a3 n3 c3] 25)) (.cells #[.int .i64 0, .int .i64 0] 30))
                  rw [World.size_alloc] at HR
                  obtain ⟨⟨p0, p1, p2, p3, p4⟩, -, pl⟩ := block5 (unhide HQ)
                  obtain ⟨r0, r1, f0, f1, rl⟩ := block2 (unhide HR)
                  go_enter Try.func14, Try.ntmps14
                  go_upto_region 1 with fail
                  obtain ⟨W0, eW⟩ : ∃ W, (w.alloc (.cells #[.int .i64 cap, .slice a1 n1 c1, .bool false, .slice a2 n2 c2, .slice a3 n3 c3] 25)).alloc (.cells #[.int .i64 0, .int .i64 0] 30) = W := ⟨_, rfl⟩
                  rw [eW] at HB HQ HR p0 p1 p2 p3 p4 pl r0 r1 f0 f1 rl ⊢
                  clear eW
                  go_wp2_with (go_at_call 26; refine (f_any _ _ _).mono ?_; rintro e w9 ⟨rfl, hb9⟩; have HB9 := hide (Below.next (unhide HB) hb9 (Nat.le_refl _)); have HR9 := hide (keep_below (unhide HR) hb9); clear r0 r1 f0 f1 rl hb9; obtain ⟨r0, r1, f0, f1, rl⟩ := block2 (unhide HR9))
                  exact bodyPost_ret (v := .agg #[.int .i64 5, .int .i64 0]) (by simp [results, Try.results14, go_sem, r0, r1]) rfl ⟨rfl, below_set2 (unhide HB9) (Nat.le_succ _) _ _⟩
                · skip
                  exact absurd (by have hr2 := unhide HRR; rw [wholeC, if_neg q1, if_neg (fun h => h.elim q2 q3), if_neg q4, if_neg (fun h => h5 h.1), if_neg (fun h => h.2.elim (fun h => by cases h) h9)] at hr2; exact hr2.symm) hw
            · skip
              exact absurd (by have hr2 := unhide HRR; rw [wholeC, if_neg q1, if_neg (fun h => h.elim q2 q3), if_neg q4, if_neg (fun h => h5 h.1), if_neg (fun h => h8 h.1)] at hr2; exact hr2.symm) hw
end Go.Proofs.Ytijogcjocandcaa
