/-
  pipe.Check.
-/
import Derived.Test.YtijogcjocandcaaG
namespace Go.Proofs.Ytijogcjocandcaa
open Go.RowKit

theorem IsL.old {α : Type} {K : Kind α} (hK : K.Ok) {w : World} {v : Value} {xs : List α} (h : IsL K w v xs) (hn : 0 < xs.length) : ∀ k, v.ownBlock = some k → k < w.heap.size := by
  obtain ⟨b, off, c, rfl, hb, -⟩ := h.at hK hn
  intro k hk
  cases hk
  exact hb

def valuedP (p : Po) : Bool := p.2.2 != 0
/-- What is wrong with a pipe. -/
def pipeF (P : Pp) : Int × Int :=
  if wholeC P.cap P.items.length P.ss.length P.gs.length P.closed ≠ 0 then (wholeC P.cap P.items.length P.ss.length P.gs.length P.closed, 0)
  else if postsC [] P.ss ≠ 0 then (postsC [] P.ss, 1) else if postsC (tasks P.ss) P.gs ≠ 0 then (postsC (tasks P.ss) P.gs, 2)
  else if P.gs.any valuedP = true then (5, 2) else (0, 0)
def faultV (x : Int × Int) : Value := .agg #[.int .i64 x.1, .int .i64 x.2]

theorem keep_but {w w' : World} {g k : Nat} {x : Obj} (h : w.heap[k]? = some x) (hb : But g w w') (hk : k ≠ g) : w'.heap[k]? = some x := (hb.block k (Array.getElem?_eq_some_iff.1 h).1 hk).trans h
theorem below_set2 {B R : Nat} {w w' : World} (h : Below B w w') (hR : B ≤ R) (x y : Value) : Below B w ((w'.setCell ⟨R, 0, none⟩ x).setCell ⟨R, 1, none⟩ y) := (h.setCell hR x).setCell hR y

set_option maxRecDepth 100000 in
set_option maxHeartbeats 1000000 in
theorem check_whole (w : World) (v : Value) (P : Pp) (h : IsPipe w v P) (hs : Short P) (x0 : wholeC P.cap P.items.length P.ss.length P.gs.length P.closed ≠ 0) :
    Calls Try.prog 12 #[v] w fun e w' => e = .returned (faultV (wholeC P.cap P.items.length P.ss.length P.gs.length P.closed, 0)) ∧ Below w.heap.size w w' := by
  obtain ⟨cap, items, closed, ss, gs⟩ := P
  obtain ⟨a1, c1, a2, c2, a3, c3, rfl, hI, hS, hG⟩ := h.form
  obtain ⟨h1, h2, h3⟩ := hs
  simp only at h1 h2 h3 hI hS hG h x0 ⊢
  have HW : Hid (∀ W, Below w.heap.size w W → Calls Try.prog 33 #[.agg #[.int .i64 cap, .slice a1 items.length c1, .bool closed, .slice a2 ss.length c2, .slice a3 gs.length c3]] W fun e w' => e = .returned (.int .i64 (wholeC cap items.length ss.length gs.length closed)) ∧ Below W.heap.size W w') := fun W hW => checkWhole_any W _ ⟨cap, items, closed, ss, gs⟩ (h.below hW) ⟨h1, h2, h3⟩
  have HS : Hid (∀ W B, Below w.heap.size w W → w.heap.size ≤ B → IsSet W B [] → Calls Try.prog 34 #[.map (some B), .slice a2 ss.length c2] W fun e w' => e = .returned (.int .i64 (postsC [] ss)) ∧ (postsC [] ss = 0 → IsSet w' B (tasks ss)) ∧ But B W w') := fun W B hW hB hSet => checkPosts_any W B [] _ ss hSet (hS.below hW) (fun h0 k hk => by have := hS.old kp h0 k hk; omega) (by unfold maxLen; omega)
  have HG : Hid (∀ W B, Below w.heap.size w W → w.heap.size ≤ B → IsSet W B (tasks ss) → Calls Try.prog 34 #[.map (some B), .slice a3 gs.length c3] W fun e w' => e = .returned (.int .i64 (postsC (tasks ss) gs)) ∧ But B W w') := fun W B hW hB hSet => (checkPosts_any W B (tasks ss) _ gs hSet (hG.below hW) (fun h0 k hk => by have := hG.old kp h0 k hk; omega) (by unfold maxLen; omega)).mono (fun e w' ⟨q1, _, q3⟩ => ⟨q1, q3⟩)
  have HV : Hid (∀ W, Below w.heap.size w W → Calls Try.prog 35 #[.slice a3 gs.length c3, .func (.func 36) #[] #[]] W fun e w' => e = .returned (.bool (gs.any valuedP)) ∧ Below W.heap.size W w') := fun W hW => containsFunc_any W _ gs (hG.below hW) (by unfold maxLen; omega) 36 enters36 #[] valuedP (fun W y _ => valued_any W y.1 y.2.1 y.2.2)
  obtain ⟨d0, e0⟩ : ∃ d, wholeC cap items.length ss.length gs.length closed = d := ⟨_, rfl⟩
  obtain ⟨d1, e1⟩ : ∃ d, postsC [] ss = d := ⟨_, rfl⟩
  obtain ⟨d2, e2⟩ : ∃ d, postsC (tasks ss) gs = d := ⟨_, rfl⟩
  obtain ⟨d3, e3⟩ : ∃ d, gs.any valuedP = d := ⟨_, rfl⟩
  rw [e0] at HW; rw [e1] at HS; rw [e2] at HG; rw [e3] at HV
  rw [e0] at x0 ⊢; have y0 : (d0 != 0) = true := by simpa using x0
  obtain ⟨ks, hks⟩ : ∃ ks, tasks ss = ks := ⟨_, rfl⟩
  rw [hks] at HS HG
  generalize items.length = n1 at *
  generalize ss.length = n2 at *
  generalize gs.length = n3 at *
  have wl : IntKind.i64.wrap ((n2 : Int) + n3) = (n2 : Int) + n3 := wrapi (by omega) (by omega)
  clear h hI hS hG e0 e1 e2 e3 hks items ss gs
  have HB := hide ((Below.refl w.heap.size w).alloc (Nat.le_refl _) (.cells #[.int .i64 cap, .slice a1 n1 c1, .bool closed, .slice a2 n2 c2, .slice a3 n3 c3] 25) |>.alloc (by simp) (.cells #[.int .i64 0, .int .i64 0] 30))
  have HQ := hide (keep_alloc (new_block w (.cells #[.int .i64 cap, .slice a1 n1 c1, .bool closed, .slice a2 n2 c2, .slice a3 n3 c3] 25)) (.cells #[.int .i64 0, .int .i64 0] 30))
  have HR := hide (new_block (w.alloc (.cells #[.int .i64 cap, .slice a1 n1 c1, .bool closed, .slice a2 n2 c2, .slice a3 n3 c3] 25)) (.cells #[.int .i64 0, .int .i64 0] 30))
  rw [World.size_alloc] at HR
  obtain ⟨⟨p0, p1, p2, p3, p4⟩, -, pl⟩ := block5 (unhide HQ)
  go_enter Try.func12, Try.ntmps12
  go_upto_region 1 with fail
  obtain ⟨W0, eW⟩ : ∃ W, (w.alloc (.cells #[.int .i64 cap, .slice a1 n1 c1, .bool closed, .slice a2 n2 c2, .slice a3 n3 c3] 25)).alloc (.cells #[.int .i64 0, .int .i64 0] 30) = W := ⟨_, rfl⟩
  rw [eW] at HB HQ HR p0 p1 p2 p3 p4 pl ⊢
  clear eW
  go_wp2_with (first
    | (go_at_call 33; refine (unhide HW _ (unhide HB)).mono ?_; rintro e w1 ⟨rfl, hb1⟩; have HB1 := hide (Below.next (unhide HB) hb1 (Nat.le_refl _)); have HQ1 := hide (keep_below (unhide HQ) hb1); have HR1 := hide (keep_below (unhide HR) hb1); have HG1 := hide (Nat.lt_of_lt_of_le (block2 (unhide HR)).2.2.2.2 hb1.size); clear p0 p1 p2 p3 p4 pl hb1; obtain ⟨⟨p0, p1, p2, p3, p4⟩, -, pl⟩ := block5 (unhide HQ1); obtain ⟨r0, r1, f0, f1, rl⟩ := block2 (unhide HR1); have hmk := make_set ((n2 : Int) + n3) w1; clear HB HQ HR)
    )
  exact bodyPost_ret (v := .agg #[.int .i64 d0, .int .i64 0]) (by simp [results, Try.results12, go_sem, r0, r1]) rfl ⟨rfl, below_set2 (unhide HB1) (Nat.le_succ _) _ _⟩

set_option maxRecDepth 100000 in
set_option maxHeartbeats 1000000 in
theorem check_senders (w : World) (v : Value) (P : Pp) (h : IsPipe w v P) (hs : Short P) (x0 : wholeC P.cap P.items.length P.ss.length P.gs.length P.closed = 0) (x1 : postsC [] P.ss ≠ 0) :
    Calls Try.prog 12 #[v] w fun e w' => e = .returned (faultV (postsC [] P.ss, 1)) ∧ Below w.heap.size w w' := by
  obtain ⟨cap, items, closed, ss, gs⟩ := P
  obtain ⟨a1, c1, a2, c2, a3, c3, rfl, hI, hS, hG⟩ := h.form
  obtain ⟨h1, h2, h3⟩ := hs
  simp only at h1 h2 h3 hI hS hG h x0 x1 ⊢
  have HW : Hid (∀ W, Below w.heap.size w W → Calls Try.prog 33 #[.agg #[.int .i64 cap, .slice a1 items.length c1, .bool closed, .slice a2 ss.length c2, .slice a3 gs.length c3]] W fun e w' => e = .returned (.int .i64 (wholeC cap items.length ss.length gs.length closed)) ∧ Below W.heap.size W w') := fun W hW => checkWhole_any W _ ⟨cap, items, closed, ss, gs⟩ (h.below hW) ⟨h1, h2, h3⟩
  have HS : Hid (∀ W B, Below w.heap.size w W → w.heap.size ≤ B → IsSet W B [] → Calls Try.prog 34 #[.map (some B), .slice a2 ss.length c2] W fun e w' => e = .returned (.int .i64 (postsC [] ss)) ∧ (postsC [] ss = 0 → IsSet w' B (tasks ss)) ∧ But B W w') := fun W B hW hB hSet => checkPosts_any W B [] _ ss hSet (hS.below hW) (fun h0 k hk => by have := hS.old kp h0 k hk; omega) (by unfold maxLen; omega)
  have HG : Hid (∀ W B, Below w.heap.size w W → w.heap.size ≤ B → IsSet W B (tasks ss) → Calls Try.prog 34 #[.map (some B), .slice a3 gs.length c3] W fun e w' => e = .returned (.int .i64 (postsC (tasks ss) gs)) ∧ But B W w') := fun W B hW hB hSet => (checkPosts_any W B (tasks ss) _ gs hSet (hG.below hW) (fun h0 k hk => by have := hG.old kp h0 k hk; omega) (by unfold maxLen; omega)).mono (fun e w' ⟨q1, _, q3⟩ => ⟨q1, q3⟩)
  have HV : Hid (∀ W, Below w.heap.size w W → Calls Try.prog 35 #[.slice a3 gs.length c3, .func (.func 36) #[] #[]] W fun e w' => e = .returned (.bool (gs.any valuedP)) ∧ Below W.heap.size W w') := fun W hW => containsFunc_any W _ gs (hG.below hW) (by unfold maxLen; omega) 36 enters36 #[] valuedP (fun W y _ => valued_any W y.1 y.2.1 y.2.2)
  obtain ⟨d0, e0⟩ : ∃ d, wholeC cap items.length ss.length gs.length closed = d := ⟨_, rfl⟩
  obtain ⟨d1, e1⟩ : ∃ d, postsC [] ss = d := ⟨_, rfl⟩
  obtain ⟨d2, e2⟩ : ∃ d, postsC (tasks ss) gs = d := ⟨_, rfl⟩
  obtain ⟨d3, e3⟩ : ∃ d, gs.any valuedP = d := ⟨_, rfl⟩
  rw [e0] at HW; rw [e1] at HS; rw [e2] at HG; rw [e3] at HV
  rw [e0] at x0; subst x0; rw [e1] at x1 ⊢; have y1 : (d1 != 0) = true := by simpa using x1
  obtain ⟨ks, hks⟩ : ∃ ks, tasks ss = ks := ⟨_, rfl⟩
  rw [hks] at HS HG
  generalize items.length = n1 at *
  generalize ss.length = n2 at *
  generalize gs.length = n3 at *
  have wl : IntKind.i64.wrap ((n2 : Int) + n3) = (n2 : Int) + n3 := wrapi (by omega) (by omega)
  clear h hI hS hG e0 e1 e2 e3 hks items ss gs
  have HB := hide ((Below.refl w.heap.size w).alloc (Nat.le_refl _) (.cells #[.int .i64 cap, .slice a1 n1 c1, .bool closed, .slice a2 n2 c2, .slice a3 n3 c3] 25) |>.alloc (by simp) (.cells #[.int .i64 0, .int .i64 0] 30))
  have HQ := hide (keep_alloc (new_block w (.cells #[.int .i64 cap, .slice a1 n1 c1, .bool closed, .slice a2 n2 c2, .slice a3 n3 c3] 25)) (.cells #[.int .i64 0, .int .i64 0] 30))
  have HR := hide (new_block (w.alloc (.cells #[.int .i64 cap, .slice a1 n1 c1, .bool closed, .slice a2 n2 c2, .slice a3 n3 c3] 25)) (.cells #[.int .i64 0, .int .i64 0] 30))
  rw [World.size_alloc] at HR
  obtain ⟨⟨p0, p1, p2, p3, p4⟩, -, pl⟩ := block5 (unhide HQ)
  go_enter Try.func12, Try.ntmps12
  go_upto_region 1 with fail
  obtain ⟨W0, eW⟩ : ∃ W, (w.alloc (.cells #[.int .i64 cap, .slice a1 n1 c1, .bool closed, .slice a2 n2 c2, .slice a3 n3 c3] 25)).alloc (.cells #[.int .i64 0, .int .i64 0] 30) = W := ⟨_, rfl⟩
  rw [eW] at HB HQ HR p0 p1 p2 p3 p4 pl ⊢
  clear eW
  go_wp2_with (first
    | (go_at_call 33; refine (unhide HW _ (unhide HB)).mono ?_; rintro e w1 ⟨rfl, hb1⟩; have HB1 := hide (Below.next (unhide HB) hb1 (Nat.le_refl _)); have HQ1 := hide (keep_below (unhide HQ) hb1); have HR1 := hide (keep_below (unhide HR) hb1); have HG1 := hide (Nat.lt_of_lt_of_le (block2 (unhide HR)).2.2.2.2 hb1.size); clear p0 p1 p2 p3 p4 pl hb1; obtain ⟨⟨p0, p1, p2, p3, p4⟩, -, pl⟩ := block5 (unhide HQ1); obtain ⟨r0, r1, f0, f1, rl⟩ := block2 (unhide HR1); have hmk := make_set ((n2 : Int) + n3) w1; clear HB HQ HR)
    | (go_at_call 34; (with_reducible refine Calls.mono (unhide HS _ w1.heap.size ((unhide HB1).alloc (unhide HB1).size _) (unhide HB1).size (set_made w1)) ?_); rintro e w2 ⟨rfl, hz2, hb2⟩; have HZ2 := hide hz2; have HB2 := hide (Below.trans ((unhide HB1).alloc (unhide HB1).size _) (hb2.below (unhide HB1).size (Nat.le_trans (unhide HB1).size (by simp)))); have HQ2 := hide (keep_but (keep_alloc (unhide HQ1) _) hb2 (Nat.ne_of_lt (block5 (unhide HQ1)).2.2)); have HR2 := hide (keep_but (keep_alloc (unhide HR1) _) hb2 (Nat.ne_of_lt (unhide HG1))); clear p0 p1 p2 p3 p4 pl r0 r1 f0 f1 rl hz2 hb2; obtain ⟨⟨p0, p1, p2, p3, p4⟩, -, pl⟩ := block5 (unhide HQ2); obtain ⟨r0, r1, f0, f1, rl⟩ := block2 (unhide HR2))
    )
  exact bodyPost_ret (v := .agg #[.int .i64 d1, .int .i64 1]) (by simp [results, Try.results12, go_sem, r0, r1]) rfl ⟨rfl, below_set2 (unhide HB2) (Nat.le_succ _) _ _⟩

set_option maxRecDepth 100000 in
set_option maxHeartbeats 1000000 in
theorem check_getters (w : World) (v : Value) (P : Pp) (h : IsPipe w v P) (hs : Short P) (x0 : wholeC P.cap P.items.length P.ss.length P.gs.length P.closed = 0) (x1 : postsC [] P.ss = 0) (x2 : postsC (tasks P.ss) P.gs ≠ 0) :
    Calls Try.prog 12 #[v] w fun e w' => e = .returned (faultV (postsC (tasks P.ss) P.gs, 2)) ∧ Below w.heap.size w w' := by
  obtain ⟨cap, items, closed, ss, gs⟩ := P
  obtain ⟨a1, c1, a2, c2, a3, c3, rfl, hI, hS, hG⟩ := h.form
  obtain ⟨h1, h2, h3⟩ := hs
  simp only at h1 h2 h3 hI hS hG h x0 x1 x2 ⊢
  have HW : Hid (∀ W, Below w.heap.size w W → Calls Try.prog 33 #[.agg #[.int .i64 cap, .slice a1 items.length c1, .bool closed, .slice a2 ss.length c2, .slice a3 gs.length c3]] W fun e w' => e = .returned (.int .i64 (wholeC cap items.length ss.length gs.length closed)) ∧ Below W.heap.size W w') := fun W hW => checkWhole_any W _ ⟨cap, items, closed, ss, gs⟩ (h.below hW) ⟨h1, h2, h3⟩
  have HS : Hid (∀ W B, Below w.heap.size w W → w.heap.size ≤ B → IsSet W B [] → Calls Try.prog 34 #[.map (some B), .slice a2 ss.length c2] W fun e w' => e = .returned (.int .i64 (postsC [] ss)) ∧ (postsC [] ss = 0 → IsSet w' B (tasks ss)) ∧ But B W w') := fun W B hW hB hSet => checkPosts_any W B [] _ ss hSet (hS.below hW) (fun h0 k hk => by have := hS.old kp h0 k hk; omega) (by unfold maxLen; omega)
  have HG : Hid (∀ W B, Below w.heap.size w W → w.heap.size ≤ B → IsSet W B (tasks ss) → Calls Try.prog 34 #[.map (some B), .slice a3 gs.length c3] W fun e w' => e = .returned (.int .i64 (postsC (tasks ss) gs)) ∧ But B W w') := fun W B hW hB hSet => (checkPosts_any W B (tasks ss) _ gs hSet (hG.below hW) (fun h0 k hk => by have := hG.old kp h0 k hk; omega) (by unfold maxLen; omega)).mono (fun e w' ⟨q1, _, q3⟩ => ⟨q1, q3⟩)
  have HV : Hid (∀ W, Below w.heap.size w W → Calls Try.prog 35 #[.slice a3 gs.length c3, .func (.func 36) #[] #[]] W fun e w' => e = .returned (.bool (gs.any valuedP)) ∧ Below W.heap.size W w') := fun W hW => containsFunc_any W _ gs (hG.below hW) (by unfold maxLen; omega) 36 enters36 #[] valuedP (fun W y _ => valued_any W y.1 y.2.1 y.2.2)
  obtain ⟨d0, e0⟩ : ∃ d, wholeC cap items.length ss.length gs.length closed = d := ⟨_, rfl⟩
  obtain ⟨d1, e1⟩ : ∃ d, postsC [] ss = d := ⟨_, rfl⟩
  obtain ⟨d2, e2⟩ : ∃ d, postsC (tasks ss) gs = d := ⟨_, rfl⟩
  obtain ⟨d3, e3⟩ : ∃ d, gs.any valuedP = d := ⟨_, rfl⟩
  rw [e0] at HW; rw [e1] at HS; rw [e2] at HG; rw [e3] at HV
  rw [e0] at x0; subst x0; rw [e1] at x1; subst x1; rw [e2] at x2 ⊢; have y1 : (d2 != 0) = true := by simpa using x2
  obtain ⟨ks, hks⟩ : ∃ ks, tasks ss = ks := ⟨_, rfl⟩
  rw [hks] at HS HG
  generalize items.length = n1 at *
  generalize ss.length = n2 at *
  generalize gs.length = n3 at *
  have wl : IntKind.i64.wrap ((n2 : Int) + n3) = (n2 : Int) + n3 := wrapi (by omega) (by omega)
  clear h hI hS hG e0 e1 e2 e3 hks items ss gs
  have HB := hide ((Below.refl w.heap.size w).alloc (Nat.le_refl _) (.cells #[.int .i64 cap, .slice a1 n1 c1, .bool closed, .slice a2 n2 c2, .slice a3 n3 c3] 25) |>.alloc (by simp) (.cells #[.int .i64 0, .int .i64 0] 30))
  have HQ := hide (keep_alloc (new_block w (.cells #[.int .i64 cap, .slice a1 n1 c1, .bool closed, .slice a2 n2 c2, .slice a3 n3 c3] 25)) (.cells #[.int .i64 0, .int .i64 0] 30))
  have HR := hide (new_block (w.alloc (.cells #[.int .i64 cap, .slice a1 n1 c1, .bool closed, .slice a2 n2 c2, .slice a3 n3 c3] 25)) (.cells #[.int .i64 0, .int .i64 0] 30))
  rw [World.size_alloc] at HR
  obtain ⟨⟨p0, p1, p2, p3, p4⟩, -, pl⟩ := block5 (unhide HQ)
  go_enter Try.func12, Try.ntmps12
  go_upto_region 1 with fail
  obtain ⟨W0, eW⟩ : ∃ W, (w.alloc (.cells #[.int .i64 cap, .slice a1 n1 c1, .bool closed, .slice a2 n2 c2, .slice a3 n3 c3] 25)).alloc (.cells #[.int .i64 0, .int .i64 0] 30) = W := ⟨_, rfl⟩
  rw [eW] at HB HQ HR p0 p1 p2 p3 p4 pl ⊢
  clear eW
  go_wp2_with (first
    | (go_at_call 33; refine (unhide HW _ (unhide HB)).mono ?_; rintro e w1 ⟨rfl, hb1⟩; have HB1 := hide (Below.next (unhide HB) hb1 (Nat.le_refl _)); have HQ1 := hide (keep_below (unhide HQ) hb1); have HR1 := hide (keep_below (unhide HR) hb1); have HG1 := hide (Nat.lt_of_lt_of_le (block2 (unhide HR)).2.2.2.2 hb1.size); clear p0 p1 p2 p3 p4 pl hb1; obtain ⟨⟨p0, p1, p2, p3, p4⟩, -, pl⟩ := block5 (unhide HQ1); obtain ⟨r0, r1, f0, f1, rl⟩ := block2 (unhide HR1); have hmk := make_set ((n2 : Int) + n3) w1; clear HB HQ HR)
    | (go_at_call 34; (with_reducible refine Calls.mono (unhide HS _ w1.heap.size ((unhide HB1).alloc (unhide HB1).size _) (unhide HB1).size (set_made w1)) ?_); rintro e w2 ⟨rfl, hz2, hb2⟩; have HZ2 : Hid (IsSet w2 w1.heap.size ks) := (by first | exact hz2 trivial | exact hz2 rfl | exact hz2); have HB2 := hide (Below.trans ((unhide HB1).alloc (unhide HB1).size _) (hb2.below (unhide HB1).size (Nat.le_trans (unhide HB1).size (by simp)))); have HQ2 := hide (keep_but (keep_alloc (unhide HQ1) _) hb2 (Nat.ne_of_lt (block5 (unhide HQ1)).2.2)); have HR2 := hide (keep_but (keep_alloc (unhide HR1) _) hb2 (Nat.ne_of_lt (unhide HG1))); clear p0 p1 p2 p3 p4 pl r0 r1 f0 f1 rl hz2 hb2; obtain ⟨⟨p0, p1, p2, p3, p4⟩, -, pl⟩ := block5 (unhide HQ2); obtain ⟨r0, r1, f0, f1, rl⟩ := block2 (unhide HR2))
    | (go_at_call 34; (with_reducible refine Calls.mono (unhide HG _ w1.heap.size (unhide HB2) (unhide HB1).size (unhide HZ2)) ?_); rintro e w3 ⟨rfl, hb3⟩; have HB3 := hide (Below.trans (unhide HB2) (hb3.below (unhide HB1).size (unhide HB2).size)); have HQ3 := hide (keep_but (unhide HQ2) hb3 (Nat.ne_of_lt (block5 (unhide HQ1)).2.2)); have HR3 := hide (keep_but (unhide HR2) hb3 (Nat.ne_of_lt (unhide HG1))); clear p0 p1 p2 p3 p4 pl r0 r1 f0 f1 rl hb3; obtain ⟨⟨p0, p1, p2, p3, p4⟩, -, pl⟩ := block5 (unhide HQ3); obtain ⟨r0, r1, f0, f1, rl⟩ := block2 (unhide HR3))
    )
  exact bodyPost_ret (v := .agg #[.int .i64 d2, .int .i64 2]) (by simp [results, Try.results12, go_sem, r0, r1]) rfl ⟨rfl, below_set2 (unhide HB3) (Nat.le_succ _) _ _⟩

set_option maxRecDepth 100000 in
set_option maxHeartbeats 1000000 in
theorem check_valued (w : World) (v : Value) (P : Pp) (h : IsPipe w v P) (hs : Short P) (x0 : wholeC P.cap P.items.length P.ss.length P.gs.length P.closed = 0) (x1 : postsC [] P.ss = 0) (x2 : postsC (tasks P.ss) P.gs = 0) (x3 : P.gs.any valuedP = true) :
    Calls Try.prog 12 #[v] w fun e w' => e = .returned (faultV (5, 2)) ∧ Below w.heap.size w w' := by
  obtain ⟨cap, items, closed, ss, gs⟩ := P
  obtain ⟨a1, c1, a2, c2, a3, c3, rfl, hI, hS, hG⟩ := h.form
  obtain ⟨h1, h2, h3⟩ := hs
  simp only at h1 h2 h3 hI hS hG h x0 x1 x2 x3 ⊢
  have HW : Hid (∀ W, Below w.heap.size w W → Calls Try.prog 33 #[.agg #[.int .i64 cap, .slice a1 items.length c1, .bool closed, .slice a2 ss.length c2, .slice a3 gs.length c3]] W fun e w' => e = .returned (.int .i64 (wholeC cap items.length ss.length gs.length closed)) ∧ Below W.heap.size W w') := fun W hW => checkWhole_any W _ ⟨cap, items, closed, ss, gs⟩ (h.below hW) ⟨h1, h2, h3⟩
  have HS : Hid (∀ W B, Below w.heap.size w W → w.heap.size ≤ B → IsSet W B [] → Calls Try.prog 34 #[.map (some B), .slice a2 ss.length c2] W fun e w' => e = .returned (.int .i64 (postsC [] ss)) ∧ (postsC [] ss = 0 → IsSet w' B (tasks ss)) ∧ But B W w') := fun W B hW hB hSet => checkPosts_any W B [] _ ss hSet (hS.below hW) (fun h0 k hk => by have := hS.old kp h0 k hk; omega) (by unfold maxLen; omega)
  have HG : Hid (∀ W B, Below w.heap.size w W → w.heap.size ≤ B → IsSet W B (tasks ss) → Calls Try.prog 34 #[.map (some B), .slice a3 gs.length c3] W fun e w' => e = .returned (.int .i64 (postsC (tasks ss) gs)) ∧ But B W w') := fun W B hW hB hSet => (checkPosts_any W B (tasks ss) _ gs hSet (hG.below hW) (fun h0 k hk => by have := hG.old kp h0 k hk; omega) (by unfold maxLen; omega)).mono (fun e w' ⟨q1, _, q3⟩ => ⟨q1, q3⟩)
  have HV : Hid (∀ W, Below w.heap.size w W → Calls Try.prog 35 #[.slice a3 gs.length c3, .func (.func 36) #[] #[]] W fun e w' => e = .returned (.bool (gs.any valuedP)) ∧ Below W.heap.size W w') := fun W hW => containsFunc_any W _ gs (hG.below hW) (by unfold maxLen; omega) 36 enters36 #[] valuedP (fun W y _ => valued_any W y.1 y.2.1 y.2.2)
  obtain ⟨d0, e0⟩ : ∃ d, wholeC cap items.length ss.length gs.length closed = d := ⟨_, rfl⟩
  obtain ⟨d1, e1⟩ : ∃ d, postsC [] ss = d := ⟨_, rfl⟩
  obtain ⟨d2, e2⟩ : ∃ d, postsC (tasks ss) gs = d := ⟨_, rfl⟩
  obtain ⟨d3, e3⟩ : ∃ d, gs.any valuedP = d := ⟨_, rfl⟩
  rw [e0] at HW; rw [e1] at HS; rw [e2] at HG; rw [e3] at HV
  rw [e0] at x0; subst x0; rw [e1] at x1; subst x1; rw [e2] at x2; subst x2; rw [e3] at x3; subst x3
  obtain ⟨ks, hks⟩ : ∃ ks, tasks ss = ks := ⟨_, rfl⟩
  rw [hks] at HS HG
  generalize items.length = n1 at *
  generalize ss.length = n2 at *
  generalize gs.length = n3 at *
  have wl : IntKind.i64.wrap ((n2 : Int) + n3) = (n2 : Int) + n3 := wrapi (by omega) (by omega)
  clear h hI hS hG e0 e1 e2 e3 hks items ss gs
  have HB := hide ((Below.refl w.heap.size w).alloc (Nat.le_refl _) (.cells #[.int .i64 cap, .slice a1 n1 c1, .bool closed, .slice a2 n2 c2, .slice a3 n3 c3] 25) |>.alloc (by simp) (.cells #[.int .i64 0, .int .i64 0] 30))
  have HQ := hide (keep_alloc (new_block w (.cells #[.int .i64 cap, .slice a1 n1 c1, .bool closed, .slice a2 n2 c2, .slice a3 n3 c3] 25)) (.cells #[.int .i64 0, .int .i64 0] 30))
  have HR := hide (new_block (w.alloc (.cells #[.int .i64 cap, .slice a1 n1 c1, .bool closed, .slice a2 n2 c2, .slice a3 n3 c3] 25)) (.cells #[.int .i64 0, .int .i64 0] 30))
  rw [World.size_alloc] at HR
  obtain ⟨⟨p0, p1, p2, p3, p4⟩, -, pl⟩ := block5 (unhide HQ)
  go_enter Try.func12, Try.ntmps12
  go_upto_region 1 with fail
  obtain ⟨W0, eW⟩ : ∃ W, (w.alloc (.cells #[.int .i64 cap, .slice a1 n1 c1, .bool closed, .slice a2 n2 c2, .slice a3 n3 c3] 25)).alloc (.cells #[.int .i64 0, .int .i64 0] 30) = W := ⟨_, rfl⟩
  rw [eW] at HB HQ HR p0 p1 p2 p3 p4 pl ⊢
  clear eW
  go_wp2_with (first
    | (go_at_call 33; refine (unhide HW _ (unhide HB)).mono ?_; rintro e w1 ⟨rfl, hb1⟩; have HB1 := hide (Below.next (unhide HB) hb1 (Nat.le_refl _)); have HQ1 := hide (keep_below (unhide HQ) hb1); have HR1 := hide (keep_below (unhide HR) hb1); have HG1 := hide (Nat.lt_of_lt_of_le (block2 (unhide HR)).2.2.2.2 hb1.size); clear p0 p1 p2 p3 p4 pl hb1; obtain ⟨⟨p0, p1, p2, p3, p4⟩, -, pl⟩ := block5 (unhide HQ1); obtain ⟨r0, r1, f0, f1, rl⟩ := block2 (unhide HR1); have hmk := make_set ((n2 : Int) + n3) w1; clear HB HQ HR)
    | (go_at_call 34; (with_reducible refine Calls.mono (unhide HS _ w1.heap.size ((unhide HB1).alloc (unhide HB1).size _) (unhide HB1).size (set_made w1)) ?_); rintro e w2 ⟨rfl, hz2, hb2⟩; have HZ2 : Hid (IsSet w2 w1.heap.size ks) := (by first | exact hz2 trivial | exact hz2 rfl | exact hz2); have HB2 := hide (Below.trans ((unhide HB1).alloc (unhide HB1).size _) (hb2.below (unhide HB1).size (Nat.le_trans (unhide HB1).size (by simp)))); have HQ2 := hide (keep_but (keep_alloc (unhide HQ1) _) hb2 (Nat.ne_of_lt (block5 (unhide HQ1)).2.2)); have HR2 := hide (keep_but (keep_alloc (unhide HR1) _) hb2 (Nat.ne_of_lt (unhide HG1))); clear p0 p1 p2 p3 p4 pl r0 r1 f0 f1 rl hz2 hb2; obtain ⟨⟨p0, p1, p2, p3, p4⟩, -, pl⟩ := block5 (unhide HQ2); obtain ⟨r0, r1, f0, f1, rl⟩ := block2 (unhide HR2))
    | (go_at_call 34; (with_reducible refine Calls.mono (unhide HG _ w1.heap.size (unhide HB2) (unhide HB1).size (unhide HZ2)) ?_); rintro e w3 ⟨rfl, hb3⟩; have HB3 := hide (Below.trans (unhide HB2) (hb3.below (unhide HB1).size (unhide HB2).size)); have HQ3 := hide (keep_but (unhide HQ2) hb3 (Nat.ne_of_lt (block5 (unhide HQ1)).2.2)); have HR3 := hide (keep_but (unhide HR2) hb3 (Nat.ne_of_lt (unhide HG1))); clear p0 p1 p2 p3 p4 pl r0 r1 f0 f1 rl hb3; obtain ⟨⟨p0, p1, p2, p3, p4⟩, -, pl⟩ := block5 (unhide HQ3); obtain ⟨r0, r1, f0, f1, rl⟩ := block2 (unhide HR3))
    | (go_at_call 35; refine (unhide HV _ (unhide HB3)).mono ?_; rintro e w4 ⟨rfl, hb4⟩; have HB4 := hide (Below.next (unhide HB3) hb4 (Nat.le_refl _)); have HQ4 := hide (keep_below (unhide HQ3) hb4); have HR4 := hide (keep_below (unhide HR3) hb4); clear p0 p1 p2 p3 p4 pl r0 r1 f0 f1 rl hb4; obtain ⟨⟨p0, p1, p2, p3, p4⟩, -, pl⟩ := block5 (unhide HQ4); obtain ⟨r0, r1, f0, f1, rl⟩ := block2 (unhide HR4))
    )
  exact bodyPost_ret (v := .agg #[.int .i64 5, .int .i64 2]) (by simp [results, Try.results12, go_sem, r0, r1]) rfl ⟨rfl, below_set2 (unhide HB4) (Nat.le_succ _) _ _⟩

set_option maxRecDepth 100000 in
set_option maxHeartbeats 1000000 in
theorem check_ok (w : World) (v : Value) (P : Pp) (h : IsPipe w v P) (hs : Short P) (x0 : wholeC P.cap P.items.length P.ss.length P.gs.length P.closed = 0) (x1 : postsC [] P.ss = 0) (x2 : postsC (tasks P.ss) P.gs = 0) (x3 : P.gs.any valuedP = false) :
    Calls Try.prog 12 #[v] w fun e w' => e = .returned (faultV (0, 0)) ∧ Below w.heap.size w w' := by
  obtain ⟨cap, items, closed, ss, gs⟩ := P
  obtain ⟨a1, c1, a2, c2, a3, c3, rfl, hI, hS, hG⟩ := h.form
  obtain ⟨h1, h2, h3⟩ := hs
  simp only at h1 h2 h3 hI hS hG h x0 x1 x2 x3 ⊢
  have HW : Hid (∀ W, Below w.heap.size w W → Calls Try.prog 33 #[.agg #[.int .i64 cap, .slice a1 items.length c1, .bool closed, .slice a2 ss.length c2, .slice a3 gs.length c3]] W fun e w' => e = .returned (.int .i64 (wholeC cap items.length ss.length gs.length closed)) ∧ Below W.heap.size W w') := fun W hW => checkWhole_any W _ ⟨cap, items, closed, ss, gs⟩ (h.below hW) ⟨h1, h2, h3⟩
  have HS : Hid (∀ W B, Below w.heap.size w W → w.heap.size ≤ B → IsSet W B [] → Calls Try.prog 34 #[.map (some B), .slice a2 ss.length c2] W fun e w' => e = .returned (.int .i64 (postsC [] ss)) ∧ (postsC [] ss = 0 → IsSet w' B (tasks ss)) ∧ But B W w') := fun W B hW hB hSet => checkPosts_any W B [] _ ss hSet (hS.below hW) (fun h0 k hk => by have := hS.old kp h0 k hk; omega) (by unfold maxLen; omega)
  have HG : Hid (∀ W B, Below w.heap.size w W → w.heap.size ≤ B → IsSet W B (tasks ss) → Calls Try.prog 34 #[.map (some B), .slice a3 gs.length c3] W fun e w' => e = .returned (.int .i64 (postsC (tasks ss) gs)) ∧ But B W w') := fun W B hW hB hSet => (checkPosts_any W B (tasks ss) _ gs hSet (hG.below hW) (fun h0 k hk => by have := hG.old kp h0 k hk; omega) (by unfold maxLen; omega)).mono (fun e w' ⟨q1, _, q3⟩ => ⟨q1, q3⟩)
  have HV : Hid (∀ W, Below w.heap.size w W → Calls Try.prog 35 #[.slice a3 gs.length c3, .func (.func 36) #[] #[]] W fun e w' => e = .returned (.bool (gs.any valuedP)) ∧ Below W.heap.size W w') := fun W hW => containsFunc_any W _ gs (hG.below hW) (by unfold maxLen; omega) 36 enters36 #[] valuedP (fun W y _ => valued_any W y.1 y.2.1 y.2.2)
  obtain ⟨d0, e0⟩ : ∃ d, wholeC cap items.length ss.length gs.length closed = d := ⟨_, rfl⟩
  obtain ⟨d1, e1⟩ : ∃ d, postsC [] ss = d := ⟨_, rfl⟩
  obtain ⟨d2, e2⟩ : ∃ d, postsC (tasks ss) gs = d := ⟨_, rfl⟩
  obtain ⟨d3, e3⟩ : ∃ d, gs.any valuedP = d := ⟨_, rfl⟩
  rw [e0] at HW; rw [e1] at HS; rw [e2] at HG; rw [e3] at HV
  rw [e0] at x0; subst x0; rw [e1] at x1; subst x1; rw [e2] at x2; subst x2; rw [e3] at x3; subst x3
  obtain ⟨ks, hks⟩ : ∃ ks, tasks ss = ks := ⟨_, rfl⟩
  rw [hks] at HS HG
  generalize items.length = n1 at *
  generalize ss.length = n2 at *
  generalize gs.length = n3 at *
  have wl : IntKind.i64.wrap ((n2 : Int) + n3) = (n2 : Int) + n3 := wrapi (by omega) (by omega)
  clear h hI hS hG e0 e1 e2 e3 hks items ss gs
  have HB := hide ((Below.refl w.heap.size w).alloc (Nat.le_refl _) (.cells #[.int .i64 cap, .slice a1 n1 c1, .bool closed, .slice a2 n2 c2, .slice a3 n3 c3] 25) |>.alloc (by simp) (.cells #[.int .i64 0, .int .i64 0] 30))
  have HQ := hide (keep_alloc (new_block w (.cells #[.int .i64 cap, .slice a1 n1 c1, .bool closed, .slice a2 n2 c2, .slice a3 n3 c3] 25)) (.cells #[.int .i64 0, .int .i64 0] 30))
  have HR := hide (new_block (w.alloc (.cells #[.int .i64 cap, .slice a1 n1 c1, .bool closed, .slice a2 n2 c2, .slice a3 n3 c3] 25)) (.cells #[.int .i64 0, .int .i64 0] 30))
  rw [World.size_alloc] at HR
  obtain ⟨⟨p0, p1, p2, p3, p4⟩, -, pl⟩ := block5 (unhide HQ)
  go_enter Try.func12, Try.ntmps12
  go_upto_region 1 with fail
  obtain ⟨W0, eW⟩ : ∃ W, (w.alloc (.cells #[.int .i64 cap, .slice a1 n1 c1, .bool closed, .slice a2 n2 c2, .slice a3 n3 c3] 25)).alloc (.cells #[.int .i64 0, .int .i64 0] 30) = W := ⟨_, rfl⟩
  rw [eW] at HB HQ HR p0 p1 p2 p3 p4 pl ⊢
  clear eW
  go_wp2_with (first
    | (go_at_call 33; refine (unhide HW _ (unhide HB)).mono ?_; rintro e w1 ⟨rfl, hb1⟩; have HB1 := hide (Below.next (unhide HB) hb1 (Nat.le_refl _)); have HQ1 := hide (keep_below (unhide HQ) hb1); have HR1 := hide (keep_below (unhide HR) hb1); have HG1 := hide (Nat.lt_of_lt_of_le (block2 (unhide HR)).2.2.2.2 hb1.size); clear p0 p1 p2 p3 p4 pl hb1; obtain ⟨⟨p0, p1, p2, p3, p4⟩, -, pl⟩ := block5 (unhide HQ1); obtain ⟨r0, r1, f0, f1, rl⟩ := block2 (unhide HR1); have hmk := make_set ((n2 : Int) + n3) w1; clear HB HQ HR)
    | (go_at_call 34; (with_reducible refine Calls.mono (unhide HS _ w1.heap.size ((unhide HB1).alloc (unhide HB1).size _) (unhide HB1).size (set_made w1)) ?_); rintro e w2 ⟨rfl, hz2, hb2⟩; have HZ2 : Hid (IsSet w2 w1.heap.size ks) := (by first | exact hz2 trivial | exact hz2 rfl | exact hz2); have HB2 := hide (Below.trans ((unhide HB1).alloc (unhide HB1).size _) (hb2.below (unhide HB1).size (Nat.le_trans (unhide HB1).size (by simp)))); have HQ2 := hide (keep_but (keep_alloc (unhide HQ1) _) hb2 (Nat.ne_of_lt (block5 (unhide HQ1)).2.2)); have HR2 := hide (keep_but (keep_alloc (unhide HR1) _) hb2 (Nat.ne_of_lt (unhide HG1))); clear p0 p1 p2 p3 p4 pl r0 r1 f0 f1 rl hz2 hb2; obtain ⟨⟨p0, p1, p2, p3, p4⟩, -, pl⟩ := block5 (unhide HQ2); obtain ⟨r0, r1, f0, f1, rl⟩ := block2 (unhide HR2))
    | (go_at_call 34; (with_reducible refine Calls.mono (unhide HG _ w1.heap.size (unhide HB2) (unhide HB1).size (unhide HZ2)) ?_); rintro e w3 ⟨rfl, hb3⟩; have HB3 := hide (Below.trans (unhide HB2) (hb3.below (unhide HB1).size (unhide HB2).size)); have HQ3 := hide (keep_but (unhide HQ2) hb3 (Nat.ne_of_lt (block5 (unhide HQ1)).2.2)); have HR3 := hide (keep_but (unhide HR2) hb3 (Nat.ne_of_lt (unhide HG1))); clear p0 p1 p2 p3 p4 pl r0 r1 f0 f1 rl hb3; obtain ⟨⟨p0, p1, p2, p3, p4⟩, -, pl⟩ := block5 (unhide HQ3); obtain ⟨r0, r1, f0, f1, rl⟩ := block2 (unhide HR3))
    | (go_at_call 35; refine (unhide HV _ (unhide HB3)).mono ?_; rintro e w4 ⟨rfl, hb4⟩; have HB4 := hide (Below.next (unhide HB3) hb4 (Nat.le_refl _)); have HQ4 := hide (keep_below (unhide HQ3) hb4); have HR4 := hide (keep_below (unhide HR3) hb4); clear p0 p1 p2 p3 p4 pl r0 r1 f0 f1 rl hb4; obtain ⟨⟨p0, p1, p2, p3, p4⟩, -, pl⟩ := block5 (unhide HQ4); obtain ⟨r0, r1, f0, f1, rl⟩ := block2 (unhide HR4))
    )
  exact bodyPost_ret (v := .agg #[.int .i64 0, .int .i64 0]) (by simp [results, Try.results12, go_sem, r0, r1]) rfl ⟨rfl, below_set2 (unhide HB4) (Nat.le_succ _) _ _⟩

theorem check_any (w : World) (v : Value) (P : Pp) (h : IsPipe w v P) (hs : Short P) :
    Calls Try.prog 12 #[v] w fun e w' => e = .returned (faultV (pipeF P)) ∧ Below w.heap.size w w' := by
  unfold pipeF
  split
  · rename_i x0; exact check_whole w v P h hs x0
  · rename_i x0
    split
    · rename_i x1; exact check_senders w v P h hs (by omega) x1
    · rename_i x1
      split
      · rename_i x2; exact check_getters w v P h hs (by omega) (by omega) x2
      · rename_i x2
        split
        · rename_i x3; exact check_valued w v P h hs (by omega) (by omega) (by omega) x3
        · rename_i x3; exact check_ok w v P h hs (by omega) (by omega) (by omega) (by simpa using x3)
end Go.Proofs.Ytijogcjocandcaa
