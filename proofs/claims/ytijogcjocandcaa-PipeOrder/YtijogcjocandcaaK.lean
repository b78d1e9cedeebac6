/-
  taskmillref.SamePipe, taskmillref.SameAnswer, taskmilllaw.pipeAs, taskmilllaw.vastPipe.
-/
import Derived.Test.YtijogcjocandcaaJ
namespace Go.Proofs.Ytijogcjocandcaa
open Go.RowKit

theorem IsAns.form {w : World} {v : Value} {A : An} (h : IsAns w v A) : ∃ a c, v = .agg #[.bool A.done, .bool A.panic, .bool A.ok, .int .i64 A.value, .int .i64 A.case, .slice a A.wakes.length c] ∧ IsL KW w (.slice a A.wakes.length c) A.wakes := by
  obtain ⟨vw, rfl, h1⟩ := h
  obtain ⟨a, c, rfl⟩ := h1.form
  exact ⟨a, c, rfl, h1⟩

set_option maxRecDepth 100000 in
set_option maxHeartbeats 1000000 in
theorem samePipe_any (w : World) (v v' : Value) (P : Pp) (h : IsPipe w v P) (h' : IsPipe w v' P) (hs : Short P) :
    Calls Try.prog 15 #[v, v'] w fun e w' => e = .returned (.bool true) ∧ Below w.heap.size w w' := by
  obtain ⟨cap, items, closed, ss, gs⟩ := P
  obtain ⟨a1, c1, a2, c2, a3, c3, rfl, hI, hS, hG⟩ := h.form
  obtain ⟨b1, d1, b2, d2, b3, d3, rfl, hI', hS', hG'⟩ := h'.form
  obtain ⟨h1, h2, h3⟩ := hs
  simp only at h1 h2 h3 hI hS hG hI' hS' hG' h h' ⊢
  have HI : Hid (∀ W, Below w.heap.size w W → Calls Try.prog 40 #[.slice a1 items.length c1, .slice b1 items.length d1] W fun e w' => e = .returned (.bool true) ∧ Below W.heap.size W w') := fun W hW => ints_same W _ _ items (hI.below hW) (hI'.below hW) (by unfold maxLen; omega)
  have HS : Hid (∀ W, Below w.heap.size w W → Calls Try.prog 41 #[.slice a2 ss.length c2, .slice b2 ss.length d2] W fun e w' => e = .returned (.bool true) ∧ Below W.heap.size W w') := fun W hW => posts_same W _ _ ss (hS.below hW) (hS'.below hW) (by unfold maxLen; omega)
  have HG : Hid (∀ W, Below w.heap.size w W → Calls Try.prog 41 #[.slice a3 gs.length c3, .slice b3 gs.length d3] W fun e w' => e = .returned (.bool true) ∧ Below W.heap.size W w') := fun W hW => posts_same W _ _ gs (hG.below hW) (hG'.below hW) (by unfold maxLen; omega)
  generalize items.length = n1 at *
  generalize ss.length = n2 at *
  generalize gs.length = n3 at *
  clear h h' hI hS hG hI' hS' hG' items ss gs
  have e1 : (cap == cap) = true := by simp
  have e2 : (closed == closed) = true := by simp
  have HB := hide ((Below.refl w.heap.size w).alloc (Nat.le_refl _) (.cells #[.int .i64 cap, .slice a1 n1 c1, .bool closed, .slice a2 n2 c2, .slice a3 n3 c3] 25) |>.alloc (by simp) (.cells #[.int .i64 cap, .slice b1 n1 d1, .bool closed, .slice b2 n2 d2, .slice b3 n3 d3] 25))
  have HQ := hide (keep_alloc (new_block w (.cells #[.int .i64 cap, .slice a1 n1 c1, .bool closed, .slice a2 n2 c2, .slice a3 n3 c3] 25)) (.cells #[.int .i64 cap, .slice b1 n1 d1, .bool closed, .slice b2 n2 d2, .slice b3 n3 d3] 25))
  have HR := hide (new_block (w.alloc (.cells #[.int .i64 cap, .slice a1 n1 c1, .bool closed, .slice a2 n2 c2, .slice a3 n3 c3] 25)) (.cells #[.int .i64 cap, .slice b1 n1 d1, .bool closed, .slice b2 n2 d2, .slice b3 n3 d3] 25))
  rw [World.size_alloc] at HR
  go_enter Try.func15, Try.ntmps15
  go_upto_region 1 with fail
  obtain ⟨W0, eW⟩ : ∃ W, (w.alloc (.cells #[.int .i64 cap, .slice a1 n1 c1, .bool closed, .slice a2 n2 c2, .slice a3 n3 c3] 25)).alloc (.cells #[.int .i64 cap, .slice b1 n1 d1, .bool closed, .slice b2 n2 d2, .slice b3 n3 d3] 25) = W := ⟨_, rfl⟩
  rw [eW] at HB HQ HR ⊢
  clear eW
  obtain ⟨⟨p0, p1, p2, p3, p4⟩, -, pl⟩ := block5 (unhide HQ)
  obtain ⟨⟨q0, q1, q2, q3, q4⟩, -, ql⟩ := block5 (unhide HR)
  go_wp2_with (first
    | (go_at_call 40; refine (unhide HI _ (unhide HB)).mono ?_; rintro e w1 ⟨rfl, hb1⟩; have HB1 := hide (Below.next (unhide HB) hb1 (Nat.le_refl _)); have HQ1 := hide (keep_below (unhide HQ) hb1); have HR1 := hide (keep_below (unhide HR) hb1); clear p0 p1 p2 p3 p4 pl q0 q1 q2 q3 q4 ql hb1; obtain ⟨⟨p0, p1, p2, p3, p4⟩, -, pl⟩ := block5 (unhide HQ1); obtain ⟨⟨q0, q1, q2, q3, q4⟩, -, ql⟩ := block5 (unhide HR1))
    | (go_at_call 41; (with_reducible refine Calls.mono (unhide HS _ (unhide HB1)) ?_); rintro e w2 ⟨rfl, hb1⟩; have HB2 := hide (Below.next (unhide HB1) hb1 (Nat.le_refl _)); have HQ2 := hide (keep_below (unhide HQ1) hb1); have HR2 := hide (keep_below (unhide HR1) hb1); clear p0 p1 p2 p3 p4 pl q0 q1 q2 q3 q4 ql hb1; obtain ⟨⟨p0, p1, p2, p3, p4⟩, -, pl⟩ := block5 (unhide HQ2); obtain ⟨⟨q0, q1, q2, q3, q4⟩, -, ql⟩ := block5 (unhide HR2))
    | (go_at_call 41; (with_reducible refine Calls.mono (unhide HG _ (unhide HB2)) ?_); rintro e w3 ⟨rfl, hb1⟩; have HB3 := hide (Below.next (unhide HB2) hb1 (Nat.le_refl _)); clear p0 p1 p2 p3 p4 pl q0 q1 q2 q3 q4 ql hb1))
  go_ret
  exact ⟨rfl, unhide HB3⟩

set_option maxRecDepth 100000 in
set_option maxHeartbeats 1000000 in
theorem sameAns_any (w : World) (v v' : Value) (A : An) (h : IsAns w v A) (h' : IsAns w v' A) (hs : A.wakes.length ≤ maxLen) :
    Calls Try.prog 31 #[v, v'] w fun e w' => e = .returned (.bool true) ∧ Below w.heap.size w w' := by
  obtain ⟨x0, x1, x2, x3, x4, wk⟩ := A
  obtain ⟨a1, c1, rfl, hI⟩ := h.form
  obtain ⟨b1, d1, rfl, hI'⟩ := h'.form
  simp only at hs hI hI' h h' ⊢
  have HI : Hid (∀ W, Below w.heap.size w W → Calls Try.prog 32 #[.slice a1 wk.length c1, .slice b1 wk.length d1] W fun e w' => e = .returned (.bool true) ∧ Below W.heap.size W w') := fun W hW => wakes_same W _ _ wk (hI.below hW) (hI'.below hW) hs
  generalize wk.length = n1 at *
  clear h h' hI hI' wk hs
  have e0 : (x0 == x0) = true := by simp
  have e1 : (x1 == x1) = true := by simp
  have e2 : (x2 == x2) = true := by simp
  have e3 : (x3 == x3) = true := by simp
  have e4 : (x4 == x4) = true := by simp
  go_enter Try.func31, Try.ntmps31
  go_wp2_with (go_at_call 32; refine (unhide HI _ (((Below.refl _ _).alloc (Nat.le_refl _) _).alloc (by simp) _)).mono ?_; rintro e w1 ⟨rfl, hb1⟩; have HB1 := hide (Below.next (((Below.refl w.heap.size w).alloc (Nat.le_refl _) _).alloc (by simp) _) hb1 (Nat.le_refl _)); clear hb1)
  go_ret
  exact ⟨rfl, unhide HB1⟩

def vastL (P : Pp) : Bool := decide (6000 < countP P) || decide (800 < P.ss.length + P.gs.length)

set_option maxRecDepth 100000 in
set_option maxHeartbeats 1000000 in
theorem vast_any (w : World) (v : Value) (P : Pp) (h : IsPipe w v P) (hs : Short P) :
    Calls Try.prog 10 #[v] w fun e w' => e = .returned (.bool (vastL P)) ∧ Below w.heap.size w w' := by
  obtain ⟨cap, items, closed, ss, gs⟩ := P
  obtain ⟨a1, c1, a2, c2, a3, c3, rfl, -, -, -⟩ := h.form
  obtain ⟨h1, h2, h3⟩ := hs
  have e : vastL ⟨cap, items, closed, ss, gs⟩ = (decide (6000 < items.length + ss.length + gs.length) || decide (800 < ss.length + gs.length)) := rfl
  rw [e]
  simp only at h1 h2 h3 ⊢
  generalize items.length = n1 at *
  generalize ss.length = n2 at *
  generalize gs.length = n3 at *
  clear h e items ss gs
  have w1 : IntKind.i64.wrap ((n1 : Int) + n2) = (n1 : Int) + n2 := wrapi (by omega) (by omega)
  have w2 : IntKind.i64.wrap ((n1 : Int) + n2 + n3) = (n1 : Int) + n2 + n3 := wrapi (by omega) (by omega)
  have w3 : IntKind.i64.wrap ((n2 : Int) + n3) = (n2 : Int) + n3 := wrapi (by omega) (by omega)
  obtain ⟨r, hr⟩ : ∃ r, (decide (6000 < n1 + n2 + n3) || decide (800 < n2 + n3)) = r := ⟨_, rfl⟩
  rw [hr]
  by_cases q1 : 6000 < n1 + n2 + n3
  · have p1 : (6000 : Int) < (n1 : Int) + n2 + n3 := by omega
    rw [decide_eq_true q1, Bool.true_or] at hr
    subst hr
    go_enter Try.func10, Try.ntmps10
    go_wp2
    go_ret
    exact ⟨rfl, (Below.refl _ _).alloc (Nat.le_refl _) _⟩
  · have p1 : ¬ (6000 : Int) < (n1 : Int) + n2 + n3 := by omega
    rw [decide_eq_false q1, Bool.false_or] at hr
    by_cases q2 : 800 < n2 + n3
    · have p2 : (800 : Int) < (n2 : Int) + n3 := by omega
      rw [decide_eq_true q2] at hr
      subst hr
      go_enter Try.func10, Try.ntmps10
      go_wp2
      go_ret
      exact ⟨rfl, (Below.refl _ _).alloc (Nat.le_refl _) _⟩
    · have p2 : ¬ (800 : Int) < (n2 : Int) + n3 := by omega
      rw [decide_eq_false q2] at hr
      subst hr
      go_enter Try.func10, Try.ntmps10
      go_wp2
      go_ret
      exact ⟨by first | rfl | (simp; omega), (Below.refl _ _).alloc (Nat.le_refl _) _⟩

theorem six_new (w : World) (o0 o1 o2 o3 o4 o5 : Obj) : ∃ W, (((((w.alloc o0).alloc o1).alloc o2).alloc o3).alloc o4).alloc o5 = W ∧ Below w.heap.size w W ∧ W.heap[w.heap.size]? = some o0 ∧ W.heap[w.heap.size + 1]? = some o1 ∧ W.heap[w.heap.size + 2]? = some o2 ∧ W.heap[w.heap.size + 3]? = some o3 ∧ W.heap[w.heap.size + 4]? = some o4 ∧ W.heap[w.heap.size + 5]? = some o5 := by
  refine ⟨_, rfl, (((((((Below.refl w.heap.size w).alloc (Nat.le_refl _) o0).alloc (by simp) o1).alloc (by simp; omega) o2).alloc (by simp; omega) o3).alloc (by simp; omega) o4).alloc (by simp; omega) o5), ?_, ?_, ?_, ?_, ?_, ?_⟩
  · exact keep_alloc (keep_alloc (keep_alloc (keep_alloc (keep_alloc (new_block w o0) _) _) _) _) _
  · have := new_block (w.alloc o0) o1
    rw [World.size_alloc] at this
    exact keep_alloc (keep_alloc (keep_alloc (keep_alloc this _) _) _) _
  · have := new_block ((w.alloc o0).alloc o1) o2
    rw [World.size_alloc, World.size_alloc] at this
    exact keep_alloc (keep_alloc (keep_alloc this _) _) _
  · have := new_block (((w.alloc o0).alloc o1).alloc o2) o3
    rw [World.size_alloc, World.size_alloc, World.size_alloc] at this
    exact keep_alloc (keep_alloc this _) _
  · have := new_block ((((w.alloc o0).alloc o1).alloc o2).alloc o3) o4
    rw [World.size_alloc, World.size_alloc, World.size_alloc, World.size_alloc] at this
    exact keep_alloc this _
  · have := new_block (((((w.alloc o0).alloc o1).alloc o2).alloc o3).alloc o4) o5
    rw [World.size_alloc, World.size_alloc, World.size_alloc, World.size_alloc, World.size_alloc] at this
    exact this

set_option maxRecDepth 100000 in
set_option maxHeartbeats 1000000 in
theorem pipeAs_any (w : World) (vp va vq vb : Value) (P Q : Pp) (A B : An) (x y : Int) (hp : IsPipe w vp P) (ha : IsAns w va A) (hq : IsPipe w vq Q) (hb : IsAns w vb B) (hsP : Short P) (hsA : A.wakes.length ≤ maxLen)
    (h0 : x = 0 → Q = P ∧ B = A) (h1 : x ≠ 0 → P = zeroP ∧ A = zeroA) :
    Calls Try.prog 18 #[vp, va, .agg #[.int .i64 x, .int .i64 y], .agg #[.int .i64 x, .int .i64 y], vq, vb] w fun e w' => e = .returned (.bool true) ∧ Below w.heap.size w w' := by
  obtain ⟨a1, c1, a2, c2, a3, c3, ep, -, -, -⟩ := hp.form
  obtain ⟨a4, c4, ea, -⟩ := ha.form
  obtain ⟨b1, d1, b2, d2, b3, d3, eq, -, -, -⟩ := hq.form
  obtain ⟨b4, d4, eb, -⟩ := hb.form
  have ex : (x == x) = true := by simp
  have ey : (y == y) = true := by simp
  have HSP : Hid (∀ W, Below w.heap.size w W → x = 0 → Calls Try.prog 15 #[vp, vq] W fun e w' => e = .returned (.bool true) ∧ Below W.heap.size W w') := fun W hW hx => samePipe_any W _ _ P (hp.below hW) (by have := hq.below hW; rw [(h0 hx).1] at this; exact this) hsP
  have HSA : Hid (∀ W, Below w.heap.size w W → x = 0 → Calls Try.prog 31 #[va, vb] W fun e w' => e = .returned (.bool true) ∧ Below W.heap.size W w') := fun W hW hx => sameAns_any W _ _ A (ha.below hW) (by have := hb.below hW; rw [(h0 hx).2] at this; exact this) hsA
  have HZP : Hid (∀ W, Below w.heap.size w W → x ≠ 0 → Calls Try.prog 15 #[vp, .agg #[.int .i64 0, .slice none 0 0, .bool false, .slice none 0 0, .slice none 0 0]] W fun e w' => e = .returned (.bool true) ∧ Below W.heap.size W w') := fun W hW hx => samePipe_any W _ _ P (hp.below hW) (by rw [(h1 hx).1]; exact zero_pipe W) hsP
  have HZA : Hid (∀ W, Below w.heap.size w W → x ≠ 0 → Calls Try.prog 31 #[va, .agg #[.bool false, .bool false, .bool false, .int .i64 0, .int .i64 0, .slice none 0 0]] W fun e w' => e = .returned (.bool true) ∧ Below W.heap.size W w') := fun W hW hx => sameAns_any W _ _ A (ha.below hW) (by rw [(h1 hx).2]; exact zero_ans W) hsA
  subst ep ea eq eb
  clear hp ha hq hb h0 h1 hsP hsA
  generalize P.cap = cap, P.items.length = n1, P.closed = closed, P.ss.length = n2, P.gs.length = n3 at *
  generalize A.done = o0, A.panic = o1, A.ok = o2, A.value = o3, A.case = o4, A.wakes.length = o5 at *
  generalize Q.cap = cap', Q.items.length = n1', Q.closed = closed', Q.ss.length = n2', Q.gs.length = n3' at *
  generalize B.done = o0', B.panic = o1', B.ok = o2', B.value = o3', B.case = o4', B.wakes.length = o5' at *
  clear P A Q B
  obtain ⟨W0, e0, hB, k0, k1, k2, k3, k4, k5⟩ := six_new w (.cells #[.int .i64 cap, .slice a1 n1 c1, .bool closed, .slice a2 n2 c2, .slice a3 n3 c3] 25) (.cells #[.bool o0, .bool o1, .bool o2, .int .i64 o3, .int .i64 o4, .slice a4 o5 c4] 34) (.cells #[.int .i64 x, .int .i64 y] 30) (.cells #[.int .i64 x, .int .i64 y] 30) (.cells #[.int .i64 cap', .slice b1 n1' d1, .bool closed', .slice b2 n2' d2, .slice b3 n3' d3] 25) (.cells #[.bool o0', .bool o1', .bool o2', .int .i64 o3', .int .i64 o4', .slice b4 o5' d4] 34)
  have HB := hide hB; have HK1 := hide k1; have HK5 := hide k5
  obtain ⟨⟨p0, p1, p2, p3, p4⟩, -, pl⟩ := block5 k0
  obtain ⟨⟨q0, q1, q2, q3, q4⟩, -, ql⟩ := block5 k4
  obtain ⟨t0, t1, -, -, tl⟩ := block2 k2
  obtain ⟨u0, u1, -, -, ul⟩ := block2 k3
  obtain ⟨s0, -, sl⟩ := block6 k1
  obtain ⟨z0, -, zl⟩ := block6 k5
  have HE := hide e0
  clear hB k0 k1 k2 k3 k4 k5 e0 s0 z0
  go_enter Try.func18, Try.ntmps18
  go_upto_region 1 with fail
  rw [unhide HE]
  clear HE
  by_cases hx : x = 0
  · have HSP2 := hide (fun W hW => unhide HSP W hW hx); have HSA2 := hide (fun W hW => unhide HSA W hW hx)
    clear HSP HSA HZP HZA
    subst hx
    go_wp2_with (first
      | (go_at_call 15; refine (unhide HSP2 _ (unhide HB)).mono ?_; rintro e w1 ⟨rfl, hb1⟩; have HB1 := hide (Below.next (unhide HB) hb1 (Nat.le_refl _)); obtain ⟨⟨s0, s1, s2, s3, s4, s5⟩, -, sl⟩ := block6 (keep_below (unhide HK1) hb1); obtain ⟨⟨z0, z1, z2, z3, z4, z5⟩, -, zl⟩ := block6 (keep_below (unhide HK5) hb1); clear hb1)
      | (go_at_call 31; refine (unhide HSA2 _ (unhide HB1)).mono ?_; rintro e w2 ⟨rfl, hb2⟩; have HB2 := hide (Below.next (unhide HB1) hb2 (Nat.le_refl _)); clear hb2))
    go_ret
    exact ⟨rfl, unhide HB2⟩
  · have HSP2 := hide (fun W hW => unhide HZP W hW hx); have HSA2 := hide (fun W hW => unhide HZA W hW hx)
    have hx1 : (x != 0) = true := by simpa using hx
    clear HSP HSA HZP HZA hx
    go_wp2_with (first
      | (go_at_call 15; refine (unhide HSP2 _ (unhide HB)).mono ?_; rintro e w1 ⟨rfl, hb1⟩; have HB1 := hide (Below.next (unhide HB) hb1 (Nat.le_refl _)); obtain ⟨⟨s0, s1, s2, s3, s4, s5⟩, -, sl⟩ := block6 (keep_below (unhide HK1) hb1); clear hb1)
      | (go_at_call 31; refine (unhide HSA2 _ (unhide HB1)).mono ?_; rintro e w2 ⟨rfl, hb2⟩; have HB2 := hide (Below.next (unhide HB1) hb2 (Nat.le_refl _)); clear hb2))
    go_ret
    exact ⟨rfl, unhide HB2⟩
end Go.Proofs.Ytijogcjocandcaa
