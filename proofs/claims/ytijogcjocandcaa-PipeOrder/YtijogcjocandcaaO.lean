/-
  pipe.send.
-/
import Derived.Test.YtijogcjocandcaaN
namespace Go.Proofs.Ytijogcjocandcaa
open Go.RowKit

def put5 (w : World) (R : Nat) (y0 y1 y2 y3 y4 : Value) : World := ((((w.setCell ⟨R, 0, none⟩ y0).setCell ⟨R, 1, none⟩ y1).setCell ⟨R, 2, none⟩ y2).setCell ⟨R, 3, none⟩ y3).setCell ⟨R, 4, none⟩ y4
def put6 (w : World) (R : Nat) (y0 y1 y2 y3 y4 y5 : Value) : World := (((((w.setCell ⟨R, 0, none⟩ y0).setCell ⟨R, 1, none⟩ y1).setCell ⟨R, 2, none⟩ y2).setCell ⟨R, 3, none⟩ y3).setCell ⟨R, 4, none⟩ y4).setCell ⟨R, 5, none⟩ y5
theorem put5_keep {w : World} {R k : Nat} {y0 y1 y2 y3 y4 : Value} (h : k ≠ R) : (put5 w R y0 y1 y2 y3 y4).heap[k]? = w.heap[k]? := by
  unfold put5
  repeat rw [Below.heap_setCell _ _ _ _ (by simpa using h)]
theorem put6_keep {w : World} {R k : Nat} {y0 y1 y2 y3 y4 y5 : Value} (h : k ≠ R) : (put6 w R y0 y1 y2 y3 y4 y5).heap[k]? = w.heap[k]? := by
  unfold put6
  repeat rw [Below.heap_setCell _ _ _ _ (by simpa using h)]
theorem put5_below {B R : Nat} {w w' : World} (h : Below B w w') (hR : B ≤ R) {y0 y1 y2 y3 y4 : Value} : Below B w (put5 w' R y0 y1 y2 y3 y4) := ((((h.setCell hR y0).setCell hR y1).setCell hR y2).setCell hR y3).setCell hR y4
theorem put6_below {B R : Nat} {w w' : World} (h : Below B w w') (hR : B ≤ R) {y0 y1 y2 y3 y4 y5 : Value} : Below B w (put6 w' R y0 y1 y2 y3 y4 y5) := (((((h.setCell hR y0).setCell hR y1).setCell hR y2).setCell hR y3).setCell hR y4).setCell hR y5

theorem Own.ne {α : Type} {K : Kind α} {base : Nat} {w : World} {v : Value} {xs : List α} (h : Own K base w v xs) {R : Nat} {arr : Array Value} {t : TypeId} {f : Nat × Nat} (hR : w.heap[R]? = some (.cells arr t f)) (ht : t ≠ K.e) : ∀ k, v.ownBlock = some k → k ≠ R := by
  obtain ⟨_, ⟨rfl, _⟩ | ⟨g, cap, cur, rfl, hg, hh, _⟩⟩ := h
  · intro k hk; cases hk
  · intro k hk
    cases hk
    rintro rfl
    rw [hh] at hR
    cases hR
    exact ht rfl
theorem keep_grown {w w' : World} {k : Nat} {x : Obj} {row : Option Nat} (h : w.heap[k]? = some x) (hg : w.grownBy w' row) (hk : ∀ j, row = some j → j ≠ k) : w'.heap[k]? = some x := by
  obtain ⟨_, _, _, _, hb⟩ := hg
  rw [hb k (Array.getElem?_eq_some_iff.1 h).1 (by cases row with | none => simp | some j => have := hk j rfl; simp; omega)]
  exact h
theorem Own.grown {α : Type} {K : Kind α} {base : Nat} {w w' : World} {v v' : Value} {xs : List α} (h : Own K base w v xs) (hg : w.grownBy w' v'.ownBlock) (ha : Apart v' v) : Own K base w' v xs := h.keep fun k hk => by
  obtain ⟨_, _, _, _, hb⟩ := hg
  exact hb k (h.lt k hk).2 (by
    cases e : v'.ownBlock with
    | none => simp
    | some j => have := ha j e; rw [hk] at this; simp at this ⊢; omega)
theorem isl_one {α : Type} {K : Kind α} (hK : K.Ok) (w : World) (x : α) : IsL K (w.alloc (.cells (K.f x).toArray K.e)) (.slice (some ⟨w.heap.size, 0, none⟩) 1 1) [x] := by
  refine Lies.isl hK (fun j i u hj hu => ?_) rfl (Nat.le_refl _)
  have e : j = 0 := by simp at hj; omega
  subst e
  have hh := new_block w (.cells (K.f x).toArray K.e)
  simp only [World.cell?, hh]
  simpa using hu

theorem four_new (w : World) (o0 o1 o2 o3 : Obj) : ∃ W, (((w.alloc o0).alloc o1).alloc o2).alloc o3 = W ∧ Below w.heap.size w W ∧ W.heap[w.heap.size]? = some o0 ∧ W.heap[w.heap.size + 1]? = some o1 ∧ W.heap[w.heap.size + 1 + 1]? = some o2 ∧ W.heap[w.heap.size + 1 + 1 + 1]? = some o3 := by
  refine ⟨_, rfl, (((((Below.refl w.heap.size w).alloc (Nat.le_refl _) o0).alloc (by simp) o1).alloc (by simp; omega) o2).alloc (by simp; omega) o3), ?_, ?_, ?_, ?_⟩
  · exact keep_alloc (keep_alloc (keep_alloc (new_block w o0) _) _) _
  · have := new_block (w.alloc o0) o1
    rw [World.size_alloc] at this
    exact keep_alloc (keep_alloc this _) _
  · have := new_block ((w.alloc o0).alloc o1) o2
    rw [World.size_alloc, World.size_alloc] at this
    exact keep_alloc this _
  · have := new_block (((w.alloc o0).alloc o1).alloc o2) o3
    rw [World.size_alloc, World.size_alloc, World.size_alloc] at this
    exact this

/-- What is sent at once. -/
def sentL (P : Pp) (x : Po) : Pp × An :=
  if P.closed = true then (P, ⟨true, true, false, 0, 0, []⟩)
  else if 0 < P.gs.length then ({ P with gs := P.gs.drop 1 }, ⟨true, false, false, 0, 0, [((pAt P.gs 0).1, (pAt P.gs 0).2.1, x.2.2, true, false)]⟩)
  else if (P.items.length : Int) < P.cap then ({ P with items := P.items ++ [x.2.2] }, ⟨true, false, false, 0, 0, []⟩)
  else (P, zeroA)
/-- What a Send does. -/
def sendL (P : Pp) (x : Po) (try_ : Bool) : Pp × An :=
  if (sentL P x).2.done = true then sentL P x else if try_ = true then (P, zeroA) else ({ P with ss := P.ss ++ [x] }, zeroA)

set_option maxRecDepth 100000 in
set_option maxHeartbeats 1000000 in
theorem send_closed (w : World) (base : Nat) (v : Value) (P : Pp) (t c u : Int) (try_ : Bool) (h : OwnPipe base w v P) (hb : base ≤ w.heap.size) (hc : countP P ≤ 5000) (hy : P.closed = true) :
    Calls Try.prog 38 #[v, .agg #[.int .i64 t, .int .i64 c, .int .i64 u], .bool try_] w fun e w' => ∃ v1 v2, e = .returned (.tuple #[v1, v2]) ∧ NewPipe base w' v1 P ∧ NewAns base w' v2 ⟨true, true, false, 0, 0, []⟩ ∧ Below base w w' := by
  obtain ⟨cap, items, closed, ss, gs⟩ := P
  obtain ⟨vi, vs, vg, rfl, hI, hS, hG, hA1, hA2, hA3⟩ := h
  obtain ⟨a1, c1, rfl⟩ := hI.form
  obtain ⟨a2, c2, rfl⟩ := hS.form
  obtain ⟨a3, c3, rfl⟩ := hG.form
  have hc' : items.length + ss.length + gs.length ≤ 5000 := hc
  clear hc
  simp only at hI hS hG hA1 hA2 hA3 hy ⊢
  have HBA := hide hb
  subst hy
  have HI := hide hI; have HS := hide hS; have HG := hide hG; have HA1 := hide hA1; have HA2 := hide hA2; have HA3 := hide hA3
  clear hI hS hG hA1 hA2 hA3 hb
  obtain ⟨n1, en1⟩ : ∃ n, items.length = n := ⟨_, rfl⟩
  obtain ⟨n2, en2⟩ : ∃ n, ss.length = n := ⟨_, rfl⟩
  obtain ⟨n3, en3⟩ : ∃ n, gs.length = n := ⟨_, rfl⟩
  rw [en1] at HI HA1 HA2; rw [en2] at HS HA1 HA3; rw [en3] at HG HA2 HA3
  rw [en1, en2, en3] at hc'
  rw [en1, en2, en3]
  have HN1 := hide en1; have HN2 := hide en2; have HN3 := hide en3
  clear en1 en2 en3
  obtain ⟨W0, e0, hB, k0, k1, k2, k3⟩ := four_new w (.cells #[.int .i64 cap, .slice a1 n1 c1, .bool true, .slice a2 n2 c2, .slice a3 n3 c3] 25) (.cells #[.int .i64 t, .int .i64 c, .int .i64 u] 39) (.cells #[.int .i64 0, .slice none 0 0, .bool false, .slice none 0 0, .slice none 0 0] 25) (.cells #[.bool false, .bool false, .bool false, .int .i64 0, .int .i64 0, .slice none 0 0] 34)
  have HB := hide hB; have HK0 := hide k0; have HK1 := hide k1; have HK2 := hide k2; have HK3 := hide k3; have HE := hide e0
  clear hB k0 k1 k2 k3 e0
  go_enter Try.func38, Try.ntmps38
  go_upto_region 1 with fail
  rw [unhide HE]
  clear HE
  obtain ⟨⟨p0, p1, p2, p3, p4⟩, ⟨y0, y1, y2, y3, y4⟩, pl⟩ := block5 (unhide HK0)
  obtain ⟨⟨m0, m1, m2⟩, -, ml⟩ := block3 (unhide HK1)
  obtain ⟨⟨q0, q1, q2, q3, q4⟩, ⟨f0, f1, f2, f3, f4⟩, ql⟩ := block5 (unhide HK2)
  obtain ⟨⟨s0, s1, s2, s3, s4, s5⟩, ⟨g0, g1, g2, g3, g4, g5⟩, sl⟩ := block6 (unhide HK3)
  go_wp2_with fail
  exact bodyPost_ret (v := .tuple #[.agg #[.int .i64 cap, .slice a1 n1 c1, .bool true, .slice a2 n2 c2, .slice a3 n3 c3], .agg #[.bool true, .bool true, .bool false, .int .i64 0, .int .i64 0, .slice none 0 0]]) (by simp [results, Try.results38, go_sem, q0, q1, q2, q3, q4, s0, s1, s2, s3, s4, s5]) rfl ⟨_, _, rfl, ⟨_, _, _, rfl, ((unhide HI).below (put6_below (put5_below (unhide HB) (by omega)) (by omega))).new, ((unhide HS).below (put6_below (put5_below (unhide HB) (by omega)) (by omega))).new, ((unhide HG).below (put6_below (put5_below (unhide HB) (by omega)) (by omega))).new⟩, ⟨_, rfl, new_nil _ _⟩, ((put6_below (put5_below (unhide HB) (by omega)) (by omega))).mono (unhide HBA)⟩

set_option maxRecDepth 100000 in
set_option maxHeartbeats 1000000 in
theorem send_try (w : World) (base : Nat) (v : Value) (P : Pp) (t c u : Int) (h : OwnPipe base w v P) (hb : base ≤ w.heap.size) (hc : countP P ≤ 5000) (hy : P.closed = false) (hz3 : ¬ 0 < P.gs.length) (hz4 : ¬ (P.items.length : Int) < P.cap) :
    Calls Try.prog 38 #[v, .agg #[.int .i64 t, .int .i64 c, .int .i64 u], .bool true] w fun e w' => ∃ v1 v2, e = .returned (.tuple #[v1, v2]) ∧ NewPipe base w' v1 P ∧ NewAns base w' v2 zeroA ∧ Below base w w' := by
  obtain ⟨cap, items, closed, ss, gs⟩ := P
  obtain ⟨vi, vs, vg, rfl, hI, hS, hG, hA1, hA2, hA3⟩ := h
  obtain ⟨a1, c1, rfl⟩ := hI.form
  obtain ⟨a2, c2, rfl⟩ := hS.form
  obtain ⟨a3, c3, rfl⟩ := hG.form
  have hc' : items.length + ss.length + gs.length ≤ 5000 := hc
  clear hc
  simp only at hI hS hG hA1 hA2 hA3 hy hz3 hz4 ⊢
  have HBA := hide hb
  subst hy
  have HI := hide hI; have HS := hide hS; have HG := hide hG; have HA1 := hide hA1; have HA2 := hide hA2; have HA3 := hide hA3
  clear hI hS hG hA1 hA2 hA3 hb
  have HZ3 := hide hz3; clear hz3
  obtain ⟨n1, en1⟩ : ∃ n, items.length = n := ⟨_, rfl⟩
  obtain ⟨n2, en2⟩ : ∃ n, ss.length = n := ⟨_, rfl⟩
  obtain ⟨n3, en3⟩ : ∃ n, gs.length = n := ⟨_, rfl⟩
  rw [en1] at HI HA1 HA2; rw [en2] at HS HA1 HA3; rw [en3] at HG HA2 HA3
  rw [en1, en2, en3] at hc'
  rw [en1] at hz4
  rw [en1, en2, en3]
  have HN1 := hide en1; have HN2 := hide en2; have HN3 := hide en3
  clear en1 en2 en3
  have z3 : ¬ (0 : Int) < (n3 : Int) := by have := unhide HZ3; rw [unhide HN3] at this; omega
  obtain ⟨W0, e0, hB, k0, k1, k2, k3⟩ := four_new w (.cells #[.int .i64 cap, .slice a1 n1 c1, .bool false, .slice a2 n2 c2, .slice a3 n3 c3] 25) (.cells #[.int .i64 t, .int .i64 c, .int .i64 u] 39) (.cells #[.int .i64 0, .slice none 0 0, .bool false, .slice none 0 0, .slice none 0 0] 25) (.cells #[.bool false, .bool false, .bool false, .int .i64 0, .int .i64 0, .slice none 0 0] 34)
  have HB := hide hB; have HK0 := hide k0; have HK1 := hide k1; have HK2 := hide k2; have HK3 := hide k3; have HE := hide e0
  clear hB k0 k1 k2 k3 e0
  go_enter Try.func38, Try.ntmps38
  go_upto_region 1 with fail
  rw [unhide HE]
  clear HE
  obtain ⟨⟨p0, p1, p2, p3, p4⟩, ⟨y0, y1, y2, y3, y4⟩, pl⟩ := block5 (unhide HK0)
  obtain ⟨⟨m0, m1, m2⟩, -, ml⟩ := block3 (unhide HK1)
  obtain ⟨⟨q0, q1, q2, q3, q4⟩, ⟨f0, f1, f2, f3, f4⟩, ql⟩ := block5 (unhide HK2)
  obtain ⟨⟨s0, s1, s2, s3, s4, s5⟩, ⟨g0, g1, g2, g3, g4, g5⟩, sl⟩ := block6 (unhide HK3)
  go_wp2_with fail
  exact bodyPost_ret (v := .tuple #[.agg #[.int .i64 cap, .slice a1 n1 c1, .bool false, .slice a2 n2 c2, .slice a3 n3 c3], .agg #[.bool false, .bool false, .bool false, .int .i64 0, .int .i64 0, .slice none 0 0]]) (by simp [results, Try.results38, go_sem, q0, q1, q2, q3, q4, s0, s1, s2, s3, s4, s5]) rfl ⟨_, _, rfl, ⟨_, _, _, rfl, ((unhide HI).below (put6_below (put5_below (unhide HB) (by omega)) (by omega))).new, ((unhide HS).below (put6_below (put5_below (unhide HB) (by omega)) (by omega))).new, ((unhide HG).below (put6_below (put5_below (unhide HB) (by omega)) (by omega))).new⟩, ⟨_, rfl, new_nil _ _⟩, ((put6_below (put5_below (unhide HB) (by omega)) (by omega))).mono (unhide HBA)⟩

set_option maxRecDepth 100000 in
set_option maxHeartbeats 1000000 in
theorem send_room (w : World) (base : Nat) (v : Value) (P : Pp) (t c u : Int) (try_ : Bool) (h : OwnPipe base w v P) (hb : base ≤ w.heap.size) (hc : countP P ≤ 5000) (hy : P.closed = false) (hz3 : ¬ 0 < P.gs.length) (hz4 : (P.items.length : Int) < P.cap) :
    Calls Try.prog 38 #[v, .agg #[.int .i64 t, .int .i64 c, .int .i64 u], .bool try_] w fun e w' => ∃ v1 v2, e = .returned (.tuple #[v1, v2]) ∧ NewPipe base w' v1 { P with items := P.items ++ [u] } ∧ NewAns base w' v2 ⟨true, false, false, 0, 0, []⟩ ∧ Below base w w' := by
  obtain ⟨cap, items, closed, ss, gs⟩ := P
  obtain ⟨vi, vs, vg, rfl, hI, hS, hG, hA1, hA2, hA3⟩ := h
  obtain ⟨a1, c1, rfl⟩ := hI.form
  obtain ⟨a2, c2, rfl⟩ := hS.form
  obtain ⟨a3, c3, rfl⟩ := hG.form
  have hc' : items.length + ss.length + gs.length ≤ 5000 := hc
  clear hc
  simp only at hI hS hG hA1 hA2 hA3 hy hz3 hz4 ⊢
  have HBA := hide hb
  subst hy
  have HI := hide hI; have HS := hide hS; have HG := hide hG; have HA1 := hide hA1; have HA2 := hide hA2; have HA3 := hide hA3
  clear hI hS hG hA1 hA2 hA3 hb
  have HZ3 := hide hz3; clear hz3
  obtain ⟨n1, en1⟩ : ∃ n, items.length = n := ⟨_, rfl⟩
  obtain ⟨n2, en2⟩ : ∃ n, ss.length = n := ⟨_, rfl⟩
  obtain ⟨n3, en3⟩ : ∃ n, gs.length = n := ⟨_, rfl⟩
  rw [en1] at HI HA1 HA2; rw [en2] at HS HA1 HA3; rw [en3] at HG HA2 HA3
  rw [en1, en2, en3] at hc'
  rw [en1] at hz4
  rw [en1, en2, en3]
  have HN1 := hide en1; have HN2 := hide en2; have HN3 := hide en3
  clear en1 en2 en3
  have z3 : ¬ (0 : Int) < (n3 : Int) := by have := unhide HZ3; rw [unhide HN3] at this; omega
  obtain ⟨W0, e0, hB, k0, k1, k2, k3⟩ := four_new w (.cells #[.int .i64 cap, .slice a1 n1 c1, .bool false, .slice a2 n2 c2, .slice a3 n3 c3] 25) (.cells #[.int .i64 t, .int .i64 c, .int .i64 u] 39) (.cells #[.int .i64 0, .slice none 0 0, .bool false, .slice none 0 0, .slice none 0 0] 25) (.cells #[.bool false, .bool false, .bool false, .int .i64 0, .int .i64 0, .slice none 0 0] 34)
  have HB := hide hB; have HK0 := hide k0; have HK1 := hide k1; have HK2 := hide k2; have HK3 := hide k3; have HE := hide e0
  clear hB k0 k1 k2 k3 e0
  go_enter Try.func38, Try.ntmps38
  go_upto_region 1 with fail
  rw [unhide HE]
  clear HE
  obtain ⟨⟨p0, p1, p2, p3, p4⟩, ⟨y0, y1, y2, y3, y4⟩, pl⟩ := block5 (unhide HK0)
  obtain ⟨⟨m0, m1, m2⟩, -, ml⟩ := block3 (unhide HK1)
  obtain ⟨⟨q0, q1, q2, q3, q4⟩, ⟨f0, f1, f2, f3, f4⟩, ql⟩ := block5 (unhide HK2)
  obtain ⟨⟨s0, s1, s2, s3, s4, s5⟩, ⟨g0, g1, g2, g3, g4, g5⟩, sl⟩ := block6 (unhide HK3)
  have HIO := hide (isl_one ki W0 u)
  go_upto_region 9 with (at_builtin; refine wpList_append ki rfl (.tmp 43) (.tmp 46) rfl base _ items rfl (((unhide HI).below (unhide HB)).below ((Below.refl _ _).alloc (Nat.le_refl _) _)) _ [u] rfl (unhide HIO) (n1 + 1) (by rw [unhide HN1]; rfl) (by show (n1 + 1) * 8 ≤ 140737488355328; omega) (Nat.le_trans (unhide HBA) (Nat.le_trans (unhide HB).size (by simp))) ?_; intro b9 d9 w9 ho9 hg9; have HO9 := hide ho9; have HG9 := hide hg9; clear p0 p1 p2 p3 p4 y0 y1 y2 y3 y4 pl m0 m1 m2 ml q0 q1 q2 q3 q4 f0 f1 f2 f3 f4 ql s0 s1 s2 s3 s4 s5 g0 g1 g2 g3 g4 g5 sl; clear ho9 hg9; obtain ⟨⟨p0, p1, p2, p3, p4⟩, ⟨y0, y1, y2, y3, y4⟩, pl⟩ := block5 (keep_grown (keep_alloc (unhide HK0) _) (unhide HG9) (fun j hj => by have := ((unhide HI).lt j hj).2; omega)))
  have HQ9 := hide (keep_grown (keep_alloc (unhide HK0) (.cells #[.int .i64 u] 3)) (unhide HG9) (fun j hj => by have := ((unhide HI).lt j hj).2; omega))
  have HR9 := hide (keep_grown (keep_alloc (unhide HK2) (.cells #[.int .i64 u] 3)) (unhide HG9) (fun j hj => by have := ((unhide HI).lt j hj).2; omega))
  have HV9 := hide (keep_grown (keep_alloc (unhide HK3) (.cells #[.int .i64 u] 3)) (unhide HG9) (fun j hj => by have := ((unhide HI).lt j hj).2; omega))
  have HB9 := hide ((((unhide HB).mono (unhide HBA)).alloc (Nat.le_trans (unhide HBA) (unhide HB).size) (.cells #[.int .i64 u] 3)).grown (unhide HG9) (Nat.le_trans (unhide HBA) (Nat.le_trans (unhide HB).size (by simp))) (fun j hj => ((unhide HI).lt j hj).1))
  have HS9 := hide (Own.grown (((unhide HS).below (unhide HB)).below ((Below.refl _ _).alloc (Nat.le_refl _) (.cells #[.int .i64 u] 3))) (unhide HG9) (unhide HA1))
  have HG9 := hide (Own.grown (((unhide HG).below (unhide HB)).below ((Below.refl _ _).alloc (Nat.le_refl _) (.cells #[.int .i64 u] 3))) (unhide HG9) (unhide HA2))
  clear p0 p1 p2 p3 p4 y0 y1 y2 y3 y4 pl
  have HQ8 := hide (set_block5 (i := 1) (y := .slice b9 (n1 + 1) d9) (unhide HQ9))
  have HR8 := hide (keep_set (g := w.heap.size) (o := 1) (v := .slice b9 (n1 + 1) d9) (unhide HR9) (by omega))
  have HV8 := hide (keep_set (g := w.heap.size) (o := 1) (v := .slice b9 (n1 + 1) d9) (unhide HV9) (by omega))
  have HB8 := hide (below_set (i := 1) (unhide HB9) (unhide HBA) (.slice b9 (n1 + 1) d9))
  have HO8 := hide ((unhide HO9).keep (w' := w9.setCell ⟨w.heap.size, 1, none⟩ (.slice b9 (n1 + 1) d9)) (fun k hk => Below.heap_setCell _ _ _ _ (by have := (unhide HO9).ne (unhide HQ9) (by decide) k hk; simpa using this)))
  have HS8 := hide ((unhide HS9).keep (w' := w9.setCell ⟨w.heap.size, 1, none⟩ (.slice b9 (n1 + 1) d9)) (fun k hk => Below.heap_setCell _ _ _ _ (by have := (unhide HS9).ne (unhide HQ9) (by decide) k hk; simpa using this)))
  have HG8 := hide ((unhide HG9).keep (w' := w9.setCell ⟨w.heap.size, 1, none⟩ (.slice b9 (n1 + 1) d9)) (fun k hk => Below.heap_setCell _ _ _ _ (by have := (unhide HG9).ne (unhide HQ9) (by decide) k hk; simpa using this)))
  obtain ⟨W8, e8⟩ : ∃ W, w9.setCell ⟨w.heap.size, 1, none⟩ (.slice b9 (n1 + 1) d9) = W := ⟨_, rfl⟩
  rw [e8] at HQ8 HR8 HV8 HB8 HO8 HS8 HG8 ⊢
  clear e8
  simp only [List.setIfInBounds_toArray, List.set_cons_zero, List.set_cons_succ] at HQ8
  obtain ⟨⟨p0, p1, p2, p3, p4⟩, -, pl⟩ := block5 (unhide HQ8)
  obtain ⟨⟨q0, q1, q2, q3, q4⟩, ⟨f0, f1, f2, f3, f4⟩, ql⟩ := block5 (unhide HR8)
  obtain ⟨⟨s0, s1, s2, s3, s4, s5⟩, ⟨g0, g1, g2, g3, g4, g5⟩, sl⟩ := block6 (unhide HV8)
  go_wp2_with fail
  exact bodyPost_ret (v := .tuple #[.agg #[.int .i64 cap, .slice b9 (n1 + 1) d9, .bool false, .slice a2 n2 c2, .slice a3 n3 c3], .agg #[.bool true, .bool false, .bool false, .int .i64 0, .int .i64 0, .slice none 0 0]]) (by simp [results, Try.results38, go_sem, q0, q1, q2, q3, q4, s0, s1, s2, s3, s4, s5]) rfl ⟨_, _, rfl, ⟨_, _, _, rfl, ((unhide HO8).keep (fun k hk => (put6_keep ((unhide HO8).ne (unhide HV8) (by decide) k hk)).trans (put5_keep ((unhide HO8).ne (unhide HR8) (by decide) k hk)))).new, ((unhide HS8).keep (fun k hk => (put6_keep ((unhide HS8).ne (unhide HV8) (by decide) k hk)).trans (put5_keep ((unhide HS8).ne (unhide HR8) (by decide) k hk)))).new, ((unhide HG8).keep (fun k hk => (put6_keep ((unhide HG8).ne (unhide HV8) (by decide) k hk)).trans (put5_keep ((unhide HG8).ne (unhide HR8) (by decide) k hk)))).new⟩, ⟨_, rfl, new_nil _ _⟩, put6_below (put5_below (unhide HB8) (by have := unhide HBA; omega)) (by have := unhide HBA; omega)⟩

set_option maxRecDepth 100000 in
set_option maxHeartbeats 1000000 in
theorem send_wait (w : World) (base : Nat) (v : Value) (P : Pp) (t c u : Int) (h : OwnPipe base w v P) (hb : base ≤ w.heap.size) (hc : countP P ≤ 5000) (hy : P.closed = false) (hz3 : ¬ 0 < P.gs.length) (hz4 : ¬ (P.items.length : Int) < P.cap) :
    Calls Try.prog 38 #[v, .agg #[.int .i64 t, .int .i64 c, .int .i64 u], .bool false] w fun e w' => ∃ v1 v2, e = .returned (.tuple #[v1, v2]) ∧ NewPipe base w' v1 { P with ss := P.ss ++ [(t, c, u)] } ∧ NewAns base w' v2 zeroA ∧ Below base w w' := by
  obtain ⟨cap, items, closed, ss, gs⟩ := P
  obtain ⟨vi, vs, vg, rfl, hI, hS, hG, hA1, hA2, hA3⟩ := h
  obtain ⟨a1, c1, rfl⟩ := hI.form
  obtain ⟨a2, c2, rfl⟩ := hS.form
  obtain ⟨a3, c3, rfl⟩ := hG.form
  have hc' : items.length + ss.length + gs.length ≤ 5000 := hc
  clear hc
  simp only at hI hS hG hA1 hA2 hA3 hy hz3 hz4 ⊢
  have HBA := hide hb
  subst hy
  have HI := hide hI; have HS := hide hS; have HG := hide hG; have HA1 := hide hA1; have HA2 := hide hA2; have HA3 := hide hA3
  clear hI hS hG hA1 hA2 hA3 hb
  have HZ3 := hide hz3; clear hz3
  obtain ⟨n1, en1⟩ : ∃ n, items.length = n := ⟨_, rfl⟩
  obtain ⟨n2, en2⟩ : ∃ n, ss.length = n := ⟨_, rfl⟩
  obtain ⟨n3, en3⟩ : ∃ n, gs.length = n := ⟨_, rfl⟩
  rw [en1] at HI HA1 HA2; rw [en2] at HS HA1 HA3; rw [en3] at HG HA2 HA3
  rw [en1, en2, en3] at hc'
  rw [en1] at hz4
  rw [en1, en2, en3]
  have HN1 := hide en1; have HN2 := hide en2; have HN3 := hide en3
  clear en1 en2 en3
  have z3 : ¬ (0 : Int) < (n3 : Int) := by have := unhide HZ3; rw [unhide HN3] at this; omega
  obtain ⟨W0, e0, hB, k0, k1, k2, k3⟩ := four_new w (.cells #[.int .i64 cap, .slice a1 n1 c1, .bool false, .slice a2 n2 c2, .slice a3 n3 c3] 25) (.cells #[.int .i64 t, .int .i64 c, .int .i64 u] 39) (.cells #[.int .i64 0, .slice none 0 0, .bool false, .slice none 0 0, .slice none 0 0] 25) (.cells #[.bool false, .bool false, .bool false, .int .i64 0, .int .i64 0, .slice none 0 0] 34)
  have HB := hide hB; have HK0 := hide k0; have HK1 := hide k1; have HK2 := hide k2; have HK3 := hide k3; have HE := hide e0
  clear hB k0 k1 k2 k3 e0
  go_enter Try.func38, Try.ntmps38
  go_upto_region 1 with fail
  rw [unhide HE]
  clear HE
  obtain ⟨⟨p0, p1, p2, p3, p4⟩, ⟨y0, y1, y2, y3, y4⟩, pl⟩ := block5 (unhide HK0)
  obtain ⟨⟨m0, m1, m2⟩, -, ml⟩ := block3 (unhide HK1)
  obtain ⟨⟨q0, q1, q2, q3, q4⟩, ⟨f0, f1, f2, f3, f4⟩, ql⟩ := block5 (unhide HK2)
  obtain ⟨⟨s0, s1, s2, s3, s4, s5⟩, ⟨g0, g1, g2, g3, g4, g5⟩, sl⟩ := block6 (unhide HK3)
  have HIO := hide (isl_one kp W0 (t, c, u))
  go_upto_region 12 with (at_builtin; refine wpList_append kp rfl (.tmp 55) (.tmp 57) rfl base _ ss rfl (((unhide HS).below (unhide HB)).below ((Below.refl _ _).alloc (Nat.le_refl _) _)) _ [(t, c, u)] rfl (unhide HIO) (n2 + 1) (by rw [unhide HN2]; rfl) (by show (n2 + 1) * 24 ≤ 140737488355328; omega) (Nat.le_trans (unhide HBA) (Nat.le_trans (unhide HB).size (by simp))) ?_; intro b9 d9 w9 ho9 hg9; have HO9 := hide ho9; have HG9 := hide hg9; clear p0 p1 p2 p3 p4 y0 y1 y2 y3 y4 pl m0 m1 m2 ml q0 q1 q2 q3 q4 f0 f1 f2 f3 f4 ql s0 s1 s2 s3 s4 s5 g0 g1 g2 g3 g4 g5 sl; clear ho9 hg9; obtain ⟨⟨p0, p1, p2, p3, p4⟩, ⟨y0, y1, y2, y3, y4⟩, pl⟩ := block5 (keep_grown (keep_alloc (unhide HK0) _) (unhide HG9) (fun j hj => by have := ((unhide HS).lt j hj).2; omega)))
  have HQ9 := hide (keep_grown (keep_alloc (unhide HK0) (.cells #[.int .i64 t, .int .i64 c, .int .i64 u] 39)) (unhide HG9) (fun j hj => by have := ((unhide HS).lt j hj).2; omega))
  have HR9 := hide (keep_grown (keep_alloc (unhide HK2) (.cells #[.int .i64 t, .int .i64 c, .int .i64 u] 39)) (unhide HG9) (fun j hj => by have := ((unhide HS).lt j hj).2; omega))
  have HV9 := hide (keep_grown (keep_alloc (unhide HK3) (.cells #[.int .i64 t, .int .i64 c, .int .i64 u] 39)) (unhide HG9) (fun j hj => by have := ((unhide HS).lt j hj).2; omega))
  have HB9 := hide ((((unhide HB).mono (unhide HBA)).alloc (Nat.le_trans (unhide HBA) (unhide HB).size) (.cells #[.int .i64 t, .int .i64 c, .int .i64 u] 39)).grown (unhide HG9) (Nat.le_trans (unhide HBA) (Nat.le_trans (unhide HB).size (by simp))) (fun j hj => ((unhide HS).lt j hj).1))
  have HI9 := hide (Own.grown (((unhide HI).below (unhide HB)).below ((Below.refl _ _).alloc (Nat.le_refl _) (.cells #[.int .i64 t, .int .i64 c, .int .i64 u] 39))) (unhide HG9) (fun k hk hk2 => unhide HA1 k hk2 hk))
  have HG9 := hide (Own.grown (((unhide HG).below (unhide HB)).below ((Below.refl _ _).alloc (Nat.le_refl _) (.cells #[.int .i64 t, .int .i64 c, .int .i64 u] 39))) (unhide HG9) (unhide HA3))
  clear p0 p1 p2 p3 p4 y0 y1 y2 y3 y4 pl
  have HQ8 := hide (set_block5 (i := 3) (y := .slice b9 (n2 + 1) d9) (unhide HQ9))
  have HR8 := hide (keep_set (g := w.heap.size) (o := 3) (v := .slice b9 (n2 + 1) d9) (unhide HR9) (by omega))
  have HV8 := hide (keep_set (g := w.heap.size) (o := 3) (v := .slice b9 (n2 + 1) d9) (unhide HV9) (by omega))
  have HB8 := hide (below_set (i := 3) (unhide HB9) (unhide HBA) (.slice b9 (n2 + 1) d9))
  have HO8 := hide ((unhide HO9).keep (w' := w9.setCell ⟨w.heap.size, 3, none⟩ (.slice b9 (n2 + 1) d9)) (fun k hk => Below.heap_setCell _ _ _ _ (by have := (unhide HO9).ne (unhide HQ9) (by decide) k hk; simpa using this)))
  have HI8 := hide ((unhide HI9).keep (w' := w9.setCell ⟨w.heap.size, 3, none⟩ (.slice b9 (n2 + 1) d9)) (fun k hk => Below.heap_setCell _ _ _ _ (by have := (unhide HI9).ne (unhide HQ9) (by decide) k hk; simpa using this)))
  have HG8 := hide ((unhide HG9).keep (w' := w9.setCell ⟨w.heap.size, 3, none⟩ (.slice b9 (n2 + 1) d9)) (fun k hk => Below.heap_setCell _ _ _ _ (by have := (unhide HG9).ne (unhide HQ9) (by decide) k hk; simpa using this)))
  obtain ⟨W8, e8⟩ : ∃ W, w9.setCell ⟨w.heap.size, 3, none⟩ (.slice b9 (n2 + 1) d9) = W := ⟨_, rfl⟩
  rw [e8] at HQ8 HR8 HV8 HB8 HO8 HI8 HG8 ⊢
  clear e8
  simp only [List.setIfInBounds_toArray, List.set_cons_zero, List.set_cons_succ] at HQ8
  obtain ⟨⟨p0, p1, p2, p3, p4⟩, -, pl⟩ := block5 (unhide HQ8)
  obtain ⟨⟨q0, q1, q2, q3, q4⟩, ⟨f0, f1, f2, f3, f4⟩, ql⟩ := block5 (unhide HR8)
  obtain ⟨⟨s0, s1, s2, s3, s4, s5⟩, ⟨g0, g1, g2, g3, g4, g5⟩, sl⟩ := block6 (unhide HV8)
  go_wp2_with fail
  exact bodyPost_ret (v := .tuple #[.agg #[.int .i64 cap, .slice a1 n1 c1, .bool false, .slice b9 (n2 + 1) d9, .slice a3 n3 c3], .agg #[.bool false, .bool false, .bool false, .int .i64 0, .int .i64 0, .slice none 0 0]]) (by simp [results, Try.results38, go_sem, q0, q1, q2, q3, q4, s0, s1, s2, s3, s4, s5]) rfl ⟨_, _, rfl, ⟨_, _, _, rfl, ((unhide HI8).keep (fun k hk => (put6_keep ((unhide HI8).ne (unhide HV8) (by decide) k hk)).trans (put5_keep ((unhide HI8).ne (unhide HR8) (by decide) k hk)))).new, ((unhide HO8).keep (fun k hk => (put6_keep ((unhide HO8).ne (unhide HV8) (by decide) k hk)).trans (put5_keep ((unhide HO8).ne (unhide HR8) (by decide) k hk)))).new, ((unhide HG8).keep (fun k hk => (put6_keep ((unhide HG8).ne (unhide HV8) (by decide) k hk)).trans (put5_keep ((unhide HG8).ne (unhide HR8) (by decide) k hk)))).new⟩, ⟨_, rfl, new_nil _ _⟩, put6_below (put5_below (unhide HB8) (by have := unhide HBA; omega)) (by have := unhide HBA; omega)⟩

end Go.Proofs.Ytijogcjocandcaa
