/-
  pipe.shut.
-/
import Derived.Test.YtijogcjocandcaaTb
namespace Go.Proofs.Ytijogcjocandcaa
open Go.RowKit

def wkG (x : Po) : Wk := (x.1, x.2.1, 0, false, false)
def wkS (x : Po) : Wk := (x.1, x.2.1, 0, false, true)
theorem map_take {f : Po → Wk} {l : List Po} {j : Nat} (h : j < l.length) : (l.take (j + 1)).map f = (l.take j).map f ++ [f (l.getD j (0, 0, 0))] := by
  rw [List.take_succ_eq_append_getElem h, List.map_append]
  simp [List.getElem?_eq_getElem h]
def put3c (w : World) (g : Nat) : World := ((w.setCell ⟨g, 2, none⟩ (.bool true)).setCell ⟨g, 4, none⟩ (.slice none 0 0)).setCell ⟨g, 3, none⟩ (.slice none 0 0)
theorem put3c_at {w : World} {g k : Nat} (h : k ≠ g) : (put3c w g).heap[k]? = w.heap[k]? := by
  unfold put3c
  repeat rw [Below.heap_setCell _ _ _ _ (by simpa using h)]
theorem put3c_keep {w : World} {g k : Nat} {o : Obj} (h : w.heap[k]? = some o) (hk : k ≠ g) : (put3c w g).heap[k]? = some o := (put3c_at hk).trans h
theorem put3c_below {B g : Nat} {w w' : World} (h : Below B w w') (hg : B ≤ g) : Below B w (put3c w' g) := ((h.setCell hg _).setCell hg _).setCell hg _
theorem put3c_new {w : World} {g : Nat} {x0 x1 x2 x3 x4 : Value} {t : TypeId} (h : w.heap[g]? = some (.cells #[x0, x1, x2, x3, x4] t (0, 0))) : (put3c w g).heap[g]? = some (.cells #[x0, x1, .bool true, .slice none 0 0, .slice none 0 0] t (0, 0)) := by
  unfold put3c
  have h1 := set_block5 (i := 2) (y := .bool true) h
  simp only [List.setIfInBounds_toArray, List.set_cons_zero, List.set_cons_succ] at h1
  have h2 := set_block5 (i := 4) (y := .slice none 0 0) h1
  simp only [List.setIfInBounds_toArray, List.set_cons_zero, List.set_cons_succ] at h2
  have h3 := set_block5 (i := 3) (y := .slice none 0 0) h2
  simp only [List.setIfInBounds_toArray, List.set_cons_zero, List.set_cons_succ] at h3
  exact h3
/-- What a Shut does. -/
def shutL (P : Pp) : Pp × An :=
  if P.closed = true then (P, ⟨true, true, false, 0, 0, []⟩) else ({ P with closed := true, ss := [], gs := [] }, ⟨true, false, false, 0, 0, P.gs.map wkG ++ P.ss.map wkS⟩)

set_option maxRecDepth 100000 in
set_option maxHeartbeats 1000000 in
theorem shut_closed (w : World) (base : Nat) (v : Value) (P : Pp) (h : NewPipe base w v P) (hb : base ≤ w.heap.size) (hc : countP P ≤ 6000) (hy : P.closed = true) :
    Calls Try.prog 43 #[v] w fun e w' => ∃ v1 v2, e = .returned (.tuple #[v1, v2]) ∧ NewPipe base w' v1 P ∧ NewAns base w' v2 ⟨true, true, false, 0, 0, []⟩ ∧ Below w.heap.size w w' := by
  obtain ⟨cap, items, closed, ss, gs⟩ := P
  obtain ⟨a1, c1, a2, c2, a3, c3, rfl, hI, hS, hG⟩ := NewPipe.form' h
  have hc' : items.length + ss.length + gs.length ≤ 6000 := hc
  simp only at hI hS hG h hy ⊢
  subst hy
  clear hc h
  have H2 := hide (hS.1.opens kp rfl); have H3 := hide (hG.1.opens kp rfl)
  have HI := hide hI; have HS := hide hS; have HG := hide hG; have HBA := hide hb
  clear hI hS hG hb
  obtain ⟨n1, en1⟩ : ∃ n, items.length = n := ⟨_, rfl⟩
  obtain ⟨n2, en2⟩ : ∃ n, ss.length = n := ⟨_, rfl⟩
  obtain ⟨n3, en3⟩ : ∃ n, gs.length = n := ⟨_, rfl⟩
  rw [en1] at HI; rw [en2] at HS H2; rw [en3] at HG H3
  rw [en1, en2, en3] at hc'
  rw [en1, en2, en3]
  have HN1 := hide en1; have HN2 := hide en2; have HN3 := hide en3
  clear en1 en2 en3
  obtain ⟨W0, e0, hB, k0, k1, k2⟩ := three_new w (.cells #[.int .i64 cap, .slice a1 n1 c1, .bool true, .slice a2 n2 c2, .slice a3 n3 c3] 25) (.cells #[.int .i64 0, .slice none 0 0, .bool false, .slice none 0 0, .slice none 0 0] 25) (.cells #[.bool false, .bool false, .bool false, .int .i64 0, .int .i64 0, .slice none 0 0] 34)
  have HB := hide hB; have Kp := hide k0; have Kr := hide k1; have Ks := hide k2; have HE := hide e0
  clear hB k0 k1 k2 e0
  go_enter Try.func43, Try.ntmps43
  go_upto_region 1 with fail
  rw [unhide HE]
  clear HE
  obtain ⟨⟨p0, p1, p2, p3, p4⟩, ⟨pf0, pf1, pf2, pf3, pf4⟩, pl⟩ := block5 (unhide Kp)
  obtain ⟨⟨q0, q1, q2, q3, q4⟩, ⟨qf0, qf1, qf2, qf3, qf4⟩, ql⟩ := block5 (unhide Kr)
  obtain ⟨⟨s0, s1, s2, s3, s4, s5⟩, ⟨sf0, sf1, sf2, sf3, sf4, sf5⟩, sl⟩ := block6 (unhide Ks)
  go_wp2_with fail
  obtain ⟨Wf, ef⟩ : ∃ W, (put6 (put5 W0 (w.heap.size + 1) (.int .i64 cap) (.slice a1 n1 c1) (.bool true) (.slice a2 n2 c2) (.slice a3 n3 c3)) (w.heap.size + 1 + 1) (.bool true) (.bool true) (.bool false) (.int .i64 0) (.int .i64 0) (.slice none 0 0)) = W := ⟨_, rfl⟩
  have H5 := hide (keep_below ((put6_keep (y0 := .bool true) (y1 := .bool true) (y2 := .bool false) (y3 := .int .i64 0) (y4 := .int .i64 0) (y5 := .slice none 0 0) (show w.heap.size + 1 ≠ w.heap.size + 1 + 1 by omega)).trans (put5_new (y0 := .int .i64 cap) (y1 := .slice a1 n1 c1) (y2 := .bool true) (y3 := .slice a2 n2 c2) (y4 := .slice a3 n3 c3) (unhide Kr))) (Below.refl _ _))
  have H6 := hide (keep_below (put6_new (y0 := .bool true) (y1 := .bool true) (y2 := .bool false) (y3 := .int .i64 0) (y4 := .int .i64 0) (y5 := .slice none 0 0) ((put5_keep (y0 := .int .i64 cap) (y1 := .slice a1 n1 c1) (y2 := .bool true) (y3 := .slice a2 n2 c2) (y4 := .slice a3 n3 c3) (show w.heap.size + 1 + 1 ≠ w.heap.size + 1 by omega)).trans (unhide Ks))) (Below.refl _ _))
  have HBf : Hid (Below w.heap.size w (put6 (put5 W0 (w.heap.size + 1) (.int .i64 cap) (.slice a1 n1 c1) (.bool true) (.slice a2 n2 c2) (.slice a3 n3 c3)) (w.heap.size + 1 + 1) (.bool true) (.bool true) (.bool false) (.int .i64 0) (.int .i64 0) (.slice none 0 0))) := (put6_below (put5_below (unhide HB) (by omega)) (by omega))
  have HKf : Hid (∀ k, k ≠ w.heap.size + 1 → k ≠ w.heap.size + 1 + 1 → ((put6 (put5 W0 (w.heap.size + 1) (.int .i64 cap) (.slice a1 n1 c1) (.bool true) (.slice a2 n2 c2) (.slice a3 n3 c3)) (w.heap.size + 1 + 1) (.bool true) (.bool true) (.bool false) (.int .i64 0) (.int .i64 0) (.slice none 0 0))).heap[k]? = W0.heap[k]?) := fun k h5 h6 => ((put6_keep h6).trans (put5_keep h5))
  rw [ef] at H5 H6 HBf HKf
  have ef2 : (((((((((((W0).setCell ⟨w.heap.size + 1, 0, none⟩ (.int .i64 cap)).setCell ⟨w.heap.size + 1, 1, none⟩ (.slice a1 n1 c1)).setCell ⟨w.heap.size + 1, 2, none⟩ (.bool true)).setCell ⟨w.heap.size + 1, 3, none⟩ (.slice a2 n2 c2)).setCell ⟨w.heap.size + 1, 4, none⟩ (.slice a3 n3 c3)).setCell ⟨w.heap.size + 1 + 1, 0, none⟩ (.bool true)).setCell ⟨w.heap.size + 1 + 1, 1, none⟩ (.bool true)).setCell ⟨w.heap.size + 1 + 1, 2, none⟩ (.bool false)).setCell ⟨w.heap.size + 1 + 1, 3, none⟩ (.int .i64 0)).setCell ⟨w.heap.size + 1 + 1, 4, none⟩ (.int .i64 0)).setCell ⟨w.heap.size + 1 + 1, 5, none⟩ (.slice none 0 0) = Wf := ef
  rw [ef2]
  clear ef ef2
  clear p0 p1 p2 p3 p4 pf0 pf1 pf2 pf3 pf4 pl q0 q1 q2 q3 q4 qf0 qf1 qf2 qf3 qf4 ql s0 s1 s2 s3 s4 s5 sf0 sf1 sf2 sf3 sf4 sf5 sl
  obtain ⟨⟨q0, q1, q2, q3, q4⟩, -, -⟩ := block5 (unhide H5)
  obtain ⟨⟨s0, s1, s2, s3, s4, s5⟩, -, -⟩ := block6 (unhide H6)
  refine bodyPost_ret (v := .tuple #[.agg #[.int .i64 cap, .slice a1 n1 c1, .bool true, .slice a2 n2 c2, .slice a3 n3 c3], .agg #[.bool true, .bool true, .bool false, .int .i64 0, .int .i64 0, .slice none 0 0]]) (by simp [results, Try.results43, go_sem, q0, q1, q2, q3, q4, s0, s1, s2, s3, s4, s5]) rfl ⟨_, _, rfl, ⟨_, _, _, rfl, (unhide HI).below (unhide HBf), (unhide HS).below (unhide HBf), (unhide HG).below (unhide HBf)⟩, ⟨_, rfl, new_nil _ _⟩, unhide HBf⟩

set_option maxRecDepth 100000 in
set_option maxHeartbeats 1000000 in
theorem shut_open (w : World) (base : Nat) (v : Value) (P : Pp) (h : NewPipe base w v P) (hb : base ≤ w.heap.size) (hc : countP P ≤ 6000) (hy : P.closed = false) :
    Calls Try.prog 43 #[v] w fun e w' => ∃ v1 v2, e = .returned (.tuple #[v1, v2]) ∧ NewPipe base w' v1 { P with closed := true, ss := [], gs := [] } ∧ NewAns base w' v2 ⟨true, false, false, 0, 0, P.gs.map wkG ++ P.ss.map wkS⟩ ∧ Below w.heap.size w w' := by
  obtain ⟨cap, items, closed, ss, gs⟩ := P
  obtain ⟨a1, c1, a2, c2, a3, c3, rfl, hI, hS, hG⟩ := NewPipe.form' h
  have hc' : items.length + ss.length + gs.length ≤ 6000 := hc
  simp only at hI hS hG h hy ⊢
  subst hy
  clear hc h
  have H2 := hide (hS.1.opens kp rfl); have H3 := hide (hG.1.opens kp rfl)
  have HI := hide hI; have HS := hide hS; have HG := hide hG; have HBA := hide hb
  clear hI hS hG hb
  obtain ⟨n1, en1⟩ : ∃ n, items.length = n := ⟨_, rfl⟩
  obtain ⟨n2, en2⟩ : ∃ n, ss.length = n := ⟨_, rfl⟩
  obtain ⟨n3, en3⟩ : ∃ n, gs.length = n := ⟨_, rfl⟩
  rw [en1] at HI; rw [en2] at HS H2; rw [en3] at HG H3
  rw [en1, en2, en3] at hc'
  rw [en1, en2, en3]
  have HN1 := hide en1; have HN2 := hide en2; have HN3 := hide en3
  clear en1 en2 en3
  obtain ⟨W0, e0, hB, k0, k1, k2⟩ := three_new w (.cells #[.int .i64 cap, .slice a1 n1 c1, .bool false, .slice a2 n2 c2, .slice a3 n3 c3] 25) (.cells #[.int .i64 0, .slice none 0 0, .bool false, .slice none 0 0, .slice none 0 0] 25) (.cells #[.bool false, .bool false, .bool false, .int .i64 0, .int .i64 0, .slice none 0 0] 34)
  have HB := hide hB; have Kp := hide k0; have Kr := hide k1; have Ks := hide k2; have HE := hide e0
  clear hB k0 k1 k2 e0
  go_enter Try.func43, Try.ntmps43
  go_upto_region 1 with fail
  rw [unhide HE]
  clear HE
  obtain ⟨⟨p0, p1, p2, p3, p4⟩, ⟨pf0, pf1, pf2, pf3, pf4⟩, pl⟩ := block5 (unhide Kp)
  obtain ⟨B0, eB0⟩ : ∃ X, W0.heap.size = X := ⟨_, rfl⟩
  have HB0 : Hid (B0 ≤ W0.heap.size ∧ w.heap.size + 1 + 1 < B0) := ⟨by omega, by rw [← eB0]; exact size_of (unhide Ks)⟩
  clear eB0
  have HBW1 : Hid (B0 ≤ W0.heap.size) := (unhide HB0).1
  go_wp2
  clear p0 p1 p2 p3 p4 pf0 pf1 pf2 pf3 pf4 pl
  go_loopw [4, 16] (fun s i wr => ∃ (j : Nat) (a : Option Addr) (c : Nat), j ≤ n3 ∧ s = .slice a j c ∧ i = .int .i64 j ∧ Own KW B0 wr (.slice a j c) ([] ++ (gs.take j).map wkG) ∧ Below B0 W0 wr) (fun _ i _ => n3 - (intOf i).toNat)
  case atStart => exact ⟨0, none, 0, Nat.zero_le _, rfl, rfl, by simpa using own_nil _ _, Below.refl _ _⟩
  case round =>
    obtain ⟨j, a, c9, hj, rfl, rfl, ho, hnx⟩ := hrel
    have HO1 := hide ho; have HNX1 := hide hnx
    clear ho hnx
    by_cases hlt : j < n3
    · obtain ⟨b0, o0, rfl, hb0, l0⟩ := unhide H3 (by omega)
      obtain ⟨⟨t, c, u⟩, hx⟩ : ∃ x, gs.getD j (0, 0, 0) = x := ⟨_, rfl⟩
      obtain ⟨k0, k1, k2⟩ := (l0.below ((unhide HB).trans ((unhide HNX1).mono (show w.heap.size ≤ B0 by have := (unhide HB0).2; omega))) hb0).post (j := j) (by rw [unhide HN3]; exact hlt) hx
      have HM : Hid (([] ++ (gs.take j).map wkG) ++ [(t, c, 0, false, false)] = [] ++ (gs.take (j + 1)).map wkG) := by rw [map_take (by rw [unhide HN3]; exact hlt), hx, List.append_assoc]; rfl
      have i0 : (0 : Int) ≤ (j : Int) := by omega
      have i1 : (j : Int) < (n3 : Int) := by omega
      clear l0 H3
      go_upto_region 7 with fail
      clear k0 k1 k2
      have HO2 := hide ((unhide HO1).below ((Below.refl _ _).alloc (Nat.le_refl _) (.cells #[.int .i64 t, .int .i64 c, .int .i64 u] 39))); have HX2 := hide ((unhide HNX1).alloc (Nat.le_trans (unhide HBW1) (unhide HNX1).size) (.cells #[.int .i64 t, .int .i64 c, .int .i64 u] 39)); have HZ := hide (new_block wr (.cells #[.int .i64 t, .int .i64 c, .int .i64 u] 39))
      obtain ⟨Z, eZ⟩ : ∃ X, wr.heap.size = X := ⟨_, rfl⟩
      obtain ⟨W2, e2⟩ : ∃ X, wr.alloc (.cells #[.int .i64 t, .int .i64 c, .int .i64 u] 39) = X := ⟨_, rfl⟩
      rw [eZ, e2] at HZ; rw [e2] at HO2 HX2; rw [eZ, e2]
      clear eZ e2
      obtain ⟨⟨z0, z1, z2⟩, -, zl⟩ := block3 (unhide HZ)
      go_wp2_with (first
        | (go_at_call 51; refine (woken_any _ t c u 0 0 0 false false).mono ?_; rintro e w3 ⟨rfl, hb3⟩; have HO3 := hide ((unhide HO2).below hb3); have HX3 := hide (Below.next (unhide HX2) hb3 (unhide HBW1)); clear hb3)
        | (at_builtin; refine wpList_append kw rfl (.tmp 20) (.tmp 24) rfl B0 _ ([] ++ (gs.take j).map wkG) rfl ((unhide HO3).below ((Below.refl _ _).alloc (Nat.le_refl _) _)) _ [(t, c, 0, false, false)] rfl (isl_one kw w3 (t, c, 0, false, false)) (j + 1) (by have h1 := unhide HN3; simp only [List.length_append, List.length_map, List.length_take, List.length_cons, List.length_nil]; omega) (by show (j + 1) * 32 ≤ 140737488355328; omega) (by have h1 := (unhide HX3).size; have h2 := unhide HBW1; simp only [World.size_alloc]; omega) ?_; intro b6 d6 w4 ho6 hg6; have HO4 := hide ho6; have HX4 : Hid (Below B0 W0 w4) := ((unhide HX3).alloc (Nat.le_trans (unhide HBW1) (unhide HX3).size) (.cells #[.int .i64 t, .int .i64 c, .int .i64 0, .bool false, .bool false] 64)).grown hg6 (Nat.le_trans (unhide HBW1) ((unhide HX3).alloc (Nat.le_trans (unhide HBW1) (unhide HX3).size) (.cells #[.int .i64 t, .int .i64 c, .int .i64 0, .bool false, .bool false] 64)).size) (fun k hk => ((unhide HO3).lt k hk).1); clear ho6 hg6))
      go_roundw
      case rel => exact ⟨j + 1, b6, d6, by omega, rfl, by go_num, by have := unhide HO4; rw [unhide HM] at this; exact this, unhide HX4⟩
      case measure => simp [intOf]; omega
    · have hjn : j = n3 := by omega
      subst hjn
      have hg : gs.take j = gs := List.take_of_length_le (by rw [unhide HN3]; exact Nat.le_refl _)
      rw [hg, List.nil_append] at HO1
      have hlt0 : ∀ k, k ≤ w.heap.size + 1 + 1 → k < B0 := fun k hk => by have := (unhide HB0).2; omega
      have HXw := hide ((unhide HB).trans ((unhide HNX1).mono (show w.heap.size ≤ B0 by have := (unhide HB0).2; omega)))
      have Kp1 := hide (keep_at (unhide Kp) (unhide HNX1) (hlt0 _ (by omega))); have Kr1 := hide (keep_at (unhide Kr) (unhide HNX1) (hlt0 _ (by omega))); have Ks1 := hide (keep_at (unhide Ks) (unhide HNX1) (hlt0 _ (by omega)))
      have HBW2 : Hid (B0 ≤ wr.heap.size) := Nat.le_trans (unhide HB0).1 (unhide HNX1).size
      clear hg hlt0 H3
      obtain ⟨⟨p0, p1, p2, p3, p4⟩, ⟨pf0, pf1, pf2, pf3, pf4⟩, pl⟩ := block5 (unhide Kp1)
      go_wp2
      clear p0 p1 p2 p3 p4 pf0 pf1 pf2 pf3 pf4 pl
      obtain ⟨W1, eW1⟩ : ∃ X, wr = X := ⟨_, rfl⟩
      rw [eW1] at HO1 HNX1 HXw Kp1 Kr1 Ks1 HBW2 ⊢
      clear eW1
      go_loopw [4, 30] (fun s i wr => ∃ (y : Nat) (a : Option Addr) (c : Nat), y ≤ n2 ∧ s = .slice a (j + y) c ∧ i = .int .i64 y ∧ Own KW B0 wr (.slice a (j + y) c) (gs.map wkG ++ (ss.take y).map wkS) ∧ Below B0 W1 wr) (fun _ i _ => n2 - (intOf i).toNat)
      case atStart => exact ⟨0, _, _, Nat.zero_le _, rfl, rfl, by simpa using unhide HO1, Below.refl _ _⟩
      case round =>
        obtain ⟨y, a, c9, hj, rfl, rfl, ho, hnx⟩ := hrel
        have HO2 := hide ho; have HNX2 := hide hnx
        clear ho hnx
        by_cases hlt : y < n2
        · obtain ⟨b0, o0, rfl, hb0, l0⟩ := unhide H2 (by omega)
          obtain ⟨⟨t, c, u⟩, hx⟩ : ∃ x, ss.getD y (0, 0, 0) = x := ⟨_, rfl⟩
          obtain ⟨k0, k1, k2⟩ := (l0.below ((unhide HXw).trans ((unhide HNX2).mono (show w.heap.size ≤ B0 by have := (unhide HB0).2; omega))) hb0).post (j := y) (by rw [unhide HN2]; exact hlt) hx
          have HM : Hid ((gs.map wkG ++ (ss.take y).map wkS) ++ [(t, c, 0, false, true)] = gs.map wkG ++ (ss.take (y + 1)).map wkS) := by rw [map_take (by rw [unhide HN2]; exact hlt), hx, List.append_assoc]; rfl
          have i0 : (0 : Int) ≤ (y : Int) := by omega
          have i1 : (y : Int) < (n2 : Int) := by omega
          clear l0 H2
          go_upto_region 12 with fail
          clear k0 k1 k2
          have HO2 := hide ((unhide HO2).below ((Below.refl _ _).alloc (Nat.le_refl _) (.cells #[.int .i64 t, .int .i64 c, .int .i64 u] 39))); have HX2 := hide ((unhide HNX2).alloc (Nat.le_trans (unhide HBW2) (unhide HNX2).size) (.cells #[.int .i64 t, .int .i64 c, .int .i64 u] 39)); have HZ := hide (new_block wr (.cells #[.int .i64 t, .int .i64 c, .int .i64 u] 39))
          obtain ⟨Z, eZ⟩ : ∃ X, wr.heap.size = X := ⟨_, rfl⟩
          obtain ⟨W2, e2⟩ : ∃ X, wr.alloc (.cells #[.int .i64 t, .int .i64 c, .int .i64 u] 39) = X := ⟨_, rfl⟩
          rw [eZ, e2] at HZ; rw [e2] at HO2 HX2; rw [eZ, e2]
          clear eZ e2
          obtain ⟨⟨z0, z1, z2⟩, -, zl⟩ := block3 (unhide HZ)
          go_wp2_with (first
            | (go_at_call 51; refine (woken_any _ t c u 0 0 0 false true).mono ?_; rintro e w3 ⟨rfl, hb3⟩; have HO3 := hide ((unhide HO2).below hb3); have HX3 := hide (Below.next (unhide HX2) hb3 (unhide HBW2)); clear hb3)
            | (at_builtin; refine wpList_append kw rfl (.tmp 34) (.tmp 38) rfl B0 _ (gs.map wkG ++ (ss.take y).map wkS) rfl ((unhide HO3).below ((Below.refl _ _).alloc (Nat.le_refl _) _)) _ [(t, c, 0, false, true)] rfl (isl_one kw w3 (t, c, 0, false, true)) (j + y + 1) (by have h1 := unhide HN2; have h2 := unhide HN3; simp only [List.length_append, List.length_map, List.length_take, List.length_cons, List.length_nil]; omega) (by show (j + y + 1) * 32 ≤ 140737488355328; omega) (by have h1 := (unhide HX3).size; have h2 := unhide HBW2; simp only [World.size_alloc]; omega) ?_; intro b6 d6 w4 ho6 hg6; have HO4 := hide ho6; have HX4 : Hid (Below B0 W1 w4) := ((unhide HX3).alloc (Nat.le_trans (unhide HBW2) (unhide HX3).size) (.cells #[.int .i64 t, .int .i64 c, .int .i64 0, .bool false, .bool true] 64)).grown hg6 (Nat.le_trans (unhide HBW2) ((unhide HX3).alloc (Nat.le_trans (unhide HBW2) (unhide HX3).size) (.cells #[.int .i64 t, .int .i64 c, .int .i64 0, .bool false, .bool true] 64)).size) (fun k hk => ((unhide HO3).lt k hk).1); clear ho6 hg6))
          go_roundw
          case rel => exact ⟨y + 1, b6, d6, by omega, by rw [← Nat.add_assoc], by go_num, by have := unhide HO4; rw [unhide HM] at this; exact this, unhide HX4⟩
          case measure => simp [intOf]; omega
        · have hyn : y = n2 := by omega
          subst hyn
          have hg : ss.take y = ss := List.take_of_length_le (by rw [unhide HN2]; exact Nat.le_refl _)
          rw [hg] at HO2
          have hlt0 : ∀ k, k ≤ w.heap.size + 1 + 1 → k < B0 := fun k hk => by have := (unhide HB0).2; omega
          have HXv := hide ((unhide HXw).trans ((unhide HNX2).mono (show w.heap.size ≤ B0 by have := (unhide HB0).2; omega)))
          have Kp2 := hide (keep_at (unhide Kp1) (unhide HNX2) (hlt0 _ (by omega))); have Kr2 := hide (keep_at (unhide Kr1) (unhide HNX2) (hlt0 _ (by omega))); have Ks2 := hide (keep_at (unhide Ks1) (unhide HNX2) (hlt0 _ (by omega)))
          clear hg hlt0 H2
          obtain ⟨m4, em4⟩ : ∃ m, j + y = m := ⟨_, rfl⟩
          rw [em4] at HO2 ⊢
          obtain ⟨⟨p0, p1, p2, p3, p4⟩, ⟨pf0, pf1, pf2, pf3, pf4⟩, pl⟩ := block5 (unhide Kp2)
          go_upto_region 15 with fail
          clear p0 p1 p2 p3 p4 pf0 pf1 pf2 pf3 pf4 pl
          obtain ⟨W5, e5⟩ : ∃ X, put3c wr w.heap.size = X := ⟨_, rfl⟩
          have Kp3 := hide (put3c_new (g := w.heap.size) (unhide Kp2)); have Kr3 := hide ((put3c_keep (g := w.heap.size) (unhide Kr2) (by omega))); have Ks3 := hide ((put3c_keep (g := w.heap.size) (unhide Ks2) (by omega)))
          have HX5 := hide (put3c_below (g := w.heap.size) (unhide HXv) (Nat.le_refl _))
          have HO5 := hide ((unhide HO2).keep (fun k hk => put3c_at (g := w.heap.size) (by have h1 := ((unhide HO2).lt k hk).1; have h2 := (unhide HB0).2; omega)))
          rw [e5] at Kp3 Kr3 Ks3 HX5 HO5
          have e6 : ((wr.setCell ⟨w.heap.size, 2, none⟩ (.bool true)).setCell ⟨w.heap.size, 4, none⟩ (.slice none 0 0)).setCell ⟨w.heap.size, 3, none⟩ (.slice none 0 0) = W5 := e5
          rw [e6]
          clear e5 e6 Kp2 Kr2 Ks2 HXv HO2
          obtain ⟨⟨p0, p1, p2, p3, p4⟩, ⟨pf0, pf1, pf2, pf3, pf4⟩, pl⟩ := block5 (unhide Kp3)
          obtain ⟨⟨q0, q1, q2, q3, q4⟩, ⟨qf0, qf1, qf2, qf3, qf4⟩, ql⟩ := block5 (unhide Kr3)
          obtain ⟨⟨s0, s1, s2, s3, s4, s5⟩, ⟨sf0, sf1, sf2, sf3, sf4, sf5⟩, sl⟩ := block6 (unhide Ks3)
          go_wp2_with fail
          obtain ⟨Wf, ef⟩ : ∃ W, (put6 (put5 W5 (w.heap.size + 1) (.int .i64 cap) (.slice a1 n1 c1) (.bool true) (.slice none 0 0) (.slice none 0 0)) (w.heap.size + 1 + 1) (.bool true) (.bool false) (.bool false) (.int .i64 0) (.int .i64 0) (.slice a m4 c9)) = W := ⟨_, rfl⟩
          have H5 := hide (keep_below ((put6_keep (y0 := .bool true) (y1 := .bool false) (y2 := .bool false) (y3 := .int .i64 0) (y4 := .int .i64 0) (y5 := .slice a m4 c9) (show w.heap.size + 1 ≠ w.heap.size + 1 + 1 by omega)).trans (put5_new (y0 := .int .i64 cap) (y1 := .slice a1 n1 c1) (y2 := .bool true) (y3 := .slice none 0 0) (y4 := .slice none 0 0) (unhide Kr3))) (Below.refl _ _))
          have H6 := hide (keep_below (put6_new (y0 := .bool true) (y1 := .bool false) (y2 := .bool false) (y3 := .int .i64 0) (y4 := .int .i64 0) (y5 := .slice a m4 c9) ((put5_keep (y0 := .int .i64 cap) (y1 := .slice a1 n1 c1) (y2 := .bool true) (y3 := .slice none 0 0) (y4 := .slice none 0 0) (show w.heap.size + 1 + 1 ≠ w.heap.size + 1 by omega)).trans (unhide Ks3))) (Below.refl _ _))
          have HBf : Hid (Below w.heap.size w (put6 (put5 W5 (w.heap.size + 1) (.int .i64 cap) (.slice a1 n1 c1) (.bool true) (.slice none 0 0) (.slice none 0 0)) (w.heap.size + 1 + 1) (.bool true) (.bool false) (.bool false) (.int .i64 0) (.int .i64 0) (.slice a m4 c9))) := (put6_below (put5_below (unhide HX5) (by omega)) (by omega))
          have HKf : Hid (∀ k, k ≠ w.heap.size + 1 → k ≠ w.heap.size + 1 + 1 → ((put6 (put5 W5 (w.heap.size + 1) (.int .i64 cap) (.slice a1 n1 c1) (.bool true) (.slice none 0 0) (.slice none 0 0)) (w.heap.size + 1 + 1) (.bool true) (.bool false) (.bool false) (.int .i64 0) (.int .i64 0) (.slice a m4 c9))).heap[k]? = W5.heap[k]?) := fun k h5 h6 => ((put6_keep h6).trans (put5_keep h5))
          rw [ef] at H5 H6 HBf HKf
          have ef2 : (((((((((((W5).setCell ⟨w.heap.size + 1, 0, none⟩ (.int .i64 cap)).setCell ⟨w.heap.size + 1, 1, none⟩ (.slice a1 n1 c1)).setCell ⟨w.heap.size + 1, 2, none⟩ (.bool true)).setCell ⟨w.heap.size + 1, 3, none⟩ (.slice none 0 0)).setCell ⟨w.heap.size + 1, 4, none⟩ (.slice none 0 0)).setCell ⟨w.heap.size + 1 + 1, 0, none⟩ (.bool true)).setCell ⟨w.heap.size + 1 + 1, 1, none⟩ (.bool false)).setCell ⟨w.heap.size + 1 + 1, 2, none⟩ (.bool false)).setCell ⟨w.heap.size + 1 + 1, 3, none⟩ (.int .i64 0)).setCell ⟨w.heap.size + 1 + 1, 4, none⟩ (.int .i64 0)).setCell ⟨w.heap.size + 1 + 1, 5, none⟩ (.slice a m4 c9) = Wf := ef
          rw [ef2]
          clear ef ef2
          clear p0 p1 p2 p3 p4 pf0 pf1 pf2 pf3 pf4 pl q0 q1 q2 q3 q4 qf0 qf1 qf2 qf3 qf4 ql s0 s1 s2 s3 s4 s5 sf0 sf1 sf2 sf3 sf4 sf5 sl
          obtain ⟨⟨q0, q1, q2, q3, q4⟩, -, -⟩ := block5 (unhide H5)
          obtain ⟨⟨s0, s1, s2, s3, s4, s5⟩, -, -⟩ := block6 (unhide H6)
          refine bodyPost_ret (v := .tuple #[.agg #[.int .i64 cap, .slice a1 n1 c1, .bool true, .slice none 0 0, .slice none 0 0], .agg #[.bool true, .bool false, .bool false, .int .i64 0, .int .i64 0, .slice a m4 c9]]) (by simp [results, Try.results43, go_sem, q0, q1, q2, q3, q4, s0, s1, s2, s3, s4, s5]) rfl ⟨_, _, rfl, ⟨_, _, _, rfl, (unhide HI).below (unhide HBf), new_nil _ _, new_nil _ _⟩, ⟨_, rfl, (((unhide HO5).keep (fun k hk => unhide HKf k (Own.ne (unhide HO5) (unhide Kr3) (by decide) k hk) (Own.ne (unhide HO5) (unhide Ks3) (by decide) k hk))).base (by have h1 := (unhide HB0).2; have h2 := unhide HBA; omega)).new⟩, unhide HBf⟩

theorem shut_any (w : World) (base : Nat) (v : Value) (P : Pp) (h : NewPipe base w v P) (hb : base ≤ w.heap.size) (hc : countP P ≤ 6000) :
    Calls Try.prog 43 #[v] w fun e w' => ∃ v1 v2, e = .returned (.tuple #[v1, v2]) ∧ NewPipe base w' v1 (shutL P).1 ∧ NewAns base w' v2 (shutL P).2 ∧ Below w.heap.size w w' := by
  unfold shutL
  cases hy : P.closed with
  | true => exact shut_closed w base v P h hb hc hy
  | false => exact shut_open w base v P h hb hc hy
end Go.Proofs.Ytijogcjocandcaa
