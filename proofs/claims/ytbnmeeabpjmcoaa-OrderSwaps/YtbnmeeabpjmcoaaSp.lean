/-
  taskmilllaw.OrderSwaps: the two events are read.
-/
import Derived.Test.YtbnmeeabpjmcoaaSo
import Derived.Test.YtbnmeeabpjmcoaaSq
namespace Go.Proofs.Ytbnmeeabpjmcoaa
open Go.RowKit

theorem easy_of {l : List Ev} {i : Nat} {tk op ob vl : Int} (ex : l.getD i ev0 = ⟨tk, op, ob, vl⟩) (h : easyB op = true) : Easy (l.getD i ev0) := by
  rw [ex]
  unfold easyB at h
  unfold Easy
  simpa [or_assoc] using h
theorem pair_w {w w2 : World} (hb : Below w.heap.size w w2) (oA oB : Obj) : (((w2.alloc oA).alloc oB).drew).heap[w2.heap.size]? = some oA ∧ (((w2.alloc oA).alloc oB).drew).heap[w2.heap.size + 1]? = some oB ∧ Below w.heap.size w (((w2.alloc oA).alloc oB).drew) := by
  obtain ⟨W, e, h1, h2, h3⟩ := two_new w2 oA oB
  rw [e]
  exact ⟨h2, h3, (Below.next hb h1 (Nat.le_refl _)).drew⟩
theorem own_someE {base : Nat} {w : World} {a : Option Addr} {m c : Nat} {xs : List Ev} (h : Own KE base w (.slice a m c) xs) (hm : 0 < m) : ∃ g, a = some ⟨g, 0, none⟩ ∧ base ≤ g ∧ g < w.heap.size := by
  have hl := h.isl.len
  have h' : w.ownsRow base KE.e KE.k (.slice a m c) xs.length (xs.flatMap KE.f) := h
  rcases h'.2 with ⟨h1, h2⟩ | ⟨g, cap, cur, h1, hg, hh, _⟩
  · omega
  · cases h1
    exact ⟨g, rfl, hg, (Array.getElem?_eq_some_iff.1 hh).1⟩

set_option maxRecDepth 100000 in
set_option maxHeartbeats 4000000 in
theorem swp_x (w : World) (a0 : Option Addr) (n0 c0 : Nat) (a1 : Option Addr) (n1 c1 : Nat) (l : List Ev) (hs : List Int) (hl : IsL KE w (.slice a0 n0 c0) l) (hh : IsL KI w (.slice a1 n1 c1) hs) (h : ¬ 200 < n0) (h2 : ¬ 100 < n1) (hg : GoodT hs l) (i : Nat) (hi : i + 1 < n0) :
    Calls Try.prog 6 #[.slice a0 n0 c0, .slice a1 n1 c1, .int .i64 (i : Int)] w fun e w' => e = .returned (.bool true) ∧ Below w.heap.size w w' := by
  have i1 : ¬ (200 : Int) < (n0 : Int) := by omega
  have i2 : ¬ (100 : Int) < (n1 : Int) := by omega
  have i3 : ¬ (i : Int) < 0 := by omega
  have i4 : (0 : Int) ≤ (i : Int) := by omega
  have i5 : ¬ (n0 : Int) - 1 ≤ (i : Int) := by omega
  have i6 : (i : Int) < (n0 : Int) := by omega
  have i7 : (i : Int) + 1 < (n0 : Int) := by omega
  have i8 : (0 : Int) ≤ (i : Int) + 1 := by omega
  have wn : IntKind.i64.wrap ((n0 : Int) - 1) = (n0 : Int) - 1 := wrapi (by omega) (by omega)
  have wi : IntKind.i64.wrap ((i : Int) + 1) = (i : Int) + 1 := wrapi (by omega) (by omega)
  have hf := hg.zero
  have HTF : Hid (∀ W, Below w.heap.size w W → Calls Try.prog 15 #[.slice a0 n0 c0, .slice a1 n1 c1] W fun e w' => e = .returned (.agg #[.int .i64 0, .int .i64 0]) ∧ Below W.heap.size W w') := fun W hW => by
    have := tf_any W a0 n0 c0 a1 n1 c1 l hs (hl.below hW) (hh.below hW)
    rwa [hf] at this
  have hfl := fld0
  have hln := hl.len
  obtain ⟨tb, tof, rfl, htb, hli⟩ := hl.opens ke hln (by omega)
  obtain ⟨⟨tk, op, ob, vl⟩, ex⟩ : ∃ X, l.getD i ev0 = X := ⟨_, rfl⟩
  obtain ⟨⟨tk2, op2, ob2, vl2⟩, ex2⟩ : ∃ X, l.getD (i + 1) ev0 = X := ⟨_, rfl⟩
  have HCE : Hid (∀ W, Below w.heap.size w W → (W.cell? ⟨tb, tof + i * 4, none⟩ = some (.int .i64 tk) ∧ W.cell? ⟨tb, tof + i * 4 + 1, none⟩ = some (.int .i64 op) ∧ W.cell? ⟨tb, tof + i * 4 + 2, none⟩ = some (.int .i64 ob) ∧ W.cell? ⟨tb, tof + i * 4 + 3, none⟩ = some (.int .i64 vl)) ∧ W.cell? ⟨tb, tof + (i + 1) * 4, none⟩ = some (.int .i64 tk2) ∧ W.cell? ⟨tb, tof + (i + 1) * 4 + 1, none⟩ = some (.int .i64 op2) ∧ W.cell? ⟨tb, tof + (i + 1) * 4 + 2, none⟩ = some (.int .i64 ob2) ∧ W.cell? ⟨tb, tof + (i + 1) * 4 + 3, none⟩ = some (.int .i64 vl2)) := fun W hW => ⟨(hli.below hW htb).ev (j := i) (by omega) ex, (hli.below hW htb).ev (j := i + 1) (by omega) ex2⟩
  clear hf
  go_enter Try.func6, Try.ntmps6
  go_upto_region 5 with (first
    | (go_at_call 9; (with_reducible refine Calls.mono (begun_any _) ?_); rintro e w1 ⟨rfl, hb1⟩; have HX1 := hide hb1; clear hb1)
    | (go_at_call 15; (with_reducible refine Calls.mono (unhide HTF _ (unhide HX1)) ?_); rintro e w2 ⟨rfl, hb2⟩; have HX2 := hide (Below.next (unhide HX1) hb2 (Nat.le_refl _)); clear hb2))
  obtain ⟨⟨k0, k1, k2, k3⟩, m0, m1, m2, m3⟩ := unhide HCE _ (unhide HX2)
  have hb2 : tb < w2.heap.size := Nat.lt_of_lt_of_le htb (unhide HX2).size
  have hb3 : tb < w2.heap.size + 1 := by omega
  go_cut [7, 8] (fun p q W => ∃ A B : Nat, p = .pointer (some ⟨A, 0, none⟩) ∧ q = .pointer (some ⟨B, 0, none⟩) ∧ Hid (W.heap[A]? = some (.cells #[.int .i64 tk, .int .i64 op, .int .i64 ob, .int .i64 vl] 41 (0, 0))) ∧ Hid (W.heap[B]? = some (.cells #[.int .i64 tk2, .int .i64 op2, .int .i64 ob2, .int .i64 vl2] 41 (0, 0))) ∧ A ≠ B ∧ Hid (w.heap.size ≤ A ∧ w.heap.size ≤ B) ∧ Hid (Below w.heap.size w W))
  case first =>
    go_wp2_with fail
    go_region
    all_goals
      go_wp2_with fail
      go_meet
      case rel =>
        first
          | exact ⟨_, _, rfl, rfl, hide (pair_w (unhide HX2) (.cells #[.int .i64 tk, .int .i64 op, .int .i64 ob, .int .i64 vl] 41 (0, 0)) (.cells #[.int .i64 tk2, .int .i64 op2, .int .i64 ob2, .int .i64 vl2] 41 (0, 0))).1, hide (pair_w (unhide HX2) (.cells #[.int .i64 tk, .int .i64 op, .int .i64 ob, .int .i64 vl] 41 (0, 0)) (.cells #[.int .i64 tk2, .int .i64 op2, .int .i64 ob2, .int .i64 vl2] 41 (0, 0))).2.1, by omega, hide ⟨(unhide HX2).size, Nat.le_succ_of_le (unhide HX2).size⟩, hide (pair_w (unhide HX2) (.cells #[.int .i64 tk, .int .i64 op, .int .i64 ob, .int .i64 vl] 41 (0, 0)) (.cells #[.int .i64 tk2, .int .i64 op2, .int .i64 ob2, .int .i64 vl2] 41 (0, 0))).2.2⟩
          | exact ⟨_, _, rfl, rfl, hide (pair_w (unhide HX2) (.cells #[.int .i64 tk2, .int .i64 op2, .int .i64 ob2, .int .i64 vl2] 41 (0, 0)) (.cells #[.int .i64 tk, .int .i64 op, .int .i64 ob, .int .i64 vl] 41 (0, 0))).2.1, hide (pair_w (unhide HX2) (.cells #[.int .i64 tk2, .int .i64 op2, .int .i64 ob2, .int .i64 vl2] 41 (0, 0)) (.cells #[.int .i64 tk, .int .i64 op, .int .i64 ob, .int .i64 vl] 41 (0, 0))).1, by omega, hide ⟨Nat.le_succ_of_le (unhide HX2).size, (unhide HX2).size⟩, hide (pair_w (unhide HX2) (.cells #[.int .i64 tk2, .int .i64 op2, .int .i64 ob2, .int .i64 vl2] 41 (0, 0)) (.cells #[.int .i64 tk, .int .i64 op, .int .i64 ob, .int .i64 vl] 41 (0, 0))).2.2⟩
  case rest =>
    obtain ⟨A, B, rfl, rfl, HA, HB, hAB, HLo, HXc⟩ := hcut
    clear HX1 HX2 HTF k0 k1 k2 k3 m0 m1 m2 m3 hb2 hb3 wn HCE
    obtain ⟨⟨a0_, a1_, a2_, a3_⟩, ⟨af0, af1, af2, af3⟩, al⟩ := block4 (unhide HA)
    obtain ⟨⟨b0_, b1_, b2_, b3_⟩, ⟨bf0, bf1, bf2, bf3⟩, bl⟩ := block4 (unhide HB)
    by_cases ct : tk = tk2
    · have x1 : (tk == tk2) = true := by simpa using ct
      clear ct
      go_wp2_with fail
      go_ret
      exact ⟨rfl, unhide HXc⟩
    have x1 : (tk == tk2) = false := by simpa using ct
    have hq1 : ∀ b, easyB op = b → Hid (∀ W, Calls Try.prog 20 #[.agg #[.int .i64 tk, .int .i64 op, .int .i64 ob, .int .i64 vl]] W fun e w' => e = .returned (.bool b) ∧ Below W.heap.size W w') := fun b hb W => by have := easy_any W tk op ob vl; rwa [hb] at this
    have hq2 : ∀ b, easyB op2 = b → Hid (∀ W, Calls Try.prog 20 #[.agg #[.int .i64 tk2, .int .i64 op2, .int .i64 ob2, .int .i64 vl2]] W fun e w' => e = .returned (.bool b) ∧ Below W.heap.size W w') := fun b hb W => by have := easy_any W tk2 op2 ob2 vl2; rwa [hb] at this
    cases hc2 : easyB op
    · have HQ1 := hq1 _ hc2
      clear hq1 hq2
      go_wp2_with (go_at_call 20; (with_reducible refine Calls.mono (unhide HQ1 _) ?_); rintro e w4 ⟨rfl, hb4⟩; have HX4 := hide (Below.next (unhide HXc) hb4 (Nat.le_refl _)); clear hb4)
      go_ret
      exact ⟨rfl, unhide HX4⟩
    have HQ1 := hq1 _ hc2
    cases hc3 : easyB op2
    · have HQ2 := hq2 _ hc3
      clear hq1 hq2
      go_wp2_with (first
        | (go_at_call 20; (with_reducible refine Calls.mono (unhide HQ1 _) ?_); rintro e w4 ⟨rfl, hb4⟩; have HX4 := hide (Below.next (unhide HXc) hb4 (Nat.le_refl _)); obtain ⟨⟨d0, d1, d2, d3⟩, -, -⟩ := block4 (keep_below (unhide HB) hb4); clear hb4)
        | (go_at_call 20; (with_reducible refine Calls.mono (unhide HQ2 _) ?_); rintro e w5 ⟨rfl, hb5⟩; have HX5 := hide (Below.next (unhide HX4) hb5 (Nat.le_refl _)); clear hb5))
      go_ret
      exact ⟨rfl, unhide HX5⟩
    have HQ2 := hq2 _ hc3
    clear hq1 hq2
    go_upto_region 9 with (first
      | (go_at_call 20; (with_reducible refine Calls.mono (unhide HQ1 _) ?_); rintro e w4 ⟨rfl, hb4⟩; have HX4 := hide (Below.next (unhide HXc) hb4 (Nat.le_refl _)); have HA4 := hide (keep_below (unhide HA) hb4); have HB4 := hide (keep_below (unhide HB) hb4); obtain ⟨⟨d0, d1, d2, d3⟩, -, -⟩ := block4 (unhide HB4); clear hb4)
      | (go_at_call 20; (with_reducible refine Calls.mono (unhide HQ2 _) ?_); rintro e w5 ⟨rfl, hb5⟩; have HX5 := hide (Below.next (unhide HX4) hb5 (Nat.le_refl _)); have HA5 := hide (keep_below (unhide HA4) hb5); have HB5 := hide (keep_below (unhide HB4) hb5); clear hb5))
    have HOW : Hid (∀ W, Below w.heap.size w W → Calls Try.prog 10 #[.slice (some ⟨tb, tof, none⟩) n0 c0] W fun e w' => ∃ g c', e = .returned (.slice (some ⟨g, 0, none⟩) n0 c') ∧ Own KE W.heap.size w' (.slice (some ⟨g, 0, none⟩) n0 c') l ∧ Below W.heap.size W w' ∧ W.heap.size ≤ g) := fun W hW => by
      refine (ownTrace_any W _ l (hl.below hW) (by omega)).mono ?_
      rintro e w' ⟨a', c', rfl, ho, hb⟩
      rw [hln] at ho ⊢
      obtain ⟨g, rfl, h4, _⟩ := own_someE ho (by omega)
      exact ⟨g, c', rfl, ho, hb, h4⟩
    clear a0_ a1_ a2_ a3_ af0 af1 af2 af3 al b0_ b1_ b2_ b3_ bf0 bf1 bf2 bf3 bl HA HB HXc d0 d1 d2 d3 HA4 HB4 HX4 HQ1 HQ2
    go_upto_region 10 with (go_at_call 10; (with_reducible refine Calls.mono (unhide HOW _ (unhide HX5)) ?_); rintro e w6 ⟨g, c', rfl, ho6, hb6, hg6⟩; have HX6 := hide (Below.next (unhide HX5) hb6 (Nat.le_refl _)); have HO6 := hide ho6; have HA6 := hide (keep_below (unhide HA5) hb6); have HB6 := hide (keep_below (unhide HB5) hb6); have HGW := hide (Nat.le_trans (unhide HX5).size hg6); have HLA := hide (show A < g from Nat.lt_of_lt_of_le (size_of (unhide HA5)) hg6); have HLB := hide (show B < g from Nat.lt_of_lt_of_le (size_of (unhide HB5)) hg6); clear ho6 hb6 hg6)
    exact swq_x w w6 n0 c0 a1 n1 c1 tb tof l hs hl hh (by omega) i hi tk op ob vl tk2 op2 ob2 vl2 ex ex2 A B g c' (unhide HA6) (unhide HB6) (unhide HLA) (unhide HLB) _ (unhide HO6) (unhide HX6) (unhide HGW) hg (easy_of ex hc2) (easy_of ex2 hc3) (by rw [ex, ex2]; exact ct) _ _ _ (by assumption) (by kernel_rfl)

theorem swaps_walk (w : World) (v0 : Value) (l : List Ev) (v1 : Value) (hs : List Int) (z2 : Int) (hl : IsL KE w v0 l) (_ml : l.length * 32 ≤ 140737488355328) (hh : IsL KI w v1 hs) (_mh : hs.length * 8 ≤ 140737488355328) :
    Calls Try.prog 6 #[v0, v1, .int .i64 z2] w fun e w' => e = .returned (.bool true) ∧ Below w.heap.size w w' := by
  obtain ⟨a0, c0, rfl⟩ := hl.form
  obtain ⟨a1, c1, rfl⟩ := hh.form
  by_cases h1 : 200 < l.length
  · exact swp_long w a0 _ c0 a1 _ c1 z2 h1
  · by_cases h2 : 100 < hs.length
    · exact swp_many w a0 _ c0 a1 _ c1 z2 h1 h2
    · obtain ⟨⟨fc, fa⟩, hf⟩ : ∃ X, checkF hs l = X := ⟨_, rfl⟩
      by_cases hfc : fc = 0
      · have hg : GoodT hs l := good_of (by rw [hf]; exact hfc)
        by_cases ho : z2 < 0 ∨ (l.length : Int) - 1 ≤ z2
        · exact swp_out w a0 _ c0 a1 _ c1 l hs hl hh z2 h1 h2 hg ho
        · obtain ⟨i, rfl⟩ : ∃ i : Nat, z2 = (i : Int) := ⟨z2.toNat, by omega⟩
          exact swp_x w a0 _ c0 a1 _ c1 l hs hl hh h1 h2 hg i (by omega)
      · exact swp_fault w a0 _ c0 a1 _ c1 l hs hl hh z2 h1 h2 fc fa hf hfc
end Go.Proofs.Ytbnmeeabpjmcoaa
